/- Contracts of the law's own helpers on rows of File: toFile, toFileS, szFileS, eqFile, eqFileS. Printed by tools/mixed.py. -/
import Derived.Test.YtjhmjjechagbjaaBase
import Derived.Laws.MakeOwn
namespace Go.Proofs.Ytjhmjjechagbjaa
open Go.RowKit
set_option maxHeartbeats 400000
set_option linter.unusedVariables false

structure MFile where
  name : ByteArray
  text : ByteArray
def cellsFile (t : MFile) : List Value := [.string t.name, .string t.text]
def rowFile (ts : List MFile) : List Value := ts.flatMap cellsFile
theorem rowFile_len (ts : List MFile) : (rowFile ts).length = ts.length * 2 := by
  induction ts with
  | nil => rfl
  | cons t ts ih => simp only [rowFile, List.flatMap_cons, List.length_append] at *; simp [cellsFile, ih]; omega
theorem rowFile_at (ts : List MFile) (k : Nat) (hk : k < ts.length) : rowFile ts = rowFile (ts.take k) ++ (cellsFile ts[k] ++ rowFile (ts.drop (k + 1))) := by
  have ht : ts = ts.take k ++ ts[k] :: ts.drop (k + 1) := by rw [← List.drop_eq_getElem_cons hk, List.take_append_drop]
  exact (congrArg (List.flatMap cellsFile) ht).trans (by rw [List.flatMap_append, List.flatMap_cons]; rfl)
theorem infoFile : (Try.prog.info? 71).map (fun i => (i.zero, i.size, i.bytes)) = some (some (.agg #[.string ⟨#[]⟩, .string ⟨#[]⟩]), 2, 32) := by kernel_rfl
theorem ownFile_at {w : World} {B g cap : Nat} {ts : List MFile} (h : w.ownsRow B 71 2 (.slice (some ⟨g, 0, none⟩) ts.length cap) ts.length (rowFile ts)) {k : Nat} (hk : k < ts.length) :
    w.cell? ⟨g, k * 2, none⟩ = some (.string ts[k].name) ∧ w.cell? ⟨g, k * 2 + 1, none⟩ = some (.string ts[k].text) := by
  have hx : ∀ j, j < 2 → (rowFile ts)[k * 2 + j]? = (cellsFile ts[k])[j]? := by
    intro j hj
    rw [rowFile_at ts k hk, List.getElem?_append_right (by rw [rowFile_len, List.length_take]; omega), rowFile_len, List.length_take, show k * 2 + j - min k ts.length * 2 = j by omega, List.getElem?_append_left (by simp [cellsFile]; omega)]
  refine ⟨?_, ?_⟩
  · rw [h.cellAt _ (by omega)]; exact hx 0 (by omega)
  · rw [h.cellAt _ (by omega)]; exact hx 1 (by omega)

theorem toFile_any (t : MFile) (w : World) :
    Calls Try.prog 52 #[.agg #[.string t.name, .string t.text]] w fun e w' => e = .returned (.agg #[.string t.name, .string t.text]) ∧ Below w.heap.size w w' := by
  go_enter Try.func52, Try.ntmps52
  go_wp2
  refine bodyPost_ret (v := .agg #[.string t.name, .string t.text]) (by simp [results, Try.results52, go_sem]) rfl ⟨rfl, ?_⟩
  go_grown

/-- an argument that reads as these -/
def ArgFile (w : World) (ao : Option Addr) (len : Nat) (ts : List MFile) : Prop :=
  ts.length = len ∧ (∀ t ∈ ts, t.name.size ≤ maxLen ∧ t.text.size ≤ maxLen) ∧ (len = 0 ∨ ∃ b off, ao = some ⟨b, off, none⟩ ∧ b < w.heap.size ∧ ∀ k (h : k < ts.length), w.cell? ⟨b, off + k * 2, none⟩ = some (.string ts[k].name) ∧ w.cell? ⟨b, off + k * 2 + 1, none⟩ = some (.string ts[k].text))
theorem ArgFile.keep {w w' : World} {ao : Option Addr} {len : Nat} {ts : List MFile} (h : ArgFile w ao len ts) (hb : Below w.heap.size w w') : ArgFile w' ao len ts := by
  obtain ⟨h1, hs, h2⟩ := h
  refine ⟨h1, hs, h2.imp id ?_⟩
  rintro ⟨b, off, rfl, hlt, hc⟩
  refine ⟨b, off, rfl, Nat.lt_of_lt_of_le hlt hb.size, fun k hk => ?_⟩
  obtain ⟨c0, c1⟩ := hc k hk
  exact ⟨(hb.cell (p := ⟨b, off + k * 2, none⟩) hlt).trans c0, (hb.cell (p := ⟨b, off + k * 2 + 1, none⟩) hlt).trans c1⟩

def zerosFile (n : Nat) : List MFile := List.replicate n ⟨⟨#[]⟩, ⟨#[]⟩⟩
theorem zerosFile_cells (n : Nat) : (madeCells (Value.agg #[.string ⟨#[]⟩, .string ⟨#[]⟩]).cells (n * 2)).toList = rowFile (zerosFile n) := by
  have hz : (Value.agg #[.string ⟨#[]⟩, .string ⟨#[]⟩]).cells = #[.string ⟨#[]⟩, .string ⟨#[]⟩] := rfl
  apply List.ext_getElem
  · simp [madeCells, rowFile_len, zerosFile]
  · intro i h1 h2
    have hi : i < n * 2 := by simpa [rowFile_len, zerosFile] using h2
    have hget : (rowFile (zerosFile n))[i]? = (cellsFile ⟨⟨#[]⟩, ⟨#[]⟩⟩)[i % 2]? := by
      have hk : i / 2 < (zerosFile n).length := by simp [zerosFile]; omega
      rw [rowFile_at _ (i / 2) hk, List.getElem?_append_right (by rw [rowFile_len, List.length_take]; omega), rowFile_len, List.length_take, show i - min (i / 2) (zerosFile n).length * 2 = i % 2 by omega, List.getElem?_append_left (by simp [cellsFile]; omega)]
      simp [zerosFile]
    rw [List.getElem?_eq_getElem h2] at hget
    have h3 : i % 2 < 2 := Nat.mod_lt _ (by decide)
    have hl : (madeCells (Value.agg #[.string ⟨#[]⟩, .string ⟨#[]⟩]).cells (n * 2)).toList[i] = (#[.string ⟨#[]⟩, .string ⟨#[]⟩] : Array Value)[i % 2]! := by
      simp only [madeCells, hz]
      simp only [Array.toList_map, Array.toList_range, List.getElem_map, List.getElem_range]
      rfl
    rw [hl]
    generalize i % 2 = r at h3 hget
    match r, h3 with
    | 0, _ => exact (Option.some.inj hget).symm
    | 1, _ => exact (Option.some.inj hget).symm

theorem setFile (us : List MFile) (k : Nat) (t : MFile) (h : k < us.length) :
    ((rowFile us).set (k * 2) (.string t.name)).set (k * 2 + 1) (.string t.text) = rowFile (us.set k t) := by
  have e2 : us.set k t = us.take k ++ t :: us.drop (k + 1) := by rw [List.set_eq_take_append_cons_drop, if_pos h]
  have hl : (rowFile (us.take k)).length = k * 2 := by rw [rowFile_len, List.length_take]; omega
  have e1 : rowFile us = rowFile (us.take k) ++ (.string us[k].name :: .string us[k].text :: rowFile (us.drop (k + 1))) := rowFile_at us k h
  rw [e2, e1, List.set_append_right _ _ (by omega), hl, Nat.sub_self, List.set_cons_zero, List.set_append_right _ _ (by omega), hl, show k * 2 + 1 - k * 2 = 1 by omega, List.set_cons_succ, List.set_cons_zero]
  unfold rowFile
  rw [List.flatMap_append, List.flatMap_cons]; rfl
theorem toFile_next {W : World} {B g len k : Nat} {us : List MFile} {t : MFile} (h : W.ownsRow B 71 2 (.slice (some ⟨g, 0, none⟩) len len) len (rowFile us)) (hu : us.length = len) (hk : k < len) :
    ((W.setCell ⟨g, k * 2, none⟩ (.string t.name)).setCell ⟨g, k * 2 + 1, none⟩ (.string t.text)).ownsRow B 71 2 (.slice (some ⟨g, 0, none⟩) len len) len (rowFile (us.set k t)) := by
  have := ((h.stored (k * 2) (.string t.name)).1.stored (k * 2 + 1) (.string t.text)).1
  rw [setFile us k t (by omega)] at this
  exact this
theorem toFile_take {us ts : List MFile} {k : Nat} {t : MFile} (h : us.take k = ts.take k) {hk : k < ts.length} (ht : ts[k] = t) (hu : k < us.length) : (us.set k t).take (k + 1) = ts.take (k + 1) := by
  rw [List.take_succ_eq_append_getElem hk, List.take_succ_eq_append_getElem (by simpa using hu), List.getElem_set_self, ht, ← h]
  congr 1
  rw [List.take_set_of_le (Nat.le_refl _)]

theorem toFileS_any (ao : Option Addr) (len cap : Nat) (ts : List MFile) (w : World) (hl : len ≤ 1048576) (hA : ArgFile w ao len ts) :
    Calls Try.prog 37 #[.slice ao len cap] w fun e w' => ∃ v, e = .returned v ∧ w'.ownsRow w.heap.size 71 2 v ts.length (rowFile ts) ∧ Below w.heap.size w w' := by
  obtain ⟨hlen, _, hcs⟩ := hA
  obtain ⟨i0, hi, hz0, hz1, hz2⟩ := info_parts infoFile
  obtain ⟨M, hM⟩ : ∃ M, M = madeCells (Value.agg #[.string ⟨#[]⟩, .string ⟨#[]⟩]).cells (len * 2) := ⟨_, rfl⟩
  have hmk : ∀ W : World, (Instr.makeSlice 44 (.int .i64 (len : Int)) (.int .i64 (len : Int))).run Try.prog W = .ok (.slice (some ⟨W.heap.size, 0, none⟩) len len) (W.alloc (.cells M 71)) := fun W => by
    have h := run_make (P := Try.prog) W 44 71 i0 _ Try.underlying44 hi hz0 .i64 .i64 (len : Int) (len : Int) (by omega) (by omega) (by rw [hz2]; omega) (by omega)
    rw [hz1] at h
    rw [hM]
    simpa using h
  have HO : Hid ((w.alloc (.cells M 71)).ownsRow w.heap.size 71 2 (.slice (some ⟨w.heap.size, 0, none⟩) len len) len (rowFile (zerosFile len))) := by
    have hz := zerosFile_cells len
    rw [← hM] at hz
    have := World.ownsRow_lit (base := w.heap.size) (e := 71) (size := 2) w M len (Nat.le_refl _) (by unfold maxLen; omega) (by rw [← Array.length_toList, hz, rowFile_len]; simp [zerosFile])
    rw [hz] at this
    exact this
  clear hM
  go_enter Try.func37, Try.ntmps37
  go_wp2
  go_loopw [4] (fun i wr => ∃ (k : Nat) (us : List MFile), k ≤ len ∧ i = .int .i64 k ∧ us.length = len ∧ Hid (us.take k = ts.take k) ∧ Hid (wr.ownsRow w.heap.size 71 2 (.slice (some ⟨w.heap.size, 0, none⟩) len len) len (rowFile us)) ∧ Below w.heap.size w wr) (fun i _ => len - (intOf i).toNat)
  case atStart => exact ⟨0, zerosFile len, by omega, rfl, by simp [zerosFile], rfl, HO, (Below.refl _ _).alloc (Nat.le_refl _) _⟩
  case round =>
    obtain ⟨k, us, hk, rfl, hus, HE, HW, hbel⟩ := hrel
    by_cases hlt : k < len
    · rcases hcs with h0 | ⟨b, off, rfl, hbw, hc⟩
      · omega
      · obtain ⟨c0, c1⟩ := hc k (by omega)
        have hne : ¬ b = w.heap.size := by omega
        have d0 := (hbel.cell (p := ⟨b, off + k * 2, none⟩) hbw).trans c0
        have d1 := (hbel.cell (p := ⟨b, off + k * 2 + 1, none⟩) hbw).trans c1
        obtain ⟨t, ht⟩ : ∃ t, ts[k]'(by omega) = t := ⟨_, rfl⟩
        rw [ht] at d0 d1
        have HX : Hid (ts[k]'(by omega) = t) := ht
        clear ht c0 c1 hc
        have hI := fun w => toFile_any t w
        go_wp2_with (go_at_call 52; refine (hI _).mono ?_; rintro e w1 ⟨rfl, hb1⟩; have ho1 := own_below HW.out hb1; have f0 := ho1.frozenAt (k * 2); have f1 := ho1.frozenAt (k * 2 + 1); obtain ⟨p0, q0⟩ := own_has ho1 (k := k * 2) (by omega); obtain ⟨p1, q1⟩ := own_has ho1 (k := k * 2 + 1) (by omega); clear ho1)
        go_roundw
        case rel => exact ⟨k + 1, us.set k t, by omega, by go_num, by simpa using hus, toFile_take HE.out HX.out (by omega), toFile_next (own_below HW.out hb1) hus hlt, (((hbel.trans (hb1.mono hbel.size)).setCell (Nat.le_refl _) _).setCell (Nat.le_refl _) _)⟩
        case measure => simp [intOf]; omega
    · have hk' : k = len := by omega
      subst hk'
      have HF : Hid (wr.ownsRow w.heap.size 71 2 (.slice (some ⟨w.heap.size, 0, none⟩) k k) ts.length (rowFile ts)) := by
        have e : us = ts := by
          have := HE.out
          rwa [List.take_of_length_le (by omega), List.take_of_length_le (by omega)] at this
        have := HW.out
        rw [e] at this
        rw [hlen]; exact this
      clear HE HW
      go_wp2
      go_ret
      exact ⟨_, rfl, HF.out, hbel⟩

theorem szFile_any (t : MFile) (n : Int) (w : World) (hn : 0 ≤ n) (hn2 : n ≤ 1048576) (hs : t.name.size ≤ maxLen ∧ t.text.size ≤ maxLen) :
    Calls Try.prog 48 #[.agg #[.string t.name, .string t.text], .int .i64 n] w fun e w' => e = .returned (.int .i64 (if (t.name.size : Int) + (t.text.size : Int) ≤ n then n - ((t.name.size : Int) + (t.text.size : Int)) else -1)) ∧ Below w.heap.size w w' := by
  unfold maxLen at hs
  by_cases h0 : (t.name.size : Int) ≤ n
  · by_cases h1 : (t.name.size : Int) + (t.text.size : Int) ≤ n
    · rw [if_pos (by omega)]
      go_enter Try.func48, Try.ntmps48
      go_wp2
      go_ret
      exact ⟨ret_i64 (by omega), by go_grown⟩
    · rw [if_neg (by omega)]
      go_enter Try.func48, Try.ntmps48
      go_wp2
      go_ret
      exact ⟨rfl, by go_grown⟩
  · rw [if_neg (by omega)]
    go_enter Try.func48, Try.ntmps48
    go_wp2
    go_ret
    exact ⟨rfl, by go_grown⟩

def fewFile (ts : List MFile) : Prop := ts.length ≤ 1048576 ∧ ∀ t ∈ ts, t.name.size ≤ 1048576 ∧ t.text.size ≤ 1048576
theorem szFileS_any (ao : Option Addr) (len cap : Nat) (ts : List MFile) (n0 : Int) (w : World) (hl : len ≤ maxLen) (hn0 : 0 ≤ n0) (hn1 : n0 ≤ 1048576) (hA : ArgFile w ao len ts) :
    Calls Try.prog 28 #[.slice ao len cap, .int .i64 n0] w fun e w' => ∃ n, e = .returned (.int .i64 n) ∧ (n < 0 ∨ (0 ≤ n ∧ n ≤ n0 ∧ fewFile ts)) ∧ Below w.heap.size w w' := by
  unfold maxLen at hl
  unfold fewFile
  by_cases h : (len : Int) ≤ n0
  · obtain ⟨hlen, HS0, hcs⟩ := hA
    have HS : Hid (∀ t ∈ ts, t.name.size ≤ maxLen ∧ t.text.size ≤ maxLen) := HS0
    clear HS0
    go_enter Try.func28, Try.ntmps28
    go_wp2
    go_loopw [1, 5] (fun l i wr => ∃ (n : Int) (k : Nat), k ≤ len ∧ i = .int .i64 k ∧ l = .int .i64 n ∧ 0 ≤ n ∧ n ≤ n0 ∧ Hid (∀ t ∈ ts.take k, t.name.size ≤ 1048576 ∧ t.text.size ≤ 1048576) ∧ Below w.heap.size w wr) (fun _ i _ => len - (intOf i).toNat)
    case atStart => exact ⟨n0 - len, 0, by omega, rfl, by first | rfl | go_num, by omega, by omega, fun t ht => by simp at ht, Below.refl _ _⟩
    case round =>
      obtain ⟨n, k, hk, rfl, rfl, hn, hn2, HE, hbel⟩ := hrel
      by_cases hlt : k < len
      · rcases hcs with h0 | ⟨b, off, rfl, hbw, hc⟩
        · omega
        · obtain ⟨c0, c1⟩ := hc k (by omega)
          have d0 := (hbel.cell (p := ⟨b, off + k * 2, none⟩) hbw).trans c0
          have d1 := (hbel.cell (p := ⟨b, off + k * 2 + 1, none⟩) hbw).trans c1
          have hsz := HS.out (ts[k]'(by omega)) (List.getElem_mem _)
          obtain ⟨t, ht⟩ : ∃ t, ts[k]'(by omega) = t := ⟨_, rfl⟩
          rw [ht] at d0 d1 hsz
          have HX : Hid (ts[k]'(by omega) = t) := ht
          clear ht c0 c1 hc
          have hI := fun w => szFile_any t n w hn (by omega) hsz
          by_cases hle : (t.name.size : Int) + (t.text.size : Int) ≤ n
          · simp only [hle, if_true] at hI
            have HN : Hid (∀ x ∈ ts.take (k + 1), x.name.size ≤ 1048576 ∧ x.text.size ≤ 1048576) := by
              intro x hx
              rw [List.take_succ_eq_append_getElem (by omega)] at hx
              rcases List.mem_append.mp hx with hx | hx
              · exact HE.out x hx
              · simp at hx; rw [hx, HX.out]; omega
            go_wp2_with (go_at_call 48; refine (hI _).mono ?_; rintro e w1 ⟨rfl, hb1⟩)
            go_roundw
            case rel => exact ⟨_, k + 1, by omega, by go_num, rfl, by omega, by omega, HN.out, hbel.trans (hb1.mono hbel.size)⟩
            case measure => simp [intOf]; omega
          · simp only [hle, if_false] at hI
            go_wp2_with (go_at_call 48; refine (hI _).mono ?_; rintro e w1 ⟨rfl, hb1⟩)
            go_ret
            exact ⟨_, rfl, .inl (by omega), hbel.trans (hb1.mono hbel.size)⟩
      · go_wp2
        go_ret
        refine ⟨_, rfl, .inr ⟨hn, hn2, by omega, ?_⟩, hbel⟩
        have := HE.out
        rwa [List.take_of_length_le (by omega)] at this
  · clear hA
    go_enter Try.func28, Try.ntmps28
    go_wp2
    go_ret
    exact ⟨_, rfl, .inl (by omega), Below.refl _ _⟩

theorem eqFile_same (t : MFile) (w : World) :
    Calls Try.prog 61 #[.agg #[.string t.name, .string t.text], .agg #[.string t.name, .string t.text]] w fun e w' => e = .returned (.bool true) ∧ Below w.heap.size w w' := by
  go_enter Try.func61, Try.ntmps61
  go_wp2
  go_ret
  exact ⟨rfl, ((Below.refl _ _).alloc (Nat.le_refl _) _).alloc (by simp) _⟩

theorem eqFileS_same (v1 v2 : Value) (ts : List MFile) (B1 B2 : Nat) (w : World) (hl : ts.length ≤ 1048576)
    (h1 : w.ownsRow B1 71 2 v1 ts.length (rowFile ts)) (h2 : w.ownsRow B2 71 2 v2 ts.length (rowFile ts)) :
    Calls Try.prog 45 #[v1, v2] w fun e w' => e = .returned (.bool true) ∧ Below w.heap.size w w' := by
  by_cases hz : ts.length = 0
  · obtain ⟨ao1, c1, rfl⟩ := own_len h1
    obtain ⟨ao2, c2, rfl⟩ := own_len h2
    rw [hz]
    clear h1 h2 hl hz
    go_enter Try.func45, Try.ntmps45
    go_wp2
    refine wp_loop_rounds 1 ?_
    rw [rounds_succ]
    go_wp2
    go_ret
    exact ⟨rfl, Below.refl _ _⟩
  · obtain ⟨g1, c1, rfl⟩ := Joins.ownsRow_form h1 (by omega)
    obtain ⟨g2, c2, rfl⟩ := Joins.ownsRow_form h2 (by omega)
    have H1 : Hid (w.ownsRow B1 71 2 (.slice (some ⟨g1, 0, none⟩) ts.length c1) ts.length (rowFile ts)) := h1
    have H2 : Hid (w.ownsRow B2 71 2 (.slice (some ⟨g2, 0, none⟩) ts.length c2) ts.length (rowFile ts)) := h2
    have hg1 := (h1.lt g1 rfl).2
    have hg2 := (h2.lt g2 rfl).2
    clear h1 h2
    go_enter Try.func45, Try.ntmps45
    go_wp2
    go_loopw [5] (fun i wr => ∃ (k : Nat), k ≤ ts.length ∧ i = .int .i64 k ∧ Below w.heap.size w wr) (fun i _ => ts.length - (intOf i).toNat)
    case atStart => exact ⟨0, by omega, rfl, Below.refl _ _⟩
    case round =>
      obtain ⟨k, hk, rfl, hb⟩ := hrel
      by_cases hlt : k < ts.length
      · obtain ⟨t, x0, x1, y0, y1⟩ : ∃ t : MFile, wr.cell? ⟨g1, k * 2, none⟩ = some (.string t.name) ∧ wr.cell? ⟨g1, k * 2 + 1, none⟩ = some (.string t.text) ∧ wr.cell? ⟨g2, k * 2, none⟩ = some (.string t.name) ∧ wr.cell? ⟨g2, k * 2 + 1, none⟩ = some (.string t.text) := by
          obtain ⟨a0, a1⟩ := ownFile_at (own_below H1.out hb) hlt
          obtain ⟨b0, b1⟩ := ownFile_at (own_below H2.out hb) hlt
          exact ⟨_, a0, a1, b0, b1⟩
        have hE := fun w => eqFile_same t w
        go_wp2
        go_region_with (go_at_call 61; refine (hE _).mono ?_; rintro e w1 ⟨rfl, hb1⟩)
        all_goals go_wp2
        all_goals
          have hb2 : Below w.heap.size w w1 := (below_drewN hb 1).trans (hb1.mono (by have := hb.size; simpa using this))
          clear hb1
          go_roundw
          case rel => exact ⟨k + 1, by omega, by go_num, hb2⟩
          case measure => simp [intOf]; omega
      · go_wp2
        go_ret
        exact ⟨rfl, hb⟩

end Go.Proofs.Ytjhmjjechagbjaa
