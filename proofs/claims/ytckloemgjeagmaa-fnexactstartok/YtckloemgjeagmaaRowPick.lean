/- Contracts of the law's own helpers on rows of Pick: toPick, toPickS, szPickS, eqPick, eqPickS. Printed by tools/mixed.py. -/
import Derived.Test.YtckloemgjeagmaaBase
import Derived.Laws.MakeOwn
namespace Go.Proofs.Ytckloemgjeagmaa
open Go.RowKit
set_option maxHeartbeats 400000
set_option linter.unusedVariables false

structure MPick where
  at_ : Int
  kind : Int
  loader : Int
  name : ByteArray
def cellsPick (t : MPick) : List Value := [.int .i64 t.at_, .int .i64 t.kind, .int .i64 t.loader, .string t.name]
def rowPick (ts : List MPick) : List Value := ts.flatMap cellsPick
theorem rowPick_len (ts : List MPick) : (rowPick ts).length = ts.length * 4 := by
  induction ts with
  | nil => rfl
  | cons t ts ih => simp only [rowPick, List.flatMap_cons, List.length_append] at *; simp [cellsPick, ih]; omega
theorem rowPick_at (ts : List MPick) (k : Nat) (hk : k < ts.length) : rowPick ts = rowPick (ts.take k) ++ (cellsPick ts[k] ++ rowPick (ts.drop (k + 1))) := by
  have ht : ts = ts.take k ++ ts[k] :: ts.drop (k + 1) := by rw [← List.drop_eq_getElem_cons hk, List.take_append_drop]
  exact (congrArg (List.flatMap cellsPick) ht).trans (by rw [List.flatMap_append, List.flatMap_cons]; rfl)
theorem infoPick : (Try.prog.info? 49).map (fun i => (i.zero, i.size, i.bytes)) = some (some (.agg #[.int .i64 0, .int .i64 0, .int .i64 0, .string ⟨#[]⟩]), 4, 40) := by kernel_rfl
theorem ownPick_at {w : World} {B g cap : Nat} {ts : List MPick} (h : w.ownsRow B 49 4 (.slice (some ⟨g, 0, none⟩) ts.length cap) ts.length (rowPick ts)) {k : Nat} (hk : k < ts.length) :
    w.cell? ⟨g, k * 4, none⟩ = some (.int .i64 ts[k].at_) ∧ w.cell? ⟨g, k * 4 + 1, none⟩ = some (.int .i64 ts[k].kind) ∧ w.cell? ⟨g, k * 4 + 2, none⟩ = some (.int .i64 ts[k].loader) ∧ w.cell? ⟨g, k * 4 + 3, none⟩ = some (.string ts[k].name) := by
  have hx : ∀ j, j < 4 → (rowPick ts)[k * 4 + j]? = (cellsPick ts[k])[j]? := by
    intro j hj
    rw [rowPick_at ts k hk, List.getElem?_append_right (by rw [rowPick_len, List.length_take]; omega), rowPick_len, List.length_take, show k * 4 + j - min k ts.length * 4 = j by omega, List.getElem?_append_left (by simp [cellsPick]; omega)]
  refine ⟨?_, ?_, ?_, ?_⟩
  · rw [h.cellAt _ (by omega)]; exact hx 0 (by omega)
  · rw [h.cellAt _ (by omega)]; exact hx 1 (by omega)
  · rw [h.cellAt _ (by omega)]; exact hx 2 (by omega)
  · rw [h.cellAt _ (by omega)]; exact hx 3 (by omega)

theorem toPick_any (t : MPick) (w : World) :
    Calls Try.prog 30 #[.agg #[.int .i64 t.at_, .int .i64 t.kind, .int .i64 t.loader, .string t.name]] w fun e w' => e = .returned (.agg #[.int .i64 t.at_, .int .i64 t.kind, .int .i64 t.loader, .string t.name]) ∧ Below w.heap.size w w' := by
  go_enter Try.func30, Try.ntmps30
  go_wp2
  refine bodyPost_ret (v := .agg #[.int .i64 t.at_, .int .i64 t.kind, .int .i64 t.loader, .string t.name]) (by simp [results, Try.results30, go_sem]) rfl ⟨rfl, ?_⟩
  go_grown

/-- an argument that reads as these -/
def ArgPick (w : World) (ao : Option Addr) (len : Nat) (ts : List MPick) : Prop :=
  ts.length = len ∧ (∀ t ∈ ts, t.name.size ≤ maxLen) ∧ (len = 0 ∨ ∃ b off, ao = some ⟨b, off, none⟩ ∧ b < w.heap.size ∧ ∀ k (h : k < ts.length), w.cell? ⟨b, off + k * 4, none⟩ = some (.int .i64 ts[k].at_) ∧ w.cell? ⟨b, off + k * 4 + 1, none⟩ = some (.int .i64 ts[k].kind) ∧ w.cell? ⟨b, off + k * 4 + 2, none⟩ = some (.int .i64 ts[k].loader) ∧ w.cell? ⟨b, off + k * 4 + 3, none⟩ = some (.string ts[k].name))
theorem ArgPick.keep {w w' : World} {ao : Option Addr} {len : Nat} {ts : List MPick} (h : ArgPick w ao len ts) (hb : Below w.heap.size w w') : ArgPick w' ao len ts := by
  obtain ⟨h1, hs, h2⟩ := h
  refine ⟨h1, hs, h2.imp id ?_⟩
  rintro ⟨b, off, rfl, hlt, hc⟩
  refine ⟨b, off, rfl, Nat.lt_of_lt_of_le hlt hb.size, fun k hk => ?_⟩
  obtain ⟨c0, c1, c2, c3⟩ := hc k hk
  exact ⟨(hb.cell (p := ⟨b, off + k * 4, none⟩) hlt).trans c0, (hb.cell (p := ⟨b, off + k * 4 + 1, none⟩) hlt).trans c1, (hb.cell (p := ⟨b, off + k * 4 + 2, none⟩) hlt).trans c2, (hb.cell (p := ⟨b, off + k * 4 + 3, none⟩) hlt).trans c3⟩

def zerosPick (n : Nat) : List MPick := List.replicate n ⟨0, 0, 0, ⟨#[]⟩⟩
theorem zerosPick_cells (n : Nat) : (madeCells (Value.agg #[.int .i64 0, .int .i64 0, .int .i64 0, .string ⟨#[]⟩]).cells (n * 4)).toList = rowPick (zerosPick n) := by
  have hz : (Value.agg #[.int .i64 0, .int .i64 0, .int .i64 0, .string ⟨#[]⟩]).cells = #[.int .i64 0, .int .i64 0, .int .i64 0, .string ⟨#[]⟩] := rfl
  apply List.ext_getElem
  · simp [madeCells, rowPick_len, zerosPick]
  · intro i h1 h2
    have hi : i < n * 4 := by simpa [rowPick_len, zerosPick] using h2
    have hget : (rowPick (zerosPick n))[i]? = (cellsPick ⟨0, 0, 0, ⟨#[]⟩⟩)[i % 4]? := by
      have hk : i / 4 < (zerosPick n).length := by simp [zerosPick]; omega
      rw [rowPick_at _ (i / 4) hk, List.getElem?_append_right (by rw [rowPick_len, List.length_take]; omega), rowPick_len, List.length_take, show i - min (i / 4) (zerosPick n).length * 4 = i % 4 by omega, List.getElem?_append_left (by simp [cellsPick]; omega)]
      simp [zerosPick]
    rw [List.getElem?_eq_getElem h2] at hget
    have h3 : i % 4 < 4 := Nat.mod_lt _ (by decide)
    have hl : (madeCells (Value.agg #[.int .i64 0, .int .i64 0, .int .i64 0, .string ⟨#[]⟩]).cells (n * 4)).toList[i] = (#[.int .i64 0, .int .i64 0, .int .i64 0, .string ⟨#[]⟩] : Array Value)[i % 4]! := by
      simp only [madeCells, hz]
      simp only [Array.toList_map, Array.toList_range, List.getElem_map, List.getElem_range]
      rfl
    rw [hl]
    generalize i % 4 = r at h3 hget
    match r, h3 with
    | 0, _ => exact (Option.some.inj hget).symm
    | 1, _ => exact (Option.some.inj hget).symm
    | 2, _ => exact (Option.some.inj hget).symm
    | 3, _ => exact (Option.some.inj hget).symm

theorem setPick (us : List MPick) (k : Nat) (t : MPick) (h : k < us.length) :
    ((((rowPick us).set (k * 4) (.int .i64 t.at_)).set (k * 4 + 1) (.int .i64 t.kind)).set (k * 4 + 2) (.int .i64 t.loader)).set (k * 4 + 3) (.string t.name) = rowPick (us.set k t) := by
  have e2 : us.set k t = us.take k ++ t :: us.drop (k + 1) := by rw [List.set_eq_take_append_cons_drop, if_pos h]
  have hl : (rowPick (us.take k)).length = k * 4 := by rw [rowPick_len, List.length_take]; omega
  have e1 : rowPick us = rowPick (us.take k) ++ (.int .i64 us[k].at_ :: .int .i64 us[k].kind :: .int .i64 us[k].loader :: .string us[k].name :: rowPick (us.drop (k + 1))) := rowPick_at us k h
  rw [e2, e1, List.set_append_right _ _ (by omega), hl, Nat.sub_self, List.set_cons_zero, List.set_append_right _ _ (by omega), hl, show k * 4 + 1 - k * 4 = 1 by omega, List.set_cons_succ, List.set_cons_zero, List.set_append_right _ _ (by omega), hl, show k * 4 + 2 - k * 4 = 2 by omega, List.set_cons_succ, List.set_cons_succ, List.set_cons_zero, List.set_append_right _ _ (by omega), hl, show k * 4 + 3 - k * 4 = 3 by omega, List.set_cons_succ, List.set_cons_succ, List.set_cons_succ, List.set_cons_zero]
  unfold rowPick
  rw [List.flatMap_append, List.flatMap_cons]; rfl
theorem toPick_next {W : World} {B g len k : Nat} {us : List MPick} {t : MPick} (h : W.ownsRow B 49 4 (.slice (some ⟨g, 0, none⟩) len len) len (rowPick us)) (hu : us.length = len) (hk : k < len) :
    ((((W.setCell ⟨g, k * 4, none⟩ (.int .i64 t.at_)).setCell ⟨g, k * 4 + 1, none⟩ (.int .i64 t.kind)).setCell ⟨g, k * 4 + 2, none⟩ (.int .i64 t.loader)).setCell ⟨g, k * 4 + 3, none⟩ (.string t.name)).ownsRow B 49 4 (.slice (some ⟨g, 0, none⟩) len len) len (rowPick (us.set k t)) := by
  have := ((((h.stored (k * 4) (.int .i64 t.at_)).1.stored (k * 4 + 1) (.int .i64 t.kind)).1.stored (k * 4 + 2) (.int .i64 t.loader)).1.stored (k * 4 + 3) (.string t.name)).1
  rw [setPick us k t (by omega)] at this
  exact this
theorem toPick_take {us ts : List MPick} {k : Nat} {t : MPick} (h : us.take k = ts.take k) {hk : k < ts.length} (ht : ts[k] = t) (hu : k < us.length) : (us.set k t).take (k + 1) = ts.take (k + 1) := by
  rw [List.take_succ_eq_append_getElem hk, List.take_succ_eq_append_getElem (by simpa using hu), List.getElem_set_self, ht, ← h]
  congr 1
  rw [List.take_set_of_le (Nat.le_refl _)]

theorem toPickS_any (ao : Option Addr) (len cap : Nat) (ts : List MPick) (w : World) (hl : len ≤ 1048576) (hA : ArgPick w ao len ts) :
    Calls Try.prog 13 #[.slice ao len cap] w fun e w' => ∃ v, e = .returned v ∧ w'.ownsRow w.heap.size 49 4 v ts.length (rowPick ts) ∧ Below w.heap.size w w' := by
  obtain ⟨hlen, _, hcs⟩ := hA
  obtain ⟨i0, hi, hz0, hz1, hz2⟩ := info_parts infoPick
  obtain ⟨M, hM⟩ : ∃ M, M = madeCells (Value.agg #[.int .i64 0, .int .i64 0, .int .i64 0, .string ⟨#[]⟩]).cells (len * 4) := ⟨_, rfl⟩
  have hmk : ∀ W : World, (Instr.makeSlice 29 (.int .i64 (len : Int)) (.int .i64 (len : Int))).run Try.prog W = .ok (.slice (some ⟨W.heap.size, 0, none⟩) len len) (W.alloc (.cells M 49)) := fun W => by
    have h := run_make (P := Try.prog) W 29 49 i0 _ Try.underlying29 hi hz0 .i64 .i64 (len : Int) (len : Int) (by omega) (by omega) (by rw [hz2]; omega) (by omega)
    rw [hz1] at h
    rw [hM]
    simpa using h
  have HO : Hid ((w.alloc (.cells M 49)).ownsRow w.heap.size 49 4 (.slice (some ⟨w.heap.size, 0, none⟩) len len) len (rowPick (zerosPick len))) := by
    have hz := zerosPick_cells len
    rw [← hM] at hz
    have := World.ownsRow_lit (base := w.heap.size) (e := 49) (size := 4) w M len (Nat.le_refl _) (by unfold maxLen; omega) (by rw [← Array.length_toList, hz, rowPick_len]; simp [zerosPick])
    rw [hz] at this
    exact this
  clear hM
  go_enter Try.func13, Try.ntmps13
  go_wp2
  go_loopw [4] (fun i wr => ∃ (k : Nat) (us : List MPick), k ≤ len ∧ i = .int .i64 k ∧ us.length = len ∧ Hid (us.take k = ts.take k) ∧ Hid (wr.ownsRow w.heap.size 49 4 (.slice (some ⟨w.heap.size, 0, none⟩) len len) len (rowPick us)) ∧ Below w.heap.size w wr) (fun i _ => len - (intOf i).toNat)
  case atStart => exact ⟨0, zerosPick len, by omega, rfl, by simp [zerosPick], rfl, HO, (Below.refl _ _).alloc (Nat.le_refl _) _⟩
  case round =>
    obtain ⟨k, us, hk, rfl, hus, HE, HW, hbel⟩ := hrel
    by_cases hlt : k < len
    · rcases hcs with h0 | ⟨b, off, rfl, hbw, hc⟩
      · omega
      · obtain ⟨c0, c1, c2, c3⟩ := hc k (by omega)
        have hne : ¬ b = w.heap.size := by omega
        have d0 := (hbel.cell (p := ⟨b, off + k * 4, none⟩) hbw).trans c0
        have d1 := (hbel.cell (p := ⟨b, off + k * 4 + 1, none⟩) hbw).trans c1
        have d2 := (hbel.cell (p := ⟨b, off + k * 4 + 2, none⟩) hbw).trans c2
        have d3 := (hbel.cell (p := ⟨b, off + k * 4 + 3, none⟩) hbw).trans c3
        obtain ⟨t, ht⟩ : ∃ t, ts[k]'(by omega) = t := ⟨_, rfl⟩
        rw [ht] at d0 d1 d2 d3
        have HX : Hid (ts[k]'(by omega) = t) := ht
        clear ht c0 c1 c2 c3 hc
        have hI := fun w => toPick_any t w
        go_wp2_with (go_at_call 30; refine (hI _).mono ?_; rintro e w1 ⟨rfl, hb1⟩; have ho1 := own_below HW.out hb1; have f0 := ho1.frozenAt (k * 4); have f1 := ho1.frozenAt (k * 4 + 1); have f2 := ho1.frozenAt (k * 4 + 2); have f3 := ho1.frozenAt (k * 4 + 3); obtain ⟨p0, q0⟩ := own_has ho1 (k := k * 4) (by omega); obtain ⟨p1, q1⟩ := own_has ho1 (k := k * 4 + 1) (by omega); obtain ⟨p2, q2⟩ := own_has ho1 (k := k * 4 + 2) (by omega); obtain ⟨p3, q3⟩ := own_has ho1 (k := k * 4 + 3) (by omega); clear ho1)
        go_roundw
        case rel => exact ⟨k + 1, us.set k t, by omega, by go_num, by simpa using hus, toPick_take HE.out HX.out (by omega), toPick_next (own_below HW.out hb1) hus hlt, (((((hbel.trans (hb1.mono hbel.size)).setCell (Nat.le_refl _) _).setCell (Nat.le_refl _) _).setCell (Nat.le_refl _) _).setCell (Nat.le_refl _) _)⟩
        case measure => simp [intOf]; omega
    · have hk' : k = len := by omega
      subst hk'
      have HF : Hid (wr.ownsRow w.heap.size 49 4 (.slice (some ⟨w.heap.size, 0, none⟩) k k) ts.length (rowPick ts)) := by
        have e : us = ts := by
          have := HE.out
          rwa [List.take_of_length_le (by omega), List.take_of_length_le (by omega)] at this
        have := HW.out
        rw [e] at this
        rw [hlen]; exact this
      clear HE HW
      go_wp2
      go_ret
      exact ⟨_, rfl, HF.out, hbel⟩

theorem szPick_any (t : MPick) (n : Int) (w : World) (hn : 0 ≤ n) (hn2 : n ≤ 1048576) (hs : t.name.size ≤ maxLen) :
    Calls Try.prog 24 #[.agg #[.int .i64 t.at_, .int .i64 t.kind, .int .i64 t.loader, .string t.name], .int .i64 n] w fun e w' => e = .returned (.int .i64 (if (t.name.size : Int) ≤ n then n - ((t.name.size : Int)) else -1)) ∧ Below w.heap.size w w' := by
  unfold maxLen at hs
  by_cases h0 : (t.name.size : Int) ≤ n
  · rw [if_pos (by omega)]
    go_enter Try.func24, Try.ntmps24
    go_wp2
    go_ret
    exact ⟨ret_i64 (by omega), by go_grown⟩
  · rw [if_neg (by omega)]
    go_enter Try.func24, Try.ntmps24
    go_wp2
    go_ret
    exact ⟨rfl, by go_grown⟩

def fewPick (ts : List MPick) : Prop := ts.length ≤ 1048576 ∧ ∀ t ∈ ts, t.name.size ≤ 1048576
theorem szPickS_any (ao : Option Addr) (len cap : Nat) (ts : List MPick) (n0 : Int) (w : World) (hl : len ≤ maxLen) (hn0 : 0 ≤ n0) (hn1 : n0 ≤ 1048576) (hA : ArgPick w ao len ts) :
    Calls Try.prog 10 #[.slice ao len cap, .int .i64 n0] w fun e w' => ∃ n, e = .returned (.int .i64 n) ∧ (n < 0 ∨ (0 ≤ n ∧ n ≤ n0 ∧ fewPick ts)) ∧ Below w.heap.size w w' := by
  unfold maxLen at hl
  unfold fewPick
  by_cases h : (len : Int) ≤ n0
  · obtain ⟨hlen, HS0, hcs⟩ := hA
    have HS : Hid (∀ t ∈ ts, t.name.size ≤ maxLen) := HS0
    clear HS0
    go_enter Try.func10, Try.ntmps10
    go_wp2
    go_loopw [1, 5] (fun l i wr => ∃ (n : Int) (k : Nat), k ≤ len ∧ i = .int .i64 k ∧ l = .int .i64 n ∧ 0 ≤ n ∧ n ≤ n0 ∧ Hid (∀ t ∈ ts.take k, t.name.size ≤ 1048576) ∧ Below w.heap.size w wr) (fun _ i _ => len - (intOf i).toNat)
    case atStart => exact ⟨n0 - len, 0, by omega, rfl, by first | rfl | go_num, by omega, by omega, fun t ht => by simp at ht, Below.refl _ _⟩
    case round =>
      obtain ⟨n, k, hk, rfl, rfl, hn, hn2, HE, hbel⟩ := hrel
      by_cases hlt : k < len
      · rcases hcs with h0 | ⟨b, off, rfl, hbw, hc⟩
        · omega
        · obtain ⟨c0, c1, c2, c3⟩ := hc k (by omega)
          have d0 := (hbel.cell (p := ⟨b, off + k * 4, none⟩) hbw).trans c0
          have d1 := (hbel.cell (p := ⟨b, off + k * 4 + 1, none⟩) hbw).trans c1
          have d2 := (hbel.cell (p := ⟨b, off + k * 4 + 2, none⟩) hbw).trans c2
          have d3 := (hbel.cell (p := ⟨b, off + k * 4 + 3, none⟩) hbw).trans c3
          have hsz := HS.out (ts[k]'(by omega)) (List.getElem_mem _)
          obtain ⟨t, ht⟩ : ∃ t, ts[k]'(by omega) = t := ⟨_, rfl⟩
          rw [ht] at d0 d1 d2 d3 hsz
          have HX : Hid (ts[k]'(by omega) = t) := ht
          clear ht c0 c1 c2 c3 hc
          have hI := fun w => szPick_any t n w hn (by omega) hsz
          by_cases hle : (t.name.size : Int) ≤ n
          · simp only [hle, if_true] at hI
            have HN : Hid (∀ x ∈ ts.take (k + 1), x.name.size ≤ 1048576) := by
              intro x hx
              rw [List.take_succ_eq_append_getElem (by omega)] at hx
              rcases List.mem_append.mp hx with hx | hx
              · exact HE.out x hx
              · simp at hx; rw [hx, HX.out]; omega
            go_wp2_with (go_at_call 24; refine (hI _).mono ?_; rintro e w1 ⟨rfl, hb1⟩)
            go_roundw
            case rel => exact ⟨_, k + 1, by omega, by go_num, rfl, by omega, by omega, HN.out, hbel.trans (hb1.mono hbel.size)⟩
            case measure => simp [intOf]; omega
          · simp only [hle, if_false] at hI
            go_wp2_with (go_at_call 24; refine (hI _).mono ?_; rintro e w1 ⟨rfl, hb1⟩)
            go_ret
            exact ⟨_, rfl, .inl (by omega), hbel.trans (hb1.mono hbel.size)⟩
      · go_wp2
        go_ret
        refine ⟨_, rfl, .inr ⟨hn, hn2, by omega, ?_⟩, hbel⟩
        have := HE.out
        rwa [List.take_of_length_le (by omega)] at this
  · clear hA
    go_enter Try.func10, Try.ntmps10
    go_wp2
    go_ret
    exact ⟨_, rfl, .inl (by omega), Below.refl _ _⟩

theorem eqPick_same (t : MPick) (w : World) :
    Calls Try.prog 39 #[.agg #[.int .i64 t.at_, .int .i64 t.kind, .int .i64 t.loader, .string t.name], .agg #[.int .i64 t.at_, .int .i64 t.kind, .int .i64 t.loader, .string t.name]] w fun e w' => e = .returned (.bool true) ∧ Below w.heap.size w w' := by
  go_enter Try.func39, Try.ntmps39
  go_wp2
  go_ret
  exact ⟨rfl, ((Below.refl _ _).alloc (Nat.le_refl _) _).alloc (by simp) _⟩

theorem eqPickS_same (v1 v2 : Value) (ts : List MPick) (B1 B2 : Nat) (w : World) (hl : ts.length ≤ 1048576)
    (h1 : w.ownsRow B1 49 4 v1 ts.length (rowPick ts)) (h2 : w.ownsRow B2 49 4 v2 ts.length (rowPick ts)) :
    Calls Try.prog 22 #[v1, v2] w fun e w' => e = .returned (.bool true) ∧ Below w.heap.size w w' := by
  by_cases hz : ts.length = 0
  · obtain ⟨ao1, c1, rfl⟩ := own_len h1
    obtain ⟨ao2, c2, rfl⟩ := own_len h2
    rw [hz]
    clear h1 h2 hl hz
    go_enter Try.func22, Try.ntmps22
    go_wp2
    refine wp_loop_rounds 1 ?_
    rw [rounds_succ]
    go_wp2
    go_ret
    exact ⟨rfl, Below.refl _ _⟩
  · obtain ⟨g1, c1, rfl⟩ := Joins.ownsRow_form h1 (by omega)
    obtain ⟨g2, c2, rfl⟩ := Joins.ownsRow_form h2 (by omega)
    have H1 : Hid (w.ownsRow B1 49 4 (.slice (some ⟨g1, 0, none⟩) ts.length c1) ts.length (rowPick ts)) := h1
    have H2 : Hid (w.ownsRow B2 49 4 (.slice (some ⟨g2, 0, none⟩) ts.length c2) ts.length (rowPick ts)) := h2
    have hg1 := (h1.lt g1 rfl).2
    have hg2 := (h2.lt g2 rfl).2
    clear h1 h2
    go_enter Try.func22, Try.ntmps22
    go_wp2
    go_loopw [5] (fun i wr => ∃ (k : Nat), k ≤ ts.length ∧ i = .int .i64 k ∧ Below w.heap.size w wr) (fun i _ => ts.length - (intOf i).toNat)
    case atStart => exact ⟨0, by omega, rfl, Below.refl _ _⟩
    case round =>
      obtain ⟨k, hk, rfl, hb⟩ := hrel
      by_cases hlt : k < ts.length
      · obtain ⟨t, x0, x1, x2, x3, y0, y1, y2, y3⟩ : ∃ t : MPick, wr.cell? ⟨g1, k * 4, none⟩ = some (.int .i64 t.at_) ∧ wr.cell? ⟨g1, k * 4 + 1, none⟩ = some (.int .i64 t.kind) ∧ wr.cell? ⟨g1, k * 4 + 2, none⟩ = some (.int .i64 t.loader) ∧ wr.cell? ⟨g1, k * 4 + 3, none⟩ = some (.string t.name) ∧ wr.cell? ⟨g2, k * 4, none⟩ = some (.int .i64 t.at_) ∧ wr.cell? ⟨g2, k * 4 + 1, none⟩ = some (.int .i64 t.kind) ∧ wr.cell? ⟨g2, k * 4 + 2, none⟩ = some (.int .i64 t.loader) ∧ wr.cell? ⟨g2, k * 4 + 3, none⟩ = some (.string t.name) := by
          obtain ⟨a0, a1, a2, a3⟩ := ownPick_at (own_below H1.out hb) hlt
          obtain ⟨b0, b1, b2, b3⟩ := ownPick_at (own_below H2.out hb) hlt
          exact ⟨_, a0, a1, a2, a3, b0, b1, b2, b3⟩
        have hE := fun w => eqPick_same t w
        go_wp2
        go_region_with (go_at_call 39; refine (hE _).mono ?_; rintro e w1 ⟨rfl, hb1⟩)
        all_goals go_wp2
        all_goals
          have hb2 : Below w.heap.size w w1 := (below_drewN hb 1).trans (hb1.mono (by have := hb.size; simpa using this))
          clear hb1
          go_roundw
          case rel => exact ⟨k + 1, by omega, by go_num, hb2⟩
          case measure => simp [intOf]; omega
      · go_wp2
        go_ret
        exact ⟨rfl, hb⟩

end Go.Proofs.Ytckloemgjeagmaa
