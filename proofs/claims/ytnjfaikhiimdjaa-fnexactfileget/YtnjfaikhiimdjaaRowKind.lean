/- Contracts of the law's own helpers on rows of Kind: toKind, toKindS, szKindS, eqKind, eqKindS. Printed by tools/flat.py. -/
import Derived.Test.YtnjfaikhiimdjaaBase
import Derived.Laws.MakeOwn
namespace Go.Proofs.Ytnjfaikhiimdjaa
open Go.RowKit
set_option maxHeartbeats 400000
set_option linter.unusedVariables false

structure MKind where
  tag : Int
  cls : Int
def cellsKind (t : MKind) : List Value := [.int .i64 t.tag, .int .i64 t.cls]
def rowKind (ts : List MKind) : List Value := ts.flatMap cellsKind
theorem rowKind_len (ts : List MKind) : (rowKind ts).length = ts.length * 2 := by
  induction ts with
  | nil => rfl
  | cons t ts ih => simp only [rowKind, List.flatMap_cons, List.length_append] at *; simp [cellsKind, ih]; omega
theorem rowKind_at (ts : List MKind) (k : Nat) (hk : k < ts.length) : rowKind ts = rowKind (ts.take k) ++ (cellsKind ts[k] ++ rowKind (ts.drop (k + 1))) := by
  have ht : ts = ts.take k ++ ts[k] :: ts.drop (k + 1) := by rw [← List.drop_eq_getElem_cons hk, List.take_append_drop]
  exact (congrArg (List.flatMap cellsKind) ht).trans (by rw [List.flatMap_append, List.flatMap_cons]; rfl)
theorem infoKind : (Try.prog.info? 144).map (fun i => (i.zero, i.size, i.bytes)) = some (some (.agg #[.int .i64 0, .int .i64 0]), 2, 16) := by kernel_rfl
theorem ownKind_at {w : World} {B g cap : Nat} {ts : List MKind} (h : w.ownsRow B 144 2 (.slice (some ⟨g, 0, none⟩) ts.length cap) ts.length (rowKind ts)) {k : Nat} (hk : k < ts.length) :
    w.cell? ⟨g, k * 2, none⟩ = some (.int .i64 ts[k].tag) ∧ w.cell? ⟨g, k * 2 + 1, none⟩ = some (.int .i64 ts[k].cls) := by
  have hx : ∀ j, j < 2 → (rowKind ts)[k * 2 + j]? = (cellsKind ts[k])[j]? := by
    intro j hj
    rw [rowKind_at ts k hk, List.getElem?_append_right (by rw [rowKind_len, List.length_take]; omega), rowKind_len, List.length_take, show k * 2 + j - min k ts.length * 2 = j by omega, List.getElem?_append_left (by simp [cellsKind]; omega)]
  refine ⟨?_, ?_⟩
  · rw [h.cellAt _ (by omega)]; exact hx 0 (by omega)
  · rw [h.cellAt _ (by omega)]; exact hx 1 (by omega)

theorem toKind_any (t : MKind) (w : World) :
    Calls Try.prog 126 #[.agg #[.int .i64 t.tag, .int .i64 t.cls]] w fun e w' => e = .returned (.agg #[.int .i64 t.tag, .int .i64 t.cls]) ∧ Below w.heap.size w w' := by
  go_enter Try.func126, Try.ntmps126
  go_wp2
  refine bodyPost_ret (v := .agg #[.int .i64 t.tag, .int .i64 t.cls]) (by simp [results, Try.results126, go_sem]) rfl ⟨rfl, ?_⟩
  go_grown

/-- an argument that reads as these -/
def ArgKind (w : World) (ao : Option Addr) (len : Nat) (ts : List MKind) : Prop :=
  ts.length = len ∧ (len = 0 ∨ ∃ b off, ao = some ⟨b, off, none⟩ ∧ b < w.heap.size ∧ ∀ k (h : k < ts.length), w.cell? ⟨b, off + k * 2, none⟩ = some (.int .i64 ts[k].tag) ∧ w.cell? ⟨b, off + k * 2 + 1, none⟩ = some (.int .i64 ts[k].cls))
theorem ArgKind.keep {w w' : World} {ao : Option Addr} {len : Nat} {ts : List MKind} (h : ArgKind w ao len ts) (hb : Below w.heap.size w w') : ArgKind w' ao len ts := by
  obtain ⟨h1, h2⟩ := h
  refine ⟨h1, h2.imp id ?_⟩
  rintro ⟨b, off, rfl, hlt, hc⟩
  refine ⟨b, off, rfl, Nat.lt_of_lt_of_le hlt hb.size, fun k hk => ?_⟩
  obtain ⟨c0, c1⟩ := hc k hk
  exact ⟨(hb.cell (p := ⟨b, off + k * 2, none⟩) hlt).trans c0, (hb.cell (p := ⟨b, off + k * 2 + 1, none⟩) hlt).trans c1⟩

def zerosKind (n : Nat) : List MKind := List.replicate n ⟨0, 0⟩
theorem zerosKind_cells (n : Nat) : (madeCells (Value.agg #[.int .i64 0, .int .i64 0]).cells (n * 2)).toList = rowKind (zerosKind n) := by
  have hz : (Value.agg #[.int .i64 0, .int .i64 0]).cells = #[.int .i64 0, .int .i64 0] := rfl
  apply List.ext_getElem
  · simp [madeCells, rowKind_len, zerosKind]
  · intro i h1 h2
    have hi : i < n * 2 := by simpa [rowKind_len, zerosKind] using h2
    have hget : (rowKind (zerosKind n))[i]? = (cellsKind ⟨0, 0⟩)[i % 2]? := by
      have hk : i / 2 < (zerosKind n).length := by simp [zerosKind]; omega
      rw [rowKind_at _ (i / 2) hk, List.getElem?_append_right (by rw [rowKind_len, List.length_take]; omega), rowKind_len, List.length_take, show i - min (i / 2) (zerosKind n).length * 2 = i % 2 by omega, List.getElem?_append_left (by simp [cellsKind]; omega)]
      simp [zerosKind]
    rw [List.getElem?_eq_getElem h2] at hget
    have h3 : i % 2 < 2 := Nat.mod_lt _ (by decide)
    have hl : (madeCells (Value.agg #[.int .i64 0, .int .i64 0]).cells (n * 2)).toList[i] = (#[.int .i64 0, .int .i64 0] : Array Value)[i % 2]! := by
      simp only [madeCells, hz]
      simp only [Array.toList_map, Array.toList_range, List.getElem_map, List.getElem_range]
      rfl
    rw [hl]
    generalize i % 2 = r at h3 hget
    match r, h3 with
    | 0, _ => exact (Option.some.inj hget).symm
    | 1, _ => exact (Option.some.inj hget).symm

theorem setKind (us : List MKind) (k : Nat) (t : MKind) (h : k < us.length) :
    ((rowKind us).set (k * 2) (.int .i64 t.tag)).set (k * 2 + 1) (.int .i64 t.cls) = rowKind (us.set k t) := by
  have e2 : us.set k t = us.take k ++ t :: us.drop (k + 1) := by rw [List.set_eq_take_append_cons_drop, if_pos h]
  have hl : (rowKind (us.take k)).length = k * 2 := by rw [rowKind_len, List.length_take]; omega
  have e1 : rowKind us = rowKind (us.take k) ++ (.int .i64 us[k].tag :: .int .i64 us[k].cls :: rowKind (us.drop (k + 1))) := rowKind_at us k h
  rw [e2, e1, List.set_append_right _ _ (by omega), hl, Nat.sub_self, List.set_cons_zero, List.set_append_right _ _ (by omega), hl, show k * 2 + 1 - k * 2 = 1 by omega, List.set_cons_succ, List.set_cons_zero]
  unfold rowKind
  rw [List.flatMap_append, List.flatMap_cons]; rfl
theorem toKind_next {W : World} {B g len k : Nat} {us : List MKind} {t : MKind} (h : W.ownsRow B 144 2 (.slice (some ⟨g, 0, none⟩) len len) len (rowKind us)) (hu : us.length = len) (hk : k < len) :
    ((W.setCell ⟨g, k * 2, none⟩ (.int .i64 t.tag)).setCell ⟨g, k * 2 + 1, none⟩ (.int .i64 t.cls)).ownsRow B 144 2 (.slice (some ⟨g, 0, none⟩) len len) len (rowKind (us.set k t)) := by
  have := ((h.stored (k * 2) (.int .i64 t.tag)).1.stored (k * 2 + 1) (.int .i64 t.cls)).1
  rw [setKind us k t (by omega)] at this
  exact this
theorem toKind_take {us ts : List MKind} {k : Nat} {t : MKind} (h : us.take k = ts.take k) {hk : k < ts.length} (ht : ts[k] = t) (hu : k < us.length) : (us.set k t).take (k + 1) = ts.take (k + 1) := by
  rw [List.take_succ_eq_append_getElem hk, List.take_succ_eq_append_getElem (by simpa using hu), List.getElem_set_self, ht, ← h]
  congr 1
  rw [List.take_set_of_le (Nat.le_refl _)]

theorem toKindS_any (ao : Option Addr) (len cap : Nat) (ts : List MKind) (w : World) (hl : len ≤ 1048576) (hA : ArgKind w ao len ts) :
    Calls Try.prog 122 #[.slice ao len cap] w fun e w' => ∃ v, e = .returned v ∧ w'.ownsRow w.heap.size 144 2 v ts.length (rowKind ts) ∧ Below w.heap.size w w' := by
  obtain ⟨hlen, hcs⟩ := hA
  obtain ⟨i0, hi, hz0, hz1, hz2⟩ := info_parts infoKind
  obtain ⟨M, hM⟩ : ∃ M, M = madeCells (Value.agg #[.int .i64 0, .int .i64 0]).cells (len * 2) := ⟨_, rfl⟩
  have hmk : ∀ W : World, (Instr.makeSlice 121 (.int .i64 (len : Int)) (.int .i64 (len : Int))).run Try.prog W = .ok (.slice (some ⟨W.heap.size, 0, none⟩) len len) (W.alloc (.cells M 144)) := fun W => by
    have h := run_make (P := Try.prog) W 121 144 i0 _ Try.underlying121 hi hz0 .i64 .i64 (len : Int) (len : Int) (by omega) (by omega) (by rw [hz2]; omega) (by omega)
    rw [hz1] at h
    rw [hM]
    simpa using h
  have HO : Hid ((w.alloc (.cells M 144)).ownsRow w.heap.size 144 2 (.slice (some ⟨w.heap.size, 0, none⟩) len len) len (rowKind (zerosKind len))) := by
    have hz := zerosKind_cells len
    rw [← hM] at hz
    have := World.ownsRow_lit (base := w.heap.size) (e := 144) (size := 2) w M len (Nat.le_refl _) (by unfold maxLen; omega) (by rw [← Array.length_toList, hz, rowKind_len]; simp [zerosKind])
    rw [hz] at this
    exact this
  clear hM
  go_enter Try.func122, Try.ntmps122
  go_wp2
  go_loopw [4] (fun i wr => ∃ (k : Nat) (us : List MKind), k ≤ len ∧ i = .int .i64 k ∧ us.length = len ∧ Hid (us.take k = ts.take k) ∧ Hid (wr.ownsRow w.heap.size 144 2 (.slice (some ⟨w.heap.size, 0, none⟩) len len) len (rowKind us)) ∧ Below w.heap.size w wr) (fun i _ => len - (intOf i).toNat)
  case atStart => exact ⟨0, zerosKind len, by omega, rfl, by simp [zerosKind], rfl, HO, (Below.refl _ _).alloc (Nat.le_refl _) _⟩
  case round =>
    obtain ⟨k, us, hk, rfl, hus, HE, HW, hbel⟩ := hrel
    by_cases hlt : k < len
    · rcases hcs with h0 | ⟨b, off, rfl, hbw, hc⟩
      · omega
      · obtain ⟨c0, c1⟩ := hc k (by omega)
        have hne : ¬ b = w.heap.size := by omega
        have d0 := (hbel.cell (p := ⟨b, off + k * 2, none⟩) hbw).trans c0
        have d1 := (hbel.cell (p := ⟨b, off + k * 2 + 1, none⟩) hbw).trans c1
        obtain ⟨t, ht⟩ : ∃ t, ts[k]'(by omega) = t := ⟨_, rfl⟩
        rw [ht] at d0 d1
        have HX : Hid (ts[k]'(by omega) = t) := ht
        clear ht c0 c1 hc
        have hI := fun w => toKind_any t w
        go_wp2_with (go_at_call 126; refine (hI _).mono ?_; rintro e w1 ⟨rfl, hb1⟩; have ho1 := own_below HW.out hb1; have f0 := ho1.frozenAt (k * 2); have f1 := ho1.frozenAt (k * 2 + 1); obtain ⟨p0, q0⟩ := own_has ho1 (k := k * 2) (by omega); obtain ⟨p1, q1⟩ := own_has ho1 (k := k * 2 + 1) (by omega); clear ho1)
        go_roundw
        case rel => exact ⟨k + 1, us.set k t, by omega, by go_num, by simpa using hus, toKind_take HE.out HX.out (by omega), toKind_next (own_below HW.out hb1) hus hlt, (((hbel.trans (hb1.mono hbel.size)).setCell (Nat.le_refl _) _).setCell (Nat.le_refl _) _)⟩
        case measure => simp [intOf]; omega
    · have hk' : k = len := by omega
      subst hk'
      have HF : Hid (wr.ownsRow w.heap.size 144 2 (.slice (some ⟨w.heap.size, 0, none⟩) k k) ts.length (rowKind ts)) := by
        have e : us = ts := by
          have := HE.out
          rwa [List.take_of_length_le (by omega), List.take_of_length_le (by omega)] at this
        have := HW.out
        rw [e] at this
        rw [hlen]; exact this
      clear HE HW
      go_wp2
      go_ret
      exact ⟨_, rfl, HF.out, hbel⟩

theorem szKindS_any (ao : Option Addr) (len cap : Nat) (n : Int) (w : World) (hl : len ≤ 9223372036854775807) (hn : 0 ≤ n) (hn2 : n ≤ 1048576) :
    Calls Try.prog 121 #[.slice ao len cap, .int .i64 n] w fun e w' => e = .returned (.int .i64 (if (len : Int) ≤ n then n - (len : Int) else -1)) ∧ w' = w := by
  by_cases h : (len : Int) ≤ n
  · rw [if_pos h]
    go_enter Try.func121, Try.ntmps121
    go_wp2
    go_ret
    exact ⟨rfl, rfl⟩
  · rw [if_neg h]
    go_enter Try.func121, Try.ntmps121
    go_wp2
    go_ret
    exact ⟨rfl, rfl⟩

theorem eqKind_same (t : MKind) (w : World) :
    Calls Try.prog 125 #[.agg #[.int .i64 t.tag, .int .i64 t.cls], .agg #[.int .i64 t.tag, .int .i64 t.cls]] w fun e w' => e = .returned (.bool true) ∧ Below w.heap.size w w' := by
  go_enter Try.func125, Try.ntmps125
  go_wp2
  go_ret
  exact ⟨rfl, ((Below.refl _ _).alloc (Nat.le_refl _) _).alloc (by simp) _⟩

theorem eqKindS_same (v1 v2 : Value) (ts : List MKind) (B1 B2 : Nat) (w : World) (hl : ts.length ≤ 1048576)
    (h1 : w.ownsRow B1 144 2 v1 ts.length (rowKind ts)) (h2 : w.ownsRow B2 144 2 v2 ts.length (rowKind ts)) :
    Calls Try.prog 120 #[v1, v2] w fun e w' => e = .returned (.bool true) ∧ Below w.heap.size w w' := by
  by_cases hz : ts.length = 0
  · obtain ⟨ao1, c1, rfl⟩ := own_len h1
    obtain ⟨ao2, c2, rfl⟩ := own_len h2
    rw [hz]
    clear h1 h2 hl hz
    go_enter Try.func120, Try.ntmps120
    go_wp2
    refine wp_loop_rounds 1 ?_
    rw [rounds_succ]
    go_wp2
    go_ret
    exact ⟨rfl, Below.refl _ _⟩
  · obtain ⟨g1, c1, rfl⟩ := Joins.ownsRow_form h1 (by omega)
    obtain ⟨g2, c2, rfl⟩ := Joins.ownsRow_form h2 (by omega)
    have H1 : Hid (w.ownsRow B1 144 2 (.slice (some ⟨g1, 0, none⟩) ts.length c1) ts.length (rowKind ts)) := h1
    have H2 : Hid (w.ownsRow B2 144 2 (.slice (some ⟨g2, 0, none⟩) ts.length c2) ts.length (rowKind ts)) := h2
    have hg1 := (h1.lt g1 rfl).2
    have hg2 := (h2.lt g2 rfl).2
    clear h1 h2
    go_enter Try.func120, Try.ntmps120
    go_wp2
    go_loopw [5] (fun i wr => ∃ (k : Nat), k ≤ ts.length ∧ i = .int .i64 k ∧ Below w.heap.size w wr) (fun i _ => ts.length - (intOf i).toNat)
    case atStart => exact ⟨0, by omega, rfl, Below.refl _ _⟩
    case round =>
      obtain ⟨k, hk, rfl, hb⟩ := hrel
      by_cases hlt : k < ts.length
      · obtain ⟨t, x0, x1, y0, y1⟩ : ∃ t : MKind, wr.cell? ⟨g1, k * 2, none⟩ = some (.int .i64 t.tag) ∧ wr.cell? ⟨g1, k * 2 + 1, none⟩ = some (.int .i64 t.cls) ∧ wr.cell? ⟨g2, k * 2, none⟩ = some (.int .i64 t.tag) ∧ wr.cell? ⟨g2, k * 2 + 1, none⟩ = some (.int .i64 t.cls) := by
          obtain ⟨a0, a1⟩ := ownKind_at (own_below H1.out hb) hlt
          obtain ⟨b0, b1⟩ := ownKind_at (own_below H2.out hb) hlt
          exact ⟨_, a0, a1, b0, b1⟩
        have hE := fun w => eqKind_same t w
        go_wp2
        go_region_with (go_at_call 125; refine (hE _).mono ?_; rintro e w1 ⟨rfl, hb1⟩)
        all_goals go_wp2
        all_goals
          have hb2 : Below w.heap.size w w1 := (below_drewN hb 1).trans (hb1.mono (by have := hb.size; simpa using this))
          clear hb1
          go_roundw
          case rel => exact ⟨k + 1, by omega, by go_num, hb2⟩
          case measure => simp [intOf]; omega
      · go_wp2
        go_ret
        exact ⟨rfl, hb⟩

end Go.Proofs.Ytnjfaikhiimdjaa
