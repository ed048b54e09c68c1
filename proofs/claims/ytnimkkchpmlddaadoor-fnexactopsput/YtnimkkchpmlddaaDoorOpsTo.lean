/- Contracts of the law's own helpers on the argument: toIns, toInsS, szInsS. -/
import Derived.Test.YtnimkkchpmlddaaDoorOpsEq
import Derived.Laws.MakeOwn
namespace Go.Proofs.YtnimkkchpmlddaaDoor
open Mx Go.RowKit
set_option maxHeartbeats 400000

theorem toIns_any (a b c : Int) (w : World) :
    Calls Tryd.prog 21 #[.agg #[.int .i64 a, .int .i64 b, .int .i64 c]] w fun e w' => e = .returned (.agg #[.int .i64 a, .int .i64 b, .int .i64 c]) ∧ Below w.heap.size w w' := by
  go_enter Tryd.func21, Tryd.ntmps21
  go_wp2
  refine bodyPost_ret (v := .agg #[.int .i64 a, .int .i64 b, .int .i64 c]) (by simp [results, Tryd.results21, go_sem]) rfl ⟨rfl, ?_⟩
  go_grown

/-- an argument that reads as these ops -/
def Arg3 (w : World) (ao : Option Addr) (len : Nat) (ts : List Op3) : Prop :=
  ts.length = len ∧ (len = 0 ∨ ∃ b off, ao = some ⟨b, off, none⟩ ∧ b < w.heap.size ∧ ∀ k (h : k < ts.length), w.cell? ⟨b, off + k * 3, none⟩ = some (.int .i64 ts[k].at_) ∧ w.cell? ⟨b, off + k * 3 + 1, none⟩ = some (.int .i64 ts[k].op) ∧ w.cell? ⟨b, off + k * 3 + 2, none⟩ = some (.int .i64 ts[k].num))
theorem Arg3.keep {w w' : World} {ao : Option Addr} {len : Nat} {ts : List Op3} (h : Arg3 w ao len ts) (hb : Below w.heap.size w w') : Arg3 w' ao len ts := by
  obtain ⟨h1, h2⟩ := h
  refine ⟨h1, h2.imp id ?_⟩
  rintro ⟨b, off, rfl, hlt, hc⟩
  refine ⟨b, off, rfl, Nat.lt_of_lt_of_le hlt hb.size, fun k hk => ?_⟩
  obtain ⟨c1, c2, c3⟩ := hc k hk
  exact ⟨(hb.cell (p := ⟨b, off + k * 3, none⟩) hlt).trans c1, (hb.cell (p := ⟨b, off + k * 3 + 1, none⟩) hlt).trans c2, (hb.cell (p := ⟨b, off + k * 3 + 2, none⟩) hlt).trans c3⟩

def zeros (n : Nat) : List Op3 := List.replicate n ⟨0, 0, 0⟩
theorem zeros_cells (n : Nat) : (madeCells (Value.agg #[.int .i64 0, .int .i64 0, .int .i64 0]).cells (n * 3)).toList = cellsL (zeros n) := by
  have hall : ∀ m, (cellsL (zeros m)) = List.replicate (m * 3) (Value.int .i64 0) := by
    intro m
    induction m with
    | zero => rfl
    | succ m ih =>
      have e : cellsL (zeros (m + 1)) = cells3 ⟨0, 0, 0⟩ ++ cellsL (zeros m) := by simp [zeros, cellsL, List.replicate_succ]
      rw [e, ih, show (m + 1) * 3 = m * 3 + 1 + 1 + 1 by omega, List.replicate_succ, List.replicate_succ, List.replicate_succ]; rfl
  rw [hall]
  apply List.ext_getElem
  · simp [madeCells]
  · intro i h1 h2
    have hz : (Value.agg #[.int .i64 0, .int .i64 0, .int .i64 0]).cells = #[.int .i64 0, .int .i64 0, .int .i64 0] := rfl
    simp only [madeCells, hz, List.getElem_replicate]
    simp only [Array.toList_map, Array.toList_range, List.getElem_map, List.getElem_range]
    have h3 : i % (#[Value.int IntKind.i64 0, Value.int IntKind.i64 0, Value.int IntKind.i64 0] : Array Value).size < 3 := Nat.mod_lt _ (by decide)
    generalize i % (#[Value.int IntKind.i64 0, Value.int IntKind.i64 0, Value.int IntKind.i64 0] : Array Value).size = r at h3
    match r, h3 with
    | 0, _ => rfl
    | 1, _ => rfl
    | 2, _ => rfl

theorem set3 (us : List Op3) (k : Nat) (t : Op3) (h : k < us.length) :
    (((cellsL us).set (k * 3) (.int .i64 t.at_)).set (k * 3 + 1) (.int .i64 t.op)).set (k * 3 + 2) (.int .i64 t.num) = cellsL (us.set k t) := by
  have ht : us = us.take k ++ us[k] :: us.drop (k + 1) := by rw [← List.drop_eq_getElem_cons h, List.take_append_drop]
  have e1 : cellsL us = cellsL (us.take k) ++ (.int .i64 us[k].at_ :: .int .i64 us[k].op :: .int .i64 us[k].num :: cellsL (us.drop (k + 1))) :=
    (congrArg cellsL ht).trans (by unfold cellsL; rw [List.flatMap_append, List.flatMap_cons]; rfl)
  have e2 : us.set k t = us.take k ++ t :: us.drop (k + 1) := by rw [List.set_eq_take_append_cons_drop, if_pos h]
  have hl : (cellsL (us.take k)).length = k * 3 := by rw [cellsL_len, List.length_take]; omega
  rw [e2, e1, List.set_append_right _ _ (by omega), hl, Nat.sub_self, List.set_cons_zero, List.set_append_right _ _ (by omega), hl, show k * 3 + 1 - k * 3 = 1 by omega, List.set_cons_succ, List.set_cons_zero,
    List.set_append_right _ _ (by omega), hl, show k * 3 + 2 - k * 3 = 2 by omega, List.set_cons_succ, List.set_cons_succ, List.set_cons_zero]
  unfold cellsL
  rw [List.flatMap_append, List.flatMap_cons]; rfl
theorem to_next {W : World} {B g len k : Nat} {us : List Op3} {x y z : Int} (h : W.ownsRow B 37 3 (.slice (some ⟨g, 0, none⟩) len len) len (cellsL us)) (hu : us.length = len) (hk : k < len) :
    (((W.setCell ⟨g, k * 3, none⟩ (.int .i64 x)).setCell ⟨g, k * 3 + 1, none⟩ (.int .i64 y)).setCell ⟨g, k * 3 + 2, none⟩ (.int .i64 z)).ownsRow B 37 3 (.slice (some ⟨g, 0, none⟩) len len) len (cellsL (us.set k ⟨x, y, z⟩)) := by
  have := ((((h.stored (k * 3) (.int .i64 x)).1.stored (k * 3 + 1) (.int .i64 y)).1).stored (k * 3 + 2) (.int .i64 z)).1
  rw [set3 us k ⟨x, y, z⟩ (by omega)] at this
  exact this
theorem to_take {us ts : List Op3} {k : Nat} {t : Op3} (h : us.take k = ts.take k) {hk : k < ts.length} (ht : ts[k] = t) (hu : k < us.length) : (us.set k t).take (k + 1) = ts.take (k + 1) := by
  rw [List.take_succ_eq_append_getElem hk, List.take_succ_eq_append_getElem (by simpa using hu), List.getElem_set_self, ht, ← h]
  congr 1
  rw [List.take_set_of_le (Nat.le_refl _)]

theorem toInsS_any (ao : Option Addr) (len cap : Nat) (ts : List Op3) (w : World) (hl : len ≤ 1048576) (hA : Arg3 w ao len ts) :
    Calls Tryd.prog 12 #[.slice ao len cap] w fun e w' => ∃ v, e = .returned v ∧ w'.ownsRow w.heap.size 37 3 v ts.length (cellsL ts) ∧ Below w.heap.size w w' := by
  obtain ⟨hlen, hcs⟩ := hA
  obtain ⟨i0, hi, hz0, hz1, hz2⟩ := info_parts infoIns
  obtain ⟨M, hM⟩ : ∃ M, M = madeCells (Value.agg #[.int .i64 0, .int .i64 0, .int .i64 0]).cells (len * 3) := ⟨_, rfl⟩
  have hmk : ∀ W : World, (Instr.makeSlice 22 (.int .i64 (len : Int)) (.int .i64 (len : Int))).run Tryd.prog W = .ok (.slice (some ⟨W.heap.size, 0, none⟩) len len) (W.alloc (.cells M 37)) := fun W => by
    have h := run_make (P := Tryd.prog) W 22 37 i0 _ Tryd.underlying22 hi hz0 .i64 .i64 (len : Int) (len : Int) (by omega) (by omega) (by rw [hz2]; omega) (by omega)
    rw [hz1] at h
    rw [hM]
    simpa using h
  have HO : Hid ((w.alloc (.cells M 37)).ownsRow w.heap.size 37 3 (.slice (some ⟨w.heap.size, 0, none⟩) len len) len (cellsL (zeros len))) := by
    have hz := zeros_cells len
    rw [← hM] at hz
    have := World.ownsRow_lit (base := w.heap.size) (e := 37) (size := 3) w M len (Nat.le_refl _) (by unfold maxLen; omega) (by rw [← Array.length_toList, hz, cellsL_len]; simp [zeros])
    rw [hz] at this
    exact this
  clear hM
  go_enter Tryd.func12, Tryd.ntmps12
  go_wp2
  go_loopw [4] (fun i wr => ∃ (k : Nat) (us : List Op3), k ≤ len ∧ i = .int .i64 k ∧ us.length = len ∧ Hid (us.take k = ts.take k) ∧ Hid (wr.ownsRow w.heap.size 37 3 (.slice (some ⟨w.heap.size, 0, none⟩) len len) len (cellsL us)) ∧ Below w.heap.size w wr) (fun i _ => len - (intOf i).toNat)
  case atStart => exact ⟨0, zeros len, by omega, rfl, by simp [zeros], rfl, HO, (Below.refl _ _).alloc (Nat.le_refl _) _⟩
  case round =>
    obtain ⟨k, us, hk, rfl, hus, HE, HW, hbel⟩ := hrel
    by_cases hlt : k < len
    · rcases hcs with h0 | ⟨b, off, rfl, hbw, hc⟩
      · omega
      · obtain ⟨c1, c2, c3⟩ := hc k (by omega)
        have hne : ¬ b = w.heap.size := by omega
        have d1 := (hbel.cell (p := ⟨b, off + k * 3, none⟩) hbw).trans c1
        have d2 := (hbel.cell (p := ⟨b, off + k * 3 + 1, none⟩) hbw).trans c2
        have d3 := (hbel.cell (p := ⟨b, off + k * 3 + 2, none⟩) hbw).trans c3
        obtain ⟨x, y, z, hxyz⟩ : ∃ x y z, ts[k]'(by omega) = ⟨x, y, z⟩ := ⟨_, _, _, rfl⟩
        rw [hxyz] at d1 d2 d3
        simp only at d1 d2 d3
        have HX : Hid (ts[k]'(by omega) = ⟨x, y, z⟩) := hxyz
        clear hxyz c1 c2 c3 hc
        have hI := fun w => toIns_any x y z w
        go_wp2_with (go_at_call 21; refine (hI _).mono ?_; rintro e w1 ⟨rfl, hb1⟩; have ho1 := own_below HW.out hb1; have f1 := ho1.frozenAt (k * 3); have f2 := ho1.frozenAt (k * 3 + 1); have f3 := ho1.frozenAt (k * 3 + 2); obtain ⟨p1, q1⟩ := own_has ho1 (k := k * 3) (by omega); obtain ⟨p2, q2⟩ := own_has ho1 (k := k * 3 + 1) (by omega); obtain ⟨p3, q3⟩ := own_has ho1 (k := k * 3 + 2) (by omega); clear ho1)
        go_roundw
        case rel => exact ⟨k + 1, us.set k ⟨x, y, z⟩, by omega, by go_num, by simpa using hus, to_take HE.out HX.out (by omega), to_next (own_below HW.out hb1) hus hlt, (((hbel.trans (hb1.mono hbel.size)).setCell (Nat.le_refl _) _).setCell (Nat.le_refl _) _).setCell (Nat.le_refl _) _⟩
        case measure => simp [intOf]; omega
    · have hk' : k = len := by omega
      subst hk'
      have HF : Hid (wr.ownsRow w.heap.size 37 3 (.slice (some ⟨w.heap.size, 0, none⟩) k k) ts.length (cellsL ts)) := by
        have e : us = ts := by
          have := HE.out
          rwa [List.take_of_length_le (by omega), List.take_of_length_le (by omega)] at this
        have := HW.out
        rw [e] at this
        rw [hlen]; exact this
      clear HE HW
      go_wp2
      go_ret
      exact ⟨_, rfl, HF.out, hbel⟩

theorem szInsS_any (ao : Option Addr) (len cap : Nat) (w : World) (hl : len ≤ 9223372036854775807) :
    Calls Tryd.prog 10 #[.slice ao len cap, .int .i64 1048576] w fun e w' => e = .returned (.int .i64 (if len ≤ 1048576 then 1048576 - (len : Int) else -1)) ∧ w' = w := by
  by_cases h : len ≤ 1048576
  · rw [if_pos h]
    go_enter Tryd.func10, Tryd.ntmps10
    go_wp2
    go_ret
    exact ⟨rfl, rfl⟩
  · rw [if_neg h]
    go_enter Tryd.func10, Tryd.ntmps10
    go_wp2
    go_ret
    exact ⟨rfl, rfl⟩

end Go.Proofs.YtnimkkchpmlddaaDoor
