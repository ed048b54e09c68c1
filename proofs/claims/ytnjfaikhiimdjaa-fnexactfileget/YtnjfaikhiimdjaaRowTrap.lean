/- Contracts of the law's own helpers on rows of Trap: toTrap, toTrapS, szTrapS, eqTrap, eqTrapS. Printed by tools/flat.py. -/
import Derived.Test.YtnjfaikhiimdjaaBase
import Derived.Laws.MakeOwn
namespace Go.Proofs.Ytnjfaikhiimdjaa
open Go.RowKit
set_option maxHeartbeats 400000
set_option linter.unusedVariables false

structure MTrap where
  from_ : Int
  to_ : Int
  at_ : Int
  cls : Int
def cellsTrap (t : MTrap) : List Value := [.int .i64 t.from_, .int .i64 t.to_, .int .i64 t.at_, .int .i64 t.cls]
def rowTrap (ts : List MTrap) : List Value := ts.flatMap cellsTrap
theorem rowTrap_len (ts : List MTrap) : (rowTrap ts).length = ts.length * 4 := by
  induction ts with
  | nil => rfl
  | cons t ts ih => simp only [rowTrap, List.flatMap_cons, List.length_append] at *; simp [cellsTrap, ih]; omega
theorem rowTrap_at (ts : List MTrap) (k : Nat) (hk : k < ts.length) : rowTrap ts = rowTrap (ts.take k) ++ (cellsTrap ts[k] ++ rowTrap (ts.drop (k + 1))) := by
  have ht : ts = ts.take k ++ ts[k] :: ts.drop (k + 1) := by rw [← List.drop_eq_getElem_cons hk, List.take_append_drop]
  exact (congrArg (List.flatMap cellsTrap) ht).trans (by rw [List.flatMap_append, List.flatMap_cons]; rfl)
theorem infoTrap : (Try.prog.info? 120).map (fun i => (i.zero, i.size, i.bytes)) = some (some (.agg #[.int .i64 0, .int .i64 0, .int .i64 0, .int .i64 0]), 4, 32) := by kernel_rfl
theorem ownTrap_at {w : World} {B g cap : Nat} {ts : List MTrap} (h : w.ownsRow B 120 4 (.slice (some ⟨g, 0, none⟩) ts.length cap) ts.length (rowTrap ts)) {k : Nat} (hk : k < ts.length) :
    w.cell? ⟨g, k * 4, none⟩ = some (.int .i64 ts[k].from_) ∧ w.cell? ⟨g, k * 4 + 1, none⟩ = some (.int .i64 ts[k].to_) ∧ w.cell? ⟨g, k * 4 + 2, none⟩ = some (.int .i64 ts[k].at_) ∧ w.cell? ⟨g, k * 4 + 3, none⟩ = some (.int .i64 ts[k].cls) := by
  have hx : ∀ j, j < 4 → (rowTrap ts)[k * 4 + j]? = (cellsTrap ts[k])[j]? := by
    intro j hj
    rw [rowTrap_at ts k hk, List.getElem?_append_right (by rw [rowTrap_len, List.length_take]; omega), rowTrap_len, List.length_take, show k * 4 + j - min k ts.length * 4 = j by omega, List.getElem?_append_left (by simp [cellsTrap]; omega)]
  refine ⟨?_, ?_, ?_, ?_⟩
  · rw [h.cellAt _ (by omega)]; exact hx 0 (by omega)
  · rw [h.cellAt _ (by omega)]; exact hx 1 (by omega)
  · rw [h.cellAt _ (by omega)]; exact hx 2 (by omega)
  · rw [h.cellAt _ (by omega)]; exact hx 3 (by omega)

theorem toTrap_any (t : MTrap) (w : World) :
    Calls Try.prog 109 #[.agg #[.int .i64 t.from_, .int .i64 t.to_, .int .i64 t.at_, .int .i64 t.cls]] w fun e w' => e = .returned (.agg #[.int .i64 t.from_, .int .i64 t.to_, .int .i64 t.at_, .int .i64 t.cls]) ∧ Below w.heap.size w w' := by
  go_enter Try.func109, Try.ntmps109
  go_wp2
  refine bodyPost_ret (v := .agg #[.int .i64 t.from_, .int .i64 t.to_, .int .i64 t.at_, .int .i64 t.cls]) (by simp [results, Try.results109, go_sem]) rfl ⟨rfl, ?_⟩
  go_grown

/-- an argument that reads as these -/
def ArgTrap (w : World) (ao : Option Addr) (len : Nat) (ts : List MTrap) : Prop :=
  ts.length = len ∧ (len = 0 ∨ ∃ b off, ao = some ⟨b, off, none⟩ ∧ b < w.heap.size ∧ ∀ k (h : k < ts.length), w.cell? ⟨b, off + k * 4, none⟩ = some (.int .i64 ts[k].from_) ∧ w.cell? ⟨b, off + k * 4 + 1, none⟩ = some (.int .i64 ts[k].to_) ∧ w.cell? ⟨b, off + k * 4 + 2, none⟩ = some (.int .i64 ts[k].at_) ∧ w.cell? ⟨b, off + k * 4 + 3, none⟩ = some (.int .i64 ts[k].cls))
theorem ArgTrap.keep {w w' : World} {ao : Option Addr} {len : Nat} {ts : List MTrap} (h : ArgTrap w ao len ts) (hb : Below w.heap.size w w') : ArgTrap w' ao len ts := by
  obtain ⟨h1, h2⟩ := h
  refine ⟨h1, h2.imp id ?_⟩
  rintro ⟨b, off, rfl, hlt, hc⟩
  refine ⟨b, off, rfl, Nat.lt_of_lt_of_le hlt hb.size, fun k hk => ?_⟩
  obtain ⟨c0, c1, c2, c3⟩ := hc k hk
  exact ⟨(hb.cell (p := ⟨b, off + k * 4, none⟩) hlt).trans c0, (hb.cell (p := ⟨b, off + k * 4 + 1, none⟩) hlt).trans c1, (hb.cell (p := ⟨b, off + k * 4 + 2, none⟩) hlt).trans c2, (hb.cell (p := ⟨b, off + k * 4 + 3, none⟩) hlt).trans c3⟩

def zerosTrap (n : Nat) : List MTrap := List.replicate n ⟨0, 0, 0, 0⟩
theorem zerosTrap_cells (n : Nat) : (madeCells (Value.agg #[.int .i64 0, .int .i64 0, .int .i64 0, .int .i64 0]).cells (n * 4)).toList = rowTrap (zerosTrap n) := by
  have hz : (Value.agg #[.int .i64 0, .int .i64 0, .int .i64 0, .int .i64 0]).cells = #[.int .i64 0, .int .i64 0, .int .i64 0, .int .i64 0] := rfl
  apply List.ext_getElem
  · simp [madeCells, rowTrap_len, zerosTrap]
  · intro i h1 h2
    have hi : i < n * 4 := by simpa [rowTrap_len, zerosTrap] using h2
    have hget : (rowTrap (zerosTrap n))[i]? = (cellsTrap ⟨0, 0, 0, 0⟩)[i % 4]? := by
      have hk : i / 4 < (zerosTrap n).length := by simp [zerosTrap]; omega
      rw [rowTrap_at _ (i / 4) hk, List.getElem?_append_right (by rw [rowTrap_len, List.length_take]; omega), rowTrap_len, List.length_take, show i - min (i / 4) (zerosTrap n).length * 4 = i % 4 by omega, List.getElem?_append_left (by simp [cellsTrap]; omega)]
      simp [zerosTrap]
    rw [List.getElem?_eq_getElem h2] at hget
    have h3 : i % 4 < 4 := Nat.mod_lt _ (by decide)
    have hl : (madeCells (Value.agg #[.int .i64 0, .int .i64 0, .int .i64 0, .int .i64 0]).cells (n * 4)).toList[i] = (#[.int .i64 0, .int .i64 0, .int .i64 0, .int .i64 0] : Array Value)[i % 4]! := by
      simp only [madeCells, hz]
      simp only [Array.toList_map, Array.toList_range, List.getElem_map, List.getElem_range]
      rfl
    rw [hl]
    generalize i % 4 = r at h3 hget
    match r, h3 with
    | 0, _ => exact (Option.some.inj hget).symm
    | 1, _ => exact (Option.some.inj hget).symm
    | 2, _ => exact (Option.some.inj hget).symm
    | 3, _ => exact (Option.some.inj hget).symm

theorem setTrap (us : List MTrap) (k : Nat) (t : MTrap) (h : k < us.length) :
    ((((rowTrap us).set (k * 4) (.int .i64 t.from_)).set (k * 4 + 1) (.int .i64 t.to_)).set (k * 4 + 2) (.int .i64 t.at_)).set (k * 4 + 3) (.int .i64 t.cls) = rowTrap (us.set k t) := by
  have e2 : us.set k t = us.take k ++ t :: us.drop (k + 1) := by rw [List.set_eq_take_append_cons_drop, if_pos h]
  have hl : (rowTrap (us.take k)).length = k * 4 := by rw [rowTrap_len, List.length_take]; omega
  have e1 : rowTrap us = rowTrap (us.take k) ++ (.int .i64 us[k].from_ :: .int .i64 us[k].to_ :: .int .i64 us[k].at_ :: .int .i64 us[k].cls :: rowTrap (us.drop (k + 1))) := rowTrap_at us k h
  rw [e2, e1, List.set_append_right _ _ (by omega), hl, Nat.sub_self, List.set_cons_zero, List.set_append_right _ _ (by omega), hl, show k * 4 + 1 - k * 4 = 1 by omega, List.set_cons_succ, List.set_cons_zero, List.set_append_right _ _ (by omega), hl, show k * 4 + 2 - k * 4 = 2 by omega, List.set_cons_succ, List.set_cons_succ, List.set_cons_zero, List.set_append_right _ _ (by omega), hl, show k * 4 + 3 - k * 4 = 3 by omega, List.set_cons_succ, List.set_cons_succ, List.set_cons_succ, List.set_cons_zero]
  unfold rowTrap
  rw [List.flatMap_append, List.flatMap_cons]; rfl
theorem toTrap_next {W : World} {B g len k : Nat} {us : List MTrap} {t : MTrap} (h : W.ownsRow B 120 4 (.slice (some ⟨g, 0, none⟩) len len) len (rowTrap us)) (hu : us.length = len) (hk : k < len) :
    ((((W.setCell ⟨g, k * 4, none⟩ (.int .i64 t.from_)).setCell ⟨g, k * 4 + 1, none⟩ (.int .i64 t.to_)).setCell ⟨g, k * 4 + 2, none⟩ (.int .i64 t.at_)).setCell ⟨g, k * 4 + 3, none⟩ (.int .i64 t.cls)).ownsRow B 120 4 (.slice (some ⟨g, 0, none⟩) len len) len (rowTrap (us.set k t)) := by
  have := ((((h.stored (k * 4) (.int .i64 t.from_)).1.stored (k * 4 + 1) (.int .i64 t.to_)).1.stored (k * 4 + 2) (.int .i64 t.at_)).1.stored (k * 4 + 3) (.int .i64 t.cls)).1
  rw [setTrap us k t (by omega)] at this
  exact this
theorem toTrap_take {us ts : List MTrap} {k : Nat} {t : MTrap} (h : us.take k = ts.take k) {hk : k < ts.length} (ht : ts[k] = t) (hu : k < us.length) : (us.set k t).take (k + 1) = ts.take (k + 1) := by
  rw [List.take_succ_eq_append_getElem hk, List.take_succ_eq_append_getElem (by simpa using hu), List.getElem_set_self, ht, ← h]
  congr 1
  rw [List.take_set_of_le (Nat.le_refl _)]

theorem toTrapS_any (ao : Option Addr) (len cap : Nat) (ts : List MTrap) (w : World) (hl : len ≤ 1048576) (hA : ArgTrap w ao len ts) :
    Calls Try.prog 93 #[.slice ao len cap] w fun e w' => ∃ v, e = .returned v ∧ w'.ownsRow w.heap.size 120 4 v ts.length (rowTrap ts) ∧ Below w.heap.size w w' := by
  obtain ⟨hlen, hcs⟩ := hA
  obtain ⟨i0, hi, hz0, hz1, hz2⟩ := info_parts infoTrap
  obtain ⟨M, hM⟩ : ∃ M, M = madeCells (Value.agg #[.int .i64 0, .int .i64 0, .int .i64 0, .int .i64 0]).cells (len * 4) := ⟨_, rfl⟩
  have hmk : ∀ W : World, (Instr.makeSlice 80 (.int .i64 (len : Int)) (.int .i64 (len : Int))).run Try.prog W = .ok (.slice (some ⟨W.heap.size, 0, none⟩) len len) (W.alloc (.cells M 120)) := fun W => by
    have h := run_make (P := Try.prog) W 80 120 i0 _ Try.underlying80 hi hz0 .i64 .i64 (len : Int) (len : Int) (by omega) (by omega) (by rw [hz2]; omega) (by omega)
    rw [hz1] at h
    rw [hM]
    simpa using h
  have HO : Hid ((w.alloc (.cells M 120)).ownsRow w.heap.size 120 4 (.slice (some ⟨w.heap.size, 0, none⟩) len len) len (rowTrap (zerosTrap len))) := by
    have hz := zerosTrap_cells len
    rw [← hM] at hz
    have := World.ownsRow_lit (base := w.heap.size) (e := 120) (size := 4) w M len (Nat.le_refl _) (by unfold maxLen; omega) (by rw [← Array.length_toList, hz, rowTrap_len]; simp [zerosTrap])
    rw [hz] at this
    exact this
  clear hM
  go_enter Try.func93, Try.ntmps93
  go_wp2
  go_loopw [4] (fun i wr => ∃ (k : Nat) (us : List MTrap), k ≤ len ∧ i = .int .i64 k ∧ us.length = len ∧ Hid (us.take k = ts.take k) ∧ Hid (wr.ownsRow w.heap.size 120 4 (.slice (some ⟨w.heap.size, 0, none⟩) len len) len (rowTrap us)) ∧ Below w.heap.size w wr) (fun i _ => len - (intOf i).toNat)
  case atStart => exact ⟨0, zerosTrap len, by omega, rfl, by simp [zerosTrap], rfl, HO, (Below.refl _ _).alloc (Nat.le_refl _) _⟩
  case round =>
    obtain ⟨k, us, hk, rfl, hus, HE, HW, hbel⟩ := hrel
    by_cases hlt : k < len
    · rcases hcs with h0 | ⟨b, off, rfl, hbw, hc⟩
      · omega
      · obtain ⟨c0, c1, c2, c3⟩ := hc k (by omega)
        have hne : ¬ b = w.heap.size := by omega
        have d0 := (hbel.cell (p := ⟨b, off + k * 4, none⟩) hbw).trans c0
        have d1 := (hbel.cell (p := ⟨b, off + k * 4 + 1, none⟩) hbw).trans c1
        have d2 := (hbel.cell (p := ⟨b, off + k * 4 + 2, none⟩) hbw).trans c2
        have d3 := (hbel.cell (p := ⟨b, off + k * 4 + 3, none⟩) hbw).trans c3
        obtain ⟨t, ht⟩ : ∃ t, ts[k]'(by omega) = t := ⟨_, rfl⟩
        rw [ht] at d0 d1 d2 d3
        have HX : Hid (ts[k]'(by omega) = t) := ht
        clear ht c0 c1 c2 c3 hc
        have hI := fun w => toTrap_any t w
        go_wp2_with (go_at_call 109; refine (hI _).mono ?_; rintro e w1 ⟨rfl, hb1⟩; have ho1 := own_below HW.out hb1; have f0 := ho1.frozenAt (k * 4); have f1 := ho1.frozenAt (k * 4 + 1); have f2 := ho1.frozenAt (k * 4 + 2); have f3 := ho1.frozenAt (k * 4 + 3); obtain ⟨p0, q0⟩ := own_has ho1 (k := k * 4) (by omega); obtain ⟨p1, q1⟩ := own_has ho1 (k := k * 4 + 1) (by omega); obtain ⟨p2, q2⟩ := own_has ho1 (k := k * 4 + 2) (by omega); obtain ⟨p3, q3⟩ := own_has ho1 (k := k * 4 + 3) (by omega); clear ho1)
        go_roundw
        case rel => exact ⟨k + 1, us.set k t, by omega, by go_num, by simpa using hus, toTrap_take HE.out HX.out (by omega), toTrap_next (own_below HW.out hb1) hus hlt, (((((hbel.trans (hb1.mono hbel.size)).setCell (Nat.le_refl _) _).setCell (Nat.le_refl _) _).setCell (Nat.le_refl _) _).setCell (Nat.le_refl _) _)⟩
        case measure => simp [intOf]; omega
    · have hk' : k = len := by omega
      subst hk'
      have HF : Hid (wr.ownsRow w.heap.size 120 4 (.slice (some ⟨w.heap.size, 0, none⟩) k k) ts.length (rowTrap ts)) := by
        have e : us = ts := by
          have := HE.out
          rwa [List.take_of_length_le (by omega), List.take_of_length_le (by omega)] at this
        have := HW.out
        rw [e] at this
        rw [hlen]; exact this
      clear HE HW
      go_wp2
      go_ret
      exact ⟨_, rfl, HF.out, hbel⟩

theorem szTrapS_any (ao : Option Addr) (len cap : Nat) (n : Int) (w : World) (hl : len ≤ 9223372036854775807) (hn : 0 ≤ n) (hn2 : n ≤ 1048576) :
    Calls Try.prog 89 #[.slice ao len cap, .int .i64 n] w fun e w' => e = .returned (.int .i64 (if (len : Int) ≤ n then n - (len : Int) else -1)) ∧ w' = w := by
  by_cases h : (len : Int) ≤ n
  · rw [if_pos h]
    go_enter Try.func89, Try.ntmps89
    go_wp2
    go_ret
    exact ⟨rfl, rfl⟩
  · rw [if_neg h]
    go_enter Try.func89, Try.ntmps89
    go_wp2
    go_ret
    exact ⟨rfl, rfl⟩

theorem eqTrap_same (t : MTrap) (w : World) :
    Calls Try.prog 105 #[.agg #[.int .i64 t.from_, .int .i64 t.to_, .int .i64 t.at_, .int .i64 t.cls], .agg #[.int .i64 t.from_, .int .i64 t.to_, .int .i64 t.at_, .int .i64 t.cls]] w fun e w' => e = .returned (.bool true) ∧ Below w.heap.size w w' := by
  go_enter Try.func105, Try.ntmps105
  go_wp2
  go_ret
  exact ⟨rfl, ((Below.refl _ _).alloc (Nat.le_refl _) _).alloc (by simp) _⟩

theorem eqTrapS_same (v1 v2 : Value) (ts : List MTrap) (B1 B2 : Nat) (w : World) (hl : ts.length ≤ 1048576)
    (h1 : w.ownsRow B1 120 4 v1 ts.length (rowTrap ts)) (h2 : w.ownsRow B2 120 4 v2 ts.length (rowTrap ts)) :
    Calls Try.prog 85 #[v1, v2] w fun e w' => e = .returned (.bool true) ∧ Below w.heap.size w w' := by
  by_cases hz : ts.length = 0
  · obtain ⟨ao1, c1, rfl⟩ := own_len h1
    obtain ⟨ao2, c2, rfl⟩ := own_len h2
    rw [hz]
    clear h1 h2 hl hz
    go_enter Try.func85, Try.ntmps85
    go_wp2
    refine wp_loop_rounds 1 ?_
    rw [rounds_succ]
    go_wp2
    go_ret
    exact ⟨rfl, Below.refl _ _⟩
  · obtain ⟨g1, c1, rfl⟩ := Joins.ownsRow_form h1 (by omega)
    obtain ⟨g2, c2, rfl⟩ := Joins.ownsRow_form h2 (by omega)
    have H1 : Hid (w.ownsRow B1 120 4 (.slice (some ⟨g1, 0, none⟩) ts.length c1) ts.length (rowTrap ts)) := h1
    have H2 : Hid (w.ownsRow B2 120 4 (.slice (some ⟨g2, 0, none⟩) ts.length c2) ts.length (rowTrap ts)) := h2
    have hg1 := (h1.lt g1 rfl).2
    have hg2 := (h2.lt g2 rfl).2
    clear h1 h2
    go_enter Try.func85, Try.ntmps85
    go_wp2
    go_loopw [5] (fun i wr => ∃ (k : Nat), k ≤ ts.length ∧ i = .int .i64 k ∧ Below w.heap.size w wr) (fun i _ => ts.length - (intOf i).toNat)
    case atStart => exact ⟨0, by omega, rfl, Below.refl _ _⟩
    case round =>
      obtain ⟨k, hk, rfl, hb⟩ := hrel
      by_cases hlt : k < ts.length
      · obtain ⟨t, x0, x1, x2, x3, y0, y1, y2, y3⟩ : ∃ t : MTrap, wr.cell? ⟨g1, k * 4, none⟩ = some (.int .i64 t.from_) ∧ wr.cell? ⟨g1, k * 4 + 1, none⟩ = some (.int .i64 t.to_) ∧ wr.cell? ⟨g1, k * 4 + 2, none⟩ = some (.int .i64 t.at_) ∧ wr.cell? ⟨g1, k * 4 + 3, none⟩ = some (.int .i64 t.cls) ∧ wr.cell? ⟨g2, k * 4, none⟩ = some (.int .i64 t.from_) ∧ wr.cell? ⟨g2, k * 4 + 1, none⟩ = some (.int .i64 t.to_) ∧ wr.cell? ⟨g2, k * 4 + 2, none⟩ = some (.int .i64 t.at_) ∧ wr.cell? ⟨g2, k * 4 + 3, none⟩ = some (.int .i64 t.cls) := by
          obtain ⟨a0, a1, a2, a3⟩ := ownTrap_at (own_below H1.out hb) hlt
          obtain ⟨b0, b1, b2, b3⟩ := ownTrap_at (own_below H2.out hb) hlt
          exact ⟨_, a0, a1, a2, a3, b0, b1, b2, b3⟩
        have hE := fun w => eqTrap_same t w
        go_wp2
        go_region_with (go_at_call 105; refine (hE _).mono ?_; rintro e w1 ⟨rfl, hb1⟩)
        all_goals go_wp2
        all_goals
          have hb2 : Below w.heap.size w w1 := (below_drewN hb 1).trans (hb1.mono (by have := hb.size; simpa using this))
          clear hb1
          go_roundw
          case rel => exact ⟨k + 1, by omega, by go_num, hb2⟩
          case measure => simp [intOf]; omega
      · go_wp2
        go_ret
        exact ⟨rfl, hb⟩

end Go.Proofs.Ytnjfaikhiimdjaa
