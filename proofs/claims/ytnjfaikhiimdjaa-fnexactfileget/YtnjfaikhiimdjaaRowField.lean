/- Contracts of the law's own helpers on rows of Field: toField, toFieldS, szFieldS, eqField, eqFieldS. Printed by tools/flat.py. -/
import Derived.Test.YtnjfaikhiimdjaaBase
import Derived.Laws.MakeOwn
namespace Go.Proofs.Ytnjfaikhiimdjaa
open Go.RowKit
set_option maxHeartbeats 400000
set_option linter.unusedVariables false

structure MField where
  flags : Int
  name : Int
  typ : Int
def cellsField (t : MField) : List Value := [.int .i64 t.flags, .int .i64 t.name, .int .i64 t.typ]
def rowField (ts : List MField) : List Value := ts.flatMap cellsField
theorem rowField_len (ts : List MField) : (rowField ts).length = ts.length * 3 := by
  induction ts with
  | nil => rfl
  | cons t ts ih => simp only [rowField, List.flatMap_cons, List.length_append] at *; simp [cellsField, ih]; omega
theorem rowField_at (ts : List MField) (k : Nat) (hk : k < ts.length) : rowField ts = rowField (ts.take k) ++ (cellsField ts[k] ++ rowField (ts.drop (k + 1))) := by
  have ht : ts = ts.take k ++ ts[k] :: ts.drop (k + 1) := by rw [← List.drop_eq_getElem_cons hk, List.take_append_drop]
  exact (congrArg (List.flatMap cellsField) ht).trans (by rw [List.flatMap_append, List.flatMap_cons]; rfl)
theorem infoField : (Try.prog.info? 78).map (fun i => (i.zero, i.size, i.bytes)) = some (some (.agg #[.int .i64 0, .int .i64 0, .int .i64 0]), 3, 24) := by kernel_rfl
theorem ownField_at {w : World} {B g cap : Nat} {ts : List MField} (h : w.ownsRow B 78 3 (.slice (some ⟨g, 0, none⟩) ts.length cap) ts.length (rowField ts)) {k : Nat} (hk : k < ts.length) :
    w.cell? ⟨g, k * 3, none⟩ = some (.int .i64 ts[k].flags) ∧ w.cell? ⟨g, k * 3 + 1, none⟩ = some (.int .i64 ts[k].name) ∧ w.cell? ⟨g, k * 3 + 2, none⟩ = some (.int .i64 ts[k].typ) := by
  have hx : ∀ j, j < 3 → (rowField ts)[k * 3 + j]? = (cellsField ts[k])[j]? := by
    intro j hj
    rw [rowField_at ts k hk, List.getElem?_append_right (by rw [rowField_len, List.length_take]; omega), rowField_len, List.length_take, show k * 3 + j - min k ts.length * 3 = j by omega, List.getElem?_append_left (by simp [cellsField]; omega)]
  refine ⟨?_, ?_, ?_⟩
  · rw [h.cellAt _ (by omega)]; exact hx 0 (by omega)
  · rw [h.cellAt _ (by omega)]; exact hx 1 (by omega)
  · rw [h.cellAt _ (by omega)]; exact hx 2 (by omega)

theorem toField_any (t : MField) (w : World) :
    Calls Try.prog 63 #[.agg #[.int .i64 t.flags, .int .i64 t.name, .int .i64 t.typ]] w fun e w' => e = .returned (.agg #[.int .i64 t.flags, .int .i64 t.name, .int .i64 t.typ]) ∧ Below w.heap.size w w' := by
  go_enter Try.func63, Try.ntmps63
  go_wp2
  refine bodyPost_ret (v := .agg #[.int .i64 t.flags, .int .i64 t.name, .int .i64 t.typ]) (by simp [results, Try.results63, go_sem]) rfl ⟨rfl, ?_⟩
  go_grown

/-- an argument that reads as these -/
def ArgField (w : World) (ao : Option Addr) (len : Nat) (ts : List MField) : Prop :=
  ts.length = len ∧ (len = 0 ∨ ∃ b off, ao = some ⟨b, off, none⟩ ∧ b < w.heap.size ∧ ∀ k (h : k < ts.length), w.cell? ⟨b, off + k * 3, none⟩ = some (.int .i64 ts[k].flags) ∧ w.cell? ⟨b, off + k * 3 + 1, none⟩ = some (.int .i64 ts[k].name) ∧ w.cell? ⟨b, off + k * 3 + 2, none⟩ = some (.int .i64 ts[k].typ))
theorem ArgField.keep {w w' : World} {ao : Option Addr} {len : Nat} {ts : List MField} (h : ArgField w ao len ts) (hb : Below w.heap.size w w') : ArgField w' ao len ts := by
  obtain ⟨h1, h2⟩ := h
  refine ⟨h1, h2.imp id ?_⟩
  rintro ⟨b, off, rfl, hlt, hc⟩
  refine ⟨b, off, rfl, Nat.lt_of_lt_of_le hlt hb.size, fun k hk => ?_⟩
  obtain ⟨c0, c1, c2⟩ := hc k hk
  exact ⟨(hb.cell (p := ⟨b, off + k * 3, none⟩) hlt).trans c0, (hb.cell (p := ⟨b, off + k * 3 + 1, none⟩) hlt).trans c1, (hb.cell (p := ⟨b, off + k * 3 + 2, none⟩) hlt).trans c2⟩

def zerosField (n : Nat) : List MField := List.replicate n ⟨0, 0, 0⟩
theorem zerosField_cells (n : Nat) : (madeCells (Value.agg #[.int .i64 0, .int .i64 0, .int .i64 0]).cells (n * 3)).toList = rowField (zerosField n) := by
  have hz : (Value.agg #[.int .i64 0, .int .i64 0, .int .i64 0]).cells = #[.int .i64 0, .int .i64 0, .int .i64 0] := rfl
  apply List.ext_getElem
  · simp [madeCells, rowField_len, zerosField]
  · intro i h1 h2
    have hi : i < n * 3 := by simpa [rowField_len, zerosField] using h2
    have hget : (rowField (zerosField n))[i]? = (cellsField ⟨0, 0, 0⟩)[i % 3]? := by
      have hk : i / 3 < (zerosField n).length := by simp [zerosField]; omega
      rw [rowField_at _ (i / 3) hk, List.getElem?_append_right (by rw [rowField_len, List.length_take]; omega), rowField_len, List.length_take, show i - min (i / 3) (zerosField n).length * 3 = i % 3 by omega, List.getElem?_append_left (by simp [cellsField]; omega)]
      simp [zerosField]
    rw [List.getElem?_eq_getElem h2] at hget
    have h3 : i % 3 < 3 := Nat.mod_lt _ (by decide)
    have hl : (madeCells (Value.agg #[.int .i64 0, .int .i64 0, .int .i64 0]).cells (n * 3)).toList[i] = (#[.int .i64 0, .int .i64 0, .int .i64 0] : Array Value)[i % 3]! := by
      simp only [madeCells, hz]
      simp only [Array.toList_map, Array.toList_range, List.getElem_map, List.getElem_range]
      rfl
    rw [hl]
    generalize i % 3 = r at h3 hget
    match r, h3 with
    | 0, _ => exact (Option.some.inj hget).symm
    | 1, _ => exact (Option.some.inj hget).symm
    | 2, _ => exact (Option.some.inj hget).symm

theorem setField (us : List MField) (k : Nat) (t : MField) (h : k < us.length) :
    (((rowField us).set (k * 3) (.int .i64 t.flags)).set (k * 3 + 1) (.int .i64 t.name)).set (k * 3 + 2) (.int .i64 t.typ) = rowField (us.set k t) := by
  have e2 : us.set k t = us.take k ++ t :: us.drop (k + 1) := by rw [List.set_eq_take_append_cons_drop, if_pos h]
  have hl : (rowField (us.take k)).length = k * 3 := by rw [rowField_len, List.length_take]; omega
  have e1 : rowField us = rowField (us.take k) ++ (.int .i64 us[k].flags :: .int .i64 us[k].name :: .int .i64 us[k].typ :: rowField (us.drop (k + 1))) := rowField_at us k h
  rw [e2, e1, List.set_append_right _ _ (by omega), hl, Nat.sub_self, List.set_cons_zero, List.set_append_right _ _ (by omega), hl, show k * 3 + 1 - k * 3 = 1 by omega, List.set_cons_succ, List.set_cons_zero, List.set_append_right _ _ (by omega), hl, show k * 3 + 2 - k * 3 = 2 by omega, List.set_cons_succ, List.set_cons_succ, List.set_cons_zero]
  unfold rowField
  rw [List.flatMap_append, List.flatMap_cons]; rfl
theorem toField_next {W : World} {B g len k : Nat} {us : List MField} {t : MField} (h : W.ownsRow B 78 3 (.slice (some ⟨g, 0, none⟩) len len) len (rowField us)) (hu : us.length = len) (hk : k < len) :
    (((W.setCell ⟨g, k * 3, none⟩ (.int .i64 t.flags)).setCell ⟨g, k * 3 + 1, none⟩ (.int .i64 t.name)).setCell ⟨g, k * 3 + 2, none⟩ (.int .i64 t.typ)).ownsRow B 78 3 (.slice (some ⟨g, 0, none⟩) len len) len (rowField (us.set k t)) := by
  have := (((h.stored (k * 3) (.int .i64 t.flags)).1.stored (k * 3 + 1) (.int .i64 t.name)).1.stored (k * 3 + 2) (.int .i64 t.typ)).1
  rw [setField us k t (by omega)] at this
  exact this
theorem toField_take {us ts : List MField} {k : Nat} {t : MField} (h : us.take k = ts.take k) {hk : k < ts.length} (ht : ts[k] = t) (hu : k < us.length) : (us.set k t).take (k + 1) = ts.take (k + 1) := by
  rw [List.take_succ_eq_append_getElem hk, List.take_succ_eq_append_getElem (by simpa using hu), List.getElem_set_self, ht, ← h]
  congr 1
  rw [List.take_set_of_le (Nat.le_refl _)]

theorem toFieldS_any (ao : Option Addr) (len cap : Nat) (ts : List MField) (w : World) (hl : len ≤ 1048576) (hA : ArgField w ao len ts) :
    Calls Try.prog 37 #[.slice ao len cap] w fun e w' => ∃ v, e = .returned v ∧ w'.ownsRow w.heap.size 78 3 v ts.length (rowField ts) ∧ Below w.heap.size w w' := by
  obtain ⟨hlen, hcs⟩ := hA
  obtain ⟨i0, hi, hz0, hz1, hz2⟩ := info_parts infoField
  obtain ⟨M, hM⟩ : ∃ M, M = madeCells (Value.agg #[.int .i64 0, .int .i64 0, .int .i64 0]).cells (len * 3) := ⟨_, rfl⟩
  have hmk : ∀ W : World, (Instr.makeSlice 24 (.int .i64 (len : Int)) (.int .i64 (len : Int))).run Try.prog W = .ok (.slice (some ⟨W.heap.size, 0, none⟩) len len) (W.alloc (.cells M 78)) := fun W => by
    have h := run_make (P := Try.prog) W 24 78 i0 _ Try.underlying24 hi hz0 .i64 .i64 (len : Int) (len : Int) (by omega) (by omega) (by rw [hz2]; omega) (by omega)
    rw [hz1] at h
    rw [hM]
    simpa using h
  have HO : Hid ((w.alloc (.cells M 78)).ownsRow w.heap.size 78 3 (.slice (some ⟨w.heap.size, 0, none⟩) len len) len (rowField (zerosField len))) := by
    have hz := zerosField_cells len
    rw [← hM] at hz
    have := World.ownsRow_lit (base := w.heap.size) (e := 78) (size := 3) w M len (Nat.le_refl _) (by unfold maxLen; omega) (by rw [← Array.length_toList, hz, rowField_len]; simp [zerosField])
    rw [hz] at this
    exact this
  clear hM
  go_enter Try.func37, Try.ntmps37
  go_wp2
  go_loopw [4] (fun i wr => ∃ (k : Nat) (us : List MField), k ≤ len ∧ i = .int .i64 k ∧ us.length = len ∧ Hid (us.take k = ts.take k) ∧ Hid (wr.ownsRow w.heap.size 78 3 (.slice (some ⟨w.heap.size, 0, none⟩) len len) len (rowField us)) ∧ Below w.heap.size w wr) (fun i _ => len - (intOf i).toNat)
  case atStart => exact ⟨0, zerosField len, by omega, rfl, by simp [zerosField], rfl, HO, (Below.refl _ _).alloc (Nat.le_refl _) _⟩
  case round =>
    obtain ⟨k, us, hk, rfl, hus, HE, HW, hbel⟩ := hrel
    by_cases hlt : k < len
    · rcases hcs with h0 | ⟨b, off, rfl, hbw, hc⟩
      · omega
      · obtain ⟨c0, c1, c2⟩ := hc k (by omega)
        have hne : ¬ b = w.heap.size := by omega
        have d0 := (hbel.cell (p := ⟨b, off + k * 3, none⟩) hbw).trans c0
        have d1 := (hbel.cell (p := ⟨b, off + k * 3 + 1, none⟩) hbw).trans c1
        have d2 := (hbel.cell (p := ⟨b, off + k * 3 + 2, none⟩) hbw).trans c2
        obtain ⟨t, ht⟩ : ∃ t, ts[k]'(by omega) = t := ⟨_, rfl⟩
        rw [ht] at d0 d1 d2
        have HX : Hid (ts[k]'(by omega) = t) := ht
        clear ht c0 c1 c2 hc
        have hI := fun w => toField_any t w
        go_wp2_with (go_at_call 63; refine (hI _).mono ?_; rintro e w1 ⟨rfl, hb1⟩; have ho1 := own_below HW.out hb1; have f0 := ho1.frozenAt (k * 3); have f1 := ho1.frozenAt (k * 3 + 1); have f2 := ho1.frozenAt (k * 3 + 2); obtain ⟨p0, q0⟩ := own_has ho1 (k := k * 3) (by omega); obtain ⟨p1, q1⟩ := own_has ho1 (k := k * 3 + 1) (by omega); obtain ⟨p2, q2⟩ := own_has ho1 (k := k * 3 + 2) (by omega); clear ho1)
        go_roundw
        case rel => exact ⟨k + 1, us.set k t, by omega, by go_num, by simpa using hus, toField_take HE.out HX.out (by omega), toField_next (own_below HW.out hb1) hus hlt, ((((hbel.trans (hb1.mono hbel.size)).setCell (Nat.le_refl _) _).setCell (Nat.le_refl _) _).setCell (Nat.le_refl _) _)⟩
        case measure => simp [intOf]; omega
    · have hk' : k = len := by omega
      subst hk'
      have HF : Hid (wr.ownsRow w.heap.size 78 3 (.slice (some ⟨w.heap.size, 0, none⟩) k k) ts.length (rowField ts)) := by
        have e : us = ts := by
          have := HE.out
          rwa [List.take_of_length_le (by omega), List.take_of_length_le (by omega)] at this
        have := HW.out
        rw [e] at this
        rw [hlen]; exact this
      clear HE HW
      go_wp2
      go_ret
      exact ⟨_, rfl, HF.out, hbel⟩

theorem szFieldS_any (ao : Option Addr) (len cap : Nat) (n : Int) (w : World) (hl : len ≤ 9223372036854775807) (hn : 0 ≤ n) (hn2 : n ≤ 1048576) :
    Calls Try.prog 30 #[.slice ao len cap, .int .i64 n] w fun e w' => e = .returned (.int .i64 (if (len : Int) ≤ n then n - (len : Int) else -1)) ∧ w' = w := by
  by_cases h : (len : Int) ≤ n
  · rw [if_pos h]
    go_enter Try.func30, Try.ntmps30
    go_wp2
    go_ret
    exact ⟨rfl, rfl⟩
  · rw [if_neg h]
    go_enter Try.func30, Try.ntmps30
    go_wp2
    go_ret
    exact ⟨rfl, rfl⟩

theorem eqField_same (t : MField) (w : World) :
    Calls Try.prog 47 #[.agg #[.int .i64 t.flags, .int .i64 t.name, .int .i64 t.typ], .agg #[.int .i64 t.flags, .int .i64 t.name, .int .i64 t.typ]] w fun e w' => e = .returned (.bool true) ∧ Below w.heap.size w w' := by
  go_enter Try.func47, Try.ntmps47
  go_wp2
  go_ret
  exact ⟨rfl, ((Below.refl _ _).alloc (Nat.le_refl _) _).alloc (by simp) _⟩

theorem eqFieldS_same (v1 v2 : Value) (ts : List MField) (B1 B2 : Nat) (w : World) (hl : ts.length ≤ 1048576)
    (h1 : w.ownsRow B1 78 3 v1 ts.length (rowField ts)) (h2 : w.ownsRow B2 78 3 v2 ts.length (rowField ts)) :
    Calls Try.prog 18 #[v1, v2] w fun e w' => e = .returned (.bool true) ∧ Below w.heap.size w w' := by
  by_cases hz : ts.length = 0
  · obtain ⟨ao1, c1, rfl⟩ := own_len h1
    obtain ⟨ao2, c2, rfl⟩ := own_len h2
    rw [hz]
    clear h1 h2 hl hz
    go_enter Try.func18, Try.ntmps18
    go_wp2
    refine wp_loop_rounds 1 ?_
    rw [rounds_succ]
    go_wp2
    go_ret
    exact ⟨rfl, Below.refl _ _⟩
  · obtain ⟨g1, c1, rfl⟩ := Joins.ownsRow_form h1 (by omega)
    obtain ⟨g2, c2, rfl⟩ := Joins.ownsRow_form h2 (by omega)
    have H1 : Hid (w.ownsRow B1 78 3 (.slice (some ⟨g1, 0, none⟩) ts.length c1) ts.length (rowField ts)) := h1
    have H2 : Hid (w.ownsRow B2 78 3 (.slice (some ⟨g2, 0, none⟩) ts.length c2) ts.length (rowField ts)) := h2
    have hg1 := (h1.lt g1 rfl).2
    have hg2 := (h2.lt g2 rfl).2
    clear h1 h2
    go_enter Try.func18, Try.ntmps18
    go_wp2
    go_loopw [5] (fun i wr => ∃ (k : Nat), k ≤ ts.length ∧ i = .int .i64 k ∧ Below w.heap.size w wr) (fun i _ => ts.length - (intOf i).toNat)
    case atStart => exact ⟨0, by omega, rfl, Below.refl _ _⟩
    case round =>
      obtain ⟨k, hk, rfl, hb⟩ := hrel
      by_cases hlt : k < ts.length
      · obtain ⟨t, x0, x1, x2, y0, y1, y2⟩ : ∃ t : MField, wr.cell? ⟨g1, k * 3, none⟩ = some (.int .i64 t.flags) ∧ wr.cell? ⟨g1, k * 3 + 1, none⟩ = some (.int .i64 t.name) ∧ wr.cell? ⟨g1, k * 3 + 2, none⟩ = some (.int .i64 t.typ) ∧ wr.cell? ⟨g2, k * 3, none⟩ = some (.int .i64 t.flags) ∧ wr.cell? ⟨g2, k * 3 + 1, none⟩ = some (.int .i64 t.name) ∧ wr.cell? ⟨g2, k * 3 + 2, none⟩ = some (.int .i64 t.typ) := by
          obtain ⟨a0, a1, a2⟩ := ownField_at (own_below H1.out hb) hlt
          obtain ⟨b0, b1, b2⟩ := ownField_at (own_below H2.out hb) hlt
          exact ⟨_, a0, a1, a2, b0, b1, b2⟩
        have hE := fun w => eqField_same t w
        go_wp2
        go_region_with (go_at_call 47; refine (hE _).mono ?_; rintro e w1 ⟨rfl, hb1⟩)
        all_goals go_wp2
        all_goals
          have hb2 : Below w.heap.size w w1 := (below_drewN hb 1).trans (hb1.mono (by have := hb.size; simpa using this))
          clear hb1
          go_roundw
          case rel => exact ⟨k + 1, by omega, by go_num, hb2⟩
          case measure => simp [intOf]; omega
      · go_wp2
        go_ret
        exact ⟨rfl, hb⟩

end Go.Proofs.Ytnjfaikhiimdjaa
