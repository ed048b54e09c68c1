/- Rows of SMethod, cell by cell. Printed by tools/shallow.py. -/
import Derived.Test.YtnjfaikhiimdjaaBase
import Derived.Laws.MakeOwn
namespace Go.Proofs.Ytnjfaikhiimdjaa
open Go.RowKit
set_option linter.unusedVariables false

structure SMethod where
  flags : Int
  name : Int
  desc : Int
  deep : Int
  locals : Int
  code : ByteArray
  traps : Value
  frames : Value
def cellsMethod (t : SMethod) : List Value := [.int .i64 t.flags, .int .i64 t.name, .int .i64 t.desc, .int .i64 t.deep, .int .i64 t.locals, .string t.code, t.traps, t.frames]
def rowMethod (ts : List SMethod) : List Value := ts.flatMap cellsMethod
theorem rowMethod_len (ts : List SMethod) : (rowMethod ts).length = ts.length * 8 := by
  induction ts with
  | nil => rfl
  | cons t ts ih => simp only [rowMethod, List.flatMap_cons, List.length_append] at *; simp [cellsMethod, ih]; omega
theorem rowMethod_at (ts : List SMethod) (k : Nat) (hk : k < ts.length) : rowMethod ts = rowMethod (ts.take k) ++ (cellsMethod ts[k] ++ rowMethod (ts.drop (k + 1))) := by
  have ht : ts = ts.take k ++ ts[k] :: ts.drop (k + 1) := by rw [← List.drop_eq_getElem_cons hk, List.take_append_drop]
  exact (congrArg (List.flatMap cellsMethod) ht).trans (by rw [List.flatMap_append, List.flatMap_cons]; rfl)
theorem infoMethod : (Try.prog.info? 83).map (fun i => (i.zero, i.size, i.bytes)) = some (some (.agg #[.int .i64 0, .int .i64 0, .int .i64 0, .int .i64 0, .int .i64 0, .string ⟨#[]⟩, .slice none 0 0, .slice none 0 0]), 8, 104) := by kernel_rfl
theorem ownMethod_at {w : World} {B g cap m : Nat} {ts : List SMethod} (h : w.ownsRow B 83 8 (.slice (some ⟨g, 0, none⟩) m cap) m (rowMethod ts)) (hm : ts.length = m) {k : Nat} (hk : k < ts.length) :
    w.cell? ⟨g, k * 8, none⟩ = some (.int .i64 ts[k].flags) ∧ w.cell? ⟨g, k * 8 + 1, none⟩ = some (.int .i64 ts[k].name) ∧ w.cell? ⟨g, k * 8 + 2, none⟩ = some (.int .i64 ts[k].desc) ∧ w.cell? ⟨g, k * 8 + 3, none⟩ = some (.int .i64 ts[k].deep) ∧ w.cell? ⟨g, k * 8 + 4, none⟩ = some (.int .i64 ts[k].locals) ∧ w.cell? ⟨g, k * 8 + 5, none⟩ = some (.string ts[k].code) ∧ w.cell? ⟨g, k * 8 + 6, none⟩ = some (ts[k].traps) ∧ w.cell? ⟨g, k * 8 + 7, none⟩ = some (ts[k].frames) := by
  have hx : ∀ j, j < 8 → (rowMethod ts)[k * 8 + j]? = (cellsMethod ts[k])[j]? := by
    intro j hj
    rw [rowMethod_at ts k hk, List.getElem?_append_right (by rw [rowMethod_len, List.length_take]; omega), rowMethod_len, List.length_take, show k * 8 + j - min k ts.length * 8 = j by omega, List.getElem?_append_left (by simp [cellsMethod]; omega)]
  refine ⟨?_, ?_, ?_, ?_, ?_, ?_, ?_, ?_⟩
  · rw [h.cellAt _ (by omega)]; exact hx 0 (by omega)
  · rw [h.cellAt _ (by omega)]; exact hx 1 (by omega)
  · rw [h.cellAt _ (by omega)]; exact hx 2 (by omega)
  · rw [h.cellAt _ (by omega)]; exact hx 3 (by omega)
  · rw [h.cellAt _ (by omega)]; exact hx 4 (by omega)
  · rw [h.cellAt _ (by omega)]; exact hx 5 (by omega)
  · rw [h.cellAt _ (by omega)]; exact hx 6 (by omega)
  · rw [h.cellAt _ (by omega)]; exact hx 7 (by omega)
def zerosMethod (n : Nat) : List SMethod := List.replicate n ⟨0, 0, 0, 0, 0, ⟨#[]⟩, .slice none 0 0, .slice none 0 0⟩
theorem zerosMethod_cells (n : Nat) : (madeCells (Value.agg #[.int .i64 0, .int .i64 0, .int .i64 0, .int .i64 0, .int .i64 0, .string ⟨#[]⟩, .slice none 0 0, .slice none 0 0]).cells (n * 8)).toList = rowMethod (zerosMethod n) := by
  have hz : (Value.agg #[.int .i64 0, .int .i64 0, .int .i64 0, .int .i64 0, .int .i64 0, .string ⟨#[]⟩, .slice none 0 0, .slice none 0 0]).cells = #[.int .i64 0, .int .i64 0, .int .i64 0, .int .i64 0, .int .i64 0, .string ⟨#[]⟩, .slice none 0 0, .slice none 0 0] := rfl
  apply List.ext_getElem
  · simp [madeCells, rowMethod_len, zerosMethod]
  · intro i h1 h2
    have hi : i < n * 8 := by simpa [rowMethod_len, zerosMethod] using h2
    have hget : (rowMethod (zerosMethod n))[i]? = (cellsMethod ⟨0, 0, 0, 0, 0, ⟨#[]⟩, .slice none 0 0, .slice none 0 0⟩)[i % 8]? := by
      have hk : i / 8 < (zerosMethod n).length := by simp [zerosMethod]; omega
      rw [rowMethod_at _ (i / 8) hk, List.getElem?_append_right (by rw [rowMethod_len, List.length_take]; omega), rowMethod_len, List.length_take, show i - min (i / 8) (zerosMethod n).length * 8 = i % 8 by omega, List.getElem?_append_left (by simp [cellsMethod]; omega)]
      simp [zerosMethod]
    rw [List.getElem?_eq_getElem h2] at hget
    have h3 : i % 8 < 8 := Nat.mod_lt _ (by decide)
    have hl : (madeCells (Value.agg #[.int .i64 0, .int .i64 0, .int .i64 0, .int .i64 0, .int .i64 0, .string ⟨#[]⟩, .slice none 0 0, .slice none 0 0]).cells (n * 8)).toList[i] = (#[.int .i64 0, .int .i64 0, .int .i64 0, .int .i64 0, .int .i64 0, .string ⟨#[]⟩, .slice none 0 0, .slice none 0 0] : Array Value)[i % 8]! := by
      simp only [madeCells, hz]
      simp only [Array.toList_map, Array.toList_range, List.getElem_map, List.getElem_range]
      rfl
    rw [hl]
    generalize i % 8 = r at h3 hget
    match r, h3 with
    | 0, _ => exact (Option.some.inj hget).symm
    | 1, _ => exact (Option.some.inj hget).symm
    | 2, _ => exact (Option.some.inj hget).symm
    | 3, _ => exact (Option.some.inj hget).symm
    | 4, _ => exact (Option.some.inj hget).symm
    | 5, _ => exact (Option.some.inj hget).symm
    | 6, _ => exact (Option.some.inj hget).symm
    | 7, _ => exact (Option.some.inj hget).symm
theorem setMethod (us : List SMethod) (k : Nat) (t : SMethod) (h : k < us.length) :
    ((((((((rowMethod us).set (k * 8) (.int .i64 t.flags)).set (k * 8 + 1) (.int .i64 t.name)).set (k * 8 + 2) (.int .i64 t.desc)).set (k * 8 + 3) (.int .i64 t.deep)).set (k * 8 + 4) (.int .i64 t.locals)).set (k * 8 + 5) (.string t.code)).set (k * 8 + 6) (t.traps)).set (k * 8 + 7) (t.frames) = rowMethod (us.set k t) := by
  have e2 : us.set k t = us.take k ++ t :: us.drop (k + 1) := by rw [List.set_eq_take_append_cons_drop, if_pos h]
  have hl : (rowMethod (us.take k)).length = k * 8 := by rw [rowMethod_len, List.length_take]; omega
  have e1 : rowMethod us = rowMethod (us.take k) ++ (.int .i64 us[k].flags :: .int .i64 us[k].name :: .int .i64 us[k].desc :: .int .i64 us[k].deep :: .int .i64 us[k].locals :: .string us[k].code :: us[k].traps :: us[k].frames :: rowMethod (us.drop (k + 1))) := rowMethod_at us k h
  rw [e2, e1, List.set_append_right _ _ (by omega), hl, Nat.sub_self, List.set_cons_zero, List.set_append_right _ _ (by omega), hl, show k * 8 + 1 - k * 8 = 1 by omega, List.set_cons_succ, List.set_cons_zero, List.set_append_right _ _ (by omega), hl, show k * 8 + 2 - k * 8 = 2 by omega, List.set_cons_succ, List.set_cons_succ, List.set_cons_zero, List.set_append_right _ _ (by omega), hl, show k * 8 + 3 - k * 8 = 3 by omega, List.set_cons_succ, List.set_cons_succ, List.set_cons_succ, List.set_cons_zero, List.set_append_right _ _ (by omega), hl, show k * 8 + 4 - k * 8 = 4 by omega, List.set_cons_succ, List.set_cons_succ, List.set_cons_succ, List.set_cons_succ, List.set_cons_zero, List.set_append_right _ _ (by omega), hl, show k * 8 + 5 - k * 8 = 5 by omega, List.set_cons_succ, List.set_cons_succ, List.set_cons_succ, List.set_cons_succ, List.set_cons_succ, List.set_cons_zero, List.set_append_right _ _ (by omega), hl, show k * 8 + 6 - k * 8 = 6 by omega, List.set_cons_succ, List.set_cons_succ, List.set_cons_succ, List.set_cons_succ, List.set_cons_succ, List.set_cons_succ, List.set_cons_zero, List.set_append_right _ _ (by omega), hl, show k * 8 + 7 - k * 8 = 7 by omega, List.set_cons_succ, List.set_cons_succ, List.set_cons_succ, List.set_cons_succ, List.set_cons_succ, List.set_cons_succ, List.set_cons_succ, List.set_cons_zero]
  unfold rowMethod
  rw [List.flatMap_append, List.flatMap_cons]; rfl
theorem nextMethod {W : World} {B g len k : Nat} {us : List SMethod} {t : SMethod} (h : W.ownsRow B 83 8 (.slice (some ⟨g, 0, none⟩) len len) len (rowMethod us)) (hu : us.length = len) (hk : k < len) :
    ((((((((W.setCell ⟨g, k * 8, none⟩ (.int .i64 t.flags)).setCell ⟨g, k * 8 + 1, none⟩ (.int .i64 t.name)).setCell ⟨g, k * 8 + 2, none⟩ (.int .i64 t.desc)).setCell ⟨g, k * 8 + 3, none⟩ (.int .i64 t.deep)).setCell ⟨g, k * 8 + 4, none⟩ (.int .i64 t.locals)).setCell ⟨g, k * 8 + 5, none⟩ (.string t.code)).setCell ⟨g, k * 8 + 6, none⟩ (t.traps)).setCell ⟨g, k * 8 + 7, none⟩ (t.frames)).ownsRow B 83 8 (.slice (some ⟨g, 0, none⟩) len len) len (rowMethod (us.set k t)) := by
  have := ((((((((h.stored (k * 8) (.int .i64 t.flags)).1.stored (k * 8 + 1) (.int .i64 t.name)).1.stored (k * 8 + 2) (.int .i64 t.desc)).1.stored (k * 8 + 3) (.int .i64 t.deep)).1.stored (k * 8 + 4) (.int .i64 t.locals)).1.stored (k * 8 + 5) (.string t.code)).1.stored (k * 8 + 6) (t.traps)).1.stored (k * 8 + 7) (t.frames)).1
  rw [setMethod us k t (by omega)] at this
  exact this

end Go.Proofs.Ytnjfaikhiimdjaa
