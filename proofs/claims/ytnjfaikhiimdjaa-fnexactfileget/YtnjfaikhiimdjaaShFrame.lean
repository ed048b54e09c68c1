/- Rows of SFrame, cell by cell. Printed by tools/shallow.py. -/
import Derived.Test.YtnjfaikhiimdjaaBase
import Derived.Laws.MakeOwn
namespace Go.Proofs.Ytnjfaikhiimdjaa
open Go.RowKit
set_option linter.unusedVariables false

structure SFrame where
  at_ : Int
  l : Value
  s : Value
def cellsFrame (t : SFrame) : List Value := [.int .i64 t.at_, t.l, t.s]
def rowFrame (ts : List SFrame) : List Value := ts.flatMap cellsFrame
theorem rowFrame_len (ts : List SFrame) : (rowFrame ts).length = ts.length * 3 := by
  induction ts with
  | nil => rfl
  | cons t ts ih => simp only [rowFrame, List.flatMap_cons, List.length_append] at *; simp [cellsFrame, ih]; omega
theorem rowFrame_at (ts : List SFrame) (k : Nat) (hk : k < ts.length) : rowFrame ts = rowFrame (ts.take k) ++ (cellsFrame ts[k] ++ rowFrame (ts.drop (k + 1))) := by
  have ht : ts = ts.take k ++ ts[k] :: ts.drop (k + 1) := by rw [← List.drop_eq_getElem_cons hk, List.take_append_drop]
  exact (congrArg (List.flatMap cellsFrame) ht).trans (by rw [List.flatMap_append, List.flatMap_cons]; rfl)
theorem infoFrame : (Try.prog.info? 123).map (fun i => (i.zero, i.size, i.bytes)) = some (some (.agg #[.int .i64 0, .slice none 0 0, .slice none 0 0]), 3, 56) := by kernel_rfl
theorem ownFrame_at {w : World} {B g cap m : Nat} {ts : List SFrame} (h : w.ownsRow B 123 3 (.slice (some ⟨g, 0, none⟩) m cap) m (rowFrame ts)) (hm : ts.length = m) {k : Nat} (hk : k < ts.length) :
    w.cell? ⟨g, k * 3, none⟩ = some (.int .i64 ts[k].at_) ∧ w.cell? ⟨g, k * 3 + 1, none⟩ = some (ts[k].l) ∧ w.cell? ⟨g, k * 3 + 2, none⟩ = some (ts[k].s) := by
  have hx : ∀ j, j < 3 → (rowFrame ts)[k * 3 + j]? = (cellsFrame ts[k])[j]? := by
    intro j hj
    rw [rowFrame_at ts k hk, List.getElem?_append_right (by rw [rowFrame_len, List.length_take]; omega), rowFrame_len, List.length_take, show k * 3 + j - min k ts.length * 3 = j by omega, List.getElem?_append_left (by simp [cellsFrame]; omega)]
  refine ⟨?_, ?_, ?_⟩
  · rw [h.cellAt _ (by omega)]; exact hx 0 (by omega)
  · rw [h.cellAt _ (by omega)]; exact hx 1 (by omega)
  · rw [h.cellAt _ (by omega)]; exact hx 2 (by omega)
def zerosFrame (n : Nat) : List SFrame := List.replicate n ⟨0, .slice none 0 0, .slice none 0 0⟩
theorem zerosFrame_cells (n : Nat) : (madeCells (Value.agg #[.int .i64 0, .slice none 0 0, .slice none 0 0]).cells (n * 3)).toList = rowFrame (zerosFrame n) := by
  have hz : (Value.agg #[.int .i64 0, .slice none 0 0, .slice none 0 0]).cells = #[.int .i64 0, .slice none 0 0, .slice none 0 0] := rfl
  apply List.ext_getElem
  · simp [madeCells, rowFrame_len, zerosFrame]
  · intro i h1 h2
    have hi : i < n * 3 := by simpa [rowFrame_len, zerosFrame] using h2
    have hget : (rowFrame (zerosFrame n))[i]? = (cellsFrame ⟨0, .slice none 0 0, .slice none 0 0⟩)[i % 3]? := by
      have hk : i / 3 < (zerosFrame n).length := by simp [zerosFrame]; omega
      rw [rowFrame_at _ (i / 3) hk, List.getElem?_append_right (by rw [rowFrame_len, List.length_take]; omega), rowFrame_len, List.length_take, show i - min (i / 3) (zerosFrame n).length * 3 = i % 3 by omega, List.getElem?_append_left (by simp [cellsFrame]; omega)]
      simp [zerosFrame]
    rw [List.getElem?_eq_getElem h2] at hget
    have h3 : i % 3 < 3 := Nat.mod_lt _ (by decide)
    have hl : (madeCells (Value.agg #[.int .i64 0, .slice none 0 0, .slice none 0 0]).cells (n * 3)).toList[i] = (#[.int .i64 0, .slice none 0 0, .slice none 0 0] : Array Value)[i % 3]! := by
      simp only [madeCells, hz]
      simp only [Array.toList_map, Array.toList_range, List.getElem_map, List.getElem_range]
      rfl
    rw [hl]
    generalize i % 3 = r at h3 hget
    match r, h3 with
    | 0, _ => exact (Option.some.inj hget).symm
    | 1, _ => exact (Option.some.inj hget).symm
    | 2, _ => exact (Option.some.inj hget).symm
theorem setFrame (us : List SFrame) (k : Nat) (t : SFrame) (h : k < us.length) :
    (((rowFrame us).set (k * 3) (.int .i64 t.at_)).set (k * 3 + 1) (t.l)).set (k * 3 + 2) (t.s) = rowFrame (us.set k t) := by
  have e2 : us.set k t = us.take k ++ t :: us.drop (k + 1) := by rw [List.set_eq_take_append_cons_drop, if_pos h]
  have hl : (rowFrame (us.take k)).length = k * 3 := by rw [rowFrame_len, List.length_take]; omega
  have e1 : rowFrame us = rowFrame (us.take k) ++ (.int .i64 us[k].at_ :: us[k].l :: us[k].s :: rowFrame (us.drop (k + 1))) := rowFrame_at us k h
  rw [e2, e1, List.set_append_right _ _ (by omega), hl, Nat.sub_self, List.set_cons_zero, List.set_append_right _ _ (by omega), hl, show k * 3 + 1 - k * 3 = 1 by omega, List.set_cons_succ, List.set_cons_zero, List.set_append_right _ _ (by omega), hl, show k * 3 + 2 - k * 3 = 2 by omega, List.set_cons_succ, List.set_cons_succ, List.set_cons_zero]
  unfold rowFrame
  rw [List.flatMap_append, List.flatMap_cons]; rfl
theorem nextFrame {W : World} {B g len k : Nat} {us : List SFrame} {t : SFrame} (h : W.ownsRow B 123 3 (.slice (some ⟨g, 0, none⟩) len len) len (rowFrame us)) (hu : us.length = len) (hk : k < len) :
    (((W.setCell ⟨g, k * 3, none⟩ (.int .i64 t.at_)).setCell ⟨g, k * 3 + 1, none⟩ (t.l)).setCell ⟨g, k * 3 + 2, none⟩ (t.s)).ownsRow B 123 3 (.slice (some ⟨g, 0, none⟩) len len) len (rowFrame (us.set k t)) := by
  have := (((h.stored (k * 3) (.int .i64 t.at_)).1.stored (k * 3 + 1) (t.l)).1.stored (k * 3 + 2) (t.s)).1
  rw [setFrame us k t (by omega)] at this
  exact this

end Go.Proofs.Ytnjfaikhiimdjaa
