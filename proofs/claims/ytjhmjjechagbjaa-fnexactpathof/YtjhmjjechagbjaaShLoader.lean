/- Rows of SLoader, cell by cell. Printed by tools/shallow.py. -/
import Derived.Test.YtjhmjjechagbjaaBase
import Derived.Laws.MakeOwn
namespace Go.Proofs.Ytjhmjjechagbjaa
open Go.RowKit
set_option linter.unusedVariables false

structure SLoader where
  files : Value
  ways : Value
  parent : Int
def cellsLoader (t : SLoader) : List Value := [t.files, t.ways, .int .i64 t.parent]
def rowLoader (ts : List SLoader) : List Value := ts.flatMap cellsLoader
theorem rowLoader_len (ts : List SLoader) : (rowLoader ts).length = ts.length * 3 := by
  induction ts with
  | nil => rfl
  | cons t ts ih => simp only [rowLoader, List.flatMap_cons, List.length_append] at *; simp [cellsLoader, ih]; omega
theorem rowLoader_at (ts : List SLoader) (k : Nat) (hk : k < ts.length) : rowLoader ts = rowLoader (ts.take k) ++ (cellsLoader ts[k] ++ rowLoader (ts.drop (k + 1))) := by
  have ht : ts = ts.take k ++ ts[k] :: ts.drop (k + 1) := by rw [← List.drop_eq_getElem_cons hk, List.take_append_drop]
  exact (congrArg (List.flatMap cellsLoader) ht).trans (by rw [List.flatMap_append, List.flatMap_cons]; rfl)
theorem infoLoader : (Try.prog.info? 47).map (fun i => (i.zero, i.size, i.bytes)) = some (some (.agg #[.slice none 0 0, .slice none 0 0, .int .i64 0]), 3, 56) := by kernel_rfl
theorem ownLoader_at {w : World} {B g cap m : Nat} {ts : List SLoader} (h : w.ownsRow B 47 3 (.slice (some ⟨g, 0, none⟩) m cap) m (rowLoader ts)) (hm : ts.length = m) {k : Nat} (hk : k < ts.length) :
    w.cell? ⟨g, k * 3, none⟩ = some (ts[k].files) ∧ w.cell? ⟨g, k * 3 + 1, none⟩ = some (ts[k].ways) ∧ w.cell? ⟨g, k * 3 + 2, none⟩ = some (.int .i64 ts[k].parent) := by
  have hx : ∀ j, j < 3 → (rowLoader ts)[k * 3 + j]? = (cellsLoader ts[k])[j]? := by
    intro j hj
    rw [rowLoader_at ts k hk, List.getElem?_append_right (by rw [rowLoader_len, List.length_take]; omega), rowLoader_len, List.length_take, show k * 3 + j - min k ts.length * 3 = j by omega, List.getElem?_append_left (by simp [cellsLoader]; omega)]
  refine ⟨?_, ?_, ?_⟩
  · rw [h.cellAt _ (by omega)]; exact hx 0 (by omega)
  · rw [h.cellAt _ (by omega)]; exact hx 1 (by omega)
  · rw [h.cellAt _ (by omega)]; exact hx 2 (by omega)
def zerosLoader (n : Nat) : List SLoader := List.replicate n ⟨.slice none 0 0, .slice none 0 0, 0⟩
theorem zerosLoader_cells (n : Nat) : (madeCells (Value.agg #[.slice none 0 0, .slice none 0 0, .int .i64 0]).cells (n * 3)).toList = rowLoader (zerosLoader n) := by
  have hz : (Value.agg #[.slice none 0 0, .slice none 0 0, .int .i64 0]).cells = #[.slice none 0 0, .slice none 0 0, .int .i64 0] := rfl
  apply List.ext_getElem
  · simp [madeCells, rowLoader_len, zerosLoader]
  · intro i h1 h2
    have hi : i < n * 3 := by simpa [rowLoader_len, zerosLoader] using h2
    have hget : (rowLoader (zerosLoader n))[i]? = (cellsLoader ⟨.slice none 0 0, .slice none 0 0, 0⟩)[i % 3]? := by
      have hk : i / 3 < (zerosLoader n).length := by simp [zerosLoader]; omega
      rw [rowLoader_at _ (i / 3) hk, List.getElem?_append_right (by rw [rowLoader_len, List.length_take]; omega), rowLoader_len, List.length_take, show i - min (i / 3) (zerosLoader n).length * 3 = i % 3 by omega, List.getElem?_append_left (by simp [cellsLoader]; omega)]
      simp [zerosLoader]
    rw [List.getElem?_eq_getElem h2] at hget
    have h3 : i % 3 < 3 := Nat.mod_lt _ (by decide)
    have hl : (madeCells (Value.agg #[.slice none 0 0, .slice none 0 0, .int .i64 0]).cells (n * 3)).toList[i] = (#[.slice none 0 0, .slice none 0 0, .int .i64 0] : Array Value)[i % 3]! := by
      simp only [madeCells, hz]
      simp only [Array.toList_map, Array.toList_range, List.getElem_map, List.getElem_range]
      rfl
    rw [hl]
    generalize i % 3 = r at h3 hget
    match r, h3 with
    | 0, _ => exact (Option.some.inj hget).symm
    | 1, _ => exact (Option.some.inj hget).symm
    | 2, _ => exact (Option.some.inj hget).symm
theorem setLoader (us : List SLoader) (k : Nat) (t : SLoader) (h : k < us.length) :
    (((rowLoader us).set (k * 3) (t.files)).set (k * 3 + 1) (t.ways)).set (k * 3 + 2) (.int .i64 t.parent) = rowLoader (us.set k t) := by
  have e2 : us.set k t = us.take k ++ t :: us.drop (k + 1) := by rw [List.set_eq_take_append_cons_drop, if_pos h]
  have hl : (rowLoader (us.take k)).length = k * 3 := by rw [rowLoader_len, List.length_take]; omega
  have e1 : rowLoader us = rowLoader (us.take k) ++ (us[k].files :: us[k].ways :: .int .i64 us[k].parent :: rowLoader (us.drop (k + 1))) := rowLoader_at us k h
  rw [e2, e1, List.set_append_right _ _ (by omega), hl, Nat.sub_self, List.set_cons_zero, List.set_append_right _ _ (by omega), hl, show k * 3 + 1 - k * 3 = 1 by omega, List.set_cons_succ, List.set_cons_zero, List.set_append_right _ _ (by omega), hl, show k * 3 + 2 - k * 3 = 2 by omega, List.set_cons_succ, List.set_cons_succ, List.set_cons_zero]
  unfold rowLoader
  rw [List.flatMap_append, List.flatMap_cons]; rfl
theorem nextLoader {W : World} {B g len k : Nat} {us : List SLoader} {t : SLoader} (h : W.ownsRow B 47 3 (.slice (some ⟨g, 0, none⟩) len len) len (rowLoader us)) (hu : us.length = len) (hk : k < len) :
    (((W.setCell ⟨g, k * 3, none⟩ (t.files)).setCell ⟨g, k * 3 + 1, none⟩ (t.ways)).setCell ⟨g, k * 3 + 2, none⟩ (.int .i64 t.parent)).ownsRow B 47 3 (.slice (some ⟨g, 0, none⟩) len len) len (rowLoader (us.set k t)) := by
  have := (((h.stored (k * 3) (t.files)).1.stored (k * 3 + 1) (t.ways)).1.stored (k * 3 + 2) (.int .i64 t.parent)).1
  rw [setLoader us k t (by omega)] at this
  exact this

end Go.Proofs.Ytjhmjjechagbjaa
