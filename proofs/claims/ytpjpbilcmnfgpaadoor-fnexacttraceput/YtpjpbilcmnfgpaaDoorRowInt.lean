/- Contracts of the law's own helpers on rows of ints: toIntS, szIntS, eqIntS. -/
import Derived.Test.YtpjpbilcmnfgpaaDoorBase
import Derived.Laws.MakeOwn
import Derived.BigQuiet
namespace Go.Proofs.YtpjpbilcmnfgpaaDoor
open Go.RowKit
set_option maxHeartbeats 400000
set_option linter.unusedVariables false

def rowI (ts : List Int) : List Value := ts.map (Value.int .i64)
theorem infoInt : (Tryd.prog.info? 3).map (fun i => (i.zero, i.size, i.bytes)) = some (some (.int .i64 0), 1, 8) := by kernel_rfl
theorem ownI_at {w : World} {B g cap m : Nat} {ts : List Int} (h : w.ownsRow B 3 1 (.slice (some ⟨g, 0, none⟩) m cap) m (rowI ts)) (hm : ts.length = m) {k : Nat} (hk : k < ts.length) : w.cell? ⟨g, k, none⟩ = some (.int .i64 ts[k]) := by
  rw [h.cellAt _ (by omega)]
  simp [rowI, hk]
def ArgI (w : World) (ao : Option Addr) (len : Nat) (ts : List Int) : Prop :=
  ts.length = len ∧ (len = 0 ∨ ∃ b off, ao = some ⟨b, off, none⟩ ∧ b < w.heap.size ∧ ∀ k (h : k < ts.length), w.cell? ⟨b, off + k, none⟩ = some (.int .i64 ts[k]))
theorem ArgI.keep {w w' : World} {ao : Option Addr} {len : Nat} {ts : List Int} (h : ArgI w ao len ts) (hb : Below w.heap.size w w') : ArgI w' ao len ts := by
  obtain ⟨h1, h2⟩ := h
  refine ⟨h1, h2.imp id ?_⟩
  rintro ⟨b, off, rfl, hlt, hc⟩
  exact ⟨b, off, rfl, Nat.lt_of_lt_of_le hlt hb.size, fun k hk => (hb.cell (p := ⟨b, off + k, none⟩) hlt).trans (hc k hk)⟩
theorem zerosI_cells (n : Nat) : (madeCells (Value.int .i64 0).cells n).toList = rowI (List.replicate n 0) := by
  have hz : (Value.int .i64 0).cells = #[.int .i64 0] := rfl
  apply List.ext_getElem
  · simp [madeCells, rowI]
  · intro i h1 h2
    simp only [madeCells, hz]
    simp only [Array.toList_map, Array.toList_range, List.getElem_map, List.getElem_range, rowI, List.getElem_replicate]
    have : i % (#[Value.int .i64 0] : Array Value).size = 0 := Nat.mod_one i
    rw [this]; rfl
theorem nextI {W : World} {B g len k : Nat} {us : List Int} {t : Int} (h : W.ownsRow B 3 1 (.slice (some ⟨g, 0, none⟩) len len) len (rowI us)) :
    (W.setCell ⟨g, k, none⟩ (.int .i64 t)).ownsRow B 3 1 (.slice (some ⟨g, 0, none⟩) len len) len (rowI (us.set k t)) := by
  have := (h.stored k (.int .i64 t)).1
  unfold rowI at *
  rwa [← List.map_set] at this
theorem takeI {us ts : List Int} {k : Nat} {t : Int} (h : us.take k = ts.take k) {hk : k < ts.length} (ht : ts[k] = t) (hu : k < us.length) : (us.set k t).take (k + 1) = ts.take (k + 1) := by
  rw [List.take_succ_eq_append_getElem hk, List.take_succ_eq_append_getElem (by simpa using hu), List.getElem_set_self, ht, ← h]
  congr 1
  rw [List.take_set_of_le (Nat.le_refl _)]

end Go.Proofs.YtpjpbilcmnfgpaaDoor
