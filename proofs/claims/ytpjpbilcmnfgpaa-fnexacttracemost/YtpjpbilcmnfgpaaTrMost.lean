/- Contracts of TraceMost, the program's and the specification's: both give the counts mostL of a list of lines. -/
import Derived.Test.YtpjpbilcmnfgpaaBase
import Derived.Test.YtpjpbilcmnfgpaaRowLine
import Derived.Test.YtpjpbilcmnfgpaaRowInt
import Derived.Laws.MakeOwn
namespace Go.Proofs.Ytpjpbilcmnfgpaa
open Go.RowKit
set_option maxHeartbeats 2000000
set_option maxRecDepth 20000
set_option linter.unusedVariables false

def isOpI (n : Int) : Bool := decide (0 ≤ n) && decide (n < 35)
def bump (xs : List Int) (op : Int) : List Int := if isOpI op then xs.set op.toNat (xs.getD op.toNat 0 + 1) else xs
def mostL (ts : List MLine) : List Int := ts.foldl (fun xs t => bump xs t.op) (List.replicate 35 0)
theorem bump_len (xs : List Int) (op : Int) : (bump xs op).length = xs.length := by unfold bump; split <;> simp
theorem mostL_next (ts : List MLine) (k : Nat) (h : k < ts.length) : mostL (ts.take (k + 1)) = bump (mostL (ts.take k)) ts[k].op := by
  unfold mostL
  rw [List.take_succ_eq_append_getElem h, List.foldl_append]
  rfl
def upto (xs : List Int) (k : Nat) : Prop := xs.length = 35 ∧ ∀ i (h : i < xs.length), 0 ≤ xs[i] ∧ xs[i] ≤ k
theorem upto.bump {xs : List Int} {k : Nat} (h : upto xs k) (op : Int) : upto (bump xs op) (k + 1) := by
  refine ⟨by rw [bump_len]; exact h.1, fun i hi => ?_⟩
  have hi' : i < xs.length := by rw [bump_len] at hi; exact hi
  unfold Go.Proofs.Ytpjpbilcmnfgpaa.bump
  split
  · by_cases e : op.toNat = i
    · subst e
      have := h.2 _ hi'
      simp [List.getD, List.getElem?_eq_getElem hi']
      omega
    · have := h.2 i hi'
      rw [List.getElem_set_ne e]
      omega
  · have := h.2 i hi'
    omega
theorem mostL_upto (ts : List MLine) (k : Nat) (hk : k ≤ ts.length) : upto (mostL (ts.take k)) k := by
  induction k with
  | zero =>
    refine ⟨by simp [mostL], fun i hi => ?_⟩
    have e : mostL (ts.take 0) = List.replicate 35 0 := rfl
    have : (mostL (ts.take 0))[i] = 0 := by simp only [e, List.getElem_replicate]
    rw [this]; omega
  | succ k ih => rw [mostL_next ts k (by omega)]; exact (ih (by omega)).bump _
theorem mostL_len (ts : List MLine) : (mostL ts).length = 35 := by
  have := (mostL_upto ts ts.length (Nat.le_refl _)).1
  rwa [List.take_of_length_le (Nat.le_refl _)] at this
theorem getD_get {xs : List Int} {i : Nat} (h : i < xs.length) : xs.getD i 0 = xs[i] := by simp [List.getD, List.getElem?_eq_getElem h]
theorem bump_store {W : World} {B g k : Nat} {xs : List Int} {n : Int} (h : W.ownsRow B 3 1 (.slice (some ⟨g, 0, none⟩) 35 35) 35 (rowI xs)) (ho : isOpI n = true) {u : Int} (hu : xs.getD n.toNat 0 = u) (hk : n.toNat = k) :
    (W.setCell ⟨g, k, none⟩ (.int .i64 (u + 1))).ownsRow B 3 1 (.slice (some ⟨g, 0, none⟩) 35 35) 35 (rowI (bump xs n)) := by
  subst hk hu
  have := nextI (k := n.toNat) (t := xs.getD n.toNat 0 + 1) h
  unfold bump
  rw [if_pos ho]
  exact this
theorem mostZeros : (madeCells (Value.int .i64 0).cells 35).toList = rowI (List.replicate 35 0) := zerosI_cells 35
theorem most_made (w : World) : (w.alloc (.cells (madeCells (Value.int .i64 0).cells 35) 3)).ownsRow w.heap.size 3 1 (.slice (some ⟨w.heap.size, 0, none⟩) 35 35) 35 (rowI (List.replicate 35 0)) := by
  have := World.ownsRow_lit (base := w.heap.size) (e := 3) (size := 1) w (madeCells (Value.int .i64 0).cells 35) 35 (Nat.le_refl _) (by unfold maxLen; omega) (by rw [← Array.length_toList, mostZeros]; simp [rowI])
  rw [mostZeros] at this
  exact this
theorem most_make (W : World) : (Instr.makeSlice 24 (.int .i64 35) (.int .i64 35)).run Try.prog W = .ok (.slice (some ⟨W.heap.size, 0, none⟩) 35 35) (W.alloc (.cells (madeCells (Value.int .i64 0).cells 35) 3)) := by
  obtain ⟨i0, hi, hz0, hz1, hz2⟩ := info_parts infoInt
  have h := run_make (P := Try.prog) W 24 3 i0 _ Try.underlying24 hi hz0 .i64 .i64 (35 : Int) (35 : Int) (by omega) (by omega) (by rw [hz2]; omega) (by omega)
  rw [hz1] at h
  simpa using h
end Go.Proofs.Ytpjpbilcmnfgpaa
