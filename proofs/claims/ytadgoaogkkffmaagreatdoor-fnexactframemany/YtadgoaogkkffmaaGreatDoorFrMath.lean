/- How many places the frames of a class tell of. Nothing of a walk. -/
import Derived.Test.YtadgoaogkkffmaaGreatDoorG02
namespace Go.Proofs.YtadgoaogkkffmaaGreatDoor
open Go.RowKit
set_option linter.unusedVariables false

theorem sum_take {α : Type} (f : α → Nat) (l : List α) {k : Nat} (h : k < l.length) : ((l.take (k + 1)).map f).sum = ((l.take k).map f).sum + f l[k] := by
  rw [List.take_succ_eq_append_getElem h, List.map_append, List.sum_append]
  simp only [List.map_cons, List.map_nil, List.sum_cons, List.sum_nil, Nat.add_zero]
theorem sum_le {α : Type} (f : α → Nat) (b : Nat) : ∀ (l : List α), (∀ x ∈ l, f x ≤ b) → (l.map f).sum ≤ l.length * b
  | [], _ => by simp
  | x :: l, h => by
    have h1 := h x (by simp)
    have h2 := sum_le f b l (fun y hy => h y (by simp [hy]))
    simp only [List.map_cons, List.sum_cons, List.length_cons, Nat.succ_mul]
    omega
def frN (f : MFrame) : Nat := f.locals.length + f.stack.length
def frS (fs : List MFrame) : Nat := (fs.map frN).sum
def manyM (ms : List MMethod) : Nat := (ms.map fun m => frS m.frames).sum
def manyC (c : MClass) : Nat := manyM c.methods
theorem frS_next {fs : List MFrame} {k : Nat} (h : k < fs.length) : frS (fs.take (k + 1)) = frS (fs.take k) + frN fs[k] := sum_take _ _ h
theorem manyM_next {ms : List MMethod} {k : Nat} (h : k < ms.length) : manyM (ms.take (k + 1)) = manyM (ms.take k) + frS ms[k].frames := sum_take _ _ h
theorem frS_le {fs : List MFrame} (h : ∀ f ∈ fs, f.few) : frS fs ≤ fs.length * 2097152 :=
  sum_le _ _ _ fun f hf => by have := h f hf; unfold MFrame.few at this; unfold frN; omega
theorem frS_few {m : MMethod} (h : m.few) (k : Nat) : frS (m.frames.take k) ≤ 2199023255552 := by
  have h1 := frS_le (fs := m.frames.take k) fun f hf => h.2.2.2 f (List.mem_of_mem_take hf)
  have h2 := h.2.2.1
  have h3 : (m.frames.take k).length ≤ 1048576 := by simp; omega
  have h4 : (m.frames.take k).length * 2097152 ≤ 1048576 * 2097152 := Nat.mul_le_mul_right _ h3
  omega
theorem frS_all {m : MMethod} (h : m.few) : frS m.frames ≤ 2199023255552 := by
  have := frS_few h m.frames.length
  rwa [List.take_length] at this
theorem manyM_few {c : MClass} (h : c.few) (k : Nat) : manyM (c.methods.take k) ≤ 2305843009213693952 := by
  have h1 : manyM (c.methods.take k) ≤ (c.methods.take k).length * 2199023255552 := sum_le _ _ _ fun m hm => frS_all (h.each m (List.mem_of_mem_take hm))
  have h2 := h.methods
  have h3 : (c.methods.take k).length ≤ 1048576 := by simp; omega
  have h4 : (c.methods.take k).length * 2199023255552 ≤ 1048576 * 2199023255552 := Nat.mul_le_mul_right _ h3
  omega
/-- what FrameMany answers, where the class's check is n -/
def manyR (c : MClass) (n : Int) : Int := if n = 0 then (manyC c : Int) else 0

end Go.Proofs.YtadgoaogkkffmaaGreatDoor
