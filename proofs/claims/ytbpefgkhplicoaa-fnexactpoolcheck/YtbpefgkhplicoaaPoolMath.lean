/- The model of a pool: the entry at a place, and whether an entry is ok. -/
import Derived.Test.YtbpefgkhplicoaaConstTo
import Derived.Test.YtbpefgkhplicoaaDescSpec
namespace Go.Proofs.Ytbpefgkhplicoaa
open Go.RowKit
set_option maxRecDepth 20000
namespace Mx
def atC (ts : List C4) (i : Int) : C4 := if 1 ≤ i ∧ i ≤ ts.length then ts.getD (i - 1).toNat zero4 else zero4
def txtC (ts : List C4) (i : Int) : ByteArray := if (atC ts i).kind = 1 then (atC ts i).text else ⟨#[]⟩
def nameC (ts : List C4) (i : Int) : Bool := decide ((atC ts i).kind = 1) && nameB (atC ts i).text.data.toList
def typeC (ts : List C4) (i : Int) : Bool := decide ((atC ts i).kind = 1) && typeB (atC ts i).text.data.toList
def descC (ts : List C4) (i : Int) : Bool := decide ((atC ts i).kind = 1) && dOk (atC ts i).text
def clsC (ts : List C4) (i : Int) : Bool := decide ((atC ts i).kind = 2) && nameC ts (atC ts i).a
def okC (ts : List C4) (t : C4) : Bool :=
  if t.kind = 1 then decide (t.a = 0) && decide (t.b = 0) && (nameB t.text.data.toList || typeB t.text.data.toList || dOk t.text)
  else if t.kind = 2 then t.text.toList.isEmpty && decide (t.b = 0) && nameC ts t.a
  else if t.kind = 3 then t.text.toList.isEmpty && nameC ts t.a && (typeC ts t.b || descC ts t.b)
  else if t.kind = 4 then t.text.toList.isEmpty && clsC ts t.a && decide ((atC ts t.b).kind = 3) && typeC ts (atC ts t.b).b
  else if t.kind = 5 ∨ t.kind = 6 then t.text.toList.isEmpty && clsC ts t.a && decide ((atC ts t.b).kind = 3) && descC ts (atC ts t.b).b
  else false
/-- the first place from k on, below 60, of an entry that is not ok -/
def badC (ts : List C4) : Nat → Nat → Option Nat
  | 0, _ => none
  | n + 1, k => if k < ts.length ∧ k < 60 then (if okC ts (ts.getD k zero4) then badC ts n (k + 1) else some k) else none
def poolC (ts : List C4) : Int := match badC ts 60 0 with
  | some k => k + 1
  | none => if 60 < ts.length then 61 else 0
theorem badC_step {ts : List C4} {n k : Nat} (hn : k + (n + 1) = 60) (h : k < ts.length) : badC ts (n + 1) k = if okC ts (ts[k]) then badC ts n (k + 1) else some k := by
  have e : ts.getD k zero4 = ts[k] := by simp [List.getD, h]
  rw [badC, if_pos ⟨h, by omega⟩, e]
theorem badC_end {ts : List C4} {n k : Nat} (h : ¬ k < ts.length ∨ ¬ k < 60) : badC ts n k = none := by
  cases n with
  | zero => rfl
  | succ n => rw [badC, if_neg (by omega)]
theorem atC_in {ts : List C4} {k : Nat} (h : k < ts.length) : atC ts ((k : Int) + 1) = ts[k] := by
  unfold atC
  rw [if_pos (by omega), show ((k : Int) + 1 - 1).toNat = k by omega]
  simp [List.getD, h]
theorem atC_out {ts : List C4} {i : Int} (h : ¬ (1 ≤ i ∧ i ≤ ts.length)) : atC ts i = zero4 := if_neg h
theorem atC_small {ts : List C4} {n : Nat} (h : ∀ t ∈ ts, t.text.size ≤ n) (i : Int) : (atC ts i).text.size ≤ n := by
  unfold atC
  split
  · rename_i hh
    have hl : (i - 1).toNat < ts.length := by omega
    simp only [List.getD, List.getElem?_eq_getElem hl, Option.getD_some]
    exact h _ (List.getElem_mem _)
  · simp [zero4, ByteArray.size]
theorem nameB_nil : nameB [] = false := by rfl
theorem typeB_nil : typeB [] = false := by rfl
theorem dOk_nil : dOk ⟨#[]⟩ = false := by rfl
theorem name_txt (ts : List C4) (i : Int) : nameB (txtC ts i).data.toList = nameC ts i := by
  unfold txtC nameC; split <;> simp_all [nameB_nil]
theorem type_txt (ts : List C4) (i : Int) : typeB (txtC ts i).data.toList = typeC ts i := by
  unfold txtC typeC; split <;> simp_all [typeB_nil]
theorem desc_txt (ts : List C4) (i : Int) : dOk (txtC ts i) = descC ts i := by
  unfold txtC descC; split <;> simp_all [dOk_nil]
theorem txtC_small {ts : List C4} {n : Nat} (h : ∀ t ∈ ts, t.text.size ≤ n) (i : Int) : (txtC ts i).size ≤ n := by
  unfold txtC
  split
  · exact atC_small h i
  · simp [ByteArray.size]
/-- what l2Class answers -/
def clsT (ts : List C4) (i : Int) : ByteArray := if clsC ts i then (atC ts (atC ts i).a).text else ⟨#[]⟩
theorem nameB_ne {l : List UInt8} (h : nameB l = true) : l ≠ [] := by
  intro h0; rw [h0, nameB_nil] at h; exact absurd h (by decide)
theorem clsT_iff (ts : List C4) (i : Int) : (clsT ts i).toList.isEmpty = !clsC ts i := by
  unfold clsT
  by_cases h : clsC ts i = true
  · rw [if_pos h]
    have hn : nameB (atC ts (atC ts i).a).text.data.toList = true := by unfold clsC nameC at h; simp at h; exact h.2.2
    have := nameB_ne hn
    rw [Lib.toList_data, h]
    cases hh : (atC ts (atC ts i).a).text.data.toList with
    | nil => exact absurd hh this
    | cons x l => rfl
  · rw [if_neg h, Lib.toList_data]; simp at h; simp [h]
end Mx
end Go.Proofs.Ytbpefgkhplicoaa
