/- What DescOf answers, as a function on texts. Nothing of the program is named here. -/
import Derived.Test.YtbpefgkhplicoaaMath
namespace Go.Proofs.Ytbpefgkhplicoaa
namespace Mx

def backB (b : ByteArray) : Bool := b.data.toList == [86] || typeB b.data.toList
def descEnd (s : ByteArray) (a : Nat) : Option (List ByteArray × ByteArray) :=
  if a < s.size ∧ s.data.toList.getD a 0 = 41 ∧ backB (s.extract (a + 1) s.size) = true then some ([], s.extract (a + 1) s.size) else none
/-- what is taken from place a on, r types at most, and what is given back -/
def descAt (s : ByteArray) : Nat → Nat → Option (List ByteArray × ByteArray)
  | 0, a => if tend s.data.toList a < 0 then descEnd s a else none
  | r + 1, a => if tend s.data.toList a < 0 then descEnd s a else (descAt s r (tend s.data.toList a).toNat).map fun x => (s.extract a (tend s.data.toList a).toNat :: x.1, x.2)
def descOf (s : ByteArray) : Option (List ByteArray × ByteArray) :=
  if 0 < s.size ∧ s.data.toList.getD 0 0 = 40 then descAt s 4 1 else none
def dTs (s : ByteArray) : List ByteArray := match descOf s with | some x => x.1 | none => []
def dBack (s : ByteArray) : ByteArray := match descOf s with | some x => x.2 | none => ⟨#[]⟩
def dOk (s : ByteArray) : Bool := match descOf s with | some _ => true | none => false

def pre (ts : List ByteArray) (x : List ByteArray × ByteArray) : List ByteArray × ByteArray := (ts ++ x.1, x.2)

theorem desc_no {s : ByteArray} (h : descOf s = none) : dTs s = [] ∧ dBack s = ⟨#[]⟩ ∧ dOk s = false := by simp [dTs, dBack, dOk, h]
theorem desc_yes {s : ByteArray} {ts : List ByteArray} {b : ByteArray} (h : descOf s = some (ts, b)) : dTs s = ts ∧ dBack s = b ∧ dOk s = true := by simp [dTs, dBack, dOk, h]
theorem descAt_end {s : ByteArray} {r a : Nat} (h : tend s.data.toList a = -1) : descAt s r a = descEnd s a := by
  cases r <;> simp [descAt, h]
theorem descAt_full {s : ByteArray} {a b : Nat} (h : tend s.data.toList a = (b : Int)) : descAt s 0 a = none := by
  simp only [descAt, h]; rw [if_neg (by omega)]
theorem descAt_step {s : ByteArray} {r a b : Nat} (h : tend s.data.toList a = (b : Int)) : descAt s (r + 1) a = (descAt s r b).map (pre [s.extract a b]) := by
  simp only [descAt, h]; rw [if_neg (by omega)]; rfl
theorem pre_nil (x : Option (List ByteArray × ByteArray)) : x.map (pre []) = x := by
  cases x <;> simp [pre]
theorem pre_pre (ts us : List ByteArray) (x : Option (List ByteArray × ByteArray)) : (x.map (pre us)).map (pre ts) = x.map (pre (ts ++ us)) := by
  cases x <;> simp [pre]
theorem descOf_head {s : ByteArray} (h0 : 0 < s.size) (h : s.data.toList.getD 0 0 = 40) : descOf s = descAt s 4 1 := by
  unfold descOf; rw [if_pos ⟨h0, h⟩]
theorem descOf_none {s : ByteArray} (h : ¬ (0 < s.size ∧ s.data.toList.getD 0 0 = 40)) : descOf s = none := by
  unfold descOf; rw [if_neg h]
theorem descEnd_no {s : ByteArray} {a : Nat} (h : ¬ (a < s.size ∧ s.data.toList.getD a 0 = 41 ∧ backB (s.extract (a + 1) s.size) = true)) : descEnd s a = none := by
  unfold descEnd; rw [if_neg h]
theorem descEnd_yes {s : ByteArray} {a : Nat} (h : a < s.size ∧ s.data.toList.getD a 0 = 41 ∧ backB (s.extract (a + 1) s.size) = true) : descEnd s a = some ([], s.extract (a + 1) s.size) := by
  unfold descEnd; rw [if_pos h]
theorem descAt_len {s : ByteArray} : ∀ {r a : Nat} {x : List ByteArray × ByteArray}, descAt s r a = some x → x.1.length ≤ r := by
  intro r
  induction r with
  | zero =>
    intro a x h
    simp only [descAt] at h
    split at h
    · unfold descEnd at h; split at h
      · cases h; simp
      · cases h
    · cases h
  | succ r ih =>
    intro a x h
    simp only [descAt] at h
    split at h
    · unfold descEnd at h; split at h
      · cases h; simp
      · cases h
    · rw [Option.map_eq_some_iff] at h
      obtain ⟨y, hy, rfl⟩ := h
      have := ih hy
      simp; omega
theorem dTs_len (s : ByteArray) : (dTs s).length ≤ 4 := by
  unfold dTs
  cases h : descOf s with
  | none => simp
  | some x =>
    unfold descOf at h
    split at h
    · exact descAt_len h
    · cases h
theorem prefix_iff (s : ByteArray) : Lib.hasPrefix s.data.toList [40] = decide (0 < s.size ∧ s.data.toList.getD 0 0 = 40) := by
  rw [← len_of s]
  cases s.data.toList with
  | nil => simp [Lib.hasPrefix]
  | cons c l => rw [Bool.eq_iff_iff]; simp [Lib.hasPrefix]; constructor <;> intro h <;> exact h.symm

end Mx
end Go.Proofs.Ytbpefgkhplicoaa
