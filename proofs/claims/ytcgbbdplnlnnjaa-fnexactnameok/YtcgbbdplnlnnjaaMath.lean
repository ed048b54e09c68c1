/- Plain facts on bytes: what a name, a type and a method's type are, as functions on lists of bytes. Nothing of the program is named here. -/
namespace Go.Proofs.Ytcgbbdplnlnnjaa
namespace Mx

def figB (c : UInt8) : Bool := decide (48 ≤ c.toNat) && decide (c.toNat ≤ 57)
def letB (c : UInt8) : Bool := (decide (97 ≤ c.toNat) && decide (c.toNat ≤ 122)) || (decide (65 ≤ c.toNat) && decide (c.toNat ≤ 90))
/-- a sign that may stand at place k of a name -/
def okAt (k : Nat) (c : UInt8) : Bool := letB c || (decide (k ≠ 0) && figB c)
def good (l : List UInt8) (k : Nat) : Bool := (List.range k).all fun j => okAt j (l.getD j 0)
def nameB (l : List UInt8) : Bool := decide (1 ≤ l.length) && decide (l.length ≤ 8) && good l l.length

theorem figB_iff (c : UInt8) : figB c = true ↔ 48 ≤ (c.toNat : Int) ∧ (c.toNat : Int) ≤ 57 := by
  simp [figB]; omega
theorem letB_iff (c : UInt8) : letB c = true ↔ (97 ≤ (c.toNat : Int) ∧ (c.toNat : Int) ≤ 122) ∨ (65 ≤ (c.toNat : Int) ∧ (c.toNat : Int) ≤ 90) := by
  simp [letB]; omega
theorem fig_let {c : UInt8} (h : letB c = true) : figB c = false := by
  cases hf : figB c
  · rfl
  · rw [figB_iff] at hf; rw [letB_iff] at h; omega
theorem good_iff (l : List UInt8) (k : Nat) : good l k = true ↔ ∀ j, j < k → okAt j (l.getD j 0) = true := by
  simp [good, List.all_eq_true]
theorem good_zero (l : List UInt8) : good l 0 = true := by simp [good]
theorem good_succ (l : List UInt8) (k : Nat) : good l (k + 1) = (good l k && okAt k (l.getD k 0)) := by
  simp [good, List.range_succ]
theorem good_le {l : List UInt8} {k m : Nat} (h : k ≤ m) (hg : good l m = true) : good l k = true := by
  rw [good_iff] at *; intro j hj; exact hg j (by omega)
theorem name_yes {l : List UInt8} (h1 : 1 ≤ l.length) (h2 : l.length ≤ 8) (hg : good l l.length = true) : nameB l = true := by
  simp [nameB, h2, hg]; omega
theorem name_none {l : List UInt8} (h : l.length < 1) : nameB l = false := by
  simp [nameB]; omega
theorem name_long {l : List UInt8} (h : 8 < l.length) : nameB l = false := by
  simp [nameB]; omega
theorem name_bad {l : List UInt8} {k : Nat} (hk : k < l.length) (h : okAt k (l.getD k 0) = false) : nameB l = false := by
  have : good l l.length = false := by
    cases hg : good l l.length
    · rfl
    · rw [good_iff] at hg; have := hg k hk; rw [h] at this; cases this
  simp [nameB, this]
theorem byte_at (s : ByteArray) (k : Nat) (h : k < s.size) : s.data.toList.getD k 0 = s[k] := by
  rw [List.getD_eq_getElem?_getD, List.getElem?_eq_getElem (by simpa using h)]; rfl
theorem len_of (s : ByteArray) : s.data.toList.length = s.size := by simp

end Mx
end Go.Proofs.Ytcgbbdplnlnnjaa
