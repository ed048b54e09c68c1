/- Plain facts on bytes: what a name, a type and a method's type are, as functions on lists of bytes. Nothing of the program is named here. -/
import Derived.Lib.IndexBytes
namespace Go.Proofs.Ytdlgifpiblcaeaa
namespace Mx

def figB (c : UInt8) : Bool := decide (48 ≤ c.toNat) && decide (c.toNat ≤ 57)
def letB (c : UInt8) : Bool := (decide (97 ≤ c.toNat) && decide (c.toNat ≤ 122)) || (decide (65 ≤ c.toNat) && decide (c.toNat ≤ 90))
/-- a sign that may stand at place k of a name -/
def okAt (k : Nat) (c : UInt8) : Bool := letB c || (decide (k ≠ 0) && figB c)
def good (l : List UInt8) (k : Nat) : Bool := (List.range k).all fun j => okAt j (l.getD j 0)
def nameB (l : List UInt8) : Bool := decide (1 ≤ l.length) && decide (l.length ≤ 8) && good l l.length

theorem figB_iff (c : UInt8) : figB c = true ↔ 48 ≤ (c.toNat : Int) ∧ (c.toNat : Int) ≤ 57 := by
  simp [figB]; omega
theorem letB_iff (c : UInt8) : letB c = true ↔ (97 ≤ (c.toNat : Int) ∧ (c.toNat : Int) ≤ 122) ∨ (65 ≤ (c.toNat : Int) ∧ (c.toNat : Int) ≤ 90) := by
  simp [letB]; omega
theorem fig_let {c : UInt8} (h : letB c = true) : figB c = false := by
  cases hf : figB c
  · rfl
  · rw [figB_iff] at hf; rw [letB_iff] at h; omega
theorem good_iff (l : List UInt8) (k : Nat) : good l k = true ↔ ∀ j, j < k → okAt j (l.getD j 0) = true := by
  simp [good, List.all_eq_true]
theorem good_zero (l : List UInt8) : good l 0 = true := by simp [good]
theorem good_succ (l : List UInt8) (k : Nat) : good l (k + 1) = (good l k && okAt k (l.getD k 0)) := by
  simp [good, List.range_succ]
theorem good_le {l : List UInt8} {k m : Nat} (h : k ≤ m) (hg : good l m = true) : good l k = true := by
  rw [good_iff] at *; intro j hj; exact hg j (by omega)
theorem name_yes {l : List UInt8} (h1 : 1 ≤ l.length) (h2 : l.length ≤ 8) (hg : good l l.length = true) : nameB l = true := by
  simp [nameB, h2, hg]; omega
theorem name_none {l : List UInt8} (h : l.length < 1) : nameB l = false := by
  simp [nameB]; omega
theorem name_long {l : List UInt8} (h : 8 < l.length) : nameB l = false := by
  simp [nameB]; omega
theorem name_bad {l : List UInt8} {k : Nat} (hk : k < l.length) (h : okAt k (l.getD k 0) = false) : nameB l = false := by
  have : good l l.length = false := by
    cases hg : good l l.length
    · rfl
    · rw [good_iff] at hg; have := hg k hk; rw [h] at this; cases this
  simp [nameB, this]
theorem mxByte (s : ByteArray) (k : Nat) (h : k < s.size) : s.data.toList.getD k 0 = s[k] := by
  rw [List.getD_eq_getElem?_getD, List.getElem?_eq_getElem (by simpa using h)]; rfl
theorem len_of (s : ByteArray) : s.data.toList.length = s.size := by simp

/-- the first place of c in l, or none -/
theorem index_cases (l : List UInt8) (c : UInt8) :
    (Lib.indexByte l c = -1 ∧ ∀ j, j < l.length → l.getD j 0 ≠ c) ∨ ∃ k : Nat, k < l.length ∧ Lib.indexByte l c = k ∧ l.getD k 0 = c ∧ ∀ j, j < k → l.getD j 0 ≠ c := by
  induction l with
  | nil => left; exact ⟨rfl, fun j hj => by simp at hj⟩
  | cons b l ih =>
    by_cases hb : b = c
    · right
      refine ⟨0, by simp, ?_, by simpa using hb, fun j hj => by omega⟩
      simp [Lib.indexByte, hb]
    · have hb' : (b == c) = false := by simpa using hb
      rcases ih with ⟨h1, h2⟩ | ⟨k, hk, h1, h2, h3⟩
      · left
        refine ⟨by simp [Lib.indexByte, hb', h1], fun j hj => ?_⟩
        cases j with
        | zero => simpa using hb
        | succ j => simpa using h2 j (by simpa using hj)
      · right
        refine ⟨k + 1, by simpa using hk, ?_, by simpa using h2, fun j hj => ?_⟩
        · have : ((k : Int) == -1) = false := by simp
          simp [Lib.indexByte, hb', h1, this]
        · cases j with
          | zero => simpa using hb
          | succ j => simpa using h3 j (by omega)

/-- the place behind the type that begins at a place of l; -1, if none does -/
def tend (l : List UInt8) (a : Nat) : Int :=
  if a < l.length then
    if l.getD a 0 = 73 then (a : Int) + 1
    else if l.getD a 0 = 76 then
      (if Lib.indexByte (l.drop a) 59 < 0 then -1
       else if nameB ((l.drop (a + 1)).take ((Lib.indexByte (l.drop a) 59).toNat - 1)) then (a : Int) + Lib.indexByte (l.drop a) 59 + 1 else -1)
    else -1
  else -1

theorem tend_out {l : List UInt8} {a : Nat} (h : ¬ a < l.length) : tend l a = -1 := by simp [tend, h]
theorem tend_I {l : List UInt8} {a : Nat} (h : a < l.length) (hc : l.getD a 0 = 73) : tend l a = (a : Int) + 1 := by
  simp only [tend, h, hc, if_true]
theorem tend_other {l : List UInt8} {a : Nat} (h1 : l.getD a 0 ≠ 73) (h2 : l.getD a 0 ≠ 76) : tend l a = -1 := by
  unfold tend; rw [if_neg h1, if_neg h2]; split <;> rfl
theorem tend_L {l : List UInt8} {a : Nat} (h : a < l.length) (hc : l.getD a 0 = 76) : tend l a =
      (if Lib.indexByte (l.drop a) 59 < 0 then -1
       else if nameB ((l.drop (a + 1)).take ((Lib.indexByte (l.drop a) 59).toNat - 1)) then (a : Int) + Lib.indexByte (l.drop a) 59 + 1 else -1) := by
  unfold tend; rw [if_pos h, if_neg (by rw [hc]; decide), if_pos hc]
theorem drop_getD (l : List UInt8) (a j : Nat) : (l.drop a).getD j 0 = l.getD (a + j) 0 := by
  simp [List.getD_eq_getElem?_getD]
/-- of a class's type: the sign that ends it -/
theorem tend_none {l : List UInt8} {a : Nat} (h : a < l.length) (hc : l.getD a 0 = 76) (hn : ∀ j, a < j → j < l.length → l.getD j 0 ≠ 59) : tend l a = -1 := by
  rw [tend_L h hc]
  rcases index_cases (l.drop a) 59 with ⟨h1, _⟩ | ⟨k, hk, h1, h2, _⟩
  · rw [h1]; rfl
  · exfalso
    rw [drop_getD] at h2
    rw [List.length_drop] at hk
    by_cases hz : k = 0
    · subst hz; rw [Nat.add_zero, hc] at h2; exact absurd h2 (by decide)
    · exact hn (a + k) (by omega) (by omega) h2
theorem index_at {l : List UInt8} {a i : Nat} (hc : l.getD a 0 = 76) (hai : a < i) (hi : i < l.length) (hs : l.getD i 0 = 59) (hn : ∀ j, a < j → j < i → l.getD j 0 ≠ 59) :
    Lib.indexByte (l.drop a) 59 = ((i - a : Nat) : Int) := by
  have hne : ∀ j, j < i - a → (l.drop a).getD j 0 ≠ 59 := by
    intro j hj
    rw [drop_getD]
    by_cases hz : j = 0
    · subst hz; rw [Nat.add_zero, hc]; decide
    · exact hn (a + j) (by omega) (by omega)
  have hat : (l.drop a).getD (i - a) 0 = 59 := by rw [drop_getD, show a + (i - a) = i by omega]; exact hs
  rcases index_cases (l.drop a) 59 with ⟨_, h2⟩ | ⟨k, hk, h1, h2, h3⟩
  · exact absurd hat (h2 (i - a) (by rw [List.length_drop]; omega))
  · rw [h1]
    by_cases h : k < i - a
    · exact absurd h2 (hne k h)
    · by_cases h' : i - a < k
      · exact absurd hat (h3 _ h')
      · rw [show k = i - a by omega]
theorem tend_at {l : List UInt8} {a i : Nat} (hc : l.getD a 0 = 76) (hai : a < i) (hi : i < l.length) (hs : l.getD i 0 = 59) (hn : ∀ j, a < j → j < i → l.getD j 0 ≠ 59) :
    tend l a = if nameB ((l.drop (a + 1)).take (i - (a + 1))) then (i : Int) + 1 else -1 := by
  rw [tend_L (by omega) hc, index_at hc hai hi hs hn]
  rw [if_neg (by omega), show ((i - a : Nat) : Int).toNat - 1 = i - (a + 1) by omega]
  split
  · omega
  · rfl
theorem tend_cases (l : List UInt8) (a : Nat) : tend l a = -1 ∨ ((a : Int) < tend l a ∧ tend l a ≤ l.length) := by
  unfold tend
  split
  · split
    · right; omega
    · split
      · rcases index_cases (l.drop a) 59 with ⟨h1, _⟩ | ⟨k, hk, h1, _, _⟩
        · left; rw [h1]; rfl
        · rw [h1]
          rw [List.length_drop] at hk
          rw [if_neg (by omega)]
          split
          · right; omega
          · left; rfl
      · left; rfl
  · left; rfl
def typeB (l : List UInt8) : Bool := tend l 0 == (l.length : Int)

end Mx
end Go.Proofs.Ytdlgifpiblcaeaa
