/- What an entry of a pool says: where the pool is ok, the specification's words are the program's. Nothing of a walk. -/
import Derived.Test.YtadgoaogkkffmaaGreatDoorG03
namespace Go.Proofs.YtadgoaogkkffmaaGreatDoor
open Mx Go.RowKit
set_option maxHeartbeats 1000000
set_option linter.unusedVariables false

def sayB : ByteArray := ⟨#[32]⟩
def sayC : ByteArray := ⟨#[99, 108, 97, 115, 115, 32]⟩
def sayP : ByteArray := ⟨#[112, 97, 105, 114, 32]⟩
/-- the figure of a kind -/
def sayK (n : Int) : ByteArray := if n = 4 then ⟨#[52]⟩ else if n = 5 then ⟨#[53]⟩ else ⟨#[54]⟩
/-- the specification's words -/
def sayS (ts : List C4) (i : Int) : ByteArray :=
  if (atC ts i).kind = 1 then (atC ts i).text
  else if (atC ts i).kind = 2 then sayC ++ clsT ts i
  else if (atC ts i).kind = 3 then sayP ++ txtC ts (atC ts i).a ++ sayB ++ txtC ts (atC ts i).b
  else sayK (atC ts i).kind ++ sayB ++ clsT ts (atC ts i).a ++ sayB ++ txtC ts (atC ts (atC ts i).b).a ++ sayB ++ txtC ts (atC ts (atC ts i).b).b
/-- the program's -/
def sayI (ts : List C4) (i : Int) : ByteArray :=
  if (atC ts i).kind = 2 then sayC ++ rawC ts i
  else if (atC ts i).kind = 3 then sayP ++ rawT ts (atC ts i).a ++ sayB ++ rawT ts (atC ts i).b
  else if 4 ≤ (atC ts i).kind ∧ (atC ts i).kind ≤ 6 then sayK (atC ts i).kind ++ sayB ++ rawC ts (atC ts i).a ++ sayB ++ rawT ts (atC ts (atC ts i).b).a ++ sayB ++ rawT ts (atC ts (atC ts i).b).b
  else (atC ts i).text

theorem kind_in {ts : List C4} (h : poolC ts = 0) {i : Int} (hi : 1 ≤ i ∧ i ≤ ts.length) : 1 ≤ (atC ts i).kind ∧ (atC ts i).kind ≤ 6 := by
  obtain ⟨k, rfl⟩ : ∃ k : Nat, i = (k : Int) + 1 := ⟨(i - 1).toNat, by omega⟩
  have hlt : k < ts.length := by omega
  have e := (pool_ok h).2 k hlt
  rw [atC_in hlt]
  generalize ts[k] = t at e ⊢
  by_cases h1 : t.kind = 1
  · omega
  by_cases h2 : t.kind = 2
  · omega
  by_cases h3 : t.kind = 3
  · omega
  by_cases h4 : t.kind = 4
  · omega
  by_cases h5 : t.kind = 5 ∨ t.kind = 6
  · omega
  unfold okC at e
  rw [if_neg h1, if_neg h2, if_neg h3, if_neg h4, if_neg h5] at e
  cases e
theorem member_cls {ts : List C4} (h : poolC ts = 0) {i : Int} (hk : 4 ≤ (atC ts i).kind ∧ (atC ts i).kind ≤ 6) : clsC ts (atC ts i).a = true := by
  rcases at_ok h i with e | e
  · rw [e] at hk; exact absurd hk.1 (by decide)
  · unfold okC at e
    rw [if_neg (by omega), if_neg (by omega), if_neg (by omega)] at e
    by_cases h4 : (atC ts i).kind = 4
    · rw [if_pos h4] at e
      simp at e
      exact e.1.1.2
    · rw [if_neg h4, if_pos (by omega)] at e
      simp at e
      exact e.1.1.2
theorem say_join {ts : List C4} (h : poolC ts = 0) {i : Int} (hi : 1 ≤ i ∧ i ≤ ts.length) : sayI ts i = sayS ts i := by
  have hk := kind_in h hi
  unfold sayI sayS
  by_cases h1 : (atC ts i).kind = 1
  · rw [if_neg (by omega), if_neg (by omega), if_neg (by omega), if_pos h1]
  rw [if_neg h1]
  by_cases h2 : (atC ts i).kind = 2
  · rw [if_pos h2, if_pos h2, raw_cls h i (by rw [← kind_cls h]; simp [h2])]
  rw [if_neg h2, if_neg h2]
  by_cases h3 : (atC ts i).kind = 3
  · rw [if_pos h3, if_pos h3, raw_txt h, raw_txt h]
  have h4 : 4 ≤ (atC ts i).kind ∧ (atC ts i).kind ≤ 6 := by omega
  rw [if_neg h3, if_neg h3, if_pos h4, raw_cls h _ (member_cls h h4), raw_txt h, raw_txt h]
theorem sayK_size (n : Int) : (sayK n).size = 1 := by
  unfold sayK
  split
  · rfl
  · split <;> rfl
theorem sayT_small {ts : List C4} {n : Nat} (h : ∀ t ∈ ts, t.text.size ≤ n) (i : Int) : (rawT ts i).size ≤ n := atC_small h i
theorem sayC_small {ts : List C4} {n : Nat} (h : ∀ t ∈ ts, t.text.size ≤ n) (i : Int) : (rawC ts i).size ≤ n := atC_small h _
theorem sayI_small {ts : List C4} (h : ∀ t ∈ ts, t.text.size ≤ 1048576) (i : Int) : (sayI ts i).size ≤ 4000000 := by
  have h1 := sayC_small h i
  have h2 := fun x => sayT_small h x
  have h3 := sayC_small h (atC ts i).a
  have h4 := atC_small h i
  have hk := sayK_size (atC ts i).kind
  have a1 := h2 (atC ts i).a
  have a2 := h2 (atC ts i).b
  have a3 := h2 (atC ts (atC ts i).b).a
  have a4 := h2 (atC ts (atC ts i).b).b
  have b1 : sayC.size = 6 := rfl
  have b2 : sayP.size = 5 := rfl
  have b3 : sayB.size = 1 := rfl
  unfold sayI
  split
  · rw [ByteArray.size_append]; omega
  · split
    · simp only [ByteArray.size_append]; omega
    · split
      · simp only [ByteArray.size_append]; omega
      · omega
theorem say_out {ts : List C4} {i : Int} (hi : ¬ (1 ≤ i ∧ i ≤ ts.length)) : sayI ts i = ⟨#[]⟩ := by
  unfold sayI
  rw [atC_out hi]
  rfl

/-- what PackText answers, where the class's check is n -/
def textS (c : MClass) (i n : Int) : ByteArray := if n = 0 ∧ 1 ≤ i ∧ i ≤ (c.pool.length : Int) then sayS c.pool i else ⟨#[]⟩
def textI (c : MClass) (i n : Int) : ByteArray := if n = 0 then sayI c.pool i else ⟨#[]⟩

end Go.Proofs.YtadgoaogkkffmaaGreatDoor
