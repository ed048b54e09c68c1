/- Paths as lists: who is asked for a name, one behind the other. -/
import Derived.Test.YtjhmjjechagbjaaPaSmall
import Derived.Test.YtjhmjjechagbjaaLoList
namespace Go.Proofs.Ytjhmjjechagbjaa
open Go.RowKit
set_option linter.unusedVariables false

/-- all who are asked, as far as it goes, and whether the last makes it -/
def pathFn (ls : List MLoader) (nm : ByteArray) : Nat → List Int → Int → List Int × Bool
  | 0, path, _ => (path, false)
  | f + 1, path, a => if a < 0 then (path, false) else if path.contains a then (path, false) else match ls[a.toNat]? with
    | none => (path, false)
    | some l => if makesB l nm then (path ++ [a], true) else pathFn ls nm f (path ++ [a]) (nxtLd l nm)

/-- numbers below n, each once -/
structure Apart (n : Nat) (path : List Int) : Prop where
  r : ∀ x ∈ path, 0 ≤ x ∧ x < (n : Int)
  d : path.Nodup
theorem nodup_le : ∀ (n : Nat) (l : List Int), l.Nodup → (∀ x ∈ l, 0 ≤ x ∧ x < (n : Int)) → l.length ≤ n
  | 0, l, _, h => by
    cases l with
    | nil => simp
    | cons a r => have := h a (by simp); omega
  | n + 1, l, hd, h => by
    by_cases hm : (n : Int) ∈ l
    · have h1 := List.length_erase_of_mem hm
      have h2 := nodup_le n (l.erase (n : Int)) (hd.erase _) (fun x hx => by
        have hx' := (hd.mem_erase_iff).1 hx
        have := h x hx'.2
        have := hx'.1
        omega)
      omega
    · have := nodup_le n l hd (fun x hx => by
        have := h x hx
        have : x ≠ (n : Int) := fun e => hm (e ▸ hx)
        omega)
      omega
theorem Apart.nil (n : Nat) : Apart n [] := ⟨by simp, by simp⟩
theorem Apart.le {n : Nat} {path : List Int} (h : Apart n path) : path.length ≤ n := nodup_le n path h.d h.r
theorem Apart.snoc {n : Nat} {path : List Int} (h : Apart n path) {a : Int} (h0 : 0 ≤ a) (h1 : a < (n : Int)) (hc : path.contains a = false) : Apart n (path ++ [a]) := by
  have hm : a ∉ path := by simpa using hc
  refine ⟨fun x hx => ?_, ?_⟩
  · rcases List.mem_append.1 hx with hx | hx
    · exact h.r x hx
    · simp at hx; omega
  · rw [List.nodup_append]
    refine ⟨h.d, by simp, fun x hx y hy e => ?_⟩
    simp at hy
    subst hy
    exact hm (e ▸ hx)
theorem Apart.lt {n : Nat} {path : List Int} (h : Apart n path) {a : Int} (h0 : 0 ≤ a) (h1 : a < (n : Int)) (hc : path.contains a = false) : path.length < n := by
  have := (h.snoc h0 h1 hc).le
  simp at this
  omega

theorem wayTo_fine {n : Nat} {l : MLoader} (h : fineL n l) {nm : ByteArray} {t : Int} (ht : wayTo l.ways nm = some t) : 0 ≤ t ∧ t < (n : Int) := by
  unfold wayTo at ht
  obtain ⟨y, hy, rfl⟩ := Option.map_eq_some_iff.1 ht
  have hm := List.mem_of_find?_eq_some hy
  obtain ⟨k, hk, rfl⟩ := List.getElem_of_mem hm
  have := h.y k hk
  unfold wayQ wayB inB at this
  rw [List.getElem?_eq_getElem hk] at this
  simp at this
  omega
theorem nxtLd_fine {n : Nat} {l : MLoader} (h : fineL n l) (nm : ByteArray) : nxtLd l nm = -1 ∨ (0 ≤ nxtLd l nm ∧ nxtLd l nm < (n : Int)) := by
  unfold nxtLd
  cases ht : wayTo l.ways nm with
  | some t => exact .inr (wayTo_fine h ht)
  | none =>
    rcases h.p with h | h
    · exact .inl h
    · right
      unfold inB at h
      simp at h
      simp
      omega

/-- the answer, from where one is -/
def pathR (ls : List MLoader) (nm : ByteArray) (path : List Int) (a : Int) : List Int × Bool := pathFn ls nm (ls.length + 1 - path.length) path a
theorem pathR_neg {ls : List MLoader} {nm : ByteArray} {path : List Int} {a : Int} (h : a < 0) : pathR ls nm path a = (path, false) := by
  unfold pathR
  generalize ls.length + 1 - path.length = f
  cases f with
  | zero => rfl
  | succ f => simp [pathFn, h]
theorem pathR_again {ls : List MLoader} {nm : ByteArray} {path : List Int} {a : Int} (h : path.contains a = true) : pathR ls nm path a = (path, false) := by
  unfold pathR
  generalize ls.length + 1 - path.length = f
  cases f with
  | zero => rfl
  | succ f =>
    have h' : a ∈ path := by simpa using h
    simp [pathFn, h']
theorem pathR_step {ls : List MLoader} {nm : ByteArray} {path : List Int} {k : Nat} (hp : Apart ls.length path) (hk : k < ls.length) (hc : path.contains (k : Int) = false) :
    pathR ls nm path (k : Int) = if makesB ls[k] nm then (path ++ [(k : Int)], true) else pathR ls nm (path ++ [(k : Int)]) (nxtLd ls[k] nm) := by
  have hlt := hp.lt (a := (k : Int)) (by omega) (by omega) hc
  unfold pathR
  rw [show ls.length + 1 - path.length = (ls.length - path.length) + 1 by omega, show ls.length + 1 - (path ++ [(k : Int)]).length = ls.length - path.length by simp]
  have hm : (k : Int) ∉ path := by simpa using hc
  rw [pathFn, if_neg (by omega), if_neg (by simpa using hm)]
  simp [hk]
theorem pathR_made {ls : List MLoader} {nm : ByteArray} : ∀ (f : Nat) (path : List Int) (a : Int), (pathFn ls nm f path a).2 = true → (pathFn ls nm f path a).1 ≠ []
  | 0, path, a, h => by simp [pathFn] at h
  | f + 1, path, a, h => by
    by_cases h1 : a < 0
    · simp [pathFn, h1] at h
    · by_cases h2 : a ∈ path
      · simp [pathFn, h1, h2] at h
      · cases hl : ls[a.toNat]? with
        | none => simp [pathFn, h1, h2, hl] at h
        | some l =>
          by_cases hm : makesB l nm = true
          · simp [pathFn, h1, h2, hl, hm]
          · have ih := pathR_made (ls := ls) (nm := nm) f (path ++ [a]) (nxtLd l nm)
            simp [pathFn, h1, h2, hl, hm] at h ⊢
            exact ih h

end Go.Proofs.Ytjhmjjechagbjaa
