/- Reading a law's argument: rows of structs, cell by cell. -/
import Derived.Test.YtpjpbilcmnfgpaaDoorBase
import Derived.Deep.Slices
import Derived.Deep.Strs
import Derived.Lib.SmallJoins
import Derived.OpenShut
namespace Go.Proofs.YtpjpbilcmnfgpaaDoor
open Go.RowKit Go.ChangeShapes Go.WideShapes
set_option maxHeartbeats 400000
set_option linter.unusedVariables false

theorem list_of {α : Type} {P : Nat → α → Prop} : ∀ (n : Nat), (∀ i, i < n → ∃ a, P i a) → ∃ l : List α, l.length = n ∧ ∀ k (h : k < l.length), P k l[k]
  | 0, _ => ⟨[], rfl, fun k h => by simp at h⟩
  | n + 1, h => by
    obtain ⟨l, hl, hp⟩ := list_of n (fun i hi => h i (by omega))
    obtain ⟨a, ha⟩ := h n (by omega)
    refine ⟨l ++ [a], by simp [hl], fun k hk => ?_⟩
    by_cases hkn : k < n
    · rw [List.getElem_append_left (by omega)]; exact hp k (by omega)
    · have : k = l.length := by simp at hk; omega
      subst this
      rw [List.getElem_append_right (Nat.le_refl _)]
      simp; rw [hl]; exact ha

/-- a slice that reads: its elements' cells, each read -/
theorem row_of {H : Type} {enc : TypeId × Value → H} {W : World} {fuel : Nat} {ao : Option Addr} {len cap T E n : Nat} {x : DataW H × List MemPlace} (hT : Tryd.prog.underlying T = some (.slice E)) (hn : Tryd.prog.cellsOf E = n) (hpos : 0 < n)
    (h : DataW.trod enc Tryd.prog W 0 (fun _ => true) true fuel T [.slice ao len cap] = some x) :
    len ≤ maxLen ∧ (len = 0 ∨ ∃ b off, ao = some ⟨b, off, none⟩ ∧ b < W.heap.size ∧ ∀ i, i < len → ∃ cs' n' y, (∀ j, j < n → W.cell? ⟨b, off + i * n + j, none⟩ = cs'[j]?) ∧ DataW.trod enc Tryd.prog W 0 (fun _ => true) true n' E cs' = some y) := by
  rcases Go.Deep.open_slice hT h with ⟨hcs, _⟩ | ⟨a, len', cap', m, n', D, Pl, hcs, _, hl, hm, hmm, _, hx⟩
  · simp at hcs
    obtain ⟨rfl, rfl, rfl⟩ := hcs
    exact ⟨by unfold maxLen; omega, .inl rfl⟩
  · simp at hcs
    obtain ⟨rfl, rfl, rfl⟩ := hcs
    refine ⟨by omega, ?_⟩
    by_cases h0 : len = 0
    · exact .inl h0
    · rw [hn] at hx
      simp only [if_true] at hmm
      obtain ⟨b, off, spot⟩ := a
      have key : ∀ i, i < len → ∃ cs' y, cs'.length = n ∧ (∀ j, j < n → W.cell? (((⟨b, off, spot⟩ : Addr).add (i * n)).add j) = cs'[j]?) ∧ DataW.trod enc Tryd.prog W 0 (fun _ => true) true n' E cs' = some y := by
        intro i hi
        obtain ⟨cs', h1, h2⟩ := hx i (by omega)
        obtain ⟨_, hlen, hc⟩ := World.cells?_some h1
        exact ⟨cs', _, hlen, fun j hj => hc j (by omega), h2⟩
      have hspot : spot = none := by
        obtain ⟨cs', y, hlen, hc, _⟩ := key 0 (by omega)
        have h1 := hc 0 hpos
        rw [List.getElem?_eq_getElem (by omega)] at h1
        have := World.cell?_spot h1
        simpa [Addr.add] using this
      subst hspot
      have hplain : ∀ o i, (⟨b, o, none⟩ : Addr).add i = ⟨b, o + i, none⟩ := fun o i => by unfold Addr.add; split <;> simp_all
      refine .inr ⟨b, off, rfl, ?_, fun i hi => ?_⟩
      · obtain ⟨cs', y, hlen, hc, _⟩ := key 0 (by omega)
        have h1 := hc 0 hpos
        rw [List.getElem?_eq_getElem (by omega), hplain, hplain] at h1
        exact World.block_lt_of_cell? W _ h1
      · obtain ⟨cs', y, hlen, hc, ht⟩ := key i hi
        refine ⟨cs', n', y, fun j hj => ?_, ht⟩
        have := hc j hj
        rwa [hplain, hplain] at this

theorem at_int {H : Type} {enc : TypeId × Value → H} {W : World} {n o : Nat} {cs : List Value} {y : Option (DataW H × List MemPlace)} {i : Nat} {xs : List (DataW H × List MemPlace)} (hi : i < xs.length)
    (h : DataW.trod enc Tryd.prog W 0 (fun _ => true) true n 3 ((cs.drop o).take (Tryd.prog.cellsOf 3)) = xs[i]?) : ∃ p, cs[o]? = some (.int .i64 p) := by
  rw [List.getElem?_eq_getElem hi] at h
  obtain ⟨p, q, _, _⟩ := DataW.trod_int Tryd.underlying3 h
  rw [show Tryd.prog.cellsOf 3 = 1 by kernel_rfl] at q
  exact ⟨p, by have := congrArg (·[0]?) q; simpa [List.getElem?_take, List.getElem?_drop] using this⟩
theorem at_str {H : Type} {enc : TypeId × Value → H} {W : World} {n o : Nat} {cs : List Value} {i : Nat} {xs : List (DataW H × List MemPlace)} (hi : i < xs.length)
    (h : DataW.trod enc Tryd.prog W 0 (fun _ => true) true n 9 ((cs.drop o).take (Tryd.prog.cellsOf 9)) = xs[i]?) : ∃ p, cs[o]? = some (.string p) ∧ p.size ≤ maxLen := by
  rw [List.getElem?_eq_getElem hi] at h
  obtain ⟨p, q, _, hz⟩ := DataW.trod_string Tryd.underlying9 h
  rw [show Tryd.prog.cellsOf 9 = 1 by kernel_rfl] at q
  exact ⟨p, by have := congrArg (·[0]?) q; simpa [List.getElem?_take, List.getElem?_drop] using this, hz⟩
theorem at_slice {H : Type} {enc : TypeId × Value → H} {W : World} {n o T E : Nat} {cs : List Value} {i : Nat} {xs : List (DataW H × List MemPlace)} (hT : Tryd.prog.underlying T = some (.slice E)) (hc : Tryd.prog.cellsOf T = 1) (hi : i < xs.length)
    (h : DataW.trod enc Tryd.prog W 0 (fun _ => true) true n T ((cs.drop o).take (Tryd.prog.cellsOf T)) = xs[i]?) : ∃ a l c y, cs[o]? = some (.slice a l c) ∧ DataW.trod enc Tryd.prog W 0 (fun _ => true) true n T [.slice a l c] = some y := by
  rw [List.getElem?_eq_getElem hi, hc] at h
  have hq : ∃ a l c, (cs.drop o).take 1 = [.slice a l c] := by
    rcases Go.Deep.open_slice hT h with ⟨hcs, _⟩ | ⟨a, len', cap', m, n', D, Pl, hcs, _⟩
    · exact ⟨_, _, _, hcs⟩
    · exact ⟨_, _, _, hcs⟩
  obtain ⟨a, l, c, q⟩ := hq
  rw [q] at h
  exact ⟨a, l, c, _, by have := congrArg (·[0]?) q; simpa [List.getElem?_take, List.getElem?_drop] using this, h⟩

end Go.Proofs.YtpjpbilcmnfgpaaDoor
