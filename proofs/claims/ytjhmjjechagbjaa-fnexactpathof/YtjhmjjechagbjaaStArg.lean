/- Reading a law's argument of type Start. -/
import Derived.Test.YtjhmjjechagbjaaArgRow
import Derived.Test.YtjhmjjechagbjaaStBase
namespace Go.Proofs.Ytjhmjjechagbjaa
open Go.RowKit Go.ChangeShapes Go.WideShapes
set_option maxHeartbeats 400000
set_option linter.unusedVariables false

theorem at_bool {H : Type} {enc : TypeId × Value → H} {W : World} {n o : Nat} {cs : List Value} {i : Nat} {xs : List (DataW H × List MemPlace)} (hi : i < xs.length)
    (h : DataW.trod enc Try.prog W 0 (fun _ => true) true n 4 ((cs.drop o).take (Try.prog.cellsOf 4)) = xs[i]?) : ∃ p, cs[o]? = some (.bool p) := by
  rw [List.getElem?_eq_getElem hi] at h
  obtain ⟨p, q, _⟩ := DataW.trod_bool Try.underlying4 h
  rw [show Try.prog.cellsOf 4 = 1 by kernel_rfl] at q
  exact ⟨p, by have := congrArg (·[0]?) q; simpa [List.getElem?_take, List.getElem?_drop] using this⟩

theorem files_of {H : Type} {enc : TypeId × Value → H} {W : World} {fuel : Nat} {ao : Option Addr} {len cap : Nat} {x : DataW H × List MemPlace}
    (h : DataW.trod enc Try.prog W 0 (fun _ => true) true fuel 37 [.slice ao len cap] = some x) : len ≤ maxLen ∧ ∃ ts, ArgFile W ao len ts := by
  obtain ⟨hm, h0 | ⟨b, off, rfl, hb, hx⟩⟩ := row_of Try.underlying37 (show Try.prog.cellsOf 75 = 2 by kernel_rfl) (by decide) h
  · exact ⟨hm, [], by simp [h0], fun t ht => by simp at ht, .inl h0⟩
  · refine ⟨hm, ?_⟩
    have key : ∀ i, i < len → ∃ t : MFile, (W.cell? ⟨b, off + i * 2, none⟩ = some (.string t.name) ∧ W.cell? ⟨b, off + i * 2 + 1, none⟩ = some (.string t.text)) ∧ t.name.size ≤ maxLen ∧ t.text.size ≤ maxLen := by
      intro i hi
      obtain ⟨cs, n', y, hc, ht⟩ := hx i hi
      obtain ⟨xs, n2, _, _, _, hl, hf⟩ := DataW.trod_struct Try.underlying75 ht
      simp at hl
      obtain ⟨p0, g0, z0⟩ := at_str (by omega) (hf 0 _ rfl)
      obtain ⟨p1, g1, z1⟩ := at_str (by omega) (hf 1 _ rfl)
      exact ⟨⟨p0, p1⟩, ⟨(hc 0 (by omega)).trans g0, (hc 1 (by omega)).trans g1⟩, z0, z1⟩
    obtain ⟨ts, hl, hp⟩ := list_of len key
    refine ⟨ts, hl, fun t ht => ?_, .inr ⟨b, off, rfl, hb, fun k hk => (hp k hk).1⟩⟩
    obtain ⟨k, hk, rfl⟩ := List.getElem_of_mem ht
    exact (hp k hk).2

theorem ways_of {H : Type} {enc : TypeId × Value → H} {W : World} {fuel : Nat} {ao : Option Addr} {len cap : Nat} {x : DataW H × List MemPlace}
    (h : DataW.trod enc Try.prog W 0 (fun _ => true) true fuel 38 [.slice ao len cap] = some x) : len ≤ maxLen ∧ ∃ ts, ArgWay W ao len ts := by
  obtain ⟨hm, h0 | ⟨b, off, rfl, hb, hx⟩⟩ := row_of Try.underlying38 (show Try.prog.cellsOf 77 = 2 by kernel_rfl) (by decide) h
  · exact ⟨hm, [], by simp [h0], fun t ht => by simp at ht, .inl h0⟩
  · refine ⟨hm, ?_⟩
    have key : ∀ i, i < len → ∃ t : MWay, (W.cell? ⟨b, off + i * 2, none⟩ = some (.string t.name) ∧ W.cell? ⟨b, off + i * 2 + 1, none⟩ = some (.int .i64 t.to_)) ∧ t.name.size ≤ maxLen := by
      intro i hi
      obtain ⟨cs, n', y, hc, ht⟩ := hx i hi
      obtain ⟨xs, n2, _, _, _, hl, hf⟩ := DataW.trod_struct Try.underlying77 ht
      simp at hl
      obtain ⟨p0, g0, z0⟩ := at_str (by omega) (hf 0 _ rfl)
      obtain ⟨p1, g1⟩ := at_int (y := none) (by omega) (hf 1 _ rfl)
      exact ⟨⟨p0, p1⟩, ⟨(hc 0 (by omega)).trans g0, (hc 1 (by omega)).trans g1⟩, z0⟩
    obtain ⟨ts, hl, hp⟩ := list_of len key
    refine ⟨ts, hl, fun t ht => ?_, .inr ⟨b, off, rfl, hb, fun k hk => (hp k hk).1⟩⟩
    obtain ⟨k, hk, rfl⟩ := List.getElem_of_mem ht
    exact (hp k hk).2

theorem loaders_of {H : Type} {enc : TypeId × Value → H} {W : World} {fuel : Nat} {ao : Option Addr} {len cap : Nat} {x : DataW H × List MemPlace}
    (h : DataW.trod enc Try.prog W 0 (fun _ => true) true fuel 22 [.slice ao len cap] = some x) : len ≤ maxLen ∧ ∃ fs, ArgLS W ao len fs := by
  obtain ⟨hm, h0 | ⟨b, off, rfl, hb, hx⟩⟩ := row_of Try.underlying22 (show Try.prog.cellsOf 40 = 3 by kernel_rfl) (by decide) h
  · exact ⟨hm, [], by simp [h0], .inl h0⟩
  · refine ⟨hm, ?_⟩
    have key : ∀ i, i < len → ∃ f : MLoader, ∃ x : SLoader, W.cell? ⟨b, off + i * 3, none⟩ = some x.files ∧ W.cell? ⟨b, off + i * 3 + 1, none⟩ = some x.ways ∧ W.cell? ⟨b, off + i * 3 + 2, none⟩ = some (.int .i64 x.parent) ∧ ArgL W x f := by
      intro i hi
      obtain ⟨cs, n', y, hc, ht⟩ := hx i hi
      obtain ⟨xs, n2, _, _, _, hl, hf⟩ := DataW.trod_struct Try.underlying40 ht
      simp at hl
      obtain ⟨a1, l1, c1, y1, g0, t1⟩ := at_slice Try.underlying37 (by kernel_rfl) (by omega) (hf 0 _ rfl)
      obtain ⟨a2, l2, c2, y2, g1, t2⟩ := at_slice Try.underlying38 (by kernel_rfl) (by omega) (hf 1 _ rfl)
      obtain ⟨p2, g2⟩ := at_int (y := none) (by omega) (hf 2 _ rfl)
      obtain ⟨m1, k1, r1⟩ := files_of t1
      obtain ⟨m2, k2, r2⟩ := ways_of t2
      exact ⟨⟨k1, k2, p2⟩, ⟨.slice a1 l1 c1, .slice a2 l2 c2, p2⟩, (hc 0 (by omega)).trans g0, (hc 1 (by omega)).trans g1, (hc 2 (by omega)).trans g2, rfl, ⟨a1, l1, c1, rfl, r1⟩, ⟨a2, l2, c2, rfl, r2⟩, by rw [r1.1]; exact m1, by rw [r2.1]; exact m2⟩
    obtain ⟨ts, hl, hp⟩ := list_of len key
    exact ⟨ts, hl, .inr ⟨b, off, rfl, hb, hp⟩⟩

theorem list7s {cs : List Value} {a0 a1 a2 a3 a4 a5 a6 : Value} (hl : cs.length = 7) (g0 : cs[0]? = some a0) (g1 : cs[1]? = some a1) (g2 : cs[2]? = some a2) (g3 : cs[3]? = some a3) (g4 : cs[4]? = some a4) (g5 : cs[5]? = some a5) (g6 : cs[6]? = some a6) : cs = [a0, a1, a2, a3, a4, a5, a6] := by
  match cs, hl with
  | [q0, q1, q2, q3, q4, q5, q6], _ =>
    simp at g0 g1 g2 g3 g4 g5 g6
    rw [g0, g1, g2, g3, g4, g5, g6]

end Go.Proofs.Ytjhmjjechagbjaa
