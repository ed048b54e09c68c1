/- Reading a law's argument of type Start. -/
import Derived.Test.YtckloemgjeagmaaArgRow
import Derived.Test.YtckloemgjeagmaaStBase
namespace Go.Proofs.Ytckloemgjeagmaa
open Go.RowKit Go.ChangeShapes Go.WideShapes
set_option maxHeartbeats 400000
set_option linter.unusedVariables false

theorem at_bool {H : Type} {enc : TypeId × Value → H} {W : World} {n o : Nat} {cs : List Value} {i : Nat} {xs : List (DataW H × List MemPlace)} (hi : i < xs.length)
    (h : DataW.trod enc Try.prog W 0 (fun _ => true) true n 4 ((cs.drop o).take (Try.prog.cellsOf 4)) = xs[i]?) : ∃ p, cs[o]? = some (.bool p) := by
  rw [List.getElem?_eq_getElem hi] at h
  obtain ⟨p, q, _⟩ := DataW.trod_bool Try.underlying4 h
  rw [show Try.prog.cellsOf 4 = 1 by kernel_rfl] at q
  exact ⟨p, by have := congrArg (·[0]?) q; simpa [List.getElem?_take, List.getElem?_drop] using this⟩

theorem files_of {H : Type} {enc : TypeId × Value → H} {W : World} {fuel : Nat} {ao : Option Addr} {len cap : Nat} {x : DataW H × List MemPlace}
    (h : DataW.trod enc Try.prog W 0 (fun _ => true) true fuel 55 [.slice ao len cap] = some x) : len ≤ maxLen ∧ ∃ ts, ArgFile W ao len ts := by
  obtain ⟨hm, h0 | ⟨b, off, rfl, hb, hx⟩⟩ := row_of Try.underlying55 (show Try.prog.cellsOf 97 = 2 by kernel_rfl) (by decide) h
  · exact ⟨hm, [], by simp [h0], fun t ht => by simp at ht, .inl h0⟩
  · refine ⟨hm, ?_⟩
    have key : ∀ i, i < len → ∃ t : MFile, (W.cell? ⟨b, off + i * 2, none⟩ = some (.string t.name) ∧ W.cell? ⟨b, off + i * 2 + 1, none⟩ = some (.string t.text)) ∧ t.name.size ≤ maxLen ∧ t.text.size ≤ maxLen := by
      intro i hi
      obtain ⟨cs, n', y, hc, ht⟩ := hx i hi
      obtain ⟨xs, n2, _, _, _, hl, hf⟩ := DataW.trod_struct Try.underlying97 ht
      simp at hl
      obtain ⟨p0, g0, z0⟩ := at_str (by omega) (hf 0 _ rfl)
      obtain ⟨p1, g1, z1⟩ := at_str (by omega) (hf 1 _ rfl)
      exact ⟨⟨p0, p1⟩, ⟨(hc 0 (by omega)).trans g0, (hc 1 (by omega)).trans g1⟩, z0, z1⟩
    obtain ⟨ts, hl, hp⟩ := list_of len key
    refine ⟨ts, hl, fun t ht => ?_, .inr ⟨b, off, rfl, hb, fun k hk => (hp k hk).1⟩⟩
    obtain ⟨k, hk, rfl⟩ := List.getElem_of_mem ht
    exact (hp k hk).2

theorem ways_of {H : Type} {enc : TypeId × Value → H} {W : World} {fuel : Nat} {ao : Option Addr} {len cap : Nat} {x : DataW H × List MemPlace}
    (h : DataW.trod enc Try.prog W 0 (fun _ => true) true fuel 56 [.slice ao len cap] = some x) : len ≤ maxLen ∧ ∃ ts, ArgWay W ao len ts := by
  obtain ⟨hm, h0 | ⟨b, off, rfl, hb, hx⟩⟩ := row_of Try.underlying56 (show Try.prog.cellsOf 99 = 2 by kernel_rfl) (by decide) h
  · exact ⟨hm, [], by simp [h0], fun t ht => by simp at ht, .inl h0⟩
  · refine ⟨hm, ?_⟩
    have key : ∀ i, i < len → ∃ t : MWay, (W.cell? ⟨b, off + i * 2, none⟩ = some (.string t.name) ∧ W.cell? ⟨b, off + i * 2 + 1, none⟩ = some (.int .i64 t.to_)) ∧ t.name.size ≤ maxLen := by
      intro i hi
      obtain ⟨cs, n', y, hc, ht⟩ := hx i hi
      obtain ⟨xs, n2, _, _, _, hl, hf⟩ := DataW.trod_struct Try.underlying99 ht
      simp at hl
      obtain ⟨p0, g0, z0⟩ := at_str (by omega) (hf 0 _ rfl)
      obtain ⟨p1, g1⟩ := at_int (y := none) (by omega) (hf 1 _ rfl)
      exact ⟨⟨p0, p1⟩, ⟨(hc 0 (by omega)).trans g0, (hc 1 (by omega)).trans g1⟩, z0⟩
    obtain ⟨ts, hl, hp⟩ := list_of len key
    refine ⟨ts, hl, fun t ht => ?_, .inr ⟨b, off, rfl, hb, fun k hk => (hp k hk).1⟩⟩
    obtain ⟨k, hk, rfl⟩ := List.getElem_of_mem ht
    exact (hp k hk).2

theorem picks_of {H : Type} {enc : TypeId × Value → H} {W : World} {fuel : Nat} {ao : Option Addr} {len cap : Nat} {x : DataW H × List MemPlace}
    (h : DataW.trod enc Try.prog W 0 (fun _ => true) true fuel 23 [.slice ao len cap] = some x) : len ≤ maxLen ∧ ∃ ts, ArgPick W ao len ts := by
  obtain ⟨hm, h0 | ⟨b, off, rfl, hb, hx⟩⟩ := row_of Try.underlying23 (show Try.prog.cellsOf 60 = 4 by kernel_rfl) (by decide) h
  · exact ⟨hm, [], by simp [h0], fun t ht => by simp at ht, .inl h0⟩
  · refine ⟨hm, ?_⟩
    have key : ∀ i, i < len → ∃ t : MPick, (W.cell? ⟨b, off + i * 4, none⟩ = some (.int .i64 t.at_) ∧ W.cell? ⟨b, off + i * 4 + 1, none⟩ = some (.int .i64 t.kind) ∧ W.cell? ⟨b, off + i * 4 + 2, none⟩ = some (.int .i64 t.loader) ∧ W.cell? ⟨b, off + i * 4 + 3, none⟩ = some (.string t.name)) ∧ t.name.size ≤ maxLen := by
      intro i hi
      obtain ⟨cs, n', y, hc, ht⟩ := hx i hi
      obtain ⟨xs, n2, _, _, _, hl, hf⟩ := DataW.trod_struct Try.underlying60 ht
      simp at hl
      obtain ⟨p0, g0⟩ := at_int (y := none) (by omega) (hf 0 _ rfl)
      obtain ⟨p1, g1⟩ := at_int (y := none) (by omega) (hf 1 _ rfl)
      obtain ⟨p2, g2⟩ := at_int (y := none) (by omega) (hf 2 _ rfl)
      obtain ⟨p3, g3, z3⟩ := at_str (by omega) (hf 3 _ rfl)
      exact ⟨⟨p0, p1, p2, p3⟩, ⟨(hc 0 (by omega)).trans g0, (hc 1 (by omega)).trans g1, (hc 2 (by omega)).trans g2, (hc 3 (by omega)).trans g3⟩, z3⟩
    obtain ⟨ts, hl, hp⟩ := list_of len key
    refine ⟨ts, hl, fun t ht => ?_, .inr ⟨b, off, rfl, hb, fun k hk => (hp k hk).1⟩⟩
    obtain ⟨k, hk, rfl⟩ := List.getElem_of_mem ht
    exact (hp k hk).2

theorem loaders_of {H : Type} {enc : TypeId × Value → H} {W : World} {fuel : Nat} {ao : Option Addr} {len cap : Nat} {x : DataW H × List MemPlace}
    (h : DataW.trod enc Try.prog W 0 (fun _ => true) true fuel 22 [.slice ao len cap] = some x) : len ≤ maxLen ∧ ∃ fs, ArgLS W ao len fs := by
  obtain ⟨hm, h0 | ⟨b, off, rfl, hb, hx⟩⟩ := row_of Try.underlying22 (show Try.prog.cellsOf 58 = 3 by kernel_rfl) (by decide) h
  · exact ⟨hm, [], by simp [h0], .inl h0⟩
  · refine ⟨hm, ?_⟩
    have key : ∀ i, i < len → ∃ f : MLoader, ∃ x : SLoader, W.cell? ⟨b, off + i * 3, none⟩ = some x.files ∧ W.cell? ⟨b, off + i * 3 + 1, none⟩ = some x.ways ∧ W.cell? ⟨b, off + i * 3 + 2, none⟩ = some (.int .i64 x.parent) ∧ ArgL W x f := by
      intro i hi
      obtain ⟨cs, n', y, hc, ht⟩ := hx i hi
      obtain ⟨xs, n2, _, _, _, hl, hf⟩ := DataW.trod_struct Try.underlying58 ht
      simp at hl
      obtain ⟨a1, l1, c1, y1, g0, t1⟩ := at_slice Try.underlying55 (by kernel_rfl) (by omega) (hf 0 _ rfl)
      obtain ⟨a2, l2, c2, y2, g1, t2⟩ := at_slice Try.underlying56 (by kernel_rfl) (by omega) (hf 1 _ rfl)
      obtain ⟨p2, g2⟩ := at_int (y := none) (by omega) (hf 2 _ rfl)
      obtain ⟨m1, k1, r1⟩ := files_of t1
      obtain ⟨m2, k2, r2⟩ := ways_of t2
      exact ⟨⟨k1, k2, p2⟩, ⟨.slice a1 l1 c1, .slice a2 l2 c2, p2⟩, (hc 0 (by omega)).trans g0, (hc 1 (by omega)).trans g1, (hc 2 (by omega)).trans g2, rfl, ⟨a1, l1, c1, rfl, r1⟩, ⟨a2, l2, c2, rfl, r2⟩, by rw [r1.1]; exact m1, by rw [r2.1]; exact m2⟩
    obtain ⟨ts, hl, hp⟩ := list_of len key
    exact ⟨ts, hl, .inr ⟨b, off, rfl, hb, hp⟩⟩

theorem list7s {cs : List Value} {a0 a1 a2 a3 a4 a5 a6 : Value} (hl : cs.length = 7) (g0 : cs[0]? = some a0) (g1 : cs[1]? = some a1) (g2 : cs[2]? = some a2) (g3 : cs[3]? = some a3) (g4 : cs[4]? = some a4) (g5 : cs[5]? = some a5) (g6 : cs[6]? = some a6) : cs = [a0, a1, a2, a3, a4, a5, a6] := by
  match cs, hl with
  | [q0, q1, q2, q3, q4, q5, q6], _ =>
    simp at g0 g1 g2 g3 g4 g5 g6
    rw [g0, g1, g2, g3, g4, g5, g6]

/-- a start that is handed in reads as one -/
theorem start_of {H : Type} {enc : TypeId × Value → H} {W : World} {fuel : Nat} {cs : List Value} {x : DataW H × List MemPlace}
    (h : DataW.trod enc Try.prog W 0 (fun _ => true) true fuel 25 cs = some x) :
    ∃ (s : MStart) (al : Option Addr) (ll cl : Nat) (ap : Option Addr) (lp cp : Nat), cs = [.slice al ll cl, .int .i64 s.loader, .string s.name, .int .i64 s.fuel, .int .i64 s.room, .bool s.prove, .slice ap lp cp] ∧ ArgS W al ll ap lp s := by
  obtain ⟨xs, n2, _, _, hlen, hl, hf⟩ := DataW.trod_struct Try.underlying25 h
  simp at hl
  rw [show Try.prog.cellsOf 25 = 7 by kernel_rfl] at hlen
  obtain ⟨a0, l0, c0, y0, g0, t0⟩ := at_slice Try.underlying22 (by kernel_rfl) (by omega) (hf 0 _ rfl)
  obtain ⟨p1, g1⟩ := at_int (y := none) (by omega) (hf 1 _ rfl)
  obtain ⟨p2, g2, z2⟩ := at_str (by omega) (hf 2 _ rfl)
  obtain ⟨p3, g3⟩ := at_int (y := none) (by omega) (hf 3 _ rfl)
  obtain ⟨p4, g4⟩ := at_int (y := none) (by omega) (hf 4 _ rfl)
  obtain ⟨p5, g5⟩ := at_bool (by omega) (hf 5 _ rfl)
  obtain ⟨a6, l6, c6, y6, g6, t6⟩ := at_slice Try.underlying23 (by kernel_rfl) (by omega) (hf 6 _ rfl)
  obtain ⟨m0, k0, r0⟩ := loaders_of t0
  obtain ⟨m6, k6, r6⟩ := picks_of t6
  exact ⟨⟨k0, p1, p2, p3, p4, p5, k6⟩, a0, l0, c0, a6, l6, c6, list7s hlen g0 g1 g2 g3 g4 g5 g6, r0, r6, m0, m6, z2⟩

end Go.Proofs.Ytckloemgjeagmaa
