/- Reading a law's argument of type Class. -/
import Derived.Test.YtnejkkaicnbkoaaArgRead
namespace Go.Proofs.Ytnejkkaicnbkoaa
open Go.RowKit Go.ChangeShapes Go.WideShapes
set_option maxHeartbeats 400000
set_option linter.unusedVariables false

theorem traps_of {H : Type} {enc : TypeId × Value → H} {W : World} {fuel : Nat} {ao : Option Addr} {len cap : Nat} {x : DataW H × List MemPlace}
    (h : DataW.trod enc Try.prog W 0 (fun _ => true) true fuel 90 [.slice ao len cap] = some x) : len ≤ maxLen ∧ ∃ ts, ArgTrap W ao len ts := by
  obtain ⟨hm, h0 | ⟨b, off, rfl, hb, hx⟩⟩ := row_of Try.underlying90 (show Try.prog.cellsOf 151 = 4 by kernel_rfl) (by decide) h
  · exact ⟨hm, [], by simp [h0], .inl h0⟩
  · refine ⟨hm, ?_⟩
    have key : ∀ i, i < len → ∃ t : MTrap, W.cell? ⟨b, off + i * 4, none⟩ = some (.int .i64 t.from_) ∧ W.cell? ⟨b, off + i * 4 + 1, none⟩ = some (.int .i64 t.to_) ∧ W.cell? ⟨b, off + i * 4 + 2, none⟩ = some (.int .i64 t.at_) ∧ W.cell? ⟨b, off + i * 4 + 3, none⟩ = some (.int .i64 t.cls) := by
      intro i hi
      obtain ⟨cs, n', y, hc, ht⟩ := hx i hi
      obtain ⟨xs, n2, _, _, _, hl, hf⟩ := DataW.trod_struct Try.underlying151 ht
      simp at hl
      obtain ⟨p0, g0⟩ := at_int (y := none) (by omega) (hf 0 _ rfl)
      obtain ⟨p1, g1⟩ := at_int (y := none) (by omega) (hf 1 _ rfl)
      obtain ⟨p2, g2⟩ := at_int (y := none) (by omega) (hf 2 _ rfl)
      obtain ⟨p3, g3⟩ := at_int (y := none) (by omega) (hf 3 _ rfl)
      exact ⟨⟨p0, p1, p2, p3⟩, (hc 0 (by omega)).trans g0, (hc 1 (by omega)).trans g1, (hc 2 (by omega)).trans g2, (hc 3 (by omega)).trans g3⟩
    obtain ⟨ts, hl, hp⟩ := list_of len key
    exact ⟨ts, hl, .inr ⟨b, off, rfl, hb, hp⟩⟩

theorem fields_of {H : Type} {enc : TypeId × Value → H} {W : World} {fuel : Nat} {ao : Option Addr} {len cap : Nat} {x : DataW H × List MemPlace}
    (h : DataW.trod enc Try.prog W 0 (fun _ => true) true fuel 34 [.slice ao len cap] = some x) : len ≤ maxLen ∧ ∃ ts, ArgField W ao len ts := by
  obtain ⟨hm, h0 | ⟨b, off, rfl, hb, hx⟩⟩ := row_of Try.underlying34 (show Try.prog.cellsOf 98 = 3 by kernel_rfl) (by decide) h
  · exact ⟨hm, [], by simp [h0], .inl h0⟩
  · refine ⟨hm, ?_⟩
    have key : ∀ i, i < len → ∃ t : MField, W.cell? ⟨b, off + i * 3, none⟩ = some (.int .i64 t.flags) ∧ W.cell? ⟨b, off + i * 3 + 1, none⟩ = some (.int .i64 t.name) ∧ W.cell? ⟨b, off + i * 3 + 2, none⟩ = some (.int .i64 t.typ) := by
      intro i hi
      obtain ⟨cs, n', y, hc, ht⟩ := hx i hi
      obtain ⟨xs, n2, _, _, _, hl, hf⟩ := DataW.trod_struct Try.underlying98 ht
      simp at hl
      obtain ⟨p0, g0⟩ := at_int (y := none) (by omega) (hf 0 _ rfl)
      obtain ⟨p1, g1⟩ := at_int (y := none) (by omega) (hf 1 _ rfl)
      obtain ⟨p2, g2⟩ := at_int (y := none) (by omega) (hf 2 _ rfl)
      exact ⟨⟨p0, p1, p2⟩, (hc 0 (by omega)).trans g0, (hc 1 (by omega)).trans g1, (hc 2 (by omega)).trans g2⟩
    obtain ⟨ts, hl, hp⟩ := list_of len key
    exact ⟨ts, hl, .inr ⟨b, off, rfl, hb, hp⟩⟩

theorem ints_of {H : Type} {enc : TypeId × Value → H} {W : World} {fuel : Nat} {ao : Option Addr} {len cap : Nat} {x : DataW H × List MemPlace}
    (h : DataW.trod enc Try.prog W 0 (fun _ => true) true fuel 23 [.slice ao len cap] = some x) : len ≤ maxLen ∧ ∃ ts, ArgI W ao len ts := by
  obtain ⟨hm, h0 | ⟨b, off, rfl, hb, hx⟩⟩ := row_of Try.underlying23 (show Try.prog.cellsOf 3 = 1 by kernel_rfl) (by decide) h
  · exact ⟨hm, [], by simp [h0], .inl h0⟩
  · refine ⟨hm, ?_⟩
    have key : ∀ i, i < len → ∃ t : Int, W.cell? ⟨b, off + i, none⟩ = some (.int .i64 t) := by
      intro i hi
      obtain ⟨cs, n', y, hc, ht⟩ := hx i hi
      obtain ⟨p, q, _, _⟩ := DataW.trod_int Try.underlying3 ht
      have := hc 0 (by omega)
      rw [q] at this
      exact ⟨p, by simpa using this⟩
    obtain ⟨ts, hl, hp⟩ := list_of len key
    exact ⟨ts, hl, .inr ⟨b, off, rfl, hb, hp⟩⟩

theorem consts_of {H : Type} {enc : TypeId × Value → H} {W : World} {fuel : Nat} {ao : Option Addr} {len cap : Nat} {x : DataW H × List MemPlace}
    (h : DataW.trod enc Try.prog W 0 (fun _ => true) true fuel 33 [.slice ao len cap] = some x) : len ≤ maxLen ∧ ∃ ts, ArgC W ao len ts := by
  obtain ⟨hm, h0 | ⟨b, off, rfl, hb, hx⟩⟩ := row_of Try.underlying33 (show Try.prog.cellsOf 88 = 4 by kernel_rfl) (by decide) h
  · exact ⟨hm, [], by simp [h0], fun t ht => by simp at ht, .inl h0⟩
  · refine ⟨hm, ?_⟩
    have key : ∀ i, i < len → ∃ t : C4, (W.cell? ⟨b, off + i * 4, none⟩ = some (.int .i64 t.kind) ∧ W.cell? ⟨b, off + i * 4 + 1, none⟩ = some (.string t.text) ∧ W.cell? ⟨b, off + i * 4 + 2, none⟩ = some (.int .i64 t.a) ∧ W.cell? ⟨b, off + i * 4 + 3, none⟩ = some (.int .i64 t.b)) ∧ t.text.size ≤ maxLen := by
      intro i hi
      obtain ⟨cs, n', y, hc, ht⟩ := hx i hi
      obtain ⟨xs, n2, _, _, _, hl, hf⟩ := DataW.trod_struct Try.underlying88 ht
      simp at hl
      obtain ⟨p0, g0⟩ := at_int (y := none) (by omega) (hf 0 _ rfl)
      obtain ⟨p1, g1, hz⟩ := at_str (by omega) (hf 1 _ rfl)
      obtain ⟨p2, g2⟩ := at_int (y := none) (by omega) (hf 2 _ rfl)
      obtain ⟨p3, g3⟩ := at_int (y := none) (by omega) (hf 3 _ rfl)
      exact ⟨⟨p0, p1, p2, p3⟩, ⟨(hc 0 (by omega)).trans g0, (hc 1 (by omega)).trans g1, (hc 2 (by omega)).trans g2, (hc 3 (by omega)).trans g3⟩, hz⟩
    obtain ⟨ts, hl, hp⟩ := list_of len key
    refine ⟨ts, hl, fun t ht => ?_, .inr ⟨b, off, rfl, hb, fun k hk => (hp k hk).1⟩⟩
    obtain ⟨k, hk, rfl⟩ := List.getElem_of_mem ht
    exact (hp k hk).2

theorem frames_of {H : Type} {enc : TypeId × Value → H} {W : World} {fuel : Nat} {ao : Option Addr} {len cap : Nat} {x : DataW H × List MemPlace}
    (h : DataW.trod enc Try.prog W 0 (fun _ => true) true fuel 91 [.slice ao len cap] = some x) : len ≤ maxLen ∧ ∃ fs, ArgFS W ao len fs := by
  obtain ⟨hm, h0 | ⟨b, off, rfl, hb, hx⟩⟩ := row_of Try.underlying91 (show Try.prog.cellsOf 148 = 3 by kernel_rfl) (by decide) h
  · exact ⟨hm, [], by simp [h0], .inl h0⟩
  · refine ⟨hm, ?_⟩
    have key : ∀ i, i < len → ∃ f : MFrame, ∃ x : SFrame, W.cell? ⟨b, off + i * 3, none⟩ = some (.int .i64 x.at_) ∧ W.cell? ⟨b, off + i * 3 + 1, none⟩ = some x.l ∧ W.cell? ⟨b, off + i * 3 + 2, none⟩ = some x.s ∧ ArgF W x f := by
      intro i hi
      obtain ⟨cs, n', y, hc, ht⟩ := hx i hi
      obtain ⟨xs, n2, _, _, _, hl, hf⟩ := DataW.trod_struct Try.underlying148 ht
      simp at hl
      obtain ⟨p0, g0⟩ := at_int (y := none) (by omega) (hf 0 _ rfl)
      obtain ⟨a1, l1, c1, y1, g1, t1⟩ := at_slice Try.underlying146 (by kernel_rfl) (by omega) (hf 1 _ rfl)
      obtain ⟨a2, l2, c2, y2, g2, t2⟩ := at_slice Try.underlying146 (by kernel_rfl) (by omega) (hf 2 _ rfl)
      obtain ⟨m1, k1, r1⟩ := kinds_of t1
      obtain ⟨m2, k2, r2⟩ := kinds_of t2
      exact ⟨⟨p0, k1, k2⟩, ⟨p0, .slice a1 l1 c1, .slice a2 l2 c2⟩, (hc 0 (by omega)).trans g0, (hc 1 (by omega)).trans g1, (hc 2 (by omega)).trans g2, rfl, ⟨a1, l1, c1, rfl, r1⟩, ⟨a2, l2, c2, rfl, r2⟩, by rw [r1.1]; exact m1, by rw [r2.1]; exact m2⟩
    obtain ⟨ts, hl, hp⟩ := list_of len key
    exact ⟨ts, hl, .inr ⟨b, off, rfl, hb, hp⟩⟩

theorem methods_of {H : Type} {enc : TypeId × Value → H} {W : World} {fuel : Nat} {ao : Option Addr} {len cap : Nat} {x : DataW H × List MemPlace}
    (h : DataW.trod enc Try.prog W 0 (fun _ => true) true fuel 35 [.slice ao len cap] = some x) : len ≤ maxLen ∧ ∃ ms, ArgMS W ao len ms := by
  obtain ⟨hm, h0 | ⟨b, off, rfl, hb, hx⟩⟩ := row_of Try.underlying35 (show Try.prog.cellsOf 93 = 8 by kernel_rfl) (by decide) h
  · exact ⟨hm, [], by simp [h0], .inl h0⟩
  · refine ⟨hm, ?_⟩
    have key : ∀ i, i < len → ∃ m : MMethod, ∃ a l c a' l' c', W.cell? ⟨b, off + i * 8, none⟩ = some (.int .i64 m.flags) ∧ W.cell? ⟨b, off + i * 8 + 1, none⟩ = some (.int .i64 m.name) ∧ W.cell? ⟨b, off + i * 8 + 2, none⟩ = some (.int .i64 m.desc) ∧ W.cell? ⟨b, off + i * 8 + 3, none⟩ = some (.int .i64 m.deep) ∧ W.cell? ⟨b, off + i * 8 + 4, none⟩ = some (.int .i64 m.locals) ∧ W.cell? ⟨b, off + i * 8 + 5, none⟩ = some (.string m.code) ∧ W.cell? ⟨b, off + i * 8 + 6, none⟩ = some (.slice a l c) ∧ W.cell? ⟨b, off + i * 8 + 7, none⟩ = some (.slice a' l' c') ∧ ArgM W a l a' l' m := by
      intro i hi
      obtain ⟨cs, n', y, hc, ht⟩ := hx i hi
      obtain ⟨xs, n2, _, _, _, hl, hf⟩ := DataW.trod_struct Try.underlying93 ht
      simp at hl
      obtain ⟨p0, g0⟩ := at_int (y := none) (by omega) (hf 0 _ rfl)
      obtain ⟨p1, g1⟩ := at_int (y := none) (by omega) (hf 1 _ rfl)
      obtain ⟨p2, g2⟩ := at_int (y := none) (by omega) (hf 2 _ rfl)
      obtain ⟨p3, g3⟩ := at_int (y := none) (by omega) (hf 3 _ rfl)
      obtain ⟨p4, g4⟩ := at_int (y := none) (by omega) (hf 4 _ rfl)
      obtain ⟨p5, g5, hz⟩ := at_str (by omega) (hf 5 _ rfl)
      obtain ⟨a1, l1, c1, y1, g6, t1⟩ := at_slice Try.underlying90 (by kernel_rfl) (by omega) (hf 6 _ rfl)
      obtain ⟨a2, l2, c2, y2, g7, t2⟩ := at_slice Try.underlying91 (by kernel_rfl) (by omega) (hf 7 _ rfl)
      obtain ⟨m1, k1, r1⟩ := traps_of t1
      obtain ⟨m2, k2, r2⟩ := frames_of t2
      exact ⟨⟨p0, p1, p2, p3, p4, p5, k1, k2⟩, a1, l1, c1, a2, l2, c2, (hc 0 (by omega)).trans g0, (hc 1 (by omega)).trans g1, (hc 2 (by omega)).trans g2, (hc 3 (by omega)).trans g3, (hc 4 (by omega)).trans g4, (hc 5 (by omega)).trans g5, (hc 6 (by omega)).trans g6, (hc 7 (by omega)).trans g7, r1, r2, hz, m1, m2⟩
    obtain ⟨ts, hl, hp⟩ := list_of len key
    exact ⟨ts, hl, .inr ⟨b, off, rfl, hb, hp⟩⟩

theorem list7 {cs : List Value} {a0 a1 a2 a3 a4 a5 a6 : Value} (hl : cs.length = 7) (g0 : cs[0]? = some a0) (g1 : cs[1]? = some a1) (g2 : cs[2]? = some a2) (g3 : cs[3]? = some a3) (g4 : cs[4]? = some a4) (g5 : cs[5]? = some a5) (g6 : cs[6]? = some a6) : cs = [a0, a1, a2, a3, a4, a5, a6] := by
  match cs, hl with
  | [q0, q1, q2, q3, q4, q5, q6], _ =>
    simp at g0 g1 g2 g3 g4 g5 g6
    rw [g0, g1, g2, g3, g4, g5, g6]

/-- a class that is handed in reads as one -/
theorem class_of {H : Type} {enc : TypeId × Value → H} {W : World} {fuel : Nat} {cs : List Value} {x : DataW H × List MemPlace}
    (h : DataW.trod enc Try.prog W 0 (fun _ => true) true fuel 37 cs = some x) :
    ∃ (c : MClass) (ap : Option Addr) (lp cp : Nat) (ai : Option Addr) (li ci : Nat) (af : Option Addr) (lf cf : Nat) (am : Option Addr) (lm cm : Nat), cs = [.slice ap lp cp, .int .i64 c.flags, .int .i64 c.name, .int .i64 c.super, .slice ai li ci, .slice af lf cf, .slice am lm cm] ∧ ArgCl W ap lp ai li af lf am lm c := by
  obtain ⟨xs, n2, _, _, hlen, hl, hf⟩ := DataW.trod_struct Try.underlying37 h
  simp at hl
  rw [show Try.prog.cellsOf 37 = 7 by kernel_rfl] at hlen
  obtain ⟨a0, l0, c0, y0, g0, t0⟩ := at_slice Try.underlying33 (by kernel_rfl) (by omega) (hf 0 _ rfl)
  obtain ⟨p1, g1⟩ := at_int (y := none) (by omega) (hf 1 _ rfl)
  obtain ⟨p2, g2⟩ := at_int (y := none) (by omega) (hf 2 _ rfl)
  obtain ⟨p3, g3⟩ := at_int (y := none) (by omega) (hf 3 _ rfl)
  obtain ⟨a4, l4, c4, y4, g4, t4⟩ := at_slice Try.underlying23 (by kernel_rfl) (by omega) (hf 4 _ rfl)
  obtain ⟨a5, l5, c5, y5, g5, t5⟩ := at_slice Try.underlying34 (by kernel_rfl) (by omega) (hf 5 _ rfl)
  obtain ⟨a6, l6, c6, y6, g6, t6⟩ := at_slice Try.underlying35 (by kernel_rfl) (by omega) (hf 6 _ rfl)
  obtain ⟨m0, k0, r0⟩ := consts_of t0
  obtain ⟨m4, k4, r4⟩ := ints_of t4
  obtain ⟨m5, k5, r5⟩ := fields_of t5
  obtain ⟨m6, k6, r6⟩ := methods_of t6
  refine ⟨⟨k0, p1, p2, p3, k4, k5, k6⟩, a0, l0, c0, a4, l4, c4, a5, l5, c5, a6, l6, c6, ?_, r0, r4, r5, r6, m0, m4, m5, m6⟩
  exact list7 hlen g0 g1 g2 g3 g4 g5 g6

end Go.Proofs.Ytnejkkaicnbkoaa
