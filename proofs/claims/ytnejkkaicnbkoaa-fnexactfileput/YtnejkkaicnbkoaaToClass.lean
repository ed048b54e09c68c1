/- Contracts of the law's own helpers on classes: toClass. -/
import Derived.Test.YtnejkkaicnbkoaaRowClass
namespace Go.Proofs.Ytnejkkaicnbkoaa
open Go.RowKit
set_option maxHeartbeats 2000000
set_option linter.unusedVariables false

theorem toClass_any (c : MClass) (ap : Option Addr) (lp cp : Nat) (ai : Option Addr) (li ci : Nat) (af : Option Addr) (lf cf : Nat) (am : Option Addr) (lm cm : Nat) (w : World) (hA : ArgCl w ap lp ai li af lf am lm c) (hc : c.few) :
    Calls Try.prog 12 #[.agg #[.slice ap lp cp, .int .i64 c.flags, .int .i64 c.name, .int .i64 c.super, .slice ai li ci, .slice af lf cf, .slice am lm cm]] w fun e w' => ∃ vp vi vf vm, e = .returned (.agg #[vp, .int .i64 c.flags, .int .i64 c.name, .int .i64 c.super, vi, vf, vm]) ∧ ClassW w' w.heap.size vp vi vf vm c ∧ Below w.heap.size w w' := by
  have HA := (show Hid (ArgCl w ap lp ai li af lf am lm c) from hA)
  have HC := (show Hid (c.few) from hc)
  have e1 := hA.p.1
  have e2 := hA.i.1
  have e3 := hA.f.1
  have e4 := hA.m.1
  have c1 := hc.pool
  have c2 := hc.faces
  have c3 := hc.fields
  have c4 := hc.methods
  have hP := fun W hW => toConstS_any ap lp cp c.pool W (by omega) hW
  have hI := fun W hW => toIntS_any ai li ci c.faces W (by omega) hW
  have hF := fun W hW => toFieldS_any af lf cf c.fields W (by omega) hW
  have hM := fun W hW => toMethodS_any am lm cm c.methods W (by omega) hW HC.out.each
  clear hA hc c1 c2 c3 c4
  go_enter Try.func12, Try.ntmps12
  go_wp2_with fail
  refine (hP _ (HA.out.p.keep (by go_grown))).mono ?_
  rintro e w1 ⟨v1, rfl, ho1, hb1⟩
  have z1 : w.heap.size + 1 + 1 + 1 ≤ w1.heap.size := by have := hb1.size; simpa using this
  have p0_1 : w1.cell? ⟨w.heap.size, 1, none⟩ = some (.int .i64 c.flags) := (hb1.cell (p := ⟨w.heap.size, 1, none⟩) (by simp; omega)).trans (by go_cell)
  have p0_2 : w1.cell? ⟨w.heap.size, 2, none⟩ = some (.int .i64 c.name) := (hb1.cell (p := ⟨w.heap.size, 2, none⟩) (by simp; omega)).trans (by go_cell)
  have p0_3 : w1.cell? ⟨w.heap.size, 3, none⟩ = some (.int .i64 c.super) := (hb1.cell (p := ⟨w.heap.size, 3, none⟩) (by simp; omega)).trans (by go_cell)
  have p0_4 : w1.cell? ⟨w.heap.size, 4, none⟩ = some (Value.slice ai li ci) := (hb1.cell (p := ⟨w.heap.size, 4, none⟩) (by simp; omega)).trans (by go_cell)
  have p0_5 : w1.cell? ⟨w.heap.size, 5, none⟩ = some (Value.slice af lf cf) := (hb1.cell (p := ⟨w.heap.size, 5, none⟩) (by simp; omega)).trans (by go_cell)
  have p0_6 : w1.cell? ⟨w.heap.size, 6, none⟩ = some (Value.slice am lm cm) := (hb1.cell (p := ⟨w.heap.size, 6, none⟩) (by simp; omega)).trans (by go_cell)
  have r0_0 : w1.cell? ⟨w.heap.size + 1, 0, none⟩ = some (Value.slice none 0 0) := (hb1.cell (p := ⟨w.heap.size + 1, 0, none⟩) (by simp)).trans (by go_cell)
  have s0_0 : w1.frozen? ⟨w.heap.size + 1, 0, none⟩ = false := (hb1.frozen (p := ⟨w.heap.size + 1, 0, none⟩) (by simp)).trans (by go_cell)
  have r0_1 : w1.cell? ⟨w.heap.size + 1, 1, none⟩ = some (.int .i64 0) := (hb1.cell (p := ⟨w.heap.size + 1, 1, none⟩) (by simp)).trans (by go_cell)
  have s0_1 : w1.frozen? ⟨w.heap.size + 1, 1, none⟩ = false := (hb1.frozen (p := ⟨w.heap.size + 1, 1, none⟩) (by simp)).trans (by go_cell)
  have r0_2 : w1.cell? ⟨w.heap.size + 1, 2, none⟩ = some (.int .i64 0) := (hb1.cell (p := ⟨w.heap.size + 1, 2, none⟩) (by simp)).trans (by go_cell)
  have s0_2 : w1.frozen? ⟨w.heap.size + 1, 2, none⟩ = false := (hb1.frozen (p := ⟨w.heap.size + 1, 2, none⟩) (by simp)).trans (by go_cell)
  have r0_3 : w1.cell? ⟨w.heap.size + 1, 3, none⟩ = some (.int .i64 0) := (hb1.cell (p := ⟨w.heap.size + 1, 3, none⟩) (by simp)).trans (by go_cell)
  have s0_3 : w1.frozen? ⟨w.heap.size + 1, 3, none⟩ = false := (hb1.frozen (p := ⟨w.heap.size + 1, 3, none⟩) (by simp)).trans (by go_cell)
  have r0_4 : w1.cell? ⟨w.heap.size + 1, 4, none⟩ = some (Value.slice none 0 0) := (hb1.cell (p := ⟨w.heap.size + 1, 4, none⟩) (by simp)).trans (by go_cell)
  have s0_4 : w1.frozen? ⟨w.heap.size + 1, 4, none⟩ = false := (hb1.frozen (p := ⟨w.heap.size + 1, 4, none⟩) (by simp)).trans (by go_cell)
  have r0_5 : w1.cell? ⟨w.heap.size + 1, 5, none⟩ = some (Value.slice none 0 0) := (hb1.cell (p := ⟨w.heap.size + 1, 5, none⟩) (by simp)).trans (by go_cell)
  have s0_5 : w1.frozen? ⟨w.heap.size + 1, 5, none⟩ = false := (hb1.frozen (p := ⟨w.heap.size + 1, 5, none⟩) (by simp)).trans (by go_cell)
  have r0_6 : w1.cell? ⟨w.heap.size + 1, 6, none⟩ = some (Value.slice none 0 0) := (hb1.cell (p := ⟨w.heap.size + 1, 6, none⟩) (by simp)).trans (by go_cell)
  have s0_6 : w1.frozen? ⟨w.heap.size + 1, 6, none⟩ = false := (hb1.frozen (p := ⟨w.heap.size + 1, 6, none⟩) (by simp)).trans (by go_cell)
  have x0_0 : w1.cell? ⟨w.heap.size + 1 + 1, 0, none⟩ = some (Value.slice none 0 0) := (hb1.cell (p := ⟨w.heap.size + 1 + 1, 0, none⟩) (by simp)).trans (by go_cell)
  have y0_0 : w1.frozen? ⟨w.heap.size + 1 + 1, 0, none⟩ = false := (hb1.frozen (p := ⟨w.heap.size + 1 + 1, 0, none⟩) (by simp)).trans (by go_cell)
  have x0_1 : w1.cell? ⟨w.heap.size + 1 + 1, 1, none⟩ = some (.int .i64 0) := (hb1.cell (p := ⟨w.heap.size + 1 + 1, 1, none⟩) (by simp)).trans (by go_cell)
  have y0_1 : w1.frozen? ⟨w.heap.size + 1 + 1, 1, none⟩ = false := (hb1.frozen (p := ⟨w.heap.size + 1 + 1, 1, none⟩) (by simp)).trans (by go_cell)
  have x0_2 : w1.cell? ⟨w.heap.size + 1 + 1, 2, none⟩ = some (.int .i64 0) := (hb1.cell (p := ⟨w.heap.size + 1 + 1, 2, none⟩) (by simp)).trans (by go_cell)
  have y0_2 : w1.frozen? ⟨w.heap.size + 1 + 1, 2, none⟩ = false := (hb1.frozen (p := ⟨w.heap.size + 1 + 1, 2, none⟩) (by simp)).trans (by go_cell)
  have x0_3 : w1.cell? ⟨w.heap.size + 1 + 1, 3, none⟩ = some (.int .i64 0) := (hb1.cell (p := ⟨w.heap.size + 1 + 1, 3, none⟩) (by simp)).trans (by go_cell)
  have y0_3 : w1.frozen? ⟨w.heap.size + 1 + 1, 3, none⟩ = false := (hb1.frozen (p := ⟨w.heap.size + 1 + 1, 3, none⟩) (by simp)).trans (by go_cell)
  have x0_4 : w1.cell? ⟨w.heap.size + 1 + 1, 4, none⟩ = some (Value.slice none 0 0) := (hb1.cell (p := ⟨w.heap.size + 1 + 1, 4, none⟩) (by simp)).trans (by go_cell)
  have y0_4 : w1.frozen? ⟨w.heap.size + 1 + 1, 4, none⟩ = false := (hb1.frozen (p := ⟨w.heap.size + 1 + 1, 4, none⟩) (by simp)).trans (by go_cell)
  have x0_5 : w1.cell? ⟨w.heap.size + 1 + 1, 5, none⟩ = some (Value.slice none 0 0) := (hb1.cell (p := ⟨w.heap.size + 1 + 1, 5, none⟩) (by simp)).trans (by go_cell)
  have y0_5 : w1.frozen? ⟨w.heap.size + 1 + 1, 5, none⟩ = false := (hb1.frozen (p := ⟨w.heap.size + 1 + 1, 5, none⟩) (by simp)).trans (by go_cell)
  have x0_6 : w1.cell? ⟨w.heap.size + 1 + 1, 6, none⟩ = some (Value.slice none 0 0) := (hb1.cell (p := ⟨w.heap.size + 1 + 1, 6, none⟩) (by simp)).trans (by go_cell)
  have y0_6 : w1.frozen? ⟨w.heap.size + 1 + 1, 6, none⟩ = false := (hb1.frozen (p := ⟨w.heap.size + 1 + 1, 6, none⟩) (by simp)).trans (by go_cell)
  obtain ⟨a1, k1, rfl⟩ := own_len ho1
  have HO1_1 : Hid (w1.ownsRow (w.heap.size + 1 + 1 + 1) 75 4 (Value.slice a1 c.pool.length k1) c.pool.length (cellsC c.pool)) := by unfold Hid; simpa using ho1
  have HB1 : Hid (Below w.heap.size w w1) := (by go_grown : Below w.heap.size w _).trans (hb1.mono (by simp; omega))
  clear ho1 hb1
  go_wp2_with fail
  refine (hI _ (HA.out.i.keep ((((HB1.out.setCell (by simp; omega) _).setCell (by simp; omega) _).setCell (by simp; omega) _).setCell (by simp; omega) _))).mono ?_
  rintro e w2 ⟨v2, rfl, ho2, hb2⟩
  have z2 : w1.heap.size ≤ w2.heap.size := by have := hb2.size; simpa using this
  have p1_5 : w2.cell? ⟨w.heap.size, 5, none⟩ = some (Value.slice af lf cf) := (hb2.cell (p := ⟨w.heap.size, 5, none⟩) (by simp; omega)).trans (by go_cell)
  have p1_6 : w2.cell? ⟨w.heap.size, 6, none⟩ = some (Value.slice am lm cm) := (hb2.cell (p := ⟨w.heap.size, 6, none⟩) (by simp; omega)).trans (by go_cell)
  have r1_0 : w2.cell? ⟨w.heap.size + 1, 0, none⟩ = some (Value.slice none 0 0) := (hb2.cell (p := ⟨w.heap.size + 1, 0, none⟩) (by simp; omega)).trans (by go_cell)
  have s1_0 : w2.frozen? ⟨w.heap.size + 1, 0, none⟩ = false := (hb2.frozen (p := ⟨w.heap.size + 1, 0, none⟩) (by simp; omega)).trans (by go_cell)
  have r1_1 : w2.cell? ⟨w.heap.size + 1, 1, none⟩ = some (.int .i64 0) := (hb2.cell (p := ⟨w.heap.size + 1, 1, none⟩) (by simp; omega)).trans (by go_cell)
  have s1_1 : w2.frozen? ⟨w.heap.size + 1, 1, none⟩ = false := (hb2.frozen (p := ⟨w.heap.size + 1, 1, none⟩) (by simp; omega)).trans (by go_cell)
  have r1_2 : w2.cell? ⟨w.heap.size + 1, 2, none⟩ = some (.int .i64 0) := (hb2.cell (p := ⟨w.heap.size + 1, 2, none⟩) (by simp; omega)).trans (by go_cell)
  have s1_2 : w2.frozen? ⟨w.heap.size + 1, 2, none⟩ = false := (hb2.frozen (p := ⟨w.heap.size + 1, 2, none⟩) (by simp; omega)).trans (by go_cell)
  have r1_3 : w2.cell? ⟨w.heap.size + 1, 3, none⟩ = some (.int .i64 0) := (hb2.cell (p := ⟨w.heap.size + 1, 3, none⟩) (by simp; omega)).trans (by go_cell)
  have s1_3 : w2.frozen? ⟨w.heap.size + 1, 3, none⟩ = false := (hb2.frozen (p := ⟨w.heap.size + 1, 3, none⟩) (by simp; omega)).trans (by go_cell)
  have r1_4 : w2.cell? ⟨w.heap.size + 1, 4, none⟩ = some (Value.slice none 0 0) := (hb2.cell (p := ⟨w.heap.size + 1, 4, none⟩) (by simp; omega)).trans (by go_cell)
  have s1_4 : w2.frozen? ⟨w.heap.size + 1, 4, none⟩ = false := (hb2.frozen (p := ⟨w.heap.size + 1, 4, none⟩) (by simp; omega)).trans (by go_cell)
  have r1_5 : w2.cell? ⟨w.heap.size + 1, 5, none⟩ = some (Value.slice none 0 0) := (hb2.cell (p := ⟨w.heap.size + 1, 5, none⟩) (by simp; omega)).trans (by go_cell)
  have s1_5 : w2.frozen? ⟨w.heap.size + 1, 5, none⟩ = false := (hb2.frozen (p := ⟨w.heap.size + 1, 5, none⟩) (by simp; omega)).trans (by go_cell)
  have r1_6 : w2.cell? ⟨w.heap.size + 1, 6, none⟩ = some (Value.slice none 0 0) := (hb2.cell (p := ⟨w.heap.size + 1, 6, none⟩) (by simp; omega)).trans (by go_cell)
  have s1_6 : w2.frozen? ⟨w.heap.size + 1, 6, none⟩ = false := (hb2.frozen (p := ⟨w.heap.size + 1, 6, none⟩) (by simp; omega)).trans (by go_cell)
  have x1_0 : w2.cell? ⟨w.heap.size + 1 + 1, 0, none⟩ = some (Value.slice a1 c.pool.length k1) := (hb2.cell (p := ⟨w.heap.size + 1 + 1, 0, none⟩) (by simp; omega)).trans (by go_cell)
  have y1_0 : w2.frozen? ⟨w.heap.size + 1 + 1, 0, none⟩ = false := (hb2.frozen (p := ⟨w.heap.size + 1 + 1, 0, none⟩) (by simp; omega)).trans (by go_cell)
  have x1_1 : w2.cell? ⟨w.heap.size + 1 + 1, 1, none⟩ = some (.int .i64 c.flags) := (hb2.cell (p := ⟨w.heap.size + 1 + 1, 1, none⟩) (by simp; omega)).trans (by go_cell)
  have y1_1 : w2.frozen? ⟨w.heap.size + 1 + 1, 1, none⟩ = false := (hb2.frozen (p := ⟨w.heap.size + 1 + 1, 1, none⟩) (by simp; omega)).trans (by go_cell)
  have x1_2 : w2.cell? ⟨w.heap.size + 1 + 1, 2, none⟩ = some (.int .i64 c.name) := (hb2.cell (p := ⟨w.heap.size + 1 + 1, 2, none⟩) (by simp; omega)).trans (by go_cell)
  have y1_2 : w2.frozen? ⟨w.heap.size + 1 + 1, 2, none⟩ = false := (hb2.frozen (p := ⟨w.heap.size + 1 + 1, 2, none⟩) (by simp; omega)).trans (by go_cell)
  have x1_3 : w2.cell? ⟨w.heap.size + 1 + 1, 3, none⟩ = some (.int .i64 c.super) := (hb2.cell (p := ⟨w.heap.size + 1 + 1, 3, none⟩) (by simp; omega)).trans (by go_cell)
  have y1_3 : w2.frozen? ⟨w.heap.size + 1 + 1, 3, none⟩ = false := (hb2.frozen (p := ⟨w.heap.size + 1 + 1, 3, none⟩) (by simp; omega)).trans (by go_cell)
  have x1_4 : w2.cell? ⟨w.heap.size + 1 + 1, 4, none⟩ = some (Value.slice none 0 0) := (hb2.cell (p := ⟨w.heap.size + 1 + 1, 4, none⟩) (by simp; omega)).trans (by go_cell)
  have y1_4 : w2.frozen? ⟨w.heap.size + 1 + 1, 4, none⟩ = false := (hb2.frozen (p := ⟨w.heap.size + 1 + 1, 4, none⟩) (by simp; omega)).trans (by go_cell)
  have x1_5 : w2.cell? ⟨w.heap.size + 1 + 1, 5, none⟩ = some (Value.slice none 0 0) := (hb2.cell (p := ⟨w.heap.size + 1 + 1, 5, none⟩) (by simp; omega)).trans (by go_cell)
  have y1_5 : w2.frozen? ⟨w.heap.size + 1 + 1, 5, none⟩ = false := (hb2.frozen (p := ⟨w.heap.size + 1 + 1, 5, none⟩) (by simp; omega)).trans (by go_cell)
  have x1_6 : w2.cell? ⟨w.heap.size + 1 + 1, 6, none⟩ = some (Value.slice none 0 0) := (hb2.cell (p := ⟨w.heap.size + 1 + 1, 6, none⟩) (by simp; omega)).trans (by go_cell)
  have y1_6 : w2.frozen? ⟨w.heap.size + 1 + 1, 6, none⟩ = false := (hb2.frozen (p := ⟨w.heap.size + 1 + 1, 6, none⟩) (by simp; omega)).trans (by go_cell)
  obtain ⟨a2, k2, rfl⟩ := own_len ho2
  have HO2_2 : Hid (w2.ownsRow (w.heap.size + 1 + 1 + 1) 3 1 (Value.slice a2 c.faces.length k2) c.faces.length (rowI c.faces)) := Joins.ownsRow_le ho2 (by have := z1; simp; omega)
  have HO1_2 : Hid (w2.ownsRow (w.heap.size + 1 + 1 + 1) 75 4 (Value.slice a1 c.pool.length k1) c.pool.length (cellsC c.pool)) := own_below (ownsRow_setCell_below (ownsRow_setCell_below (ownsRow_setCell_below (ownsRow_setCell_below HO1_1.out (by simp) _) (by simp) _) (by simp) _) (by simp) _) hb2
  have HB2 : Hid (Below w.heap.size w w2) := ((((HB1.out.setCell (by simp; omega) _).setCell (by simp; omega) _).setCell (by simp; omega) _).setCell (by simp; omega) _).trans (hb2.mono (by simp; omega))
  clear ho2 hb2 p0_1 p0_2 p0_3 p0_4 p0_5 p0_6 r0_0 s0_0 r0_1 s0_1 r0_2 s0_2 r0_3 s0_3 r0_4 s0_4 r0_5 s0_5 r0_6 s0_6 x0_0 y0_0 x0_1 y0_1 x0_2 y0_2 x0_3 y0_3 x0_4 y0_4 x0_5 y0_5 x0_6 y0_6 HB1 HO1_1
  go_wp2_with fail
  refine (hF _ (HA.out.f.keep (HB2.out.setCell (by simp; omega) _))).mono ?_
  rintro e w3 ⟨v3, rfl, ho3, hb3⟩
  have z3 : w2.heap.size ≤ w3.heap.size := by have := hb3.size; simpa using this
  have p2_6 : w3.cell? ⟨w.heap.size, 6, none⟩ = some (Value.slice am lm cm) := (hb3.cell (p := ⟨w.heap.size, 6, none⟩) (by simp; omega)).trans (by go_cell)
  have r2_0 : w3.cell? ⟨w.heap.size + 1, 0, none⟩ = some (Value.slice none 0 0) := (hb3.cell (p := ⟨w.heap.size + 1, 0, none⟩) (by simp; omega)).trans (by go_cell)
  have s2_0 : w3.frozen? ⟨w.heap.size + 1, 0, none⟩ = false := (hb3.frozen (p := ⟨w.heap.size + 1, 0, none⟩) (by simp; omega)).trans (by go_cell)
  have r2_1 : w3.cell? ⟨w.heap.size + 1, 1, none⟩ = some (.int .i64 0) := (hb3.cell (p := ⟨w.heap.size + 1, 1, none⟩) (by simp; omega)).trans (by go_cell)
  have s2_1 : w3.frozen? ⟨w.heap.size + 1, 1, none⟩ = false := (hb3.frozen (p := ⟨w.heap.size + 1, 1, none⟩) (by simp; omega)).trans (by go_cell)
  have r2_2 : w3.cell? ⟨w.heap.size + 1, 2, none⟩ = some (.int .i64 0) := (hb3.cell (p := ⟨w.heap.size + 1, 2, none⟩) (by simp; omega)).trans (by go_cell)
  have s2_2 : w3.frozen? ⟨w.heap.size + 1, 2, none⟩ = false := (hb3.frozen (p := ⟨w.heap.size + 1, 2, none⟩) (by simp; omega)).trans (by go_cell)
  have r2_3 : w3.cell? ⟨w.heap.size + 1, 3, none⟩ = some (.int .i64 0) := (hb3.cell (p := ⟨w.heap.size + 1, 3, none⟩) (by simp; omega)).trans (by go_cell)
  have s2_3 : w3.frozen? ⟨w.heap.size + 1, 3, none⟩ = false := (hb3.frozen (p := ⟨w.heap.size + 1, 3, none⟩) (by simp; omega)).trans (by go_cell)
  have r2_4 : w3.cell? ⟨w.heap.size + 1, 4, none⟩ = some (Value.slice none 0 0) := (hb3.cell (p := ⟨w.heap.size + 1, 4, none⟩) (by simp; omega)).trans (by go_cell)
  have s2_4 : w3.frozen? ⟨w.heap.size + 1, 4, none⟩ = false := (hb3.frozen (p := ⟨w.heap.size + 1, 4, none⟩) (by simp; omega)).trans (by go_cell)
  have r2_5 : w3.cell? ⟨w.heap.size + 1, 5, none⟩ = some (Value.slice none 0 0) := (hb3.cell (p := ⟨w.heap.size + 1, 5, none⟩) (by simp; omega)).trans (by go_cell)
  have s2_5 : w3.frozen? ⟨w.heap.size + 1, 5, none⟩ = false := (hb3.frozen (p := ⟨w.heap.size + 1, 5, none⟩) (by simp; omega)).trans (by go_cell)
  have r2_6 : w3.cell? ⟨w.heap.size + 1, 6, none⟩ = some (Value.slice none 0 0) := (hb3.cell (p := ⟨w.heap.size + 1, 6, none⟩) (by simp; omega)).trans (by go_cell)
  have s2_6 : w3.frozen? ⟨w.heap.size + 1, 6, none⟩ = false := (hb3.frozen (p := ⟨w.heap.size + 1, 6, none⟩) (by simp; omega)).trans (by go_cell)
  have x2_0 : w3.cell? ⟨w.heap.size + 1 + 1, 0, none⟩ = some (Value.slice a1 c.pool.length k1) := (hb3.cell (p := ⟨w.heap.size + 1 + 1, 0, none⟩) (by simp; omega)).trans (by go_cell)
  have y2_0 : w3.frozen? ⟨w.heap.size + 1 + 1, 0, none⟩ = false := (hb3.frozen (p := ⟨w.heap.size + 1 + 1, 0, none⟩) (by simp; omega)).trans (by go_cell)
  have x2_1 : w3.cell? ⟨w.heap.size + 1 + 1, 1, none⟩ = some (.int .i64 c.flags) := (hb3.cell (p := ⟨w.heap.size + 1 + 1, 1, none⟩) (by simp; omega)).trans (by go_cell)
  have y2_1 : w3.frozen? ⟨w.heap.size + 1 + 1, 1, none⟩ = false := (hb3.frozen (p := ⟨w.heap.size + 1 + 1, 1, none⟩) (by simp; omega)).trans (by go_cell)
  have x2_2 : w3.cell? ⟨w.heap.size + 1 + 1, 2, none⟩ = some (.int .i64 c.name) := (hb3.cell (p := ⟨w.heap.size + 1 + 1, 2, none⟩) (by simp; omega)).trans (by go_cell)
  have y2_2 : w3.frozen? ⟨w.heap.size + 1 + 1, 2, none⟩ = false := (hb3.frozen (p := ⟨w.heap.size + 1 + 1, 2, none⟩) (by simp; omega)).trans (by go_cell)
  have x2_3 : w3.cell? ⟨w.heap.size + 1 + 1, 3, none⟩ = some (.int .i64 c.super) := (hb3.cell (p := ⟨w.heap.size + 1 + 1, 3, none⟩) (by simp; omega)).trans (by go_cell)
  have y2_3 : w3.frozen? ⟨w.heap.size + 1 + 1, 3, none⟩ = false := (hb3.frozen (p := ⟨w.heap.size + 1 + 1, 3, none⟩) (by simp; omega)).trans (by go_cell)
  have x2_4 : w3.cell? ⟨w.heap.size + 1 + 1, 4, none⟩ = some (Value.slice a2 c.faces.length k2) := (hb3.cell (p := ⟨w.heap.size + 1 + 1, 4, none⟩) (by simp; omega)).trans (by go_cell)
  have y2_4 : w3.frozen? ⟨w.heap.size + 1 + 1, 4, none⟩ = false := (hb3.frozen (p := ⟨w.heap.size + 1 + 1, 4, none⟩) (by simp; omega)).trans (by go_cell)
  have x2_5 : w3.cell? ⟨w.heap.size + 1 + 1, 5, none⟩ = some (Value.slice none 0 0) := (hb3.cell (p := ⟨w.heap.size + 1 + 1, 5, none⟩) (by simp; omega)).trans (by go_cell)
  have y2_5 : w3.frozen? ⟨w.heap.size + 1 + 1, 5, none⟩ = false := (hb3.frozen (p := ⟨w.heap.size + 1 + 1, 5, none⟩) (by simp; omega)).trans (by go_cell)
  have x2_6 : w3.cell? ⟨w.heap.size + 1 + 1, 6, none⟩ = some (Value.slice none 0 0) := (hb3.cell (p := ⟨w.heap.size + 1 + 1, 6, none⟩) (by simp; omega)).trans (by go_cell)
  have y2_6 : w3.frozen? ⟨w.heap.size + 1 + 1, 6, none⟩ = false := (hb3.frozen (p := ⟨w.heap.size + 1 + 1, 6, none⟩) (by simp; omega)).trans (by go_cell)
  obtain ⟨a3, k3, rfl⟩ := own_len ho3
  have HO3_3 : Hid (w3.ownsRow (w.heap.size + 1 + 1 + 1) 78 3 (Value.slice a3 c.fields.length k3) c.fields.length (rowField c.fields)) := Joins.ownsRow_le ho3 (by have := z1; have := z2; simp; omega)
  have HO1_3 : Hid (w3.ownsRow (w.heap.size + 1 + 1 + 1) 75 4 (Value.slice a1 c.pool.length k1) c.pool.length (cellsC c.pool)) := own_below (ownsRow_setCell_below HO1_2.out (by simp) _) hb3
  have HO2_3 : Hid (w3.ownsRow (w.heap.size + 1 + 1 + 1) 3 1 (Value.slice a2 c.faces.length k2) c.faces.length (rowI c.faces)) := own_below (ownsRow_setCell_below HO2_2.out (by simp) _) hb3
  have HB3 : Hid (Below w.heap.size w w3) := (HB2.out.setCell (by simp; omega) _).trans (hb3.mono (by simp; omega))
  clear ho3 hb3 p1_5 p1_6 r1_0 s1_0 r1_1 s1_1 r1_2 s1_2 r1_3 s1_3 r1_4 s1_4 r1_5 s1_5 r1_6 s1_6 x1_0 y1_0 x1_1 y1_1 x1_2 y1_2 x1_3 y1_3 x1_4 y1_4 x1_5 y1_5 x1_6 y1_6 HB2 HO1_2 HO2_2
  go_wp2_with fail
  refine (hM _ (HA.out.m.keep (HB3.out.setCell (by simp; omega) _))).mono ?_
  rintro e w4 ⟨v4, rfl, ho4, hb4⟩
  have z4 : w3.heap.size ≤ w4.heap.size := by have := hb4.size; simpa using this
  have r3_0 : w4.cell? ⟨w.heap.size + 1, 0, none⟩ = some (Value.slice none 0 0) := (hb4.cell (p := ⟨w.heap.size + 1, 0, none⟩) (by simp; omega)).trans (by go_cell)
  have s3_0 : w4.frozen? ⟨w.heap.size + 1, 0, none⟩ = false := (hb4.frozen (p := ⟨w.heap.size + 1, 0, none⟩) (by simp; omega)).trans (by go_cell)
  have r3_1 : w4.cell? ⟨w.heap.size + 1, 1, none⟩ = some (.int .i64 0) := (hb4.cell (p := ⟨w.heap.size + 1, 1, none⟩) (by simp; omega)).trans (by go_cell)
  have s3_1 : w4.frozen? ⟨w.heap.size + 1, 1, none⟩ = false := (hb4.frozen (p := ⟨w.heap.size + 1, 1, none⟩) (by simp; omega)).trans (by go_cell)
  have r3_2 : w4.cell? ⟨w.heap.size + 1, 2, none⟩ = some (.int .i64 0) := (hb4.cell (p := ⟨w.heap.size + 1, 2, none⟩) (by simp; omega)).trans (by go_cell)
  have s3_2 : w4.frozen? ⟨w.heap.size + 1, 2, none⟩ = false := (hb4.frozen (p := ⟨w.heap.size + 1, 2, none⟩) (by simp; omega)).trans (by go_cell)
  have r3_3 : w4.cell? ⟨w.heap.size + 1, 3, none⟩ = some (.int .i64 0) := (hb4.cell (p := ⟨w.heap.size + 1, 3, none⟩) (by simp; omega)).trans (by go_cell)
  have s3_3 : w4.frozen? ⟨w.heap.size + 1, 3, none⟩ = false := (hb4.frozen (p := ⟨w.heap.size + 1, 3, none⟩) (by simp; omega)).trans (by go_cell)
  have r3_4 : w4.cell? ⟨w.heap.size + 1, 4, none⟩ = some (Value.slice none 0 0) := (hb4.cell (p := ⟨w.heap.size + 1, 4, none⟩) (by simp; omega)).trans (by go_cell)
  have s3_4 : w4.frozen? ⟨w.heap.size + 1, 4, none⟩ = false := (hb4.frozen (p := ⟨w.heap.size + 1, 4, none⟩) (by simp; omega)).trans (by go_cell)
  have r3_5 : w4.cell? ⟨w.heap.size + 1, 5, none⟩ = some (Value.slice none 0 0) := (hb4.cell (p := ⟨w.heap.size + 1, 5, none⟩) (by simp; omega)).trans (by go_cell)
  have s3_5 : w4.frozen? ⟨w.heap.size + 1, 5, none⟩ = false := (hb4.frozen (p := ⟨w.heap.size + 1, 5, none⟩) (by simp; omega)).trans (by go_cell)
  have r3_6 : w4.cell? ⟨w.heap.size + 1, 6, none⟩ = some (Value.slice none 0 0) := (hb4.cell (p := ⟨w.heap.size + 1, 6, none⟩) (by simp; omega)).trans (by go_cell)
  have s3_6 : w4.frozen? ⟨w.heap.size + 1, 6, none⟩ = false := (hb4.frozen (p := ⟨w.heap.size + 1, 6, none⟩) (by simp; omega)).trans (by go_cell)
  have x3_0 : w4.cell? ⟨w.heap.size + 1 + 1, 0, none⟩ = some (Value.slice a1 c.pool.length k1) := (hb4.cell (p := ⟨w.heap.size + 1 + 1, 0, none⟩) (by simp; omega)).trans (by go_cell)
  have y3_0 : w4.frozen? ⟨w.heap.size + 1 + 1, 0, none⟩ = false := (hb4.frozen (p := ⟨w.heap.size + 1 + 1, 0, none⟩) (by simp; omega)).trans (by go_cell)
  have x3_1 : w4.cell? ⟨w.heap.size + 1 + 1, 1, none⟩ = some (.int .i64 c.flags) := (hb4.cell (p := ⟨w.heap.size + 1 + 1, 1, none⟩) (by simp; omega)).trans (by go_cell)
  have y3_1 : w4.frozen? ⟨w.heap.size + 1 + 1, 1, none⟩ = false := (hb4.frozen (p := ⟨w.heap.size + 1 + 1, 1, none⟩) (by simp; omega)).trans (by go_cell)
  have x3_2 : w4.cell? ⟨w.heap.size + 1 + 1, 2, none⟩ = some (.int .i64 c.name) := (hb4.cell (p := ⟨w.heap.size + 1 + 1, 2, none⟩) (by simp; omega)).trans (by go_cell)
  have y3_2 : w4.frozen? ⟨w.heap.size + 1 + 1, 2, none⟩ = false := (hb4.frozen (p := ⟨w.heap.size + 1 + 1, 2, none⟩) (by simp; omega)).trans (by go_cell)
  have x3_3 : w4.cell? ⟨w.heap.size + 1 + 1, 3, none⟩ = some (.int .i64 c.super) := (hb4.cell (p := ⟨w.heap.size + 1 + 1, 3, none⟩) (by simp; omega)).trans (by go_cell)
  have y3_3 : w4.frozen? ⟨w.heap.size + 1 + 1, 3, none⟩ = false := (hb4.frozen (p := ⟨w.heap.size + 1 + 1, 3, none⟩) (by simp; omega)).trans (by go_cell)
  have x3_4 : w4.cell? ⟨w.heap.size + 1 + 1, 4, none⟩ = some (Value.slice a2 c.faces.length k2) := (hb4.cell (p := ⟨w.heap.size + 1 + 1, 4, none⟩) (by simp; omega)).trans (by go_cell)
  have y3_4 : w4.frozen? ⟨w.heap.size + 1 + 1, 4, none⟩ = false := (hb4.frozen (p := ⟨w.heap.size + 1 + 1, 4, none⟩) (by simp; omega)).trans (by go_cell)
  have x3_5 : w4.cell? ⟨w.heap.size + 1 + 1, 5, none⟩ = some (Value.slice a3 c.fields.length k3) := (hb4.cell (p := ⟨w.heap.size + 1 + 1, 5, none⟩) (by simp; omega)).trans (by go_cell)
  have y3_5 : w4.frozen? ⟨w.heap.size + 1 + 1, 5, none⟩ = false := (hb4.frozen (p := ⟨w.heap.size + 1 + 1, 5, none⟩) (by simp; omega)).trans (by go_cell)
  have x3_6 : w4.cell? ⟨w.heap.size + 1 + 1, 6, none⟩ = some (Value.slice none 0 0) := (hb4.cell (p := ⟨w.heap.size + 1 + 1, 6, none⟩) (by simp; omega)).trans (by go_cell)
  have y3_6 : w4.frozen? ⟨w.heap.size + 1 + 1, 6, none⟩ = false := (hb4.frozen (p := ⟨w.heap.size + 1 + 1, 6, none⟩) (by simp; omega)).trans (by go_cell)
  obtain ⟨a4, k4, rfl⟩ := ho4.len
  have HO4_4 : Hid (MethodsW w4 (w.heap.size + 1 + 1 + 1) (Value.slice a4 c.methods.length k4) c.methods) := ho4.mono (by have := z1; have := z2; have := z3; simp; omega)
  have HO1_4 : Hid (w4.ownsRow (w.heap.size + 1 + 1 + 1) 75 4 (Value.slice a1 c.pool.length k1) c.pool.length (cellsC c.pool)) := own_below (ownsRow_setCell_below HO1_3.out (by simp) _) hb4
  have HO2_4 : Hid (w4.ownsRow (w.heap.size + 1 + 1 + 1) 3 1 (Value.slice a2 c.faces.length k2) c.faces.length (rowI c.faces)) := own_below (ownsRow_setCell_below HO2_3.out (by simp) _) hb4
  have HO3_4 : Hid (w4.ownsRow (w.heap.size + 1 + 1 + 1) 78 3 (Value.slice a3 c.fields.length k3) c.fields.length (rowField c.fields)) := own_below (ownsRow_setCell_below HO3_3.out (by simp) _) hb4
  have HB4 : Hid (Below w.heap.size w w4) := (HB3.out.setCell (by simp; omega) _).trans (hb4.mono (by simp; omega))
  clear ho4 hb4 p2_6 r2_0 s2_0 r2_1 s2_1 r2_2 s2_2 r2_3 s2_3 r2_4 s2_4 r2_5 s2_5 r2_6 s2_6 x2_0 y2_0 x2_1 y2_1 x2_2 y2_2 x2_3 y2_3 x2_4 y2_4 x2_5 y2_5 x2_6 y2_6 HB3 HO1_3 HO2_3 HO3_3
  go_wp2
  have g1 := HO1_4.out
  rw [show (Value.slice a1 c.pool.length k1) = .slice a1 lp k1 by rw [e1]] at g1
  have g2 := HO2_4.out
  rw [show (Value.slice a2 c.faces.length k2) = .slice a2 li k2 by rw [e2]] at g2
  have g3 := HO3_4.out
  rw [show (Value.slice a3 c.fields.length k3) = .slice a3 lf k3 by rw [e3]] at g3
  have g4 := HO4_4.out
  rw [show (Value.slice a4 c.methods.length k4) = .slice a4 lm k4 by rw [e4]] at g4
  have g5 : ClassW w4 (w.heap.size + 1 + 1 + 1) (.slice a1 lp k1) (.slice a2 li k2) (.slice a3 lf k3) (.slice a4 lm k4) c := ⟨g1, g2, g3, g4⟩
  refine bodyPost_ret (v := .agg #[.slice a1 lp k1, .int .i64 c.flags, .int .i64 c.name, .int .i64 c.super, .slice a2 li k2, .slice a3 lf k3, .slice a4 lm k4]) (by simp [results, Try.results12, go_sem, *]) rfl ⟨.slice a1 lp k1, .slice a2 li k2, .slice a3 lf k3, .slice a4 lm k4, rfl, ?_, ?_⟩
  · exact ClassW.mono (((((((((g5.set (by simp) _).set (by simp) _).set (by simp) _).set (by simp) _).set (by simp) _).set (by simp) _).set (by simp) _).set (by simp) _)) (by omega)
  · exact (((((((HB4.out.setCell (by simp; omega) _).setCell (by simp) _).setCell (by simp) _).setCell (by simp) _).setCell (by simp) _).setCell (by simp) _).setCell (by simp) _).setCell (by simp) _

end Go.Proofs.Ytnejkkaicnbkoaa
