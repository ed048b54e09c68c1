/- Contracts of the law's own helpers on classes: szClass, toClass, eqClass. -/
import Derived.Test.YtnjfaikhiimdjaaConstEq
import Derived.Test.YtnjfaikhiimdjaaRowInt
import Derived.Test.YtnjfaikhiimdjaaRowField
import Derived.Test.YtnjfaikhiimdjaaEqMethods
namespace Go.Proofs.Ytnjfaikhiimdjaa
open Go.RowKit
set_option maxHeartbeats 2000000
set_option linter.unusedVariables false

structure MClass where
  pool : List C4
  flags : Int
  name : Int
  super : Int
  faces : List Int
  fields : List MField
  methods : List MMethod
structure MClass.few (c : MClass) : Prop where
  pool : c.pool.length ≤ 1048576
  texts : ∀ t ∈ c.pool, t.text.size ≤ 1048576
  faces : c.faces.length ≤ 1048576
  fields : c.fields.length ≤ 1048576
  methods : c.methods.length ≤ 1048576
  each : ∀ m ∈ c.methods, m.few
structure ClassW (w : World) (B : Nat) (vp vi vf vm : Value) (c : MClass) : Prop where
  p : w.ownsRow B 75 4 vp c.pool.length (cellsC c.pool)
  i : w.ownsRow B 3 1 vi c.faces.length (rowI c.faces)
  f : w.ownsRow B 78 3 vf c.fields.length (rowField c.fields)
  m : MethodsW w B vm c.methods
theorem ClassW.keep {w w' : World} {B : Nat} {vp vi vf vm : Value} {c : MClass} (h : ClassW w B vp vi vf vm c) (hb : Below w.heap.size w w') : ClassW w' B vp vi vf vm c := ⟨own_below h.p hb, own_below h.i hb, own_below h.f hb, h.m.keep hb⟩
theorem ClassW.mono {w : World} {B B' : Nat} {vp vi vf vm : Value} {c : MClass} (h : ClassW w B vp vi vf vm c) (hb : B' ≤ B) : ClassW w B' vp vi vf vm c := ⟨Joins.ownsRow_le h.p hb, Joins.ownsRow_le h.i hb, Joins.ownsRow_le h.f hb, h.m.mono hb⟩
theorem ClassW.set {w : World} {B : Nat} {vp vi vf vm : Value} {c : MClass} (h : ClassW w B vp vi vf vm c) {a : Addr} (ha : a.block < B) (u : Value) : ClassW (w.setCell a u) B vp vi vf vm c := ⟨ownsRow_setCell_below h.p ha u, ownsRow_setCell_below h.i ha u, ownsRow_setCell_below h.f ha u, h.m.set ha u⟩
structure ArgCl (w : World) (ap : Option Addr) (lp : Nat) (ai : Option Addr) (li : Nat) (af : Option Addr) (lf : Nat) (am : Option Addr) (lm : Nat) (c : MClass) : Prop where
  p : ArgC w ap lp c.pool
  i : ArgI w ai li c.faces
  f : ArgField w af lf c.fields
  m : ArgMS w am lm c.methods
  mp : lp ≤ maxLen
  mi : li ≤ maxLen
  mf : lf ≤ maxLen
  mm : lm ≤ maxLen
theorem ArgCl.keep {w w' : World} {ap ai af am : Option Addr} {lp li lf lm : Nat} {c : MClass} (h : ArgCl w ap lp ai li af lf am lm c) (hb : Below w.heap.size w w') : ArgCl w' ap lp ai li af lf am lm c := ⟨h.p.keep hb, h.i.keep hb, h.f.keep hb, h.m.keep hb, h.mp, h.mi, h.mf, h.mm⟩

theorem szClass_any (c : MClass) (ap : Option Addr) (lp cp : Nat) (ai : Option Addr) (li ci : Nat) (af : Option Addr) (lf cf : Nat) (am : Option Addr) (lm cm : Nat) (w : World) (hA : ArgCl w ap lp ai li af lf am lm c) :
    Calls Try.prog 10 #[.agg #[.slice ap lp cp, .int .i64 c.flags, .int .i64 c.name, .int .i64 c.super, .slice ai li ci, .slice af lf cf, .slice am lm cm], .int .i64 1048576] w fun e w' => ∃ n, e = .returned (.int .i64 n) ∧ (n < 0 ∨ c.few) ∧ Below w.heap.size w w' := by
  have HA := (show Hid (ArgCl w ap lp ai li af lf am lm c) from hA)
  have hP := fun W hW => szConstS_any ap lp cp c.pool W hA.mp hW
  have e1 := hA.p.1
  have e2 := hA.i.1
  have e3 := hA.f.1
  have e4 := hA.m.1
  have mi := hA.mi
  have mf := hA.mf
  unfold maxLen at mi mf
  clear hA
  go_enter Try.func10, Try.ntmps10
  go_wp2_with fail
  refine (hP _ (HA.out.p.keep (by go_grown))).mono ?_
  rintro e w1 ⟨n1, rfl, hn1, hb0⟩
  have z1 : w.heap.size + 1 ≤ w1.heap.size := by have := hb0.size; simpa using this
  have p4 : w1.cell? ⟨w.heap.size, 4, none⟩ = some (.slice ai li ci) := (hb0.cell (p := ⟨w.heap.size, 4, none⟩) (by simp)).trans (by go_cell)
  have p5 : w1.cell? ⟨w.heap.size, 5, none⟩ = some (.slice af lf cf) := (hb0.cell (p := ⟨w.heap.size, 5, none⟩) (by simp)).trans (by go_cell)
  have p6 : w1.cell? ⟨w.heap.size, 6, none⟩ = some (.slice am lm cm) := (hb0.cell (p := ⟨w.heap.size, 6, none⟩) (by simp)).trans (by go_cell)
  have hb1 : Below w.heap.size w w1 := (by go_grown : Below w.heap.size w _).trans (hb0.mono (by simp))
  clear hb0 hP
  by_cases hneg : n1 < 0
  · clear hn1
    go_wp2
    go_ret
    exact ⟨_, rfl, .inl (by omega), hb1⟩
  · obtain ⟨⟨q1, q2⟩, q3, q4⟩ : (0 ≤ n1 ∧ n1 ≤ 1048576) ∧ lp ≤ 1048576 ∧ ∀ t ∈ c.pool, t.text.size ≤ 1048576 := by
      rcases hn1 with hn | hn
      · exact absurd hn hneg
      · exact hn
    have HT := (show Hid (∀ t ∈ c.pool, t.text.size ≤ 1048576) from q4)
    clear q4 hn1
    have hI := fun w => szIntS_any ai li ci n1 w (by omega) q1 q2
    by_cases h2 : (li : Int) ≤ n1
    · simp only [h2, if_true] at hI
      have hF := fun w => szFieldS_any af lf cf (n1 - li) w (by omega) (by omega) (by omega)
      by_cases h3 : (lf : Int) ≤ n1 - li
      · simp only [h3, if_true] at hF
        have hM := fun W hW => szMethodS_any am lm cm c.methods (n1 - li - lf) W HA.out.mm (by omega) (by omega) hW
        go_wp2_with fail
        refine (hI _).mono ?_
        rintro e w2 ⟨rfl, hw⟩; replace hw := hw.symm; subst hw
        go_wp2_with fail
        refine (hF _).mono ?_
        rintro e w2 ⟨rfl, hw⟩; replace hw := hw.symm; subst hw
        go_wp2_with fail
        refine (hM _ (HA.out.m.keep hb1)).mono ?_
        rintro e w2 ⟨n2, rfl, hn2, hb2⟩
        have hb3 := hb1.trans (hb2.mono hb1.size)
        clear hb2
        by_cases hneg2 : n2 < 0
        · clear hn2
          go_wp2
          go_ret
          exact ⟨_, rfl, .inl (by omega), hb3⟩
        · have HF : Hid (c.few) := by
            rcases hn2 with hn | ⟨_, _, h5, h6⟩
            · exact absurd hn hneg2
            · exact ⟨by omega, HT.out, by omega, by omega, by omega, h6⟩
          clear hn2
          go_wp2
          go_ret
          exact ⟨_, rfl, .inr HF.out, hb3⟩
      · simp only [h3, if_false] at hF
        go_wp2_with fail
        refine (hI _).mono ?_
        rintro e w2 ⟨rfl, hw⟩; replace hw := hw.symm; subst hw
        go_wp2_with fail
        refine (hF _).mono ?_
        rintro e w2 ⟨rfl, hw⟩; replace hw := hw.symm; subst hw
        go_wp2
        go_ret
        exact ⟨_, rfl, .inl (by omega), hb1⟩
    · simp only [h2, if_false] at hI
      go_wp2_with fail
      refine (hI _).mono ?_
      rintro e w2 ⟨rfl, hw⟩; replace hw := hw.symm; subst hw
      go_wp2
      go_ret
      exact ⟨_, rfl, .inl (by omega), hb1⟩

theorem eqClass_same (c : MClass) (vp vi vf vm up ui uf um : Value) (B1 B2 : Nat) (w : World) (hc : c.few) (hx : ClassW w B1 vp vi vf vm c) (hy : ClassW w B2 up ui uf um c) :
    Calls Try.prog 7 #[.agg #[vp, .int .i64 c.flags, .int .i64 c.name, .int .i64 c.super, vi, vf, vm], .agg #[up, .int .i64 c.flags, .int .i64 c.name, .int .i64 c.super, ui, uf, um]] w fun e w' => e = .returned (.bool true) ∧ Below w.heap.size w w' := by
  have HX := (show Hid (ClassW w B1 vp vi vf vm c) from hx)
  have HY := (show Hid (ClassW w B2 up ui uf um c) from hy)
  have HC := (show Hid (c.few) from hc)
  obtain ⟨a1, k1, rfl⟩ := own_len hx.p
  obtain ⟨a2, k2, rfl⟩ := own_len hx.i
  obtain ⟨a3, k3, rfl⟩ := own_len hx.f
  obtain ⟨a4, k4, rfl⟩ := hx.m.len
  obtain ⟨b1, l1, rfl⟩ := own_len hy.p
  obtain ⟨b2, l2, rfl⟩ := own_len hy.i
  obtain ⟨b3, l3, rfl⟩ := own_len hy.f
  obtain ⟨b4, l4, rfl⟩ := hy.m.len
  clear hx hy hc
  go_enter Try.func7, Try.ntmps7
  go_wp2_with fail
  refine (eqConstS_same _ _ c.pool B1 B2 _ HC.out.pool (own_below HX.out.p (by go_grown)) (own_below HY.out.p (by go_grown))).mono ?_
  rintro e w1 ⟨rfl, hb1⟩
  have z1 : w.heap.size + 1 + 1 ≤ w1.heap.size := by have := hb1.size; simpa using this
  have x1 : w1.cell? ⟨w.heap.size, 1, none⟩ = some (.int .i64 c.flags) := (hb1.cell (p := ⟨w.heap.size, 1, none⟩) (by simp; omega)).trans (by go_cell)
  have y1 : w1.cell? ⟨w.heap.size + 1, 1, none⟩ = some (.int .i64 c.flags) := (hb1.cell (p := ⟨w.heap.size + 1, 1, none⟩) (by simp)).trans (by go_cell)
  have x2 : w1.cell? ⟨w.heap.size, 2, none⟩ = some (.int .i64 c.name) := (hb1.cell (p := ⟨w.heap.size, 2, none⟩) (by simp; omega)).trans (by go_cell)
  have y2 : w1.cell? ⟨w.heap.size + 1, 2, none⟩ = some (.int .i64 c.name) := (hb1.cell (p := ⟨w.heap.size + 1, 2, none⟩) (by simp)).trans (by go_cell)
  have x3 : w1.cell? ⟨w.heap.size, 3, none⟩ = some (.int .i64 c.super) := (hb1.cell (p := ⟨w.heap.size, 3, none⟩) (by simp; omega)).trans (by go_cell)
  have y3 : w1.cell? ⟨w.heap.size + 1, 3, none⟩ = some (.int .i64 c.super) := (hb1.cell (p := ⟨w.heap.size + 1, 3, none⟩) (by simp)).trans (by go_cell)
  have x4 : w1.cell? ⟨w.heap.size, 4, none⟩ = some (.slice a2 c.faces.length k2) := (hb1.cell (p := ⟨w.heap.size, 4, none⟩) (by simp; omega)).trans (by go_cell)
  have y4 : w1.cell? ⟨w.heap.size + 1, 4, none⟩ = some (.slice b2 c.faces.length l2) := (hb1.cell (p := ⟨w.heap.size + 1, 4, none⟩) (by simp)).trans (by go_cell)
  have x5 : w1.cell? ⟨w.heap.size, 5, none⟩ = some (.slice a3 c.fields.length k3) := (hb1.cell (p := ⟨w.heap.size, 5, none⟩) (by simp; omega)).trans (by go_cell)
  have y5 : w1.cell? ⟨w.heap.size + 1, 5, none⟩ = some (.slice b3 c.fields.length l3) := (hb1.cell (p := ⟨w.heap.size + 1, 5, none⟩) (by simp)).trans (by go_cell)
  have x6 : w1.cell? ⟨w.heap.size, 6, none⟩ = some (.slice a4 c.methods.length k4) := (hb1.cell (p := ⟨w.heap.size, 6, none⟩) (by simp; omega)).trans (by go_cell)
  have y6 : w1.cell? ⟨w.heap.size + 1, 6, none⟩ = some (.slice b4 c.methods.length l4) := (hb1.cell (p := ⟨w.heap.size + 1, 6, none⟩) (by simp)).trans (by go_cell)
  have hbw : Below w.heap.size w w1 := (by go_grown : Below w.heap.size w _).trans (hb1.mono (by simp; omega))
  clear hb1
  go_wp2_with fail
  refine (eqIntS_same _ _ c.faces B1 B2 w1 HC.out.faces (own_below HX.out.i hbw) (own_below HY.out.i hbw)).mono ?_
  rintro e w2 ⟨rfl, hb2⟩
  replace x5 : w2.cell? ⟨w.heap.size, 5, none⟩ = some (.slice a3 c.fields.length k3) := (hb2.cell (p := ⟨w.heap.size, 5, none⟩) (by simp; omega)).trans x5
  replace y5 : w2.cell? ⟨w.heap.size + 1, 5, none⟩ = some (.slice b3 c.fields.length l3) := (hb2.cell (p := ⟨w.heap.size + 1, 5, none⟩) (by simp; omega)).trans y5
  replace x6 : w2.cell? ⟨w.heap.size, 6, none⟩ = some (.slice a4 c.methods.length k4) := (hb2.cell (p := ⟨w.heap.size, 6, none⟩) (by simp; omega)).trans x6
  replace y6 : w2.cell? ⟨w.heap.size + 1, 6, none⟩ = some (.slice b4 c.methods.length l4) := (hb2.cell (p := ⟨w.heap.size + 1, 6, none⟩) (by simp; omega)).trans y6
  replace z1 : w.heap.size + 1 + 1 ≤ w2.heap.size := Nat.le_trans z1 hb2.size
  replace hbw : Below w.heap.size w w2 := hbw.trans (hb2.mono hbw.size)
  clear hb2
  go_wp2_with fail
  refine (eqFieldS_same _ _ c.fields B1 B2 w2 HC.out.fields (own_below HX.out.f hbw) (own_below HY.out.f hbw)).mono ?_
  rintro e w3 ⟨rfl, hb2⟩
  replace x6 : w3.cell? ⟨w.heap.size, 6, none⟩ = some (.slice a4 c.methods.length k4) := (hb2.cell (p := ⟨w.heap.size, 6, none⟩) (by simp; omega)).trans x6
  replace y6 : w3.cell? ⟨w.heap.size + 1, 6, none⟩ = some (.slice b4 c.methods.length l4) := (hb2.cell (p := ⟨w.heap.size + 1, 6, none⟩) (by simp; omega)).trans y6
  replace z1 : w.heap.size + 1 + 1 ≤ w3.heap.size := Nat.le_trans z1 hb2.size
  replace hbw : Below w.heap.size w w3 := hbw.trans (hb2.mono hbw.size)
  clear hb2
  go_wp2_with fail
  refine (eqMethodS_same _ _ c.methods B1 B2 w3 HC.out.methods HC.out.each (HX.out.m.keep hbw) (HY.out.m.keep hbw)).mono ?_
  rintro e w4 ⟨rfl, hb4⟩
  go_wp2
  go_ret
  exact ⟨rfl, hbw.trans (hb4.mono hbw.size)⟩

end Go.Proofs.Ytnjfaikhiimdjaa
