/- Contracts of the law's own helpers on lists of methods: eqMethod, eqMethodS, at methods that read alike. -/
import Derived.Test.YtnjfaikhiimdjaaRowMethods
namespace Go.Proofs.Ytnjfaikhiimdjaa
open Go.RowKit
set_option maxHeartbeats 2000000
set_option linter.unusedVariables false

theorem eqMethod_same (m : MMethod) (vt vf ut uf : Value) (B1 B2 : Nat) (w : World) (hm : m.few) (hx : MethodW w B1 vt vf m) (hy : MethodW w B2 ut uf m) :
    Calls Try.prog 48 #[.agg #[.int .i64 m.flags, .int .i64 m.name, .int .i64 m.desc, .int .i64 m.deep, .int .i64 m.locals, .string m.code, vt, vf], .agg #[.int .i64 m.flags, .int .i64 m.name, .int .i64 m.desc, .int .i64 m.deep, .int .i64 m.locals, .string m.code, ut, uf]] w fun e w' => e = .returned (.bool true) ∧ Below w.heap.size w w' := by
  obtain ⟨f1, f2, f3, f4⟩ := hm
  have HX := (show Hid (MethodW w B1 vt vf m) from hx)
  have HY := (show Hid (MethodW w B2 ut uf m) from hy)
  have HF := (show Hid (∀ f ∈ m.frames, f.few) from f4)
  obtain ⟨a1, k1, rfl⟩ := own_len hx.t
  obtain ⟨a2, k2, rfl⟩ := hx.f.len
  obtain ⟨a3, k3, rfl⟩ := own_len hy.t
  obtain ⟨a4, k4, rfl⟩ := hy.f.len
  clear hx hy f4
  go_enter Try.func48, Try.ntmps48
  go_wp2_with fail
  refine (eqTrapS_same _ _ m.traps B1 B2 _ f2 (own_below HX.out.t (by go_grown)) (own_below HY.out.t (by go_grown))).mono ?_
  rintro e w1 ⟨rfl, hb1⟩
  have z1 : w.heap.size + 1 + 1 ≤ w1.heap.size := by have := hb1.size; simpa using this
  have p0 : w1.cell? ⟨w.heap.size, 7, none⟩ = some (.slice a2 m.frames.length k2) := (hb1.cell (p := ⟨w.heap.size, 7, none⟩) (by simp; omega)).trans (by go_cell)
  have p1 : w1.cell? ⟨w.heap.size + 1, 7, none⟩ = some (.slice a4 m.frames.length k4) := (hb1.cell (p := ⟨w.heap.size + 1, 7, none⟩) (by simp)).trans (by go_cell)
  have hbw : Below w.heap.size w w1 := (by go_grown : Below w.heap.size w _).trans (hb1.mono (by simp; omega))
  clear hb1
  go_wp2_with fail
  refine (eqFrameS_same _ _ m.frames B1 B2 w1 f3 HF.out (HX.out.f.keep hbw) (HY.out.f.keep hbw)).mono ?_
  rintro e w2 ⟨rfl, hb2⟩
  go_wp2
  go_ret
  exact ⟨rfl, hbw.trans (hb2.mono hbw.size)⟩

theorem eqMethodS_same (v1 v2 : Value) (ms : List MMethod) (B1 B2 : Nat) (w : World) (hl : ms.length ≤ 1048576) (hf : ∀ f ∈ ms, f.few) (h1 : MethodsW w B1 v1 ms) (h2 : MethodsW w B2 v2 ms) :
    Calls Try.prog 19 #[v1, v2] w fun e w' => e = .returned (.bool true) ∧ Below w.heap.size w w' := by
  obtain ⟨xs, l1, o1, r1⟩ := h1
  obtain ⟨ys, l2, o2, r2⟩ := h2
  by_cases hz : ms.length = 0
  · obtain ⟨ao1, c1, rfl⟩ := own_len o1
    obtain ⟨ao2, c2, rfl⟩ := own_len o2
    rw [hz]
    clear o1 o2 hl hz r1 r2 l1 l2 hf
    go_enter Try.func19, Try.ntmps19
    go_wp2
    refine wp_loop_rounds 1 ?_
    rw [rounds_succ]
    go_wp2
    go_ret
    exact ⟨rfl, Below.refl _ _⟩
  · obtain ⟨g1, c1, rfl⟩ := Joins.ownsRow_form o1 (by omega)
    obtain ⟨g2, c2, rfl⟩ := Joins.ownsRow_form o2 (by omega)
    have H1 := (show Hid (w.ownsRow B1 83 8 (.slice (some ⟨g1, 0, none⟩) ms.length c1) ms.length (rowMethod xs)) from o1)
    have H2 := (show Hid (w.ownsRow B2 83 8 (.slice (some ⟨g2, 0, none⟩) ms.length c2) ms.length (rowMethod ys)) from o2)
    have R1 := (show Hid (∀ k (h : k < ms.length) (h' : k < xs.length), ∃ vt vf, xs[k] = shM ms[k] vt vf ∧ MethodW w B1 vt vf ms[k]) from r1)
    have R2 := (show Hid (∀ k (h : k < ms.length) (h' : k < ys.length), ∃ vt vf, ys[k] = shM ms[k] vt vf ∧ MethodW w B2 vt vf ms[k]) from r2)
    have HF := (show Hid (∀ f ∈ ms, f.few) from hf)
    have hg1 := (o1.lt g1 rfl).2
    have hg2 := (o2.lt g2 rfl).2
    clear o1 o2 r1 r2 hf
    go_enter Try.func19, Try.ntmps19
    go_wp2
    go_loopw [5] (fun i wr => ∃ (k : Nat), k ≤ ms.length ∧ i = .int .i64 k ∧ Below w.heap.size w wr) (fun i _ => ms.length - (intOf i).toNat)
    case atStart => exact ⟨0, by omega, rfl, Below.refl _ _⟩
    case round =>
      obtain ⟨k, hk, rfl, hb⟩ := hrel
      by_cases hlt : k < ms.length
      · have hx := ownMethod_at (own_below H1.out hb) l1 (k := k) (by omega)
        have hy := ownMethod_at (own_below H2.out hb) l2 (k := k) (by omega)
        obtain ⟨vt, vf, ex, rx⟩ := R1.out k hlt (by omega)
        obtain ⟨ut, uf, ey, ry⟩ := R2.out k hlt (by omega)
        rw [ex] at hx
        rw [ey] at hy
        have hE := eqMethod_same ms[k] vt vf ut uf B1 B2 (wr.drewN 1) (HF.out _ (List.getElem_mem _)) ((rx.keep hb).keep (below_drewN (Below.refl _ _) 1)) ((ry.keep hb).keep (below_drewN (Below.refl _ _) 1))
        obtain ⟨a1, k1, e1⟩ := own_len rx.t
        obtain ⟨a2, k2, e2⟩ := rx.f.len
        obtain ⟨a3, k3, e3⟩ := own_len ry.t
        obtain ⟨a4, k4, e4⟩ := ry.f.len
        clear rx ry ex ey
        generalize ms[k] = mm at hx hy hE e1 e2 e3 e4
        subst e1 e2 e3 e4
        unfold shM at hx hy
        simp only at hx hy
        generalize mm.traps.length = tn at *
        generalize mm.frames.length = fn at *
        obtain ⟨x0, x1, x2, x3, x4, x5, x6, x7⟩ := hx
        obtain ⟨y0, y1, y2, y3, y4, y5, y6, y7⟩ := hy
        go_wp2
        go_region_with (go_at_call 48; refine hE.mono ?_; rintro e w1 ⟨rfl, hb1⟩)
        all_goals go_wp2
        all_goals
          have hb2 : Below w.heap.size w w1 := (below_drewN hb 1).trans (hb1.mono (by have := hb.size; simpa using this))
          clear hb1
          go_roundw
          case rel => exact ⟨k + 1, by omega, by go_num, hb2⟩
          case measure => simp [intOf]; omega
      · go_wp2
        go_ret
        exact ⟨rfl, hb⟩

end Go.Proofs.Ytnjfaikhiimdjaa
