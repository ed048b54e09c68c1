/- Contracts of the law's own helpers on lists of frames: eqFrame, eqFrameS, at frames that read alike. -/
import Derived.Test.YtnjfaikhiimdjaaRowFrames
namespace Go.Proofs.Ytnjfaikhiimdjaa
open Go.RowKit
set_option maxHeartbeats 800000
set_option linter.unusedVariables false

theorem eqFrame_same (x y : SFrame) (f : MFrame) (B1 B2 : Nat) (w : World) (hf : f.few) (hx : FrameW w B1 x f) (hy : FrameW w B2 y f) :
    Calls Try.prog 106 #[.agg #[.int .i64 x.at_, x.l, x.s], .agg #[.int .i64 y.at_, y.l, y.s]] w fun e w' => e = .returned (.bool true) ∧ Below w.heap.size w w' := by
  obtain ⟨f1, f2⟩ := hf
  have hat := hx.at_.trans hy.at_.symm
  have HX := (show Hid (FrameW w B1 x f) from hx)
  have HY := (show Hid (FrameW w B2 y f) from hy)
  obtain ⟨a1, k1, e1⟩ := own_len hx.l
  obtain ⟨a2, k2, e2⟩ := own_len hx.s
  obtain ⟨a3, k3, e3⟩ := own_len hy.l
  obtain ⟨a4, k4, e4⟩ := own_len hy.s
  obtain ⟨xa, xl, xs⟩ := x
  obtain ⟨ya, yl, ys⟩ := y
  simp only at e1 e2 e3 e4 hat
  subst e1 e2 e3 e4 hat
  clear hx hy
  go_enter Try.func106, Try.ntmps106
  go_wp2_with fail
  refine (eqKindS_same _ _ f.locals B1 B2 _ f1 (own_below HX.out.l (by go_grown)) (own_below HY.out.l (by go_grown))).mono ?_
  rintro e w1 ⟨rfl, hb1⟩
  have z1 : w.heap.size + 1 + 1 ≤ w1.heap.size := by have := hb1.size; simpa using this
  have p0 : w1.cell? ⟨w.heap.size, 2, none⟩ = some (.slice a2 f.stack.length k2) := (hb1.cell (p := ⟨w.heap.size, 2, none⟩) (by simp; omega)).trans (by go_cell)
  have p1 : w1.cell? ⟨w.heap.size + 1, 2, none⟩ = some (.slice a4 f.stack.length k4) := (hb1.cell (p := ⟨w.heap.size + 1, 2, none⟩) (by simp)).trans (by go_cell)
  have hbw : Below w.heap.size w w1 := (by go_grown : Below w.heap.size w _).trans (hb1.mono (by simp; omega))
  clear hb1
  go_wp2_with fail
  refine (eqKindS_same _ _ f.stack B1 B2 w1 f2 (own_below HX.out.s hbw) (own_below HY.out.s hbw)).mono ?_
  rintro e w2 ⟨rfl, hb2⟩
  go_wp2
  go_ret
  exact ⟨rfl, hbw.trans (hb2.mono hbw.size)⟩

theorem eqFrameS_same (v1 v2 : Value) (fs : List MFrame) (B1 B2 : Nat) (w : World) (hl : fs.length ≤ 1048576) (hf : ∀ f ∈ fs, f.few) (h1 : FramesW w B1 v1 fs) (h2 : FramesW w B2 v2 fs) :
    Calls Try.prog 86 #[v1, v2] w fun e w' => e = .returned (.bool true) ∧ Below w.heap.size w w' := by
  obtain ⟨xs, l1, o1, r1⟩ := h1
  obtain ⟨ys, l2, o2, r2⟩ := h2
  by_cases hz : fs.length = 0
  · obtain ⟨ao1, c1, rfl⟩ := own_len o1
    obtain ⟨ao2, c2, rfl⟩ := own_len o2
    rw [hz]
    clear o1 o2 hl hz r1 r2 l1 l2 hf
    go_enter Try.func86, Try.ntmps86
    go_wp2
    refine wp_loop_rounds 1 ?_
    rw [rounds_succ]
    go_wp2
    go_ret
    exact ⟨rfl, Below.refl _ _⟩
  · obtain ⟨g1, c1, rfl⟩ := Joins.ownsRow_form o1 (by omega)
    obtain ⟨g2, c2, rfl⟩ := Joins.ownsRow_form o2 (by omega)
    have H1 := (show Hid (w.ownsRow B1 123 3 (.slice (some ⟨g1, 0, none⟩) fs.length c1) fs.length (rowFrame xs)) from o1)
    have H2 := (show Hid (w.ownsRow B2 123 3 (.slice (some ⟨g2, 0, none⟩) fs.length c2) fs.length (rowFrame ys)) from o2)
    have R1 := (show Hid (∀ k (h : k < fs.length) (h' : k < xs.length), FrameW w B1 xs[k] fs[k]) from r1)
    have R2 := (show Hid (∀ k (h : k < fs.length) (h' : k < ys.length), FrameW w B2 ys[k] fs[k]) from r2)
    have HF := (show Hid (∀ f ∈ fs, f.few) from hf)
    have hg1 := (o1.lt g1 rfl).2
    have hg2 := (o2.lt g2 rfl).2
    clear o1 o2 r1 r2 hf
    go_enter Try.func86, Try.ntmps86
    go_wp2
    go_loopw [5] (fun i wr => ∃ (k : Nat), k ≤ fs.length ∧ i = .int .i64 k ∧ Below w.heap.size w wr) (fun i _ => fs.length - (intOf i).toNat)
    case atStart => exact ⟨0, by omega, rfl, Below.refl _ _⟩
    case round =>
      obtain ⟨k, hk, rfl, hb⟩ := hrel
      by_cases hlt : k < fs.length
      · obtain ⟨x0, x1, x2⟩ := ownFrame_at (own_below H1.out hb) l1 (k := k) (by omega)
        obtain ⟨y0, y1, y2⟩ := ownFrame_at (own_below H2.out hb) l2 (k := k) (by omega)
        have rx := (R1.out k hlt (by omega)).keep hb
        have ry := (R2.out k hlt (by omega)).keep hb
        generalize xs[k]'(by omega) = x at x0 x1 x2 rx
        generalize ys[k]'(by omega) = y at y0 y1 y2 ry
        have hE := eqFrame_same x y fs[k] B1 B2 (wr.drewN 1) (HF.out _ (List.getElem_mem _)) (rx.keep (below_drewN (Below.refl _ _) 1)) (ry.keep (below_drewN (Below.refl _ _) 1))
        obtain ⟨a1, k1, e1⟩ := own_len rx.l
        obtain ⟨a2, k2, e2⟩ := own_len rx.s
        obtain ⟨a3, k3, e3⟩ := own_len ry.l
        obtain ⟨a4, k4, e4⟩ := own_len ry.s
        generalize fs[k].locals.length = n1 at e1 e3
        generalize fs[k].stack.length = n2 at e2 e4
        clear rx ry
        obtain ⟨xa, xl, xs'⟩ := x
        obtain ⟨ya, yl, ys'⟩ := y
        simp only at e1 e2 e3 e4 x0 x1 x2 y0 y1 y2 hE
        subst e1 e2 e3 e4
        go_wp2
        go_region_with (go_at_call 106; refine hE.mono ?_; rintro e w1 ⟨rfl, hb1⟩)
        all_goals go_wp2
        all_goals
          have hb2 : Below w.heap.size w w1 := (below_drewN hb 1).trans (hb1.mono (by have := hb.size; simpa using this))
          clear hb1
          go_roundw
          case rel => exact ⟨k + 1, by omega, by go_num, hb2⟩
          case measure => simp [intOf]; omega
      · go_wp2
        go_ret
        exact ⟨rfl, hb⟩

end Go.Proofs.Ytnjfaikhiimdjaa
