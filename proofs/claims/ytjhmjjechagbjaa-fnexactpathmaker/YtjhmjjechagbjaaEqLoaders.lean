/- Contracts of the law's own helpers on lists of loaders: eqLoader, eqLoaderS, at loaders that read alike. -/
import Derived.Test.YtjhmjjechagbjaaRowLoaders
import Derived.Deep.QuietTactic
import Derived.BigQuiet
namespace Go.Proofs.Ytjhmjjechagbjaa
open Go.RowKit
set_option maxHeartbeats 800000
set_option linter.unusedVariables false

theorem eqLoader_same (x y : SLoader) (f : MLoader) (B1 B2 : Nat) (w : World) (hf : f.few) (hx : LoaderW w B1 x f) (hy : LoaderW w B2 y f) :
    Calls Try.prog 25 #[.agg #[x.files, x.ways, .int .i64 x.parent], .agg #[y.files, y.ways, .int .i64 y.parent]] w fun e w' => e = .returned (.bool true) ∧ Below w.heap.size w w' := by
  obtain ⟨f1, f2⟩ := hf
  have hat := hx.p.trans hy.p.symm
  have HX := (show Hid (LoaderW w B1 x f) from hx)
  have HY := (show Hid (LoaderW w B2 y f) from hy)
  obtain ⟨a1, k1, e1⟩ := own_len hx.f
  obtain ⟨a2, k2, e2⟩ := own_len hx.y
  obtain ⟨a3, k3, e3⟩ := own_len hy.f
  obtain ⟨a4, k4, e4⟩ := own_len hy.y
  obtain ⟨xl, xs, xa⟩ := x
  obtain ⟨yl, ys, ya⟩ := y
  simp only at e1 e2 e3 e4 hat
  subst e1 e2 e3 e4 hat
  clear hx hy
  go_enter Try.func25, Try.ntmps25
  go_wp2_with fail
  refine (eqFileS_same _ _ f.files B1 B2 _ f1.1 (own_below HX.out.f (by go_grown)) (own_below HY.out.f (by go_grown))).mono ?_
  rintro e w1 ⟨rfl, hb1⟩
  have z1 : w.heap.size + 1 + 1 ≤ w1.heap.size := by have := hb1.size; simpa using this
  have p0 : w1.cell? ⟨w.heap.size, 1, none⟩ = some (.slice a2 f.ways.length k2) := (hb1.cell (p := ⟨w.heap.size, 1, none⟩) (by simp; omega)).trans (by go_cell)
  have p1 : w1.cell? ⟨w.heap.size + 1, 1, none⟩ = some (.slice a4 f.ways.length k4) := (hb1.cell (p := ⟨w.heap.size + 1, 1, none⟩) (by simp)).trans (by go_cell)
  have p2 : w1.cell? ⟨w.heap.size, 2, none⟩ = some (.int .i64 xa) := (hb1.cell (p := ⟨w.heap.size, 2, none⟩) (by simp; omega)).trans (by go_cell)
  have p3 : w1.cell? ⟨w.heap.size + 1, 2, none⟩ = some (.int .i64 xa) := (hb1.cell (p := ⟨w.heap.size + 1, 2, none⟩) (by simp)).trans (by go_cell)
  have hbw : Below w.heap.size w w1 := (by go_grown : Below w.heap.size w _).trans (hb1.mono (by simp; omega))
  clear hb1
  go_wp2_with fail
  refine (eqWayS_same _ _ f.ways B1 B2 w1 f2.1 (own_below HX.out.y hbw) (own_below HY.out.y hbw)).mono ?_
  rintro e w2 ⟨rfl, hb2⟩
  have p2' := (hb2.cell (p := ⟨w.heap.size, 2, none⟩) (by dsimp only; omega)).trans p2
  have p3' := (hb2.cell (p := ⟨w.heap.size + 1, 2, none⟩) (by dsimp only; omega)).trans p3
  clear p0 p1 p2 p3
  have HE := hid (hbw.trans (hb2.mono hbw.size))
  clear hb2 hbw
  go_wp2
  go_ret
  exact ⟨rfl, HE.out⟩

theorem eqLoaderS_same (v1 v2 : Value) (fs : List MLoader) (B1 B2 : Nat) (w : World) (hl : fs.length ≤ 1048576) (hf : ∀ f ∈ fs, f.few) (h1 : LoadersW w B1 v1 fs) (h2 : LoadersW w B2 v2 fs) :
    Calls Try.prog 11 #[v1, v2] w fun e w' => e = .returned (.bool true) ∧ Below w.heap.size w w' := by
  obtain ⟨xs, l1, o1, r1⟩ := h1
  obtain ⟨ys, l2, o2, r2⟩ := h2
  by_cases hz : fs.length = 0
  · obtain ⟨ao1, c1, rfl⟩ := own_len o1
    obtain ⟨ao2, c2, rfl⟩ := own_len o2
    rw [hz]
    clear o1 o2 hl hz r1 r2 l1 l2 hf
    go_enter Try.func11, Try.ntmps11
    go_wp2
    refine wp_loop_rounds 1 ?_
    rw [rounds_succ]
    go_wp2
    go_ret
    exact ⟨rfl, Below.refl _ _⟩
  · obtain ⟨g1, c1, rfl⟩ := Joins.ownsRow_form o1 (by omega)
    obtain ⟨g2, c2, rfl⟩ := Joins.ownsRow_form o2 (by omega)
    have H1 := (show Hid (w.ownsRow B1 47 3 (.slice (some ⟨g1, 0, none⟩) fs.length c1) fs.length (rowLoader xs)) from o1)
    have H2 := (show Hid (w.ownsRow B2 47 3 (.slice (some ⟨g2, 0, none⟩) fs.length c2) fs.length (rowLoader ys)) from o2)
    have R1 := (show Hid (∀ k (h : k < fs.length) (h' : k < xs.length), LoaderW w B1 xs[k] fs[k]) from r1)
    have R2 := (show Hid (∀ k (h : k < fs.length) (h' : k < ys.length), LoaderW w B2 ys[k] fs[k]) from r2)
    have HF := (show Hid (∀ f ∈ fs, f.few) from hf)
    have hg1 := (o1.lt g1 rfl).2
    have hg2 := (o2.lt g2 rfl).2
    clear o1 o2 r1 r2 hf
    go_enter Try.func11, Try.ntmps11
    go_wp2
    go_loopw [5] (fun i wr => ∃ (k : Nat), k ≤ fs.length ∧ i = .int .i64 k ∧ Below w.heap.size w wr) (fun i _ => fs.length - (intOf i).toNat)
    case atStart => exact ⟨0, by omega, rfl, Below.refl _ _⟩
    case round =>
      obtain ⟨k, hk, rfl, hb⟩ := hrel
      by_cases hlt : k < fs.length
      · obtain ⟨x0, x1, x2⟩ := ownLoader_at (own_below H1.out hb) l1 (k := k) (by omega)
        obtain ⟨y0, y1, y2⟩ := ownLoader_at (own_below H2.out hb) l2 (k := k) (by omega)
        have rx := (R1.out k hlt (by omega)).keep hb
        have ry := (R2.out k hlt (by omega)).keep hb
        generalize xs[k]'(by omega) = x at x0 x1 x2 rx
        generalize ys[k]'(by omega) = y at y0 y1 y2 ry
        have hE := eqLoader_same x y fs[k] B1 B2 (wr.drewN 1) (HF.out _ (List.getElem_mem _)) (rx.keep (below_drewN (Below.refl _ _) 1)) (ry.keep (below_drewN (Below.refl _ _) 1))
        obtain ⟨a1, k1, e1⟩ := own_len rx.f
        obtain ⟨a2, k2, e2⟩ := own_len rx.y
        obtain ⟨a3, k3, e3⟩ := own_len ry.f
        obtain ⟨a4, k4, e4⟩ := own_len ry.y
        generalize fs[k].files.length = n1 at e1 e3
        generalize fs[k].ways.length = n2 at e2 e4
        clear rx ry
        obtain ⟨xl, xs', xa⟩ := x
        obtain ⟨yl, ys', ya⟩ := y
        simp only at e1 e2 e3 e4 x0 x1 x2 y0 y1 y2 hE
        subst e1 e2 e3 e4
        go_wp2
        go_region_with (go_at_call 25; refine hE.mono ?_; rintro e w1 ⟨rfl, hb1⟩)
        all_goals go_wp2
        all_goals
          have hb2 : Below w.heap.size w w1 := (below_drewN hb 1).trans (hb1.mono (by have := hb.size; simpa using this))
          clear hb1
          go_roundw
          case rel => exact ⟨k + 1, by omega, by go_num, hb2⟩
          case measure => simp [intOf]; omega
      · go_wp2
        go_ret
        exact ⟨rfl, hb⟩

end Go.Proofs.Ytjhmjjechagbjaa
