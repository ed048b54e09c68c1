/- The specification's l2Ref. -/
import Derived.Test.YtbpefgkhplicoaaPoolSpec
namespace Go.Proofs.Ytbpefgkhplicoaa
open Mx Go.RowKit
set_option maxHeartbeats 4000000
set_option maxRecDepth 20000

structure Ref (w W : World) (v : Value) (ts : List C4) (g1 g2 : Nat) (t u : C4) : Prop where
  pool : PoolW W v ts
  bel : Below w.heap.size w W
  c1 : W.cell? ⟨g1, 2, none⟩ = some (.int .i64 t.a)
  c2 : W.cell? ⟨g2, 2, none⟩ = some (.int .i64 u.a)
  c3 : W.cell? ⟨g2, 3, none⟩ = some (.int .i64 u.b)
  l1 : g1 < W.heap.size
  l2 : g2 < W.heap.size
theorem Ref.keep {w W W' : World} {v : Value} {ts : List C4} {g1 g2 : Nat} {t u : C4} (h : Ref w W v ts g1 g2 t u) (hb : Below W.heap.size W W') : Ref w W' v ts g1 g2 t u :=
  ⟨h.pool.keep hb, h.bel.trans (hb.mono h.bel.size), (hb.cell (p := ⟨g1, 2, none⟩) h.l1).trans h.c1, (hb.cell (p := ⟨g2, 2, none⟩) h.l2).trans h.c2, (hb.cell (p := ⟨g2, 3, none⟩) h.l2).trans h.c3, Nat.lt_of_lt_of_le h.l1 hb.size, Nat.lt_of_lt_of_le h.l2 hb.size⟩
theorem Ref.drawn {w W : World} {v : Value} {ts : List C4} {g1 g2 : Nat} {t u : C4} (h : Ref w W v ts g1 g2 t u) (n : Nat) : Ref w (W.drewN n) v ts g1 g2 t u :=
  h.keep (below_drewN (Below.refl _ _) n)

theorem l2Ref_any (v : Value) (ts : List C4) (i : Int) (w : World) (hl : ts.length ≤ 1048576) (hs : ∀ t ∈ ts, t.text.size ≤ 1048576) (h : PoolW w v ts) :
    Calls Try.prog 19 #[v, .int .i64 i] w fun e w' => ∃ x y, e = .returned (.tuple #[.string x, .string y, .string (txtC ts (atC ts (atC ts i).b).b)]) ∧ Below w.heap.size w w' := by
  have hA := l2At_any v ts i w hl h
  have hB := fun W hW => l2At_any v ts (atC ts i).b W hl hW
  generalize atC ts (atC ts i).b = u at hB ⊢
  generalize atC ts i = t at hA hB
  have HP : Hid (PoolW w v ts) := h
  have HC : ∀ g1 g2 W, Ref w W v ts g1 g2 t u → Calls Try.prog 17 #[v, .int .i64 t.a] W fun e w' => e = .returned (.string (clsT ts t.a)) ∧ Ref w w' v ts g1 g2 t u := by
    intro g1 g2 W hR
    refine (l2Class_any v ts t.a W hl hs hR.pool).mono ?_
    rintro e w' ⟨rfl, hb⟩
    exact ⟨rfl, hR.keep hb⟩
  have HT : ∀ g1 g2 x W, Ref w W v ts g1 g2 t u → Calls Try.prog 18 #[v, .int .i64 x] W fun e w' => e = .returned (.string (txtC ts x)) ∧ Ref w w' v ts g1 g2 t u := by
    intro g1 g2 x W hR
    refine (l2Text_any v ts x W hl hR.pool).mono ?_
    rintro e w' ⟨rfl, hb⟩
    exact ⟨rfl, hR.keep hb⟩
  generalize clsT ts t.a = sa at HC
  generalize txtC ts = F at HT ⊢
  obtain ⟨ao, cap, rfl⟩ := h.len
  clear h hs
  go_enter Try.func19, Try.ntmps19
  go_wp2_with fail
  refine hA.mono ?_
  rintro e w1 ⟨rfl, hb1⟩
  have hs1 := hb1.size
  go_wp2_with fail
  refine (hB _ (HP.out.keep (by go_grown))).mono ?_
  rintro e w2 ⟨rfl, hb2⟩
  obtain ⟨c0, c1, c2, c3, hlt, hB2⟩ := new4 hb2
  have hbw := hB2 _ _ hb1 hs1
  have hs2 := hbw.size
  have HP2 : Hid (PoolW w2 (.slice ao ts.length cap) ts) := HP.out.keep hbw
  clear hb2 hb1 hs1 hB2 hB hA c0 c1 c3
  go_wp2_with fail
  have HR : Hid (Ref w (w2.alloc (.cells #[.int .i64 u.kind, .string u.text, .int .i64 u.a, .int .i64 u.b] 33)) (.slice ao ts.length cap) ts w1.heap.size w2.heap.size t u) := by
    obtain ⟨d0, d1, d2, d3, hl2, hB3⟩ := new4 (w1 := w2) (t := u) (Below.refl _ _)
    have hb3 := hB3 _ _ (Below.refl w2.heap.size w2) (Nat.le_refl _)
    exact ⟨HP2.out.keep hb3, hB3 _ _ hbw hs2, (hb3.cell (p := ⟨w1.heap.size, 2, none⟩) hlt).trans c2, d2, d3, Nat.lt_trans hlt hl2, hl2⟩
  clear c2 hbw hs2 HP2 HP
  have f1 := HR.out.c1
  have f2 := HR.out.c2
  have f3 := HR.out.c3
  generalize w2.alloc (.cells #[.int .i64 u.kind, .string u.text, .int .i64 u.a, .int .i64 u.b] 33) = X at HR f1 f2 f3 ⊢
  generalize w2.heap.size = g2 at *
  generalize w1.heap.size = g1 at *
  go_region_with (first
    | (go_at_call 17; refine (HC g1 g2 _ (by first | (with_reducible exact HR.out) | exact HR.out.drawn 1)).mono ?_; clear f1 f2 f3 HR; rintro e w5 ⟨rfl, hR⟩; have f1 := hR.c1; have f2 := hR.c2; have f3 := hR.c3; have HR := hid hR; clear hR)
    | (go_at_call 18; refine (HT g1 g2 _ _ (by first | (with_reducible exact HR.out) | exact HR.out.drawn 1)).mono ?_; clear f1 f2 f3 HR; rintro e w5 ⟨rfl, hR⟩; have f1 := hR.c1; have f2 := hR.c2; have f3 := hR.c3; have HR := hid hR; clear hR))
  all_goals go_wp2
  all_goals go_ret3
  all_goals exact ⟨_, _, rfl, HR.out.bel⟩

end Go.Proofs.Ytbpefgkhplicoaa
