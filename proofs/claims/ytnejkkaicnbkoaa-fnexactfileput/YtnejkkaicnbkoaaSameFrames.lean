/- Contracts of the specification's comparison of frames. -/
import Derived.Test.YtnejkkaicnbkoaaSameFlat
import Derived.Test.YtnejkkaicnbkoaaRdBody
namespace Go.Proofs.Ytnejkkaicnbkoaa
open Go.RowKit
set_option maxHeartbeats 4000000
set_option maxRecDepth 20000
set_option linter.unusedVariables false

theorem l1Kinds_is (v1 v2 : Value) (xs ts : List MKind) (B1 B2 : Nat) (w : World) (c : Bool) (hc : c = true ↔ xs = ts) (hx : xs.length ≤ 1048576) (hl : ts.length ≤ 1048576)
    (h1 : w.ownsRow B1 144 2 v1 xs.length (rowKind xs)) (h2 : w.ownsRow B2 144 2 v2 ts.length (rowKind ts)) :
    Calls Try.prog 108 #[v1, v2] w fun e w' => e = .returned (.bool c) ∧ ∃ q, w' = w.drewN q := by
  refine (l1Kinds_any v1 v2 xs ts B1 B2 w hx hl h1 h2).mono ?_
  rintro e w' ⟨d, rfl, hd, hq⟩
  refine ⟨ret_bool ?_, hq⟩
  rw [Bool.eq_iff_iff, hd, hc]
theorem exists_bool (P : Prop) : ∃ c : Bool, c = true ↔ P := by
  by_cases h : P
  · exact ⟨true, by simp [h]⟩
  · exact ⟨false, by simp [h]⟩
theorem drew_drew {w W : World} {q : Nat} (h : W = w.drewN q) (n : Nat) : ∃ m, W.drewN n = w.drewN m := by
  subst h
  exact ⟨q + n, by simp⟩

theorem l1Frames_any (v1 v2 : Value) (fs gs : List MFrame) (xs ys : List SFrame) (B1 B2 : Nat) (w : World) (hx : fs.length ≤ 1048576) (hl : gs.length ≤ 1048576) (hf : ∀ f ∈ fs, f.few) (hg : ∀ f ∈ gs, f.few)
    (h1 : FX w B1 v1 fs xs) (h2 : FX w B2 v2 gs ys) :
    Calls Try.prog 92 #[v1, v2] w fun e w' => ∃ c : Bool, e = .returned (.bool c) ∧ (c = true ↔ fs = gs) ∧ ∃ q, w' = w.drewN q := by
  by_cases hn : fs.length = gs.length
  · obtain ⟨ao1, c1, hv1⟩ := own_len h1.row
    obtain ⟨ao2, c2, hv2⟩ := own_len h2.row
    subst hv1 hv2
    have H1 := hid h1
    have H2 := hid h2
    have HN := hid hn
    have HF := hid hf
    have HG := hid hg
    have hn' : ((fs.length : Int) != (gs.length : Int)) = false := by simp; omega
    clear h1 h2 hn hf hg
    go_enter Try.func92, Try.ntmps92
    go_wp2_with fail
    go_loopw [5] (fun i wr => ∃ k : Nat, k ≤ fs.length ∧ i = .int .i64 k ∧ Hid (fs.take k = gs.take k) ∧ Hid (∃ q, wr = w.drewN q)) (fun i _ => fs.length - (intOf i).toNat)
    case atStart => exact ⟨0, by omega, rfl, rfl, 0, rfl⟩
    case round =>
      obtain ⟨k, hk, rfl, HE, HQ⟩ := hrel
      by_cases hlt : k < fs.length
      · have hlt2 : k < gs.length := by rw [← HN.out]; exact hlt
        have hx1 : k < xs.length := by rw [H1.out.len]; exact hlt
        have hx2 : k < ys.length := by rw [H2.out.len]; exact hlt2
        obtain ⟨g1, hg1⟩ := own_some H1.out.row (by omega)
        obtain ⟨g2, hg2⟩ := own_some H2.out.row (by omega)
        subst hg1 hg2
        obtain ⟨q0, hq0⟩ := HQ.out
        obtain ⟨a1, a2, a3⟩ := ownFrame_at (w := wr) (by rw [hq0]; exact own_drewN H1.out.row q0) H1.out.len hx1
        obtain ⟨b1, b2, b3⟩ := ownFrame_at (w := wr) (by rw [hq0]; exact own_drewN H2.out.row q0) H2.out.len hx2
        have E1 := H1.out.each k hlt hx1
        have E2 := H2.out.each k hlt2 hx2
        have W1 := HF.out fs[k] (List.getElem_mem _)
        have W2 := HG.out gs[k] (List.getElem_mem _)
        have T1 := hid (List.take_succ_eq_append_getElem hlt)
        have T2 := hid (List.take_succ_eq_append_getElem hlt2)
        have HEq := hid (show fs = gs → fs[k] = gs[k] from fun e => by subst e; rfl)
        obtain ⟨r1, r2, r3, hr⟩ : ∃ a b c, xs[k] = ⟨a, b, c⟩ := ⟨_, _, _, rfl⟩
        obtain ⟨s1, s2, s3, hs⟩ : ∃ a b c, ys[k] = ⟨a, b, c⟩ := ⟨_, _, _, rfl⟩
        obtain ⟨f, hfk⟩ : ∃ f, fs[k] = f := ⟨_, rfl⟩
        obtain ⟨g, hgk⟩ : ∃ f, gs[k] = f := ⟨_, rfl⟩
        rw [hr, hfk] at E1
        rw [hs, hgk] at E2
        rw [hr] at a1 a2 a3
        rw [hs] at b1 b2 b3
        rw [hfk] at W1 T1 HEq
        rw [hgk] at W2 T2 HEq
        obtain ⟨o1, k1, hv1⟩ := own_len E1.l
        obtain ⟨o2, k2, hv2⟩ := own_len E1.s
        obtain ⟨o3, k3, hv3⟩ := own_len E2.l
        obtain ⟨o4, k4, hv4⟩ := own_len E2.s
        have hA1 : r1 = f.at_ := E1.at_
        have hA2 : s1 = g.at_ := E2.at_
        simp only at hv1 hv2 hv3 hv4 a1 a2 a3 b1 b2 b3
        subst hv1 hv2 hv3 hv4
        obtain ⟨cl, hcl⟩ := exists_bool (f.locals = g.locals)
        obtain ⟨cs, hcs⟩ := exists_bool (f.stack = g.stack)
        have hKl := (show ∀ n, Calls Try.prog 108 #[.slice o1 f.locals.length k1, .slice o3 g.locals.length k3] (wr.drewN n) fun e w' => e = .returned (.bool cl) ∧ ∃ q, w' = wr.drewN q from fun n => by
          refine (l1Kinds_is _ _ f.locals g.locals B1 B2 _ cl hcl W1.1 W2.1 (by rw [hq0]; exact own_drewN (own_drewN E1.l q0) n) (by rw [hq0]; exact own_drewN (own_drewN E2.l q0) n)).mono ?_
          rintro e w' ⟨rfl, q, rfl⟩
          exact ⟨rfl, _, World.drewN_drewN _ _ _⟩)
        have hKs := (show ∀ n, Calls Try.prog 108 #[.slice o2 f.stack.length k2, .slice o4 g.stack.length k4] (wr.drewN n) fun e w' => e = .returned (.bool cs) ∧ ∃ q, w' = wr.drewN q from fun n => by
          refine (l1Kinds_is _ _ f.stack g.stack B1 B2 _ cs hcs W1.2 W2.2 (by rw [hq0]; exact own_drewN (own_drewN E1.s q0) n) (by rw [hq0]; exact own_drewN (own_drewN E2.s q0) n)).mono ?_
          rintro e w' ⟨rfl, q, rfl⟩
          exact ⟨rfl, _, World.drewN_drewN _ _ _⟩)
        have HCL := hid hcl
        have HCS := hid hcs
        have HA := hid (show (f = g ↔ r1 = s1 ∧ f.locals = g.locals ∧ f.stack = g.stack) from by
          rw [hA1, hA2]
          constructor
          · rintro rfl; exact ⟨rfl, rfl, rfl⟩
          · rintro ⟨h1, h2, h3⟩
            cases f; cases g
            simp_all)
        clear hq0 E1 E2 W1 W2 hr hs hfk hgk hA1 hA2 hcl hcs
        by_cases hat : r1 = s1
        · subst hat
          cases cl with
          | false =>
            have HNe := hid (show ¬ fs = gs from fun e => by have := (HA.out.1 (HEq.out e)).2.1; simp at HCL; exact HCL.out this)
            clear hKs
            go_wp2_with fail
            go_quiet ((go_at_call_of 108 (Value.slice o1 f.locals.length k1); exact hKl _))
            go_wp2_with fail
            go_ret
            exact ⟨false, rfl, ⟨fun h => by simp at h, fun h => absurd h HNe.out⟩, drew_more HQ.out _⟩
          | true =>
            cases cs with
            | false =>
              have HNe := hid (show ¬ fs = gs from fun e => by have := (HA.out.1 (HEq.out e)).2.2; simp at HCS; exact HCS.out this)
              go_wp2_with fail
              go_quiet (first | (go_at_call_of 108 (Value.slice o1 f.locals.length k1); exact hKl _) | (go_at_call_of 108 (Value.slice o2 f.stack.length k2); exact hKs _))
              go_wp2_with fail
              go_ret
              exact ⟨false, rfl, ⟨fun h => by simp at h, fun h => absurd h HNe.out⟩, drew_more HQ.out _⟩
            | true =>
              have HE2 := hid (show fs.take (k + 1) = gs.take (k + 1) from by rw [T1.out, T2.out, HE.out, HA.out.2 ⟨rfl, HCL.out.1 rfl, HCS.out.1 rfl⟩])
              go_wp2_with fail
              go_quiet (first | (go_at_call_of 108 (Value.slice o1 f.locals.length k1); exact hKl _) | (go_at_call_of 108 (Value.slice o2 f.stack.length k2); exact hKs _))
              go_wp2_with fail
              go_roundw
              case rel => exact ⟨k + 1, by omega, by go_num, HE2, drew_more HQ.out _⟩
              case measure => simp [intOf]; omega
        · have HNe := hid (show ¬ fs = gs from fun e => hat (HA.out.1 (HEq.out e)).1)
          have hat' : (r1 != s1) = true := by simpa using hat
          clear hKl hKs hat
          go_wp2_with fail
          go_quiet (fail)
          go_wp2_with fail
          go_ret
          exact ⟨false, rfl, ⟨fun h => by simp at h, fun h => absurd h HNe.out⟩, drew_more HQ.out _⟩
      · have HF2 := hid (show fs = gs from by
          have := HE.out
          rw [List.take_of_length_le (by omega), List.take_of_length_le (by rw [← HN.out]; omega)] at this
          exact this)
        go_wp2_with fail
        go_ret
        exact ⟨true, rfl, ⟨fun _ => HF2.out, fun _ => rfl⟩, HQ.out⟩
  · obtain ⟨ao1, c1, hv1⟩ := own_len h1.row
    obtain ⟨ao2, c2, hv2⟩ := own_len h2.row
    subst hv1 hv2
    have HF := hid (show ¬ fs = gs from fun e => hn (by rw [e]))
    have hn' : ((fs.length : Int) != (gs.length : Int)) = true := by simp; omega
    clear h1 h2 hn
    go_enter Try.func92, Try.ntmps92
    go_wp2_with fail
    go_ret
    exact ⟨false, rfl, ⟨fun h => by simp at h, fun h => absurd h HF.out⟩, 0, rfl⟩

end Go.Proofs.Ytnejkkaicnbkoaa
