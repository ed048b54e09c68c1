/- Contracts of FrameMany, the specification's and the program's, over any contract of ClassCheck. Printed by tools/gen/many.py. -/
import Derived.Test.YtadgoaogkkffmaaGreatDoorFrMath
import Derived.Test.YtadgoaogkkffmaaGreatDoorG03
import Derived.Test.YtadgoaogkkffmaaGreatDoorK01
namespace Go.Proofs.YtadgoaogkkffmaaGreatDoor
open Mx Go.RowKit
set_option maxHeartbeats 2000000
set_option maxRecDepth 20000
set_option linter.unusedVariables false

/-- the lists of a class's methods as the row of methods has them -/
theorem methods_open {w : World} {B : Nat} {v : Value} {ms : List MMethod} (h : MethodsW w B v ms) :
    ∃ xs : List SMethod, xs.length = ms.length ∧ w.ownsRow B 74 8 v ms.length (rowMethod xs) ∧ ∀ k (h : k < ms.length) (h' : k < xs.length), ∃ a5 n5 k5 a6 k6, xs[k] = shM ms[k] (.slice a5 n5 k5) (.slice a6 ms[k].frames.length k6) ∧ FramesW w B (.slice a6 ms[k].frames.length k6) ms[k].frames := by
  obtain ⟨xs, h1, h2, h3⟩ := h
  refine ⟨xs, h1, h2, fun k hk hk' => ?_⟩
  obtain ⟨vt, vr, he, hw⟩ := h3 k hk hk'
  obtain ⟨a1, k1, e1⟩ := own_len hw.t
  obtain ⟨a2, k2, e2⟩ := hw.f.len
  subst e1 e2
  exact ⟨_, _, _, _, _, he, hw.f⟩
theorem frames_open {w : World} {B : Nat} {v : Value} {fs : List MFrame} (h : FramesW w B v fs) :
    ∃ ys : List SFrame, ys.length = fs.length ∧ w.ownsRow B 80 3 v fs.length (rowFrame ys) ∧ ∀ k (h : k < fs.length) (h' : k < ys.length), ∃ a1 k1 a2 k2, ys[k].l = .slice a1 fs[k].locals.length k1 ∧ ys[k].s = .slice a2 fs[k].stack.length k2 := by
  obtain ⟨ys, h1, h2, h3⟩ := h
  refine ⟨ys, h1, h2, fun k hk hk' => ?_⟩
  have hw := h3 k hk hk'
  obtain ⟨a1, k1, e1⟩ := own_len hw.l
  obtain ⟨a2, k2, e2⟩ := own_len hw.s
  exact ⟨_, _, _, _, e1, e2⟩

theorem specMany_any (c : MClass) (vp vi vf vm : Value) (B : Nat) (w : World) (Q : Int → Prop) (hc : c.few) (h : ClassW w B vp vi vf vm c)
    (hI : ∀ W, Below w.heap.size w W → Calls Tryz.prog 10 #[.agg #[vp, .int .i64 c.flags, .int .i64 c.name, .int .i64 c.super, vi, vf, vm]] W fun e w' => ∃ n : Int, e = .returned (.int .i64 n) ∧ Q n ∧ Below W.heap.size W w') :
    Calls Tryz.prog 18 #[.agg #[vp, .int .i64 c.flags, .int .i64 c.name, .int .i64 c.super, vi, vf, vm]] w fun e w' => ∃ r : Int, e = .returned (.int .i64 r) ∧ (∃ n, Q n ∧ r = manyR c n) ∧ Below w.heap.size w w' := by
  obtain ⟨o1, j1, hv1⟩ := own_len h.p
  obtain ⟨o2, j2, hv2⟩ := own_len h.i
  obtain ⟨o3, j3, hv3⟩ := own_len h.f
  obtain ⟨o4, j4, hv4⟩ := h.m.len
  subst hv1 hv2 hv3 hv4
  have P0 := HB.one w (arrK (.slice o1 c.pool.length j1) c.flags c.name c.super (.slice o2 c.faces.length j2) (.slice o3 c.fields.length j3) (.slice o4 c.methods.length j4)) 34
  have hX := hI _ P0.b
  obtain ⟨xs, hxl, hxo, hxe⟩ := methods_open h.m
  have HO := hid hxo
  have HXL := hid hxl
  have HE0 := hid hxe
  have HM := hid (manyM_few hc)
  have HF := hid hc.each
  have hml := hc.methods
  clear h hc hI hxo hxl hxe
  go_enter Tryz.func18, Tryz.ntmps18
  go_wp2_with fail
  refine hX.mono ?_
  rintro e w1 ⟨n, rfl, hn, hb1⟩
  have P1 := P0.keep hb1
  have HN := hid hn
  clear P0 hb1 hX hn
  by_cases h0 : n = 0
  · subst h0
    obtain ⟨c0, c1, c2, c3, c4, c5, c6⟩ := P1.hd.k7
    go_wp2
    go_loopw [3, 4] (fun s i wr => ∃ (k : Nat), k ≤ c.methods.length ∧ i = .int .i64 k ∧ s = .int .i64 ((manyM (c.methods.take k) : Nat) : Int) ∧ HB w [(w.heap.size, arrK (.slice o1 c.pool.length j1) c.flags c.name c.super (.slice o2 c.faces.length j2) (.slice o3 c.fields.length j3) (.slice o4 c.methods.length j4), 34)] wr) (fun _ i _ => c.methods.length - (intOf i).toNat)
    case atStart => exact ⟨0, by omega, by first | rfl | go_num, by first | rfl | simp [manyM], P1⟩
    case round =>
      obtain ⟨k, hk, rfl, rfl, P⟩ := hrel
      clear P1 c0 c1 c2 c3 c4 c5 c6
      obtain ⟨c0, c1, c2, c3, c4, c5, c6⟩ := P.hd.k7
      by_cases hlt : k < c.methods.length
      · obtain ⟨g, hg⟩ := own_some HO.out (by omega)
        subst hg
        obtain ⟨g0, g1, g2, g3, g4, g5, g6, g7⟩ := ownMethod_at (own_below HO.out P.b) (k := k) HXL.out (by rw [HXL.out]; exact hlt)
        have hgl := ((own_below HO.out P.b).lt g rfl).2
        obtain ⟨a5, n5, k5, a6, k6, hxk, hFW⟩ := HE0.out k hlt (by rw [HXL.out]; exact hlt)
        rw [hxk] at g0 g1 g2 g3 g4 g5 g6 g7
        obtain ⟨ys, hyl, hyo, hye⟩ := frames_open hFW
        have hfl := (HF.out _ (List.getElem_mem hlt)).2.2.1
        have HFA := hid (HF.out _ (List.getElem_mem hlt))
        have HNX := hid (manyM_next hlt)
        have hT0 := HM.out k
        generalize hX : c.methods[k] = x at g0 g1 g2 g3 g4 g5 g6 g7 hxk hyl hyo hye hfl HFA HNX
        generalize hT : manyM (c.methods.take k) = T at HNX hT0
        have HYO := hid hyo
        have HYL := hid hyl
        have HYE := hid hye
        have HXK := hid hxk
        clear hX hxk hFW hyo hyl hye
        simp only [shM] at g0 g1 g2 g3 g4 g5 g6 g7
        have z4 : (k : Int) < (c.methods.length : Int) := by omega
        go_wp2
        go_loopw [3, 5] (fun s j wd => ∃ (m : Nat), m ≤ x.frames.length ∧ j = .int .i64 m ∧ s = .int .i64 ((T + frS (x.frames.take m) : Nat) : Int) ∧ HB w [(w.heap.size, arrK (.slice o1 c.pool.length j1) c.flags c.name c.super (.slice o2 c.faces.length j2) (.slice o3 c.fields.length j3) (.slice (some ⟨g, 0, none⟩) c.methods.length j4), 34)] wd) (fun _ j _ => x.frames.length - (intOf j).toNat)
        case atStart => exact ⟨0, by omega, by first | rfl | go_num, by first | rfl | simp [frS], P⟩
        case round =>
          obtain ⟨m, hm, rfl, rfl, PM⟩ := hrel
          have hT2 := frS_few HFA.out m
          clear c0 c1 c2 c3 c4 c5 c6 g0 g1 g2 g3 g4 g5 g6 g7 hgl
          obtain ⟨c0, c1, c2, c3, c4, c5, c6⟩ := PM.hd.k7
          obtain ⟨g0, g1, g2, g3, g4, g5, g6, g7⟩ := ownMethod_at (own_below HO.out PM.b) (k := k) HXL.out (by rw [HXL.out]; exact hlt)
          have hgl := ((own_below HO.out PM.b).lt g rfl).2
          rw [HXK.out] at g7
          simp only [shM] at g7
          clear g0 g1 g2 g3 g4 g5 g6
          by_cases hmt : m < x.frames.length
          · have hNF := frS_next hmt
            have hT3 := frS_few HFA.out (m + 1)
            obtain ⟨q, hq⟩ := own_some HYO.out (by omega)
            subst hq
            obtain ⟨q0, q1, q2⟩ := ownFrame_at (own_below HYO.out PM.b) (k := m) HYL.out (by rw [HYL.out]; exact hmt)
            have hql := ((own_below HYO.out PM.b).lt q rfl).2
            obtain ⟨u1, l1, u2, l2, e1, e2⟩ := HYE.out m hmt (by rw [HYL.out]; exact hmt)
            rw [e1] at q1
            rw [e2] at q2
            unfold frN at hNF
            rw [hNF] at hT3
            have HNF := hid hNF
            generalize x.frames[m].locals.length = A at q1 HNF hT3
            generalize x.frames[m].stack.length = D at q2 HNF hT3
            clear hNF e1 e2
            have z5 : (m : Int) < (x.frames.length : Int) := by omega
            generalize frS (x.frames.take m) = U at HNF hT2 hT3
            go_upto_region 10 with fail
            go_quiet (fail)
            go_wp2
            go_roundw
            case rel => exact ⟨m + 1, by omega, by go_num, by rw [HNF.out]; go_num, PM.keep (below_drewN (Below.refl _ _) _)⟩
            case measure => simp [intOf]; omega
          · obtain rfl : m = x.frames.length := by omega
            rw [List.take_length] at hT2
            have HU : Hid (manyM (c.methods.take (k + 1)) = T + frS (x.frames.take x.frames.length)) := by rw [List.take_length]; exact HNX.out
            generalize frS (x.frames.take x.frames.length) = U at HU
            go_wp2
            go_roundw
            case rel => exact ⟨k + 1, by omega, by go_num, by rw [HU.out], PM⟩
            case measure => simp [intOf]; omega
      · obtain rfl : k = c.methods.length := by omega
        have HZ := hid (show ((manyM (c.methods.take c.methods.length) : Nat) : Int) = manyR c 0 by unfold manyR manyC; rw [if_pos rfl, List.take_length])
        have HB := hid P.b
        clear P
        generalize ((manyM (c.methods.take c.methods.length) : Nat) : Int) = R at HZ
        go_wp2
        go_ret
        exact ⟨R, rfl, ⟨0, HN.out, HZ.out⟩, HB.out⟩
  · have HZ := hid (show (0 : Int) = manyR c n by unfold manyR; rw [if_neg h0])
    have HB := hid P1.b
    clear P1
    go_wp2
    go_ret
    exact ⟨0, rfl, ⟨n, HN.out, HZ.out⟩, HB.out⟩

theorem implMany_any (c : MClass) (vp vi vf vm : Value) (B : Nat) (w : World) (Q : Int → Prop) (hc : c.few) (h : ClassW w B vp vi vf vm c)
    (hI : ∀ W, Below w.heap.size w W → Calls Tryz.prog 12 #[.agg #[vp, .int .i64 c.flags, .int .i64 c.name, .int .i64 c.super, vi, vf, vm]] W fun e w' => ∃ n : Int, e = .returned (.int .i64 n) ∧ Q n ∧ Below W.heap.size W w') :
    Calls Tryz.prog 19 #[.agg #[vp, .int .i64 c.flags, .int .i64 c.name, .int .i64 c.super, vi, vf, vm]] w fun e w' => ∃ r : Int, e = .returned (.int .i64 r) ∧ (∃ n, Q n ∧ r = manyR c n) ∧ Below w.heap.size w w' := by
  obtain ⟨o1, j1, hv1⟩ := own_len h.p
  obtain ⟨o2, j2, hv2⟩ := own_len h.i
  obtain ⟨o3, j3, hv3⟩ := own_len h.f
  obtain ⟨o4, j4, hv4⟩ := h.m.len
  subst hv1 hv2 hv3 hv4
  have P0 := HB.one w (arrK (.slice o1 c.pool.length j1) c.flags c.name c.super (.slice o2 c.faces.length j2) (.slice o3 c.fields.length j3) (.slice o4 c.methods.length j4)) 34
  have hX := hI _ P0.b
  obtain ⟨xs, hxl, hxo, hxe⟩ := methods_open h.m
  have HO := hid hxo
  have HXL := hid hxl
  have HE0 := hid hxe
  have HM := hid (manyM_few hc)
  have HF := hid hc.each
  have hml := hc.methods
  clear h hc hI hxo hxl hxe
  go_enter Tryz.func19, Tryz.ntmps19
  go_wp2_with fail
  refine hX.mono ?_
  rintro e w1 ⟨n, rfl, hn, hb1⟩
  have P1 := P0.keep hb1
  have HN := hid hn
  clear P0 hb1 hX hn
  by_cases h0 : n = 0
  · subst h0
    obtain ⟨c0, c1, c2, c3, c4, c5, c6⟩ := P1.hd.k7
    go_wp2
    go_loopw [3, 14] (fun s i wr => ∃ (k : Nat), k ≤ c.methods.length ∧ i = .int .i64 k ∧ s = .int .i64 ((manyM (c.methods.take k) : Nat) : Int) ∧ HB w [(w.heap.size, arrK (.slice o1 c.pool.length j1) c.flags c.name c.super (.slice o2 c.faces.length j2) (.slice o3 c.fields.length j3) (.slice o4 c.methods.length j4), 34)] wr) (fun _ i _ => c.methods.length - (intOf i).toNat)
    case atStart => exact ⟨0, by omega, by first | rfl | go_num, by first | rfl | simp [manyM], P1⟩
    case round =>
      obtain ⟨k, hk, rfl, rfl, P⟩ := hrel
      clear P1 c0 c1 c2 c3 c4 c5 c6
      obtain ⟨c0, c1, c2, c3, c4, c5, c6⟩ := P.hd.k7
      by_cases hlt : k < c.methods.length
      · obtain ⟨g, hg⟩ := own_some HO.out (by omega)
        subst hg
        obtain ⟨g0, g1, g2, g3, g4, g5, g6, g7⟩ := ownMethod_at (own_below HO.out P.b) (k := k) HXL.out (by rw [HXL.out]; exact hlt)
        have hgl := ((own_below HO.out P.b).lt g rfl).2
        obtain ⟨a5, n5, k5, a6, k6, hxk, hFW⟩ := HE0.out k hlt (by rw [HXL.out]; exact hlt)
        rw [hxk] at g0 g1 g2 g3 g4 g5 g6 g7
        obtain ⟨ys, hyl, hyo, hye⟩ := frames_open hFW
        have hfl := (HF.out _ (List.getElem_mem hlt)).2.2.1
        have HFA := hid (HF.out _ (List.getElem_mem hlt))
        have HNX := hid (manyM_next hlt)
        have hT0 := HM.out k
        generalize hX : c.methods[k] = x at g0 g1 g2 g3 g4 g5 g6 g7 hxk hyl hyo hye hfl HFA HNX
        generalize hT : manyM (c.methods.take k) = T at HNX hT0
        have HYO := hid hyo
        have HYL := hid hyl
        have HYE := hid hye
        clear hX hxk hFW hyo hyl hye
        simp only [shM] at g0 g1 g2 g3 g4 g5 g6 g7
        have z4 : (k : Int) < (c.methods.length : Int) := by omega
        go_wp2
        go_loopw [3, 21] (fun s j wd => ∃ (m : Nat), m ≤ x.frames.length ∧ j = .int .i64 m ∧ s = .int .i64 ((T + frS (x.frames.take m) : Nat) : Int) ∧ HB w [(w.heap.size, arrK (.slice o1 c.pool.length j1) c.flags c.name c.super (.slice o2 c.faces.length j2) (.slice o3 c.fields.length j3) (.slice (some ⟨g, 0, none⟩) c.methods.length j4), 34)] wd) (fun _ j _ => x.frames.length - (intOf j).toNat)
        case atStart => exact ⟨0, by omega, by first | rfl | go_num, by first | rfl | simp [frS], P.keep (by go_grown)⟩
        case round =>
          obtain ⟨m, hm, rfl, rfl, PM⟩ := hrel
          have hT2 := frS_few HFA.out m
          clear c0 c1 c2 c3 c4 c5 c6 g0 g1 g2 g3 g4 g5 g6 g7 hgl
          obtain ⟨c0, c1, c2, c3, c4, c5, c6⟩ := PM.hd.k7
          by_cases hmt : m < x.frames.length
          · have hNF := frS_next hmt
            have hT3 := frS_few HFA.out (m + 1)
            obtain ⟨q, hq⟩ := own_some HYO.out (by omega)
            subst hq
            obtain ⟨q0, q1, q2⟩ := ownFrame_at (own_below HYO.out PM.b) (k := m) HYL.out (by rw [HYL.out]; exact hmt)
            have hql := ((own_below HYO.out PM.b).lt q rfl).2
            obtain ⟨u1, l1, u2, l2, e1, e2⟩ := HYE.out m hmt (by rw [HYL.out]; exact hmt)
            rw [e1] at q1
            rw [e2] at q2
            unfold frN at hNF
            rw [hNF] at hT3
            have HNF := hid hNF
            generalize x.frames[m].locals.length = A at q1 HNF hT3
            generalize x.frames[m].stack.length = D at q2 HNF hT3
            clear hNF e1 e2
            have z5 : (m : Int) < (x.frames.length : Int) := by omega
            generalize frS (x.frames.take m) = U at HNF hT2 hT3
            go_wp2
            go_roundw
            case rel => exact ⟨m + 1, by omega, by go_num, by rw [HNF.out]; go_num, PM.keep (by go_grown)⟩
            case measure => simp [intOf]; omega
          · obtain rfl : m = x.frames.length := by omega
            rw [List.take_length] at hT2
            have HU : Hid (manyM (c.methods.take (k + 1)) = T + frS (x.frames.take x.frames.length)) := by rw [List.take_length]; exact HNX.out
            generalize frS (x.frames.take x.frames.length) = U at HU
            go_wp2
            go_roundw
            case rel => exact ⟨k + 1, by omega, by go_num, by rw [HU.out], PM⟩
            case measure => simp [intOf]; omega
      · obtain rfl : k = c.methods.length := by omega
        have HZ := hid (show ((manyM (c.methods.take c.methods.length) : Nat) : Int) = manyR c 0 by unfold manyR manyC; rw [if_pos rfl, List.take_length])
        have HB := hid P.b
        clear P
        generalize ((manyM (c.methods.take c.methods.length) : Nat) : Int) = R at HZ
        go_wp2
        go_ret
        exact ⟨R, rfl, ⟨0, HN.out, HZ.out⟩, HB.out⟩
  · have HZ := hid (show (0 : Int) = manyR c n by unfold manyR; rw [if_neg h0])
    have HB := hid P1.b
    clear P1
    go_wp2
    go_ret
    exact ⟨0, rfl, ⟨n, HN.out, HZ.out⟩, HB.out⟩

end Go.Proofs.YtadgoaogkkffmaaGreatDoor
