/- Contracts of the specification's comparison of methods. -/
import Derived.Test.YtnejkkaicnbkoaaSameFrames
namespace Go.Proofs.Ytnejkkaicnbkoaa
open Go.RowKit
set_option maxHeartbeats 4000000
set_option maxRecDepth 20000
set_option linter.unusedVariables false

theorem neq_trap {x0 y0 x1 y1 x2 y2 x3 y3 : Int} (h : ((x0 == y0) = false) ∨ ((x0 == y0) = true ∧ (x1 == y1) = false) ∨ ((x0 == y0) = true ∧ (x1 == y1) = true ∧ (x2 == y2) = false) ∨ ((x0 == y0) = true ∧ (x1 == y1) = true ∧ (x2 == y2) = true ∧ (x3 == y3) = false)) (W : World) :
    (binOp .neq 120 (.agg #[.int .i64 x0, .int .i64 x1, .int .i64 x2, .int .i64 x3]) (.agg #[.int .i64 y0, .int .i64 y1, .int .i64 y2, .int .i64 y3])).run Try.prog W = .ok (.bool true) W := by
  rcases h with h0 | ⟨h0, h1⟩ | ⟨h0, h1, h2⟩ | ⟨h0, h1, h2, h3⟩
  · go_simp
  · go_simp
  · go_simp
  · go_simp
theorem str_ne {a b : ByteArray} (h : ¬ a = b) : (a.toList == b.toList) = false := by
  rw [beq_eq_false_iff_ne, ByteArray.toList_eq, ByteArray.toList_eq]
  exact fun e => h (ByteArray.ext (Array.ext' e))
theorem lk_drewN {W : World} {C : Nat} {cs : Array Value} {T : TypeId} (h : Lk W C cs T) (q : Nat) : Lk (W.drewN q) C cs T := h.keep (below_drewN (Below.refl _ _) q)

theorem l1Method_any (m m' : MMethod) (vt vf ut uf : Value) (B1 B2 : Nat) (w : World) (hm : m.few) (hm' : m'.few) (h1 : MethodW w B1 vt vf m) (h2 : MethodW w B2 ut uf m') :
    Calls Try.prog 61 #[.agg #[.int .i64 m.flags, .int .i64 m.name, .int .i64 m.desc, .int .i64 m.deep, .int .i64 m.locals, .string m.code, vt, vf], .agg #[.int .i64 m'.flags, .int .i64 m'.name, .int .i64 m'.desc, .int .i64 m'.deep, .int .i64 m'.locals, .string m'.code, ut, uf]] w fun e w' => ∃ c : Bool, e = .returned (.bool c) ∧ (c = true ↔ m = m') ∧ Below w.heap.size w w' := by
  obtain ⟨x0, x1, x2, x3, x4, x5, ts, fs⟩ := m
  obtain ⟨y0, y1, y2, y3, y4, y5, us, gs⟩ := m'
  obtain ⟨o1, k1, hv1⟩ := own_len h1.t
  obtain ⟨o3, k3, hv3⟩ := own_len h2.t
  obtain ⟨xs, hxs⟩ := FX.of h1.f
  obtain ⟨ys, hys⟩ := FX.of h2.f
  obtain ⟨o2, k2, hv2⟩ := own_len hxs.row
  obtain ⟨o4, k4, hv4⟩ := own_len hys.row
  have H1 := hid h1.t
  have H2 := hid h2.t
  simp only at hv1 hv2 hv3 hv4 hxs hys H1 H2
  subst hv1 hv2 hv3 hv4
  obtain ⟨_, f2, f3, f4⟩ := hm
  obtain ⟨_, f6, f7, f8⟩ := hm'
  simp only at f2 f3 f4 f6 f7 f8
  have H3 := hid hxs
  have H4 := hid hys
  have HF := hid f4
  have HG := hid f8
  clear h1 h2 hxs hys f4 f8
  obtain ⟨P, hP⟩ : ∃ P : Prop, Hid (P ↔ MMethod.mk x0 x1 x2 x3 x4 x5 ts fs = MMethod.mk y0 y1 y2 y3 y4 y5 us gs) := ⟨_, Iff.rfl⟩
  have key : Calls Try.prog 61 #[.agg #[.int .i64 x0, .int .i64 x1, .int .i64 x2, .int .i64 x3, .int .i64 x4, .string x5, .slice o1 ts.length k1, .slice o2 fs.length k2], .agg #[.int .i64 y0, .int .i64 y1, .int .i64 y2, .int .i64 y3, .int .i64 y4, .string y5, .slice o3 us.length k3, .slice o4 gs.length k4]] w fun e w' => ∃ c : Bool, e = .returned (.bool c) ∧ (c = true ↔ P) ∧ Below w.heap.size w w' := by
    by_cases g0 : x0 = y0
    · subst g0
      by_cases g1 : x1 = y1
      · subst g1
        by_cases g2 : x2 = y2
        · subst g2
          by_cases g3 : x3 = y3
          · subst g3
            by_cases g4 : x4 = y4
            · subst g4
              by_cases g5 : x5 = y5
              · subst g5
                by_cases g6 : ts.length = us.length
                · have e6 : ((ts.length : Int) != (us.length : Int)) = false := by simp; omega
                  have HN := hid g6
                  clear g6
                  have K1 := ((Lk.new w #[.int .i64 x0, .int .i64 x1, .int .i64 x2, .int .i64 x3, .int .i64 x4, .string x5, .slice o1 ts.length k1, .slice o2 fs.length k2] 83).alloc (.cells #[.int .i64 x0, .int .i64 x1, .int .i64 x2, .int .i64 x3, .int .i64 x4, .string x5, .slice o3 us.length k3, .slice o4 gs.length k4] 83))
                  have K2 := (show Lk ((w.alloc (.cells #[.int .i64 x0, .int .i64 x1, .int .i64 x2, .int .i64 x3, .int .i64 x4, .string x5, .slice o1 ts.length k1, .slice o2 fs.length k2] 83)).alloc (.cells #[.int .i64 x0, .int .i64 x1, .int .i64 x2, .int .i64 x3, .int .i64 x4, .string x5, .slice o3 us.length k3, .slice o4 gs.length k4] 83)) (w.heap.size + 1) #[.int .i64 x0, .int .i64 x1, .int .i64 x2, .int .i64 x3, .int .i64 x4, .string x5, .slice o3 us.length k3, .slice o4 gs.length k4] 83 from by have := Lk.new (w.alloc (.cells #[.int .i64 x0, .int .i64 x1, .int .i64 x2, .int .i64 x3, .int .i64 x4, .string x5, .slice o1 ts.length k1, .slice o2 fs.length k2] 83)) #[.int .i64 x0, .int .i64 x1, .int .i64 x2, .int .i64 x3, .int .i64 x4, .string x5, .slice o3 us.length k3, .slice o4 gs.length k4] 83; simpa using this)
                  obtain ⟨W0, hW0⟩ : ∃ W0, (w.alloc (.cells #[.int .i64 x0, .int .i64 x1, .int .i64 x2, .int .i64 x3, .int .i64 x4, .string x5, .slice o1 ts.length k1, .slice o2 fs.length k2] 83)).alloc (.cells #[.int .i64 x0, .int .i64 x1, .int .i64 x2, .int .i64 x3, .int .i64 x4, .string x5, .slice o3 us.length k3, .slice o4 gs.length k4] 83) = W0 := ⟨_, rfl⟩
                  have hb0 : Below w.heap.size w W0 := by rw [← hW0]; exact ((Below.refl _ _).alloc (Nat.le_refl _) _).alloc (by simp) _
                  rw [hW0] at K1
                  rw [hW0] at K2
                  have HK1 := hid K1
                  have HK2 := hid K2
                  have HW0 := hid hW0
                  have HB0 := hid hb0
                  clear K1 K2 hW0 hb0
                  go_enter Try.func61, Try.ntmps61
                  go_wp2_with fail
                  rw [HW0.out]
                  go_loopw [5] (fun i wr => ∃ k : Nat, k ≤ ts.length ∧ i = .int .i64 k ∧ Hid (ts.take k = us.take k) ∧ Hid (∃ q, wr = W0.drewN q)) (fun i _ => ts.length - (intOf i).toNat)
                  case atStart => exact ⟨0, by omega, rfl, rfl, 0, rfl⟩
                  case round =>
                    obtain ⟨k, hk, rfl, HE, HQ⟩ := hrel
                    obtain ⟨q0, hq0⟩ := HQ.out
                    obtain ⟨⟨p0, p1, p2, p3, p4, p5, p6, p7⟩, _⟩ := (show Lk wr _ _ _ from by rw [hq0]; exact lk_drewN HK1.out q0).c8
                    obtain ⟨⟨r0, r1, r2, r3, r4, r5, r6, r7⟩, _⟩ := (show Lk wr _ _ _ from by rw [hq0]; exact lk_drewN HK2.out q0).c8
                    have hbw : Below w.heap.size w wr := by rw [hq0]; exact below_drewN HB0.out q0
                    by_cases hlt : k < ts.length
                    · have hlt2 : k < us.length := by rw [← HN.out]; exact hlt
                      obtain ⟨g1, hg1⟩ := own_some H1.out (by omega)
                      obtain ⟨g2, hg2⟩ := own_some H2.out (by omega)
                      subst hg1 hg2
                      obtain ⟨a1, a2, a3, a4⟩ := ownTrap_at (own_below H1.out hbw) hlt
                      obtain ⟨b1, b2, b3, b4⟩ := ownTrap_at (own_below H2.out hbw) hlt2
                      clear hq0
                      by_cases he : ts[k] = us[k]
                      · have HE2 := hid (show ts.take (k + 1) = us.take (k + 1) from by rw [List.take_succ_eq_append_getElem hlt, List.take_succ_eq_append_getElem hlt2, HE.out, he])
                        rw [he] at a1 a2 a3 a4
                        clear he
                        obtain ⟨z0, z1, z2, z3, hxyz⟩ : ∃ a b c d, us[k] = ⟨a, b, c, d⟩ := ⟨_, _, _, _, rfl⟩
                        rw [hxyz] at a1 a2 a3 a4 b1 b2 b3 b4
                        simp only at a1 a2 a3 a4 b1 b2 b3 b4
                        clear hxyz
                        go_wp2_with fail
                        go_quiet (fail)
                        go_wp2_with fail
                        go_roundw
                        case rel => exact ⟨k + 1, by omega, by go_num, HE2, drew_more HQ.out _⟩
                        case measure => simp [intOf]; omega
                      · have HNe := hid (show ¬ P from fun p => (fun e => he (by injection e with _ _ _ _ _ _ e; subst e; rfl)) (hP.out.1 p))
                        obtain ⟨z0, z1, z2, z3, hxyz⟩ : ∃ a b c d, ts[k] = ⟨a, b, c, d⟩ := ⟨_, _, _, _, rfl⟩
                        obtain ⟨v0, v1, v2, v3, hxyz'⟩ : ∃ a b c d, us[k] = ⟨a, b, c, d⟩ := ⟨_, _, _, _, rfl⟩
                        rw [hxyz, hxyz'] at he
                        rw [hxyz] at a1 a2 a3 a4
                        rw [hxyz'] at b1 b2 b3 b4
                        simp only at a1 a2 a3 a4 b1 b2 b3 b4
                        clear hxyz hxyz'
                        have hne : ((z0 == v0) = false) ∨ ((z0 == v0) = true ∧ (z1 == v1) = false) ∨ ((z0 == v0) = true ∧ (z1 == v1) = true ∧ (z2 == v2) = false) ∨ ((z0 == v0) = true ∧ (z1 == v1) = true ∧ (z2 == v2) = true ∧ (z3 == v3) = false) := by
                          by_cases q0 : z0 = v0
                          · by_cases q1 : z1 = v1
                            · by_cases q2 : z2 = v2
                              · by_cases q3 : z3 = v3
                                · exact absurd (by rw [q0, q1, q2, q3]) he
                                · exact .inr (.inr (.inr ⟨by simpa using q0, by simpa using q1, by simpa using q2, by simpa using q3⟩))
                              · exact .inr (.inr (.inl ⟨by simpa using q0, by simpa using q1, by simpa using q2⟩))
                            · exact .inr (.inl ⟨by simpa using q0, by simpa using q1⟩)
                          · exact .inl (by simpa using q0)
                        have hrun := neq_trap hne
                        clear he hne
                        go_wp2_with fail
                        go_quiet (fail)
                        go_wp2_with fail
                        go_ret
                        exact ⟨false, rfl, ⟨fun h => by simp at h, fun h => absurd h HNe.out⟩, below_drewN hbw _⟩
                    · have HT := hid (show ts = us from by
                        have := HE.out
                        rw [List.take_of_length_le (by omega), List.take_of_length_le (by rw [← HN.out]; omega)] at this
                        exact this)
                      have hk1 := (show FX wr B1 (.slice o2 fs.length k2) fs xs from ⟨H3.out.len, own_below H3.out.row hbw, fun k q1 q2 => (H3.out.each k q1 q2).keep hbw⟩)
                      have hk2 := (show FX wr B2 (.slice o4 gs.length k4) gs ys from ⟨H4.out.len, own_below H4.out.row hbw, fun k q1 q2 => (H4.out.each k q1 q2).keep hbw⟩)
                      have HFr := l1Frames_any _ _ fs gs xs ys B1 B2 wr f3 f7 HF.out HG.out hk1 hk2
                      clear hk1 hk2 hq0
                      go_wp2_with fail
                      refine HFr.mono ?_
                      rintro e w2 ⟨c, rfl, hc, q, hq⟩
                      have HC := hid hc
                      have hbw2 : Below w.heap.size w w2 := by rw [hq]; exact below_drewN hbw q
                      clear hc hq HFr
                      go_wp2_with fail
                      go_ret
                      refine ⟨c, rfl, ?_, hbw2⟩
                      rw [HC.out, hP.out]
                      constructor
                      · intro e; rw [e, HT.out]
                      · intro e; injection e
                · have HNe := hid (show ¬ P from fun p => (fun e => g6 (by injection e with _ _ _ _ _ _ e; rw [e])) (hP.out.1 p))
                  have e6 : ((ts.length : Int) != (us.length : Int)) = true := by simp; omega
                  clear g6 H1 H2 H3 H4 HF HG
                  go_enter Try.func61, Try.ntmps61
                  go_wp2_with fail
                  go_ret
                  exact .inl ⟨rfl, HNe.out, by go_grown⟩
              · have HNe := hid (show ¬ P from fun p => (fun e => g5 (by injection e)) (hP.out.1 p))
                have e5 := str_ne g5
                clear g5 H1 H2 H3 H4 HF HG
                go_enter Try.func61, Try.ntmps61
                go_wp2_with fail
                go_ret
                exact .inl ⟨rfl, HNe.out, by go_grown⟩
            · have HNe := hid (show ¬ P from fun p => (fun e => g4 (by injection e)) (hP.out.1 p))
              have e4 : (x4 != y4) = true := by simpa using g4
              clear g4 H1 H2 H3 H4 HF HG
              go_enter Try.func61, Try.ntmps61
              go_wp2_with fail
              go_ret
              exact .inl ⟨rfl, HNe.out, by go_grown⟩
          · have HNe := hid (show ¬ P from fun p => (fun e => g3 (by injection e)) (hP.out.1 p))
            have e3 : (x3 != y3) = true := by simpa using g3
            clear g3 H1 H2 H3 H4 HF HG
            go_enter Try.func61, Try.ntmps61
            go_wp2_with fail
            go_ret
            exact .inl ⟨rfl, HNe.out, by go_grown⟩
        · have HNe := hid (show ¬ P from fun p => (fun e => g2 (by injection e)) (hP.out.1 p))
          have e2 : (x2 != y2) = true := by simpa using g2
          clear g2 H1 H2 H3 H4 HF HG
          go_enter Try.func61, Try.ntmps61
          go_wp2_with fail
          go_ret
          exact .inl ⟨rfl, HNe.out, by go_grown⟩
      · have HNe := hid (show ¬ P from fun p => (fun e => g1 (by injection e)) (hP.out.1 p))
        have e1 : (x1 != y1) = true := by simpa using g1
        clear g1 H1 H2 H3 H4 HF HG
        go_enter Try.func61, Try.ntmps61
        go_wp2_with fail
        go_ret
        exact .inl ⟨rfl, HNe.out, by go_grown⟩
    · have HNe := hid (show ¬ P from fun p => (fun e => g0 (by injection e)) (hP.out.1 p))
      have e0 : (x0 != y0) = true := by simpa using g0
      clear g0 H1 H2 H3 H4 HF HG
      go_enter Try.func61, Try.ntmps61
      go_wp2_with fail
      go_ret
      exact .inl ⟨rfl, HNe.out, by go_grown⟩

  refine key.mono ?_
  rintro e w' ⟨c, rfl, hc, hb⟩
  exact ⟨c, rfl, hc.trans hP.out, hb⟩

end Go.Proofs.Ytnejkkaicnbkoaa
