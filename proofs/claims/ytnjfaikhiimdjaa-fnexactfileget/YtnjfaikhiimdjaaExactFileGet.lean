/- Proved: the law FnExactFileGet returns true at every text and leaves its argument as it was: FileGet of the program answers as the specification's, at every argument; what it answers owns its memory, behind another call too. No condition. -/
import Derived.Test.YtnjfaikhiimdjaaRows
import Derived.Test.YtnjfaikhiimdjaaGetLaw
import Derived.WalkKit
import Derived.ProofKit
import Derived.OpenShut
import Derived.ShutString
namespace Go.Proofs.Ytnjfaikhiimdjaa.fnExactFileGet
open Go.ChangeShapes Go.WideShapes Go.ChangeAt Go.RowKit
open Go.ChangeMaps (open_string shut_string)
set_option linter.unusedVariables false
set_option maxHeartbeats 4000000
set_option maxRecDepth 20000

theorem own : ownKnob Try.prog.godebug = none := by kernel_rfl
theorem laidOut : laidOutB Try.prog = true := by kernel_rfl

theorem walk (a0 : ByteArray) (w0 : a0.size ≤ maxLen) (w : World) :
    Calls Try.prog 3 #[.string a0] w fun e w' => e = .returned (.bool true) ∧ Below w.heap.size w w' := by
  unfold maxLen at w0
  by_cases h : 1048576 < a0.size
  · go_enter Try.func3, Try.ntmps3
    go_wp2
    go_ret
    exact ⟨rfl, Below.refl _ _⟩
  · have hSh := short_cls a0
    have hS := fun w => specFileGet_any a0 w (by omega)
    have hI := fun w => (implFileGet_any a0 w (by omega)).mono (fun e w' h => GetA.v h)
    unfold GetU at hS
    unfold GetV at hI
    generalize clsOf a0 = c at *
    generalize okOf a0 = ok at *
    have hkz := kAll_le hSh
    have HSh := hid hSh
    clear hSh
    obtain ⟨k, hk⟩ : ∃ k : Nat, Hid (kAll c = k) := ⟨_, hid rfl⟩
    go_enter Try.func3, Try.ntmps3
    go_wp2_with fail
    refine (hS _).mono ?_
    rintro e w1 ⟨vp1, vi1, vf1, vm1, rfl, hc1, hf, hb1⟩
    have HFw := hid hf
    have HC1 := hid hc1
    have HB1 := hid hb1
    obtain ⟨o1, k1, hv1⟩ := own_len hc1.p
    obtain ⟨o2, k2, hv2⟩ := own_len hc1.i
    obtain ⟨o3, k3, hv3⟩ := own_len hc1.f
    obtain ⟨o4, k4, hv4⟩ := hc1.m.len
    subst hv1 hv2 hv3 hv4
    have D1 := (Below.refl w1.heap.size w1).alloc (Nat.le_refl _) (.cells (arrC (.slice o1 c.pool.length k1) c.flags c.name c.super (.slice o2 c.faces.length k2) (.slice o3 c.fields.length k3) (.slice o4 c.methods.length k4)) 27)
    have K1 := Lk.new w1 (arrC (.slice o1 c.pool.length k1) c.flags c.name c.super (.slice o2 c.faces.length k2) (.slice o3 c.fields.length k3) (.slice o4 c.methods.length k4)) 27
    obtain ⟨W1, hW1⟩ : ∃ W, W = w1.alloc (.cells (arrC (.slice o1 c.pool.length k1) c.flags c.name c.super (.slice o2 c.faces.length k2) (.slice o3 c.fields.length k3) (.slice o4 c.methods.length k4)) 27) := ⟨_, rfl⟩
    rw [← hW1] at D1 K1
    clear hc1 hf hb1
    go_wp2_with fail
    rw [← hW1]
    clear hW1
    refine (hI _).mono ?_
    rintro e w2 ⟨vp2, vi2, vf2, vm2, xs, ys, rfl, hc2, hb2⟩
    obtain ⟨p1, j1, hv1⟩ := own_len hc2.p
    obtain ⟨p2, j2, hv2⟩ := own_len hc2.i
    obtain ⟨p3, j3, hv3⟩ := own_len hc2.f
    obtain ⟨p4, j4, hv4⟩ := own_len hc2.m.row
    subst hv1 hv2 hv3 hv4
    have D2 := (Below.refl w2.heap.size w2).alloc (Nat.le_refl _) (.cells (arrC (.slice p1 c.pool.length j1) c.flags c.name c.super (.slice p2 c.faces.length j2) (.slice p3 c.fields.length j3) (.slice p4 c.methods.length j4)) 27)
    have K2 := Lk.new w2 (arrC (.slice p1 c.pool.length j1) c.flags c.name c.super (.slice p2 c.faces.length j2) (.slice p3 c.fields.length j3) (.slice p4 c.methods.length j4)) 27
    have HU := hid (show Under w2.heap.size (.slice p1 c.pool.length j1 :: .slice p2 c.faces.length j2 :: .slice p3 c.fields.length j3 :: mods (.slice p4 c.methods.length j4) xs ys) from by
      intro u hu i hi
      rcases List.mem_cons.1 hu with rfl | hu
      · exact (hc2.p.lt i hi).2
      · rcases List.mem_cons.1 hu with rfl | hu
        · exact (hc2.i.lt i hi).2
        · rcases List.mem_cons.1 hu with rfl | hu
          · exact (hc2.f.lt i hi).2
          · obtain ⟨e', z', n', xs', hu', _⟩ := (hc2.m.mk0 0).rows u hu
            exact (hu'.lt i hi).2)
    obtain ⟨W2, hW2⟩ : ∃ W, W = w2.alloc (.cells (arrC (.slice p1 c.pool.length j1) c.flags c.name c.super (.slice p2 c.faces.length j2) (.slice p3 c.fields.length j3) (.slice p4 c.methods.length j4)) 27) := ⟨_, rfl⟩
    rw [← hW2] at D2 K2
    have A2 := hc2.below D2
    have E2 : Below W1.heap.size W1 W2 := hb2.trans (D2.mono hb2.size)
    have K12 := (K1.keep hb2).alloc (.cells (arrC (.slice p1 c.pool.length j1) c.flags c.name c.super (.slice p2 c.faces.length j2) (.slice p3 c.fields.length j3) (.slice p4 c.methods.length j4)) 27)
    have hne : ¬ w1.heap.size = w2.heap.size := by have := (K1.keep hb2).lt; omega
    have hEq := eqClass_same c _ _ _ _ _ _ _ _ _ _ W2 HFw.out A2.all ((HC1.out.keep D1).keep E2)
    obtain ⟨⟨t0, t1, t2, t3, t4, t5, t6⟩, _⟩ := K2.c7
    obtain ⟨⟨s0, s1, s2, s3, s4, s5, s6⟩, _⟩ := K12.c7
    clear hc2 hb2 D2 K12
    go_wp2_with fail
    rw [← hW2]
    clear hW2
    refine hEq.mono ?_
    rintro e w3 ⟨rfl, hb3⟩
    have A3 := A2.below hb3
    have K3 := K2.keep hb3
    have E3 := E2.trans (hb3.mono E2.size)
    have hMk := markClass_any c _ _ _ _ xs ys W1.heap.size w3 HSh.out E3.size A3
    rw [hk.out] at hMk
    clear t0 t1 t2 t3 t4 t5 t6 s0 s1 s2 s3 s4 s5 s6 hb3 hEq A2 K2 E2
    obtain ⟨⟨t0, t1, t2, t3, t4, t5, t6⟩, _⟩ := K3.c7
    go_wp2_with fail
    refine hMk.mono ?_
    rintro e w4 ⟨rfl, ⟨us', ys', C4⟩, hb4, m4⟩
    have K4 := K3.mod m4 HU.out
    have E4 := E3.trans hb4
    have hHd := heldClass_any c _ _ _ _ us' ys' W1.heap.size w4 HSh.out C4
    rw [hk.out] at hHd
    clear t0 t1 t2 t3 t4 t5 t6 hb4 m4 hMk A3 K3 E3 HU
    obtain ⟨⟨t0, t1, t2, t3, t4, t5, t6⟩, _⟩ := K4.c7
    go_wp2_with fail
    refine hHd.mono ?_
    rintro e w5 ⟨rfl, hb5⟩
    have C5 := C4.below hb5
    have K5 := K4.keep hb5
    have E5 := E4.trans (hb5.mono E4.size)
    have HX := hid (show CK w5 W1.heap.size _ _ _ _ c us' ys' ∧ Lk w5 w2.heap.size _ 27 ∧ Below W1.heap.size W1 w5 from ⟨C5, K5, E5⟩)
    clear t0 t1 t2 t3 t4 t5 t6 hb5 hHd C4 K4 E4 C5 K5 E5
    go_wp2_with fail
    refine (hI _).mono ?_
    rintro e w6 ⟨vp6, vi6, vf6, vm6, xs6, ys6, rfl, hc6, hb6⟩
    obtain ⟨g1, l1, hv1⟩ := own_len hc6.p
    obtain ⟨g2, l2, hv2⟩ := own_len hc6.i
    obtain ⟨g3, l3, hv3⟩ := own_len hc6.f
    obtain ⟨g4, l4, hv4⟩ := own_len hc6.m.row
    subst hv1 hv2 hv3 hv4
    obtain ⟨C5, K5, E5⟩ := HX.out
    have D6 := (Below.refl w6.heap.size w6).alloc (Nat.le_refl _) (.cells (arrC (.slice g1 c.pool.length l1) c.flags c.name c.super (.slice g2 c.faces.length l2) (.slice g3 c.fields.length l3) (.slice g4 c.methods.length l4)) 27)
    have K6n := Lk.new w6 (arrC (.slice g1 c.pool.length l1) c.flags c.name c.super (.slice g2 c.faces.length l2) (.slice g3 c.fields.length l3) (.slice g4 c.methods.length l4)) 27
    obtain ⟨W6, hW6⟩ : ∃ W, W = w6.alloc (.cells (arrC (.slice g1 c.pool.length l1) c.flags c.name c.super (.slice g2 c.faces.length l2) (.slice g3 c.fields.length l3) (.slice g4 c.methods.length l4)) 27) := ⟨_, rfl⟩
    rw [← hW6] at D6 K6n
    have F6 : Below w5.heap.size w5 W6 := hb6.trans (D6.mono hb6.size)
    have E6 := E5.trans (F6.mono E5.size)
    have C6 := C5.below F6
    have K6 := K5.keep F6
    have K61 := (K1.keep (E5.trans (hb6.mono E5.size))).alloc (.cells (arrC (.slice g1 c.pool.length l1) c.flags c.name c.super (.slice g2 c.faces.length l2) (.slice g3 c.fields.length l3) (.slice g4 c.methods.length l4)) 27)
    have hne6 : ¬ w1.heap.size = w6.heap.size := by have := (K1.keep (E5.trans (hb6.mono E5.size))).lt; omega
    have A6 := hc6.below D6
    have hEq := eqClass_same c _ _ _ _ _ _ _ _ _ _ W6 HFw.out A6.all ((HC1.out.keep D1).keep E6)
    have HY := hid (show CK W6 W1.heap.size _ _ _ _ c us' ys' ∧ Lk W6 w2.heap.size _ 27 ∧ Below w.heap.size w W6 from ⟨C6, K6, HB1.out.trans ((D1.trans (E6.mono D1.size)).mono HB1.out.size)⟩)
    obtain ⟨⟨t0, t1, t2, t3, t4, t5, t6⟩, _⟩ := K6n.c7
    obtain ⟨⟨s0, s1, s2, s3, s4, s5, s6⟩, _⟩ := K61.c7
    clear HX C5 K5 E5 hc6 hb6 D6 F6 E6 C6 K6 A6 K1 D1 HC1 HB1 K6n K61
    go_wp2_with fail
    rw [← hW6]
    clear hW6
    refine hEq.mono ?_
    rintro e w7 ⟨rfl, hb7⟩
    obtain ⟨C6, K6, E6⟩ := HY.out
    have K7 := K6.keep hb7
    have hHd := heldClass_any c _ _ _ _ us' ys' W1.heap.size w7 HSh.out (C6.below hb7)
    rw [hk.out] at hHd
    have HZ := hid (E6.trans (hb7.mono E6.size))
    clear t0 t1 t2 t3 t4 t5 t6 s0 s1 s2 s3 s4 s5 s6 C6 K6 E6 HY hEq hb7
    obtain ⟨⟨t0, t1, t2, t3, t4, t5, t6⟩, _⟩ := K7.c7
    go_wp2_with fail
    refine hHd.mono ?_
    rintro e w8 ⟨rfl, hb8⟩
    have HE := hid (HZ.out.trans (hb8.mono HZ.out.size))
    clear hHd hb8 HZ K7 t0 t1 t2 t3 t4 t5 t6 hI hS
    go_wp2
    go_ret
    exact ⟨rfl, HE.out⟩

set_option maxRecDepth 100000 in
theorem lifted (os : Os) (started : os.Started) (H : Type) (enc : TypeId × Value → H) :
    ReturnsInHanded {} Try.checked os 3 .any (Rows.fnExactFileGetSpec.pre6 enc Try.prog Try.f3 Rows.fnExactFileGetRow.domain false) (Rows.fnExactFileGetSpec.post enc Try.prog Try.f3 false true false false) := by
  refine returnsInHanded_of_change (C := Try.checked) own started (by kernel_rfl) Try.func3
    (ChangeSpec.witness6 (enc := enc) (C := Try.checked) false ⟨#[], #[.string ByteArray.empty], []⟩ 8 (by kernel_rfl) (by kernel_rfl) (by kernel_rfl) (by kernel_rfl)) ?_
  intro W base args ds gs before hval0 hW hcnd _
  have hval : ∀ (j : Nat) t v, Try.f3.params[j]? = some t → args[j]? = some v → Value.okWide Try.prog W .any base t v := hval0
  have hW' := hW
  obtain ⟨p, q, hA0, hV, rfl, hfz, hnd⟩ := hW
  have hA : DataW.TrodAll enc Try.prog W 0 (fun _ => true) true Try.f3.params.toList args.toList ds p := hA0
  rw [Try.params3] at hA hval
  obtain ⟨v0, vs0, d0, ds0, p0, q0, hargs, rfl, rfl, h0, r0⟩ := trodAll_cons hA
  obtain ⟨rfl, rfl, rfl⟩ := trodAll_nil r0
  obtain rfl : args = #[v0] := by cases args; simp_all
  obtain ⟨rfl, rfl⟩ := trodVars_none hV
  obtain ⟨a0, rfl, rfl, rfl, w0⟩ := open_string Try.underlying9 (hval 0 9 v0 rfl rfl) h0
  clear hA0 hval0
  refine (walk a0 w0 W).mono fun e W' ⟨he, bel⟩ => ?_
  subst he
  exact ⟨_, rfl, _, _, _, [], _, [], hW', trodAll_mk1 (shut_bool Try.underlying4 _), (trodAll_cons_mk (shut_string Try.underlying9 w0) trodAll_mk0), rfl, bel.frame _, fun h => by cases h⟩

theorem over : Rows.fnExactFileGetRow.holds Try.pinned (OpenSpec.ofChange Rows.fnExactFileGetSpec) :=
  OpenClaim.holds_of_wide 3 Try.f3 rfl rfl rfl rfl rfl rfl rfl ⟨rfl, rfl, rfl, rfl, rfl⟩ rfl rfl rfl rfl rfl (by kernel_rfl) Try.func3 (by kernel_rfl)
    (of_decide_eq_true (by kernel_rfl)) (by unfold Func.isWrapper; first | (rw [if_pos (by decide +kernel)]; kernel_rfl) | (rw [if_neg (by decide +kernel)]; exact ⟨rfl, rfl⟩))
    (fun os started H enc _ => lifted os started H enc)

end Go.Proofs.Ytnjfaikhiimdjaa.fnExactFileGet
namespace Go.Proofs.Ytnjfaikhiimdjaa
theorem fnExactFileGetHolds : Rows.FnExactFileGetSaid := fnExactFileGet.over
end Go.Proofs.Ytnjfaikhiimdjaa
