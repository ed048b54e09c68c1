/- Contracts of the specification's reader: a method. -/
import Derived.Test.YtnjfaikhiimdjaaRdBody
namespace Go.Proofs.Ytnjfaikhiimdjaa
open Go.RowKit Fm
set_option maxHeartbeats 4000000
set_option maxRecDepth 20000
set_option linter.unusedVariables false

theorem l1method_any (b : Nat) (s : ByteArray) (st : Option (List UInt8)) (w : World) (hs : s.size ≤ 1000000000) (h : RdAt w b s st) :
    Calls Try.prog 76 #[.pointer (some ⟨b, 0, none⟩)] w fun e w' => ∃ (m : MMethod) (vt vf : Value) (st' : Option (List UInt8)), e = .returned (.agg #[.int .i64 m.flags, .int .i64 m.name, .int .i64 m.desc, .int .i64 m.deep, .int .i64 m.locals, .string m.code, vt, vf]) ∧ MethodW w' w.heap.size vt vf m ∧ m.few ∧ RdAt w' b s st' ∧ w.grownBy w' (some b) ∧ Rd rMethod st m st' := by
  have H1 := fun st w h => l1one_any b s st w hs h
  have H2 := fun st w h => l1two_any b s st w hs h
  have H3 := fun st x y z w h => l1body_any b s st x y z w hs h
  have HB := h.lt
  have S0 := (St.start h).alloc (.cells zM 83)
  have K0 := Lk.new w zM 83
  clear h
  go_enter Try.func76, Try.ntmps76
  go_upto_region 1 with fail
  go_cut [3] (fun p wc => ∃ (x y z : Nat) (st3 : Option (List UInt8)) (M : Nat), p = .pointer (some ⟨M, 0, none⟩) ∧ x < 256 ∧ M ≠ w.heap.size ∧ Hid (BS w b s M w.heap.size 83 zM st3 (arrM x y z 0 0 empty (.slice none 0 0) (.slice none 0 0)) wc) ∧ Hid (∀ m st', Rd (if absF (x : Int) then ppure ⟨x, y, z, 0, 0, empty, [], []⟩ else rBody x y z) st3 m st' → Rd rMethod st m st'))
  case first =>
    go_wp2_with fail
    refine (H1 _ _ S0.rd).mono ?_
    rintro e w1 ⟨x, st1, rfl, hx, h1, g1, r1⟩
    have S1 := S0.call h1 g1
    have K1 := K0.call g1 (by omega)
    clear S0 K0 h1 g1
    go_wp2_with fail
    refine (H2 _ _ S1.rd).mono ?_
    rintro e w2 ⟨y, st2, rfl, hy, h2, g2, r2⟩
    have S2 := S1.call h2 g2
    have K2 := K1.call g2 (by omega)
    clear S1 K1 h2 g2
    go_wp2_with fail
    refine (H2 _ _ S2.rd).mono ?_
    rintro e w3 ⟨z, st3, rfl, hz, h3, g3, r3⟩
    have S3 := S2.call h3 g3
    have K3 := K2.call g3 (by omega)
    have hlt := K3.lt
    have HB3 := hid (show BS w b s w3.heap.size w.heap.size 83 zM st3 (arrM x y z 0 0 empty (.slice none 0 0) (.slice none 0 0)) (w3.alloc (.cells (arrM x y z 0 0 empty (.slice none 0 0) (.slice none 0 0)) 83)) from ⟨S3.alloc _, Lk.new _ _ _, K3.alloc _, S3.size, Nat.le_refl _, by omega⟩)
    have HR := hid (show ∀ m st', Rd (if absF (x : Int) then ppure ⟨x, y, z, 0, 0, empty, [], []⟩ else rBody x y z) st3 m st' → Rd rMethod st m st' from fun m st' hm => by
      refine r1.bind ?_
      refine r2.bind ?_
      refine r3.bind ?_
      exact hm)
    clear S2 K2 S3 K3 h3 g3 H1 H2 H3 r1 r2 r3
    go_wp2_with fail
    go_meet
    case rel => exact ⟨x, y, z, st3, w3.heap.size, rfl, hx, by omega, HB3, HR⟩
  case rest =>
    obtain ⟨x, y, z, st3, M, rfl, hx, hM, HB3, HR⟩ := hcut
    obtain ⟨⟨p0, p1, p2, p3, p4, p5, p6, p7⟩, y0, y1, y2, y3, y4, y5, y6, y7⟩ := HB3.out.r.c8
    obtain ⟨⟨t0, t1, t2, t3, t4, t5, t6, t7⟩, _⟩ := HB3.out.m.c8
    have hM' : ¬ w.heap.size = M := fun e => hM e.symm
    clear S0 K0 H1 H2
    by_cases ha : absF (x : Int)
    · have hab : ((x : Int) % 16 / 8 == 1) = true := by unfold absF at ha; simpa using ha
      have HR2 := hid (show Rd rMethod st ⟨x, y, z, 0, 0, empty, [], []⟩ st3 from HR.out _ _ (by rw [if_pos ha]; exact Rd.pure))
      have HF := hid (show FE w b s w.heap.size (.slice none 0 0) (.slice none 0 0) [] [] st3 wc from
        ⟨HB3.out.st, World.ownsRow_nil _ _ _ _, ⟨[], rfl, World.ownsRow_nil _ _ _ _, fun k hk => by simp at hk⟩, ⟨_, HB3.out.r⟩, Nat.le_refl _⟩)
      clear H3 ha HR HB3
      go_wp2_with fail
      refine bodyPost_ret (v := .agg #[.int .i64 x, .int .i64 y, .int .i64 z, .int .i64 0, .int .i64 0, .string empty, .slice none 0 0, .slice none 0 0]) (by simp [results, Try.results76, go_sem, p0, p1, p2, p3, p4, p5, p6, p7]) rfl ?_
      refine ⟨⟨x, y, z, 0, 0, empty, [], []⟩, _, _, st3, rfl, FE.fin (R := w.heap.size) ?_ HR2.out ?_⟩
      · repeat' (first | refine FE.set ?_ _ _ | exact HF.out)
      · exact ⟨by simp [empty, ByteArray.size], by simp, by simp, by simp⟩
    · have hab : ((x : Int) % 16 / 8 == 1) = false := by unfold absF at ha; simpa using ha
      have HA := hid ha
      have H4 := fun w h => H3 st3 x y z w h
      clear ha H3
      go_wp2_with fail
      refine (H4 _ HB3.out.st.rd).mono ?_
      rintro e w4 ⟨m, vt, vf, st4, rfl, hm, hf, h4, g4, r4⟩
      have HR2 := hid (show Rd rMethod st m st4 from HR.out _ _ (by rw [if_neg HA.out]; exact r4))
      have B4 := HB3.out.call h4 g4
      have hm' := hm.mono (show w.heap.size ≤ _ from HB3.out.st.size)
      obtain ⟨xs, hxs⟩ := FX.of hm'.f
      have HF := hid (show FE w b s w.heap.size vt vf m.traps m.frames st4 w4 from ⟨B4.st, hm'.t, ⟨xs, hxs⟩, ⟨_, B4.r⟩, Nat.le_refl _⟩)
      obtain ⟨o1, k1, hv1⟩ := own_len hm'.t
      obtain ⟨o2, k2, hv2⟩ := own_len hxs.row
      subst hv1 hv2
      have HW := hid hf
      clear p0 p1 p2 p3 p4 p5 p6 p7 y0 y1 y2 y3 y4 y5 y6 y7
      obtain ⟨⟨p0, p1, p2, p3, p4, p5, p6, p7⟩, y0, y1, y2, y3, y4, y5, y6, y7⟩ := B4.r.c8
      clear H4 hm hm' hxs h4 g4 r4 hf HB3 HR B4
      go_wp2_with fail
      refine bodyPost_ret (v := .agg #[.int .i64 m.flags, .int .i64 m.name, .int .i64 m.desc, .int .i64 m.deep, .int .i64 m.locals, .string m.code, .slice o1 m.traps.length k1, .slice o2 m.frames.length k2]) (by simp [results, Try.results76, go_sem, p0, p1, p2, p3, p4, p5, p6, p7]) rfl ?_
      refine ⟨m, _, _, st4, rfl, FE.fin (R := w.heap.size) ?_ HR2.out HW.out⟩
      repeat' (first | refine FE.set ?_ _ _ | exact HF.out)

end Go.Proofs.Ytnjfaikhiimdjaa
