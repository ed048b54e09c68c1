/- Contracts of markMethodS and heldMethodS. -/
import Derived.Test.YtnjfaikhiimdjaaMkMethod
namespace Go.Proofs.Ytnjfaikhiimdjaa
open Go.RowKit
set_option maxHeartbeats 4000000
set_option maxRecDepth 20000
set_option linter.unusedVariables false

abbrev mods (v : Value) (us : List SMethod) (ys : List (List SFrame)) : List Value := v :: (us.map SMethod.traps ++ (us.map SMethod.frames ++ ys.flatMap kb))
/-- six cells of a method, in the text between a call -/
theorem row6 {W w2 : World} {B g n c : Nat} {us : List SMethod} {j : Nat} (a : Int) (x : ByteArray) (h : W.ownsRow B 83 8 (.slice (some ⟨g, 0, none⟩) n c) n (rowMethod us)) (hj : j < us.length)
    (hb : Below ((((((W.setCell ⟨g, j * 8, none⟩ (.int .i64 a)).setCell ⟨g, j * 8 + 1, none⟩ (.int .i64 (a + 1))).setCell ⟨g, j * 8 + 2, none⟩ (.int .i64 (a + 2))).setCell ⟨g, j * 8 + 3, none⟩ (.int .i64 (a + 3))).setCell ⟨g, j * 8 + 4, none⟩ (.int .i64 (a + 4)))).heap.size (((((W.setCell ⟨g, j * 8, none⟩ (.int .i64 a)).setCell ⟨g, j * 8 + 1, none⟩ (.int .i64 (a + 1))).setCell ⟨g, j * 8 + 2, none⟩ (.int .i64 (a + 2))).setCell ⟨g, j * 8 + 3, none⟩ (.int .i64 (a + 3))).setCell ⟨g, j * 8 + 4, none⟩ (.int .i64 (a + 4))) w2) :
    w2.frozen? ⟨g, j * 8 + 5, none⟩ = false ∧ (w2.setCell ⟨g, j * 8 + 5, none⟩ (.string x)).ownsRow B 83 8 (.slice (some ⟨g, 0, none⟩) n c) n (rowMethod (us.set j ⟨a, a + 1, a + 2, a + 3, a + 4, x, us[j].traps, us[j].frames⟩)) ∧ Mod [.slice (some ⟨g, 0, none⟩) n c] W (w2.setCell ⟨g, j * 8 + 5, none⟩ (.string x)) := by
  have s1 := h.stored (j * 8) (.int .i64 a)
  have s2 := s1.1.stored (j * 8 + 1) (.int .i64 (a + 1))
  have s3 := s2.1.stored (j * 8 + 2) (.int .i64 (a + 2))
  have s4 := s3.1.stored (j * 8 + 3) (.int .i64 (a + 3))
  have s5 := s4.1.stored (j * 8 + 4) (.int .i64 (a + 4))
  have b5 := own_below s5.1 hb
  have s6 := b5.stored (j * 8 + 5) (.string x)
  refine ⟨b5.frozenAt _, by rw [← setMethod6 us j a (a + 1) (a + 2) (a + 3) (a + 4) x hj]; exact s6.1, ?_⟩
  have gg := grown_trans (grown_trans (grown_trans (grown_trans (grown_trans (grown_trans s1.2 s2.2) s3.2) s4.2) s5.2) (below_grow hb)) s6.2
  exact Mod.grown (v := .slice (some ⟨g, 0, none⟩) n c) gg (by simp)

theorem markMethodS_any (v : Value) (k0 B : Nat) (ms : List MMethod) (us : List SMethod) (ys : List (List SFrame)) (w : World) (hn : ms.length ≤ 6) (hs : ∀ m ∈ ms, shortM m) (hk0 : 0 < k0) (hk : k0 ≤ 50000) (h : MK w B v ms us ys k0 0) :
    Calls Try.prog 23 #[v, .int .i64 (k0 : Int)] w fun e w' => e = .returned (.int .i64 ((kM k0 ms ms.length : Nat) : Int)) ∧ ∃ us' ys', MK w' B v ms us' ys' k0 ms.length ∧ Mod (mods v us ys) w w' := by
  by_cases hz : ms.length = 0
  · obtain ⟨ao1, c1, hv⟩ := own_len h.row
    subst hv
    have HO := hid h
    rw [hz] at HO ⊢
    clear h
    go_enter Try.func23, Try.ntmps23
    go_wp2
    refine wp_loop_rounds 1 ?_
    rw [rounds_succ]
    go_wp2
    go_ret
    exact ⟨by rw [kM_zero]; rfl, us, ys, HO.out, Mod.refl _ _⟩
  · obtain ⟨g1, c1, hv⟩ := Joins.ownsRow_form h.row (by omega)
    subst hv
    have HL := (show ∀ j, j ≤ ms.length → kM k0 ms j ≤ 52000 from fun j hj => by have := kM_le k0 ms hs j hj; omega)
    have HP := (show ∀ j, 0 < kM k0 ms j from fun j => by unfold kM; omega)
    have H0 := hid h
    clear h
    go_enter Try.func23, Try.ntmps23
    go_wp2
    go_loopw [1, 5] (fun kv i wr => ∃ (j a : Nat) (us' : List SMethod) (ys' : List (List SFrame)), j ≤ ms.length ∧ i = .int .i64 j ∧ kv = .int .i64 (a : Int) ∧ Hid (a = kM k0 ms j) ∧ Hid (MK wr B (.slice (some ⟨g1, 0, none⟩) ms.length c1) ms us' ys' k0 j) ∧ Hid (us'.map SMethod.traps = us.map SMethod.traps ∧ us'.map SMethod.frames = us.map SMethod.frames ∧ ys'.flatMap kb = ys.flatMap kb) ∧ Hid (Mod (mods (.slice (some ⟨g1, 0, none⟩) ms.length c1) us ys) w wr)) (fun _ i _ => ms.length - (intOf i).toNat)
    case atStart => exact ⟨0, k0, us, ys, by omega, rfl, rfl, hid (by rw [kM_zero]), H0, hid ⟨rfl, rfl, rfl⟩, Mod.refl _ _⟩
    case round =>
      obtain ⟨j, a, us', ys', hj, rfl, rfl, ha, HO, HK, HM⟩ := hrel
      have hab := HL j hj
      have hpos := HP j
      rw [← ha.out] at hab hpos
      by_cases hlt : j < ms.length
      · have hju : j < us'.length := by rw [HO.out.len]; exact hlt
        have hjy : j < ys'.length := by rw [HO.out.len2]; exact hlt
        obtain ⟨q1, q2, q3⟩ := hs ms[j] (List.getElem_mem _)
        obtain ⟨t0, t1, t2, t3, t4, t5, t6, t7⟩ := ownMethod_at HO.out.row HO.out.len hju
        have z0 := HO.out.row.frozenAt (j * 8)
        have z1 := HO.out.row.frozenAt (j * 8 + 1)
        have z2 := HO.out.row.frozenAt (j * 8 + 2)
        have z3 := HO.out.row.frozenAt (j * 8 + 3)
        have z4 := HO.out.row.frozenAt (j * 8 + 4)
        have hgl := (HO.out.row.lt g1 rfl).2
        obtain ⟨vt, hvt⟩ : ∃ vt, Hid (us'[j].traps = vt) := ⟨_, hid rfl⟩
        obtain ⟨vf, hvf⟩ : ∃ vf, Hid (us'[j].frames = vf) := ⟨_, hid rfl⟩
        obtain ⟨nt, hnt⟩ : ∃ nt, Hid (ms[j].traps.length = nt) := ⟨_, hid rfl⟩
        rw [hnt.out] at q1
        rw [hvt.out] at t6
        rw [hvf.out] at t7
        obtain ⟨xt, hxt, _⟩ := HO.out.tr j hju hlt
        rw [hvt.out, hnt.out] at hxt
        obtain ⟨p, hfm, _, hp0⟩ := HO.out.fm j hju hlt hjy
        have hp0 := hp0 (by omega)
        subst hp0
        rw [hvf.out, hnt.out, ← ha.out] at hfm
        have HXT := hid hxt
        have HFM := hid hfm
        obtain ⟨x, HX⟩ : ∃ x, Hid (mt (a + 5) = x) := ⟨_, rfl⟩
        have hM : ∀ W, Calls Try.prog 49 #[.int .i64 ((a : Int) + 5)] W fun e w' => e = .returned (.string x) ∧ Below W.heap.size W w' := by
          intro W
          have := markText_any (a + 5) W (by omega) (by omega)
          rw [HX.out] at this
          simpa using this
        clear hxt hfm
        go_wp2_with fail
        refine (hM _).mono ?_
        rintro e w2 ⟨rfl, hb2⟩
        obtain ⟨z5, r6, m6⟩ := row6 (a : Int) x HO.out.row hju hb2
        have hc5 : w2.cell? ⟨g1, j * 8 + 5, none⟩ = some (.string us'[j].code) := (hb_cell hb2 (by simpa [World.setCell] using hgl)).trans (by simp [go_sem, t5])
        have hc6 : w2.cell? ⟨g1, j * 8 + 6, none⟩ = some vt := (hb_cell hb2 (by simpa [World.setCell] using hgl)).trans (by simp [go_sem, t6])
        have R6 := hid r6
        have M6 := hid m6
        have hT := (show ∀ W, W.ownsRow B 120 4 vt nt xt → Calls Try.prog 50 #[vt, .int .i64 ((a : Int) + 6)] W fun e w' => e = .returned (.int .i64 ((a + 6 + nt * 4 : Nat) : Int)) ∧ w'.ownsRow B 120 4 vt nt (cnt (a + 6) (nt * 4)) ∧ W.grownBy w' vt.ownBlock from fun W hW => by
          have := markTrapS_any vt (a + 6) nt B xt W (by omega) (by omega) hW
          rwa [show ((a + 6 : Nat) : Int) = (a : Int) + 6 by omega] at this)
        have T6 := hid (m6.other HXT.out HO.out.row (by decide))
        have F6 := hid (HFM.out.other m6 HO.out.row (by decide) (by decide))
        clear hb2 r6 m6 t0 t1 t2 t3 t4 t5 t6 t7 z0 z1 z2 z3 z4 hM
        go_wp2_with fail
        refine (hT _ T6.out).mono ?_
        rintro e w3 ⟨rfl, o3, g3⟩
        have m3 : Mod [vt] _ w3 := Mod.grown g3 (by simp)
        have r3 := m3.other R6.out T6.out (by decide)
        have F3 := hid (F6.out.other m3 T6.out (by decide) (by decide))
        have t7' : w3.cell? ⟨g1, j * 8 + 7, none⟩ = some vf := by
          have := (ownMethod_at (m := ms.length) r3 (by simp [HO.out.len]) (k := j) (by simpa using hju)).2.2.2.2.2.2.2
          simpa [hvf.out] using this
        have O3 := hid o3
        have M3 := hid m3
        obtain ⟨b, hb⟩ : ∃ b : Nat, Hid (a + 6 + nt * 4 = b) := ⟨_, hid rfl⟩
        have hbb : b ≤ 60000 := by have := hb.out; omega
        have hF := (show ∀ W, FM W B vf ms[j].frames ys'[j] b 0 → Calls Try.prog 51 #[vf, .int .i64 (b : Int)] W fun e w' => e = .returned (.int .i64 ((kF b ms[j].frames ms[j].frames.length : Nat) : Int)) ∧ ∃ us', FM w' B vf ms[j].frames us' b ms[j].frames.length ∧ kb us' = kb ys'[j] ∧ Mod (vf :: kb ys'[j]) W w' from fun W hW => markFrameS_any vf b B _ _ W q2 q3 (by omega) hW)
        rw [hb.out]
        clear o3 g3 m3 r3 T6 F6 hT hc5 hc6 z5
        go_wp2_with fail
        refine (hF _ (by have := F3.out; rw [hb.out] at this; exact this)).mono ?_
        rintro e w4 ⟨rfl, y4, f4, k4, m4⟩
        have HN := hid (HO.out.next (W1 := w2.setCell ⟨g1, j * 8 + 5, none⟩ (.string x)) (W2 := w3) (W3 := w4) (y := y4) (x := ⟨(a : Int), (a : Int) + 1, (a : Int) + 2, (a : Int) + 3, (a : Int) + 4, x, us'[j].traps, us'[j].frames⟩) hju hlt hjy
          (by rw [← HX.out, ha.out]) R6.out M6.out (by rw [hvt.out, hnt.out, ← ha.out]; exact O3.out) (by rw [hvt.out]; exact M3.out) (by rw [hvf.out, hnt.out, ← ha.out, hb.out]; exact f4) k4 (by rw [hvf.out]; exact m4))
        obtain ⟨c, hc⟩ : ∃ c : Nat, Hid (kF b ms[j].frames ms[j].frames.length = c) := ⟨_, hid rfl⟩
        have HE := hid (show c = kM k0 ms (j + 1) from by rw [kM_succ k0 ms j hlt, ← ha.out, ← hc.out, kF_all, ← hb.out]; unfold cM; rw [hnt.out]; omega)
        rw [hc.out]
        clear f4 m4 O3 M3 R6 M6 F3 hF t7' hc
        go_wp2
        go_roundw
        case rel => exact ⟨j + 1, c, _, _, by omega, by go_num, rfl, HE, HN.out.1, hid ⟨by rw [map_set_same SMethod.traps us' j _ hju (by rfl)]; exact HK.out.1, by rw [map_set_same SMethod.frames us' j _ hju (by rfl)]; exact HK.out.2.1, (flat_set_same ys' j y4 hjy k4).trans HK.out.2.2⟩, HM.out.trans (by have := HN.out.2; rw [HK.out.1, HK.out.2.1, HK.out.2.2] at this; exact this)⟩
        case measure => simp [intOf]; omega
      · have hj' := hid (show j = ms.length by omega)
        go_wp2
        go_ret
        refine ⟨ret_i64 (by rw [ha.out, hj'.out]), us', ys', ?_, HM.out⟩
        have := HO.out
        rw [hj'.out] at this
        exact this

theorem heldMethodS_any (v : Value) (k0 B : Nat) (ms : List MMethod) (us : List SMethod) (ys : List (List SFrame)) (w : World) (hn : ms.length ≤ 6) (hs : ∀ m ∈ ms, shortM m) (hk0 : 0 < k0) (hk : k0 ≤ 50000) (h : MK w B v ms us ys k0 ms.length) :
    Calls Try.prog 27 #[v, .int .i64 (k0 : Int)] w fun e w' => e = .returned (.int .i64 ((kM k0 ms ms.length : Nat) : Int)) ∧ Below w.heap.size w w' := by
  by_cases hz : ms.length = 0
  · obtain ⟨ao1, c1, hv⟩ := own_len h.row
    subst hv
    rw [hz]
    clear h
    go_enter Try.func27, Try.ntmps27
    go_wp2
    refine wp_loop_rounds 1 ?_
    rw [rounds_succ]
    go_wp2
    go_ret
    exact ⟨by rw [kM_zero]; rfl, Below.refl _ _⟩
  · obtain ⟨g1, c1, hv⟩ := Joins.ownsRow_form h.row (by omega)
    subst hv
    have HL := (show ∀ j, j ≤ ms.length → kM k0 ms j ≤ 52000 from fun j hj => by have := kM_le k0 ms hs j hj; omega)
    have HP := (show ∀ j, 0 < kM k0 ms j from fun j => by unfold kM; omega)
    have H0 := hid h
    have hg := (h.row.lt g1 rfl).2
    clear h
    go_enter Try.func27, Try.ntmps27
    go_wp2
    go_loopw [1, 5] (fun kv i wr => ∃ (j a : Nat), j ≤ ms.length ∧ i = .int .i64 j ∧ kv = .int .i64 (a : Int) ∧ Hid (a = kM k0 ms j) ∧ Hid (Below w.heap.size w wr)) (fun _ i _ => ms.length - (intOf i).toNat)
    case atStart => exact ⟨0, k0, by omega, rfl, rfl, hid (by rw [kM_zero]), Below.refl _ _⟩
    case round =>
      obtain ⟨j, a, hj, rfl, rfl, ha, HB⟩ := hrel
      have hab := HL j hj
      have hpos := HP j
      rw [← ha.out] at hab hpos
      by_cases hlt : j < ms.length
      · have hju : j < us.length := by rw [H0.out.len]; exact hlt
        have hjy : j < ys.length := by rw [H0.out.len2]; exact hlt
        obtain ⟨q1, q2, q3⟩ := hs ms[j] (List.getElem_mem _)
        obtain ⟨vt, hvt⟩ : ∃ vt, Hid (us[j].traps = vt) := ⟨_, hid rfl⟩
        obtain ⟨vf, hvf⟩ : ∃ vf, Hid (us[j].frames = vf) := ⟨_, hid rfl⟩
        obtain ⟨nt, hnt⟩ : ∃ nt, Hid (ms[j].traps.length = nt) := ⟨_, hid rfl⟩
        rw [hnt.out] at q1
        obtain ⟨x, HX⟩ : ∃ x, Hid (mt (a + 5) = x) := ⟨_, rfl⟩
        obtain ⟨xt, hxt, et⟩ := H0.out.tr j hju hlt
        have et := et hlt
        subst et
        rw [hvt.out, hnt.out, ← ha.out] at hxt
        obtain ⟨p, hfm, hp1, _⟩ := H0.out.fm j hju hlt hjy
        have hp1 := hp1 hlt
        subst hp1
        rw [hvf.out, hnt.out, ← ha.out] at hfm
        have HT := hid (show ∀ W, Below w.heap.size w W → W.cell? ⟨g1, j * 8, none⟩ = some (.int .i64 (a : Int)) ∧ W.cell? ⟨g1, j * 8 + 1, none⟩ = some (.int .i64 ((a : Int) + 1)) ∧ W.cell? ⟨g1, j * 8 + 2, none⟩ = some (.int .i64 ((a : Int) + 2)) ∧ W.cell? ⟨g1, j * 8 + 3, none⟩ = some (.int .i64 ((a : Int) + 3)) ∧ W.cell? ⟨g1, j * 8 + 4, none⟩ = some (.int .i64 ((a : Int) + 4)) ∧ W.cell? ⟨g1, j * 8 + 5, none⟩ = some (.string x) ∧ W.cell? ⟨g1, j * 8 + 6, none⟩ = some vt ∧ W.cell? ⟨g1, j * 8 + 7, none⟩ = some vf from fun W hW => by
          obtain ⟨t0, t1, t2, t3, t4, t5, t6, t7⟩ := ownMethod_at H0.out.row H0.out.len hju
          rw [hvt.out] at t6
          rw [hvf.out] at t7
          rw [H0.out.hd j hju hlt, ← ha.out] at t0 t1 t2 t3 t4 t5
          simp only [HX.out] at t0 t1 t2 t3 t4 t5
          exact ⟨(hW.cell (p := ⟨g1, j * 8, none⟩) hg).trans t0, (hW.cell (p := ⟨g1, j * 8 + 1, none⟩) hg).trans t1, (hW.cell (p := ⟨g1, j * 8 + 2, none⟩) hg).trans t2, (hW.cell (p := ⟨g1, j * 8 + 3, none⟩) hg).trans t3, (hW.cell (p := ⟨g1, j * 8 + 4, none⟩) hg).trans t4, (hW.cell (p := ⟨g1, j * 8 + 5, none⟩) hg).trans t5, (hW.cell (p := ⟨g1, j * 8 + 6, none⟩) hg).trans t6, (hW.cell (p := ⟨g1, j * 8 + 7, none⟩) hg).trans t7⟩)
        have hM : ∀ W, Calls Try.prog 49 #[.int .i64 ((a : Int) + 5)] W fun e w' => e = .returned (.string x) ∧ Below W.heap.size W w' := by
          intro W
          have := markText_any (a + 5) W (by omega) (by omega)
          rw [HX.out] at this
          simpa using this
        obtain ⟨b, hb⟩ : ∃ b : Nat, Hid (a + 6 + nt * 4 = b) := ⟨_, hid rfl⟩
        have hbb : b ≤ 60000 := by have := hb.out; omega
        have hK1 := hid (show ∀ W, Below w.heap.size w W → Calls Try.prog 52 #[vt, .int .i64 ((a : Int) + 6)] W fun e w' => e = .returned (.int .i64 (b : Int)) ∧ Below W.heap.size W w' from fun W hW => by
          have := heldTrapS_any vt (a + 6) nt B W (by omega) (by omega) (own_below hxt hW)
          rwa [show ((a + 6 : Nat) : Int) = (a : Int) + 6 by omega, hb.out] at this)
        obtain ⟨c, hc⟩ : ∃ c : Nat, Hid (kF b ms[j].frames ms[j].frames.length = c) := ⟨_, hid rfl⟩
        have hK2 := hid (show ∀ W, Below w.heap.size w W → Calls Try.prog 53 #[vf, .int .i64 (b : Int)] W fun e w' => e = .returned (.int .i64 (c : Int)) ∧ Below W.heap.size W w' from fun W hW => by
          have := heldFrameS_any vf b B ms[j].frames ys[j] W q2 q3 (by omega) (by
            have hq := hfm
            rw [hb.out] at hq
            exact hq.mod (S := []) (Mod.below hW) (by simp) (by simp))
          rwa [hc.out] at this)
        have HE := hid (show c = kM k0 ms (j + 1) from by rw [kM_succ k0 ms j hlt, ← ha.out, ← hc.out, kF_all, ← hb.out]; unfold cM; rw [hnt.out]; omega)
        have hcn : ¬ ((c : Int) < 0) := by omega
        obtain ⟨t0, t1, t2, t3, t4, t5, t6, t7⟩ := HT.out _ HB.out
        have hg' : g1 < wr.heap.size := Nat.lt_of_lt_of_le hg HB.out.size
        clear hxt hfm hc hb
        go_wp2
        go_region_with (go_at_call 49; refine (hM _).mono ?_; rintro e w1 ⟨rfl, hb1⟩; have hc9 : w1.cell? ⟨g1, j * 8 + 5, none⟩ = some (.string x) := (hb1.cell (p := ⟨g1, j * 8 + 5, none⟩) (by simpa using hg')).trans (by simpa using t5))
        all_goals
          have HB1 := hid (show Below w.heap.size w w1 from HB.out.drew.trans (hb1.mono (by have := HB.out.size; simpa using this)))
          clear t0 t1 t2 t3 t4 t5 t6 t7 hb1 HB hM
          obtain ⟨t0, t1, t2, t3, t4, t5, t6, t7⟩ := HT.out _ HB1.out
          go_wp2_with fail
          refine (hK1.out _ HB1.out).mono ?_
          rintro e w2 ⟨rfl, hb2⟩
          have HB2 := hid (HB1.out.trans (hb2.mono HB1.out.size))
          clear t0 t1 t2 t3 t4 t5 t6 t7 hb2 HB1 hc9
          obtain ⟨t0, t1, t2, t3, t4, t5, t6, t7⟩ := HT.out _ HB2.out
          go_wp2_with fail
          refine (hK2.out _ HB2.out).mono ?_
          rintro e w3 ⟨rfl, hb3⟩
          have HB3 := hid (HB2.out.trans (hb3.mono HB2.out.size))
          clear t0 t1 t2 t3 t4 t5 t6 t7 hb3 HB2 HT
          go_wp2
          go_roundw
          case rel => exact ⟨j + 1, c, by omega, by go_num, rfl, HE, HB3⟩
          case measure => simp [intOf]; omega
      · have hj' := hid (show j = ms.length by omega)
        go_wp2
        go_ret
        exact ⟨ret_i64 (by rw [ha.out, hj'.out]), HB.out⟩

end Go.Proofs.Ytnjfaikhiimdjaa
