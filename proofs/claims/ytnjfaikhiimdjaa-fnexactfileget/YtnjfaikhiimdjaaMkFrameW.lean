/- Contracts of markFrameS and heldFrameS. -/
import Derived.Test.YtnjfaikhiimdjaaMkFrame
namespace Go.Proofs.Ytnjfaikhiimdjaa
open Go.RowKit
set_option maxHeartbeats 2000000
set_option maxRecDepth 20000
set_option linter.unusedVariables false

theorem markFrameS_any (v : Value) (k0 B : Nat) (fs : List MFrame) (us : List SFrame) (w : World) (hn : fs.length ≤ 8) (hs : ∀ f ∈ fs, shortF f) (hk : k0 ≤ 100000) (h : FM w B v fs us k0 0) :
    Calls Try.prog 51 #[v, .int .i64 (k0 : Int)] w fun e w' => e = .returned (.int .i64 ((kF k0 fs fs.length : Nat) : Int)) ∧ ∃ us', FM w' B v fs us' k0 fs.length ∧ kb us' = kb us ∧ Mod (v :: kb us) w w' := by
  by_cases hz : fs.length = 0
  · obtain ⟨ao1, c1, hv⟩ := own_len h.row
    subst hv
    have HO := hid h
    rw [hz] at HO ⊢
    clear h
    go_enter Try.func51, Try.ntmps51
    go_wp2
    refine wp_loop_rounds 1 ?_
    rw [rounds_succ]
    go_wp2
    go_ret
    exact ⟨by rw [kF_zero]; rfl, us, HO.out, rfl, Mod.refl _ _⟩
  · obtain ⟨g1, c1, hv⟩ := Joins.ownsRow_form h.row (by omega)
    subst hv
    have HL := (show ∀ j, j ≤ fs.length → kF k0 fs j ≤ 101000 from fun j hj => by have := kF_le k0 fs hs j hj; omega)
    have H0 := hid h
    clear h
    go_enter Try.func51, Try.ntmps51
    go_wp2
    go_loopw [1, 5] (fun kv i wr => ∃ (j a : Nat) (us' : List SFrame), j ≤ fs.length ∧ i = .int .i64 j ∧ kv = .int .i64 (a : Int) ∧ Hid (a = kF k0 fs j) ∧ Hid (FM wr B (.slice (some ⟨g1, 0, none⟩) fs.length c1) fs us' k0 j) ∧ Hid (kb us' = kb us) ∧ Hid (Mod (.slice (some ⟨g1, 0, none⟩) fs.length c1 :: kb us) w wr)) (fun _ i _ => fs.length - (intOf i).toNat)
    case atStart => exact ⟨0, k0, us, by omega, rfl, rfl, hid (by rw [kF_zero]), H0, hid rfl, Mod.refl _ _⟩
    case round =>
      obtain ⟨j, a, us', hj, rfl, rfl, ha, HO, HK, HM⟩ := hrel
      have hab := HL j hj
      rw [← ha.out] at hab
      by_cases hlt : j < fs.length
      · have hju : j < us'.length := by rw [HO.out.len]; exact hlt
        have hsf := hs fs[j] (List.getElem_mem _)
        unfold shortF at hsf
        obtain ⟨t0, t1, t2⟩ := ownFrame_at HO.out.row HO.out.len hju
        have z0 := HO.out.row.frozenAt (j * 3)
        obtain ⟨vl, hvl⟩ : ∃ vl, Hid (us'[j].l = vl) := ⟨_, hid rfl⟩
        obtain ⟨vs, hvs⟩ : ∃ vs, Hid (us'[j].s = vs) := ⟨_, hid rfl⟩
        obtain ⟨nl, hnl⟩ : ∃ nl, Hid (fs[j].locals.length = nl) := ⟨_, hid rfl⟩
        obtain ⟨ns, hns⟩ : ∃ ns, Hid (fs[j].stack.length = ns) := ⟨_, hid rfl⟩
        rw [hnl.out, hns.out] at hsf
        rw [hvl.out] at t1
        rw [hvs.out] at t2
        obtain ⟨xl, hxl, _⟩ := HO.out.l j hju hlt
        obtain ⟨xs, hxs, _⟩ := HO.out.s j hju hlt
        obtain ⟨r1, g1'⟩ := HO.out.at1 rfl hju (a : Int) (by rw [ha.out])
        have R1 := hid r1
        have G1 := hid g1'
        rw [hvl.out, hnl.out] at hxl
        rw [hvs.out, hns.out] at hxs
        have m1 : Mod [.slice (some ⟨g1, 0, none⟩) fs.length c1] wr (wr.setCell ⟨g1, j * 3, none⟩ (.int .i64 (a : Int))) := Mod.grown (v := .slice (some ⟨g1, 0, none⟩) fs.length c1) g1' (by simp)
        have L1 := hid (m1.own hxl (fun u hu q hq => by simp at hu; subst hu; exact own_types hxl HO.out.row (by decide) q hq))
        have S1 := hid (m1.own hxs (fun u hu q hq => by simp at hu; subst hu; exact own_types hxs HO.out.row (by decide) q hq))
        have hK1 := (show ∀ W, W.ownsRow B 144 2 vl nl xl → Calls Try.prog 87 #[vl, .int .i64 ((a : Int) + 1)] W fun e w' => e = .returned (.int .i64 ((a + 1 + nl * 2 : Nat) : Int)) ∧ w'.ownsRow B 144 2 vl nl (cnt (a + 1) (nl * 2)) ∧ W.grownBy w' vl.ownBlock from fun W hW => by
          have := markKindS_any vl (a + 1) nl B xl W (by omega) (by omega) hW
          rwa [show ((a + 1 : Nat) : Int) = (a : Int) + 1 by omega] at this)
        clear hxl hxs r1 g1' m1
        go_wp2_with fail
        refine (hK1 _ L1.out).mono ?_
        rintro e w2 ⟨rfl, o2, g2⟩
        have O2 := hid o2
        have G2 := hid g2
        have m2 : Mod [vl] (wr.setCell ⟨g1, j * 3, none⟩ (.int .i64 (a : Int))) w2 := Mod.grown g2 (by simp)
        have r2 := m2.own R1.out (fun u hu q hq => by simp at hu; subst hu; exact own_types R1.out L1.out (by decide) q hq)
        have hap := HO.out.ap
        have S2 := hid (m2.own S1.out (fun u hu q hq => by
          simp at hu; subst hu
          rw [← hvl.out, ← kb_l us' j hju (by rw [kb_len]; omega)]
          rw [← hvs.out, ← kb_s us' j hju (by rw [kb_len]; omega)] at hq
          exact hap.ne _ _ (by omega) q hq))
        have t2' : w2.cell? ⟨g1, j * 3 + 2, none⟩ = some vs := by
          have := (ownFrame_at (m := fs.length) r2 (by simp [HO.out.len]) (k := j) (by simpa using hju)).2.2
          simpa [hvs.out] using this
        obtain ⟨b, hb⟩ : ∃ b : Nat, Hid (a + 1 + nl * 2 = b) := ⟨_, rfl⟩
        have hbb : b ≤ 200000 := by have := hb.out; omega
        have hK2 := (show ∀ W, W.ownsRow B 144 2 vs ns xs → Calls Try.prog 87 #[vs, .int .i64 (b : Int)] W fun e w' => e = .returned (.int .i64 ((b + ns * 2 : Nat) : Int)) ∧ w'.ownsRow B 144 2 vs ns (cnt b (ns * 2)) ∧ W.grownBy w' vs.ownBlock from fun W hW => markKindS_any vs b ns B xs W (by omega) (by omega) hW)
        rw [hb.out]
        clear o2 g2 m2 r2 hap t0 t1 t2 z0 hK1 L1 S1
        go_wp2_with fail
        refine (hK2 _ S2.out).mono ?_
        rintro e w3 ⟨rfl, o3, g3⟩
        have HN := hid (HO.out.next (W2 := w2) (W3 := w3) hju hlt (a := (a : Int)) (by rw [ha.out]) R1.out G1.out (by rw [hvl.out, hnl.out, ← ha.out]; exact O2.out) (by rw [hvl.out]; exact G2.out) (by rw [hvs.out, hns.out, hnl.out, ← ha.out, hb.out]; exact o3) (by rw [hvs.out]; exact g3))
        have HE := hid (show b + ns * 2 = kF k0 fs (j + 1) from by rw [kF_succ k0 fs j hlt, ← ha.out, ← hb.out]; unfold cF; rw [hnl.out, hns.out]; omega)
        clear o3 g3 O2 G2 R1 G1 S2 hK2 t2'
        obtain ⟨c, hc⟩ : ∃ c : Nat, Hid (b + ns * 2 = c) := ⟨_, rfl⟩
        rw [hc.out] at HE ⊢
        clear hc
        go_wp2
        go_roundw
        case rel => exact ⟨j + 1, c, _, by omega, by go_num, rfl, HE, HN.out.1, hid (by rw [kb_set us' j _ hju]; exact HK.out), HM.out.trans (by have := HN.out.2; rw [HK.out] at this; exact this)⟩
        case measure => simp [intOf]; omega
      · have hj' := hid (show j = fs.length by omega)
        go_wp2
        go_ret
        refine ⟨ret_i64 (by rw [ha.out, hj'.out]), us', ?_, HK.out, HM.out⟩
        have := HO.out
        rw [hj'.out] at this
        exact this

theorem heldFrameS_any (v : Value) (k0 B : Nat) (fs : List MFrame) (us : List SFrame) (w : World) (hn : fs.length ≤ 8) (hs : ∀ f ∈ fs, shortF f) (hk : k0 ≤ 100000) (h : FM w B v fs us k0 fs.length) :
    Calls Try.prog 53 #[v, .int .i64 (k0 : Int)] w fun e w' => e = .returned (.int .i64 ((kF k0 fs fs.length : Nat) : Int)) ∧ Below w.heap.size w w' := by
  by_cases hz : fs.length = 0
  · obtain ⟨ao1, c1, hv⟩ := own_len h.row
    subst hv
    rw [hz]
    clear h
    go_enter Try.func53, Try.ntmps53
    go_wp2
    refine wp_loop_rounds 1 ?_
    rw [rounds_succ]
    go_wp2
    go_ret
    exact ⟨by rw [kF_zero]; rfl, Below.refl _ _⟩
  · obtain ⟨g1, c1, hv⟩ := Joins.ownsRow_form h.row (by omega)
    subst hv
    have HL := (show ∀ j, j ≤ fs.length → kF k0 fs j ≤ 101000 from fun j hj => by have := kF_le k0 fs hs j hj; omega)
    have H0 := hid h
    have hg := (h.row.lt g1 rfl).2
    clear h
    go_enter Try.func53, Try.ntmps53
    go_wp2
    go_loopw [1, 5] (fun kv i wr => ∃ (j a : Nat), j ≤ fs.length ∧ i = .int .i64 j ∧ kv = .int .i64 (a : Int) ∧ Hid (a = kF k0 fs j) ∧ Hid (Below w.heap.size w wr)) (fun _ i _ => fs.length - (intOf i).toNat)
    case atStart => exact ⟨0, k0, by omega, rfl, rfl, hid (by rw [kF_zero]), Below.refl _ _⟩
    case round =>
      obtain ⟨j, a, hj, rfl, rfl, ha, HB⟩ := hrel
      have hab := HL j hj
      rw [← ha.out] at hab
      by_cases hlt : j < fs.length
      · have hju : j < us.length := by rw [H0.out.len]; exact hlt
        have hsf := hs fs[j] (List.getElem_mem _)
        unfold shortF at hsf
        obtain ⟨vl, hvl⟩ : ∃ vl, Hid (us[j].l = vl) := ⟨_, hid rfl⟩
        obtain ⟨vs, hvs⟩ : ∃ vs, Hid (us[j].s = vs) := ⟨_, hid rfl⟩
        obtain ⟨nl, hnl⟩ : ∃ nl, Hid (fs[j].locals.length = nl) := ⟨_, hid rfl⟩
        obtain ⟨ns, hns⟩ : ∃ ns, Hid (fs[j].stack.length = ns) := ⟨_, hid rfl⟩
        rw [hnl.out, hns.out] at hsf
        obtain ⟨xl, hxl, el⟩ := H0.out.l j hju hlt
        obtain ⟨xs, hxs, es⟩ := H0.out.s j hju hlt
        have el := el hlt
        have es := es hlt
        subst el es
        rw [hvl.out, hnl.out, ← ha.out] at hxl
        rw [hvs.out, hns.out, hnl.out, ← ha.out] at hxs
        have HT := hid (show ∀ W, Below w.heap.size w W → W.cell? ⟨g1, j * 3, none⟩ = some (.int .i64 (a : Int)) ∧ W.cell? ⟨g1, j * 3 + 1, none⟩ = some vl ∧ W.cell? ⟨g1, j * 3 + 2, none⟩ = some vs from fun W hW => by
          obtain ⟨t0, t1, t2⟩ := ownFrame_at H0.out.row H0.out.len hju
          rw [H0.out.at_ j hju hlt, ← ha.out] at t0
          rw [hvl.out] at t1
          rw [hvs.out] at t2
          exact ⟨(hW.cell (p := ⟨g1, j * 3, none⟩) hg).trans t0, (hW.cell (p := ⟨g1, j * 3 + 1, none⟩) hg).trans t1, (hW.cell (p := ⟨g1, j * 3 + 2, none⟩) hg).trans t2⟩)
        obtain ⟨b, hb⟩ : ∃ b : Nat, Hid (a + 1 + nl * 2 = b) := ⟨_, rfl⟩
        have hbb : b ≤ 200000 := by have := hb.out; omega
        have hK1 := hid (show ∀ W, Below w.heap.size w W → Calls Try.prog 88 #[vl, .int .i64 ((a : Int) + 1)] W fun e w' => e = .returned (.int .i64 (b : Int)) ∧ Below W.heap.size W w' from fun W hW => by
          have := heldKindS_any vl (a + 1) nl B W (by omega) (by omega) (own_below hxl hW)
          rwa [show ((a + 1 : Nat) : Int) = (a : Int) + 1 by omega, hb.out] at this)
        obtain ⟨c, hc⟩ : ∃ c : Nat, Hid (b + ns * 2 = c) := ⟨_, rfl⟩
        have hcc : c ≤ 300000 := by have := hc.out; omega
        have hK2 := hid (show ∀ W, Below w.heap.size w W → Calls Try.prog 88 #[vs, .int .i64 (b : Int)] W fun e w' => e = .returned (.int .i64 (c : Int)) ∧ Below W.heap.size W w' from fun W hW => by
          have := heldKindS_any vs b ns B W (by omega) (by omega) (by rw [hb.out] at hxs; exact own_below hxs hW)
          rwa [hc.out] at this)
        have HE := hid (show c = kF k0 fs (j + 1) from by rw [kF_succ k0 fs j hlt, ← ha.out, ← hc.out, ← hb.out]; unfold cF; rw [hnl.out, hns.out]; omega)
        obtain ⟨t0, t1, t2⟩ := HT.out _ HB.out
        clear hxl hxs hc hb
        go_wp2_with fail
        refine (hK1.out _ HB.out).mono ?_
        rintro e w2 ⟨rfl, hb2⟩
        have HB2 := hid (HB.out.trans (hb2.mono HB.out.size))
        clear t0 t1 t2 hb2 HB
        obtain ⟨t0, t1, t2⟩ := HT.out _ HB2.out
        go_wp2_with fail
        refine (hK2.out _ HB2.out).mono ?_
        rintro e w3 ⟨rfl, hb3⟩
        have HB3 := hid (HB2.out.trans (hb3.mono HB2.out.size))
        clear t0 t1 t2 hb3 HB2 HT
        go_wp2
        go_roundw
        case rel => exact ⟨j + 1, c, by omega, by go_num, rfl, HE, HB3⟩
        case measure => simp [intOf]; omega
      · have hj' := hid (show j = fs.length by omega)
        go_wp2
        go_ret
        exact ⟨ret_i64 (by rw [ha.out, hj'.out]), HB.out⟩

end Go.Proofs.Ytnjfaikhiimdjaa
