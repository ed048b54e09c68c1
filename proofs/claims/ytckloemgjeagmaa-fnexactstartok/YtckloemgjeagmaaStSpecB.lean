/- Contracts of the specification's l12StartOk and StartOk. -/
import Derived.Test.YtckloemgjeagmaaStSpec
import Derived.Deep.CutBlock
import Derived.Deep.DeepCutAuto
namespace Go.Proofs.Ytckloemgjeagmaa
open Go.RowKit
set_option maxHeartbeats 4000000
set_option maxRecDepth 20000
set_option linter.unusedVariables false

theorem l12StartOk_any (s : MStart) (vl vp : Value) (B : Nat) (w : World) (hf : s.few) (h : StartW w B vl vp s) :
    Calls Try.prog 11 #[.agg #[vl, .int .i64 s.loader, .string s.name, .int .i64 s.fuel, .int .i64 s.room, .bool s.prove, vp]] w fun e w' => ∃ b : Bool, e = .returned (.bool b) ∧ (b = true ↔ fineS s) ∧ Below w.heap.size w w' := by
  obtain ⟨a1, k1, e1⟩ := h.l.len
  obtain ⟨a2, k2, e2⟩ := own_len h.p
  subst e1 e2
  have P0 := SF.start w (arrS (.slice a1 s.loaders.length k1) s.loader s.name s.fuel s.room s.prove (.slice a2 s.picks.length k2))
  have hnl := hf.nl
  have hpn := hf.p.1
  have hL := fun W (hW : Below w.heap.size w W) => l5LoadersOk_any (.slice a1 s.loaders.length k1) s.loaders B W hf.nl hf.l (h.l.keep hW)
  have HL := hid hL
  have HP := hid h.p
  have HF := hid hf
  clear h hf hL
  go_enter Try.func11, Try.ntmps11
  go_wp2_with fail
  go_loopw [3] (fun i wr => ∃ (k : Nat), k ≤ s.picks.length ∧ i = .int .i64 k ∧ Hid (∀ a, a < k → pickQ s.loaders.length s.picks a = true) ∧ SF w (arrS (.slice a1 s.loaders.length k1) s.loader s.name s.fuel s.room s.prove (.slice a2 s.picks.length k2)) wr) (fun i _ => s.picks.length - (intOf i).toNat)
  case atStart => exact ⟨0, by omega, rfl, fun a h => by omega, P0⟩
  case round =>
    obtain ⟨k, hk, rfl, HE, P⟩ := hrel
    clear P0
    obtain ⟨⟨c0, c1, c2, c3, c4, c5, c6⟩, _⟩ := P.k.c7s
    by_cases hlt : k < s.picks.length
    · obtain ⟨g, hg⟩ := own_some HP.out (by omega)
      subst hg
      obtain ⟨g0, g1, g2, g3⟩ := ownPick_at (own_below HP.out P.b) hlt
      have hgl := ((own_below HP.out P.b).lt g rfl).2
      have hsn := HF.out.p.2 _ (List.getElem_mem hlt)
      generalize hT : s.picks[k] = t at g0 g1 g2 g3 hsn
      have HT := hid hT
      have hC := fun W => l12PickOk_any t a1 s.loaders.length k1 (some ⟨g, 0, none⟩) s.picks.length k2 s.loader s.name s.fuel s.room s.prove W (by unfold maxLen; omega) hnl
      obtain ⟨q, hq⟩ : ∃ q, Hid (pickB s.loaders.length t = q) := ⟨_, hid rfl⟩
      rw [hq.out] at hC
      have z3 : (k : Int) < (s.picks.length : Int) := by omega
      have HPP := hid P
      clear hT P
      go_upto_region 4 with fail
      go_cut [18] (fun v wc => v = .bool (!q) ∧ SF w (arrS (.slice a1 s.loaders.length k1) s.loader s.name s.fuel s.room s.prove (.slice (some ⟨g, 0, none⟩) s.picks.length k2)) wc)
      case first =>
        go_region_with (go_at_call 25; refine (hC _).mono ?_; rintro e w1 ⟨rfl, hb1⟩)
        all_goals go_wp2_with fail
        all_goals go_meet
        all_goals exact ⟨rfl, (HPP.out.keep (below_drewN (Below.refl _ _) 1)).keep hb1⟩
      case rest =>
        obtain ⟨rfl, P3⟩ := hcut
        clear c0 c1 c2 c3 c4 c5 c6 g0 g1 g2 g3 HPP hC
        have HB3 := hid P3.b
        cases q with
        | false =>
          have HN := hid (show ¬ fineS s from fun h => by
            have hw := h.p k hlt
            unfold pickQ at hw
            rw [List.getElem?_eq_getElem hlt] at hw
            have hw : pickB s.loaders.length s.picks[k] = true := hw
            rw [HT.out, hq.out] at hw
            cases hw)
          clear P3
          go_wp2
          go_ret
          first | exact ⟨false, rfl, ⟨fun h => (by cases h), fun h => absurd h HN.out⟩, HB3.out⟩ | exact .inl ⟨rfl, HN.out, HB3.out⟩
        | true =>
          have HE' := hid (show ∀ a, a < k + 1 → pickQ s.loaders.length s.picks a = true from fun a ha => by
            by_cases e : a = k
            · subst e
              unfold pickQ
              rw [List.getElem?_eq_getElem hlt]
              show pickB s.loaders.length s.picks[a] = true
              rw [HT.out, hq.out]
            · exact HE.out a (by omega))
          clear HE hq HT
          go_wp2
          go_roundw
          case rel => exact ⟨k + 1, by omega, by go_num, HE', P3⟩
          case measure => simp [intOf]; omega
    · have YP := hid (show ∀ a, a < s.picks.length → pickQ s.loaders.length s.picks a = true from fun a ha => HE.out a (by omega))
      have hL := HL.out _ P.b
      clear HE
      go_wp2_with fail
      refine hL.mono ?_
      rintro e w1 ⟨b1, rfl, r1, hb1⟩
      have P1 := P.keep hb1
      have R1 := hid r1
      clear P hb1 hL r1 c0 c1 c2 c3 c4 c5 c6
      obtain ⟨⟨c0, c1, c2, c3, c4, c5, c6⟩, _⟩ := P1.k.c7s
      have HB := hid P1.b
      clear P1
      cases b1 with
      | false =>
        have HN := hid (show ¬ fineS s from fun h => by have := R1.out.2 h.l; cases this)
        clear R1
        go_wp2
        go_ret
        first | exact ⟨false, rfl, ⟨fun h => (by cases h), fun h => absurd h HN.out⟩, HB.out⟩ | exact .inl ⟨rfl, HN.out, HB.out⟩
      | true =>
      replace R1 := hid (R1.out.1 rfl)
      have hN := fun W => l2Name_any s.name W (by have := HF.out.n; unfold maxLen; omega)
      have h1 := fun W => l1In_any s.loader 0 ((s.loaders.length : Int) - 1) W
      have h2 := fun W => l1In_any s.fuel 0 300 W
      have h3 := fun W => l1In_any s.room 0 20 W
      have z4 : IntKind.i64.wrap ((s.loaders.length : Int) - 1) = (s.loaders.length : Int) - 1 := by rw [IntKind.wrap_i64]; omega
      obtain ⟨q1, hq1⟩ : ∃ q, Hid (inB s.loader 0 ((s.loaders.length : Int) - 1) = q) := ⟨_, hid rfl⟩
      obtain ⟨q2, hq2⟩ : ∃ q, Hid (nmB s.name = q) := ⟨_, hid rfl⟩
      obtain ⟨q3, hq3⟩ : ∃ q, Hid (inB s.fuel 0 300 = q) := ⟨_, hid rfl⟩
      obtain ⟨q4, hq4⟩ : ∃ q, Hid (inB s.room 0 20 = q) := ⟨_, hid rfl⟩
      rw [show (decide ((0 : Int) ≤ s.loader) && decide (s.loader ≤ (s.loaders.length : Int) - 1)) = q1 from hq1.out] at h1
      rw [show Mx.nameB s.name.data.toList = q2 from hq2.out] at hN
      rw [show (decide ((0 : Int) ≤ s.fuel) && decide (s.fuel ≤ 300)) = q3 from hq3.out] at h2
      rw [show (decide ((0 : Int) ≤ s.room) && decide (s.room ≤ 20)) = q4 from hq4.out] at h3
      by_cases hall : q1 = true ∧ q2 = true ∧ q3 = true ∧ q4 = true ∧ s.picks.length ≤ 6
      case neg =>
        have HN := hid (show ¬ fineS s from fun h => hall ⟨by rw [← hq1.out]; exact h.ld, by rw [← hq2.out]; exact h.nm, by rw [← hq3.out]; exact h.fu, by rw [← hq4.out]; exact h.ro, h.np⟩)
        clear R1 YP HL HP HF
        by_cases h6 : s.picks.length ≤ 6
        all_goals cases q1 <;> cases q2 <;> cases q3 <;> cases q4
        all_goals first
          | (exfalso; simp_all; done)
          | (go_wp2_with (first | (go_at_call 28; refine (hN _).mono ?_; rintro e w1 ⟨rfl, hw⟩; replace hw := hw.symm; subst hw) | (go_at_call_of 27 s.loader; refine (h1 _).mono ?_; rintro e w2 ⟨rfl, hw⟩; replace hw := hw.symm; subst hw) | (go_at_call_of 27 s.fuel; refine (h2 _).mono ?_; rintro e w3 ⟨rfl, hw⟩; replace hw := hw.symm; subst hw) | (go_at_call_of 27 s.room; refine (h3 _).mono ?_; rintro e w4 ⟨rfl, hw⟩; replace hw := hw.symm; subst hw))
             go_ret
             first | exact ⟨false, rfl, ⟨fun h => (by cases h), fun h => absurd h HN.out⟩, HB.out⟩ | exact ⟨false, ret_bool (decide_eq_false (by omega)), ⟨fun h => (by cases h), fun h => absurd h HN.out⟩, HB.out⟩)
      case pos =>
        obtain ⟨rfl, rfl, rfl, rfl, h6⟩ := hall
        have HY := hid (show fineS s from ⟨R1.out, hq1.out, hq2.out, hq3.out, hq4.out, h6, YP.out⟩)
        clear R1 hq1 hq2 hq3 hq4 YP HL HP HF
        go_wp2_with (first | (go_at_call 28; refine (hN _).mono ?_; rintro e w1 ⟨rfl, hw⟩; replace hw := hw.symm; subst hw) | (go_at_call_of 27 s.loader; refine (h1 _).mono ?_; rintro e w2 ⟨rfl, hw⟩; replace hw := hw.symm; subst hw) | (go_at_call_of 27 s.fuel; refine (h2 _).mono ?_; rintro e w3 ⟨rfl, hw⟩; replace hw := hw.symm; subst hw) | (go_at_call_of 27 s.room; refine (h3 _).mono ?_; rintro e w4 ⟨rfl, hw⟩; replace hw := hw.symm; subst hw))
        go_ret
        exact ⟨true, ret_bool (decide_eq_true (by omega)), ⟨fun _ => HY.out, fun _ => rfl⟩, HB.out⟩

theorem specStartOk_any (s : MStart) (vl vp : Value) (B : Nat) (w : World) (hf : s.few) (h : StartW w B vl vp s) :
    Calls Try.prog 5 #[.agg #[vl, .int .i64 s.loader, .string s.name, .int .i64 s.fuel, .int .i64 s.room, .bool s.prove, vp]] w fun e w' => ∃ b : Bool, e = .returned (.bool b) ∧ (b = true ↔ fineS s) ∧ Below w.heap.size w w' := by
  obtain ⟨a1, k1, e1⟩ := h.l.len
  obtain ⟨a2, k2, e2⟩ := own_len h.p
  subst e1 e2
  have P0 := SF.start w (arrS (.slice a1 s.loaders.length k1) s.loader s.name s.fuel s.room s.prove (.slice a2 s.picks.length k2))
  have hC := l12StartOk_any s _ _ B _ hf (h.keep P0.b)
  have HO := hid P0.b
  clear h hf P0
  go_enter Try.func5, Try.ntmps5
  go_wp2_with fail
  refine hC.mono ?_
  rintro e w1 ⟨b, rfl, hb, hb1⟩
  have HB := hid (HO.out.trans (hb1.mono HO.out.size))
  have HR := hid hb
  clear hb hb1 hC HO
  go_wp2
  go_ret
  exact ⟨b, rfl, HR.out, HB.out⟩

end Go.Proofs.Ytckloemgjeagmaa
