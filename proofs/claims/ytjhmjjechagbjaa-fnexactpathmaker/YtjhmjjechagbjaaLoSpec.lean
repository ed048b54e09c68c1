/- Contract of the specification's l5LoaderOk. -/
import Derived.Test.YtjhmjjechagbjaaLoFine
import Derived.BigQuiet
namespace Go.Proofs.Ytjhmjjechagbjaa
open Go.RowKit
set_option maxHeartbeats 2000000
set_option maxRecDepth 20000
set_option linter.unusedVariables false

/-- the two arguments in their blocks -/
structure LO (w : World) (ao : Option Addr) (len cap : Nat) (v1 v2 : Value) (p : Int) (W : World) : Prop where
  b : Below w.heap.size w W
  c : W.cell? ⟨w.heap.size, 0, none⟩ = some (.slice ao len cap)
  d0 : W.cell? ⟨w.heap.size + 1, 0, none⟩ = some v1
  d1 : W.cell? ⟨w.heap.size + 1, 1, none⟩ = some v2
  d2 : W.cell? ⟨w.heap.size + 1, 2, none⟩ = some (.int .i64 p)
  l : w.heap.size + 1 < W.heap.size
theorem LO.keep {w W W' : World} {ao : Option Addr} {len cap : Nat} {v1 v2 : Value} {p : Int} (h : LO w ao len cap v1 v2 p W) (hb : Below W.heap.size W W') : LO w ao len cap v1 v2 p W' := by
  have := h.l
  exact ⟨h.b.trans (hb.mono h.b.size), (hb_cell hb (by omega)).trans h.c, (hb_cell hb (by omega)).trans h.d0, (hb_cell hb (by omega)).trans h.d1, (hb_cell hb (by omega)).trans h.d2, Nat.lt_of_lt_of_le h.l hb.size⟩
theorem LO.start (w : World) (ao : Option Addr) (len cap : Nat) (v1 v2 : Value) (p : Int) (T1 T2 : TypeId) : LO w ao len cap v1 v2 p ((w.alloc (.cells #[.slice ao len cap, .slice none 0 0, .slice none 0 0, .slice none 0 0] T1)).alloc (.cells #[v1, v2, .int .i64 p] T2)) := by
  refine ⟨((Below.refl _ _).alloc (Nat.le_refl _) _).alloc (by simp) _, ?_, ?_, ?_, ?_, by simp⟩
  · rw [hb_cell ((Below.refl _ _).alloc (Nat.le_refl _) _) (by simp)]; simp [go_sem]
  · simp
  · simp
  · simp

/-- a file that was copied into a block of its own -/
structure FO (n : Nat) (t : MFile) (W : World) : Prop where
  c0 : W.cell? ⟨n, 0, none⟩ = some (.string t.name)
  c1 : W.cell? ⟨n, 1, none⟩ = some (.string t.text)
  l : n < W.heap.size
theorem FO.keep {n : Nat} {t : MFile} {W W' : World} (h : FO n t W) (hb : Below W.heap.size W W') : FO n t W' := ⟨(hb_cell hb h.l).trans h.c0, (hb_cell hb h.l).trans h.c1, Nat.lt_of_lt_of_le h.l hb.size⟩

theorem l5BuiltNo_any (s : ByteArray) (w : World) (h : firstB s = false) :
    Calls Try.prog 33 #[.string s] w fun e w' => e = .returned (.int .i64 (-1)) ∧ w' = w := by
  have h1 : (s.toList == [79, 98, 106]) = false := by unfold firstB at h; simp at h; simpa using h.1
  have h2 : (s.toList == [69, 114, 114]) = false := by unfold firstB at h; simp at h; simpa using h.2
  clear h
  go_enter Try.func33, Try.ntmps33
  go_wp2
  all_goals first | (simp_all; done) | skip
  all_goals go_ret
  all_goals exact ⟨rfl, rfl⟩

theorem l5LoaderOk_any (x : SLoader) (l : MLoader) (ao : Option Addr) (len cap B : Nat) (w : World) (hl : len ≤ 1048576) (hf : l.few) (h : LoaderW w B x l) :
    Calls Try.prog 50 #[.agg #[.slice ao len cap, .slice none 0 0, .slice none 0 0, .slice none 0 0], .agg #[x.files, x.ways, .int .i64 x.parent]] w fun e w' => ∃ b : Bool, e = .returned (.bool b) ∧ (b = true ↔ fineL len l) ∧ Below w.heap.size w w' := by
  obtain ⟨⟨f1, f2⟩, f3, f4⟩ := hf
  obtain ⟨hp, h1, h2⟩ := h
  obtain ⟨xf, xw, xp⟩ := x
  obtain ⟨fs, ys, pr⟩ := l
  simp only at hp h1 h2 f1 f2 f3 f4
  subst hp
  obtain ⟨a1, k1, e1⟩ := own_len h1
  obtain ⟨a2, k2, e2⟩ := own_len h2
  subst e1 e2
  have P0 := LO.start w ao len cap (.slice a1 fs.length k1) (.slice a2 ys.length k2) xp 83 47
  have H1 := hid h1
  have H2 := hid h2
  have F2 := hid f2
  have F4 := hid f4
  clear h1 h2 f2 f4
  go_enter Try.func50, Try.ntmps50
  go_wp2_with fail
  go_loopw [5] (fun i wr => ∃ (k : Nat), k ≤ fs.length ∧ i = .int .i64 k ∧ Hid (∀ a, a < k → fileQ fs a = true) ∧ Hid (∀ i (hi : i < fs.length) j (hj : j < i), i < k → ¬ (fs[j]'(by omega)).name = fs[i].name) ∧ LO w ao len cap (.slice a1 fs.length k1) (.slice a2 ys.length k2) xp wr) (fun i _ => fs.length - (intOf i).toNat)
  case atStart => exact ⟨0, by omega, rfl, fun a h => by omega, fun i hi j hj h => by omega, P0⟩
  case round =>
    obtain ⟨k, hk, rfl, HE, HU, P⟩ := hrel
    clear P0
    obtain ⟨_, c0, c1, c2, c3, hlw⟩ := id P
    by_cases hlt : k < fs.length
    · obtain ⟨g, hg⟩ := own_some H1.out (by omega)
      subst hg
      obtain ⟨g0, g1⟩ := ownFile_at (own_below H1.out P.b) hlt
      have hgl := ((own_below H1.out P.b).lt g rfl).2
      have hsn := (F2.out _ (List.getElem_mem hlt)).1
      have hst := (F2.out _ (List.getElem_mem hlt)).2
      generalize hT : fs[k] = t at g0 g1 hsn hst
      go_upto_region 4 with fail
      go_cut [6] (fun v wc => v = .pointer (some ⟨wr.heap.size, 0, none⟩) ∧ FO wr.heap.size t wc ∧ LO w ao len cap (.slice (some ⟨g, 0, none⟩) fs.length k1) (.slice a2 ys.length k2) xp wc)
      case first =>
        go_wp2_with fail
        go_meet
        case rel => exact ⟨rfl, ⟨by simp [go_sem], by simp [go_sem], by simp⟩, P.keep ((Below.refl _ _).alloc (Nat.le_refl _) _)⟩
      case rest =>
        obtain ⟨rfl, Q, P1⟩ := hcut
        clear P c0 c1 c2 c3 g0 g1 hgl hlw
        have HT := hid hT
        have hN := fun W => l2Name_any t.name W (by unfold maxLen; omega)
        have hI := fun W => l5Built_any t.name W
        generalize wr.heap.size = n at Q ⊢
        have HB := hid P1.b
        by_cases hq : fileB t = true
        case neg =>
          have HN := hid (show ¬ fineL len ⟨fs, ys, xp⟩ from fun h => hq (by
            have := h.f k hlt
            unfold fileQ at this
            rw [List.getElem?_eq_getElem hlt, HT.out] at this
            exact this))
          obtain ⟨d0, d1, _⟩ := id Q
          have hq' : nmB t.name = false ∨ (nmB t.name = true ∧ firstB t.name = true) ∨ (nmB t.name = true ∧ firstB t.name = false ∧ 900 < (t.text.size : Int)) := by
            unfold fileB at hq
            cases hn : nmB t.name <;> cases hf : firstB t.name <;> simp [hn, hf] at hq ⊢
            omega
          clear Q P1 HE HU hT hq
          rcases hq' with e1 | ⟨e1, e2⟩ | ⟨e1, e2, e3⟩
          · rw [show Mx.nameB t.name.data.toList = false from e1] at hN
            clear e1
            go_wp2_with (first | (go_at_call 32; refine (hN _).mono ?_; rintro e w3 ⟨rfl, hw⟩; replace hw := hw.symm; subst hw))
            go_ret
            first | exact ⟨false, rfl, ⟨fun h => (by cases h), fun h => absurd h HN.out⟩, HB.out⟩ | exact .inl ⟨rfl, HN.out, HB.out⟩
          · rw [show Mx.nameB t.name.data.toList = true from e1] at hN
            rw [e2] at hI
            clear e1 e2
            go_wp2_with (first | (go_at_call 32; refine (hN _).mono ?_; rintro e w3 ⟨rfl, hw⟩; replace hw := hw.symm; subst hw) | (go_at_call 33; refine (hI _).mono ?_; rintro e w4 ⟨r, rfl, hr, hw⟩; replace hw := hw.symm; subst hw; replace hr := hr.2 (by simp)))
            go_ret
            first | exact ⟨false, rfl, ⟨fun h => (by cases h), fun h => absurd h HN.out⟩, HB.out⟩ | exact .inl ⟨rfl, HN.out, HB.out⟩
          · rw [show Mx.nameB t.name.data.toList = true from e1] at hN
            replace hI := fun W => l5BuiltNo_any t.name W e2
            clear e1 e2
            go_wp2_with (first | (go_at_call 32; refine (hN _).mono ?_; rintro e w3 ⟨rfl, hw⟩; replace hw := hw.symm; subst hw) | (go_at_call 33; refine (hI _).mono ?_; rintro e w4 ⟨rfl, hw⟩; replace hw := hw.symm; subst hw))
            go_ret
            first | exact ⟨false, rfl, ⟨fun h => (by cases h), fun h => absurd h HN.out⟩, HB.out⟩ | exact .inl ⟨rfl, HN.out, HB.out⟩
        case pos =>
          have e1 : nmB t.name = true := by unfold fileB at hq; simp at hq; exact hq.1
          have e2 : firstB t.name = false := by unfold fileB at hq; simp at hq; exact hq.2.1
          have e3 : (t.text.size : Int) ≤ 900 := by unfold fileB at hq; simp at hq; omega
          have HE' := hid (show ∀ a, a < k + 1 → fileQ fs a = true from fun a ha => by
            by_cases e : a = k
            · subst e
              unfold fileQ
              rw [List.getElem?_eq_getElem hlt, HT.out]
              exact hq
            · exact HE.out a (by omega))
          rw [show Mx.nameB t.name.data.toList = true from e1] at hN
          replace hI := fun W => l5BuiltNo_any t.name W e2
          obtain ⟨d0, d1, _⟩ := id Q
          clear e1 e2 HE hq hT
          go_upto_region 8 with (first | (go_at_call 32; refine (hN _).mono ?_; rintro e w3 ⟨rfl, hw⟩; replace hw := hw.symm; subst hw) | (go_at_call 33; refine (hI _).mono ?_; rintro e w4 ⟨rfl, hw⟩; replace hw := hw.symm; subst hw))
          obtain ⟨_, c0, c1, c2, c3, hlw⟩ := id P1
          clear d0 d1
          go_loopw [7] (fun j wd => ∃ (m : Nat), m ≤ k ∧ j = .int .i64 m ∧ Hid (∀ b (hb : b < fs.length), b < m → ¬ fs[b].name = t.name) ∧ FO n t wd ∧ LO w ao len cap (.slice (some ⟨g, 0, none⟩) fs.length k1) (.slice a2 ys.length k2) xp wd) (fun j _ => k - (intOf j).toNat)
          case atStart => exact ⟨0, by omega, rfl, fun b hb h => by omega, Q, P1⟩
          case round =>
            obtain ⟨m, hm, rfl, HM, Q2, P2⟩ := hrel
            clear Q P1 c0 c1 c2 c3
            obtain ⟨_, c0, c1, c2, c3, hlw2⟩ := id P2
            obtain ⟨d0, d1, _⟩ := id Q2
            by_cases hmk : m < k
            · obtain ⟨g0, g1⟩ := ownFile_at (own_below H1.out P2.b) (k := m) (by omega)
              generalize hY : fs[m] = y at g0 g1
              obtain ⟨q, hq⟩ : ∃ q, Hid ((y.name.toList == t.name.toList) = q) := ⟨_, hid rfl⟩
              have hml : m < fs.length := by omega
              go_upto_region 10 with fail
              go_cut [50] (fun v wc => v = .bool q ∧ FO n t wc ∧ LO w ao len cap (.slice (some ⟨g, 0, none⟩) fs.length k1) (.slice a2 ys.length k2) xp wc)
              case first =>
                have HQ2 := hid Q2
                have HP2 := hid P2
                clear Q2 P2
                go_quiet (fail)
                go_wp2_with fail
                go_meet
                case rel => exact ⟨by rw [← hq.out], HQ2.out.keep (below_drewN (Below.refl _ _) _), HP2.out.keep (below_drewN (Below.refl _ _) _)⟩
              case rest =>
                obtain ⟨rfl, Q3, P3⟩ := hcut
                clear Q2 P2 c0 c1 c2 c3 d0 d1 g0 g1
                have HB3 := hid P3.b
                cases q with
                | true =>
                  have HN := hid (show ¬ fineL len ⟨fs, ys, xp⟩ from fun h => by
                    refine h.u k hlt m hmk ?_
                    have := hq.out
                    rw [beq_iff_eq, ByteArray.toList_eq, ByteArray.toList_eq] at this
                    show fs[m].name = fs[k].name
                    rw [HT.out, hY]
                    exact ByteArray.ext (Array.toList_inj.1 this))
                  clear Q3 P3
                  go_wp2
                  go_ret
                  first | exact ⟨false, rfl, ⟨fun h => (by cases h), fun h => absurd h HN.out⟩, HB3.out⟩ | exact .inl ⟨rfl, HN.out, HB3.out⟩
                | false =>
                  have HM' := hid (show ∀ b (hb : b < fs.length), b < m + 1 → ¬ fs[b].name = t.name from fun b hb h => by
                    by_cases e : b = m
                    · subst e
                      rw [hY]
                      intro h'
                      have := hq.out
                      rw [h'] at this
                      simp at this
                    · exact HM.out b hb (by omega))
                  clear HM hY
                  go_wp2
                  go_roundw
                  case rel => exact ⟨m + 1, by omega, by go_num, HM', Q3, P3⟩
                  case measure => simp [intOf]; omega
            · have HU' := hid (show ∀ i (hi : i < fs.length) j (hj : j < i), i < k + 1 → ¬ (fs[j]'(by omega)).name = fs[i].name from fun i hi j hj h => by
                by_cases e : i = k
                · subst e
                  rw [HT.out]
                  exact HM.out j (by omega) (by omega)
                · exact HU.out i hi j hj (by omega))
              clear HU HM
              go_wp2
              go_roundw
              case rel => exact ⟨k + 1, by omega, by go_num, HE', HU', P2⟩
              case measure => simp [intOf]; omega
    · have YF := hid (show ∀ a, a < fs.length → fileQ fs a = true from fun a ha => HE.out a (by omega))
      have YU := hid (show UnlikeP fs from fun i hi j hj => HU.out i hi j hj (by omega))
      clear HE HU hk
      go_upto_region 13 with fail
      go_loopw [8] (fun i wr => ∃ (k : Nat), k ≤ ys.length ∧ i = .int .i64 k ∧ Hid (∀ a, a < k → wayQ len ys a = true) ∧ Hid (∀ i (hi : i + 1 < ys.length), i + 1 < k → ¬ (leS ys[i + 1].name ys[i].name = true)) ∧ LO w ao len cap (.slice a1 fs.length k1) (.slice a2 ys.length k2) xp wr) (fun i _ => ys.length - (intOf i).toNat)
      case atStart => exact ⟨0, by omega, rfl, fun a h => by omega, fun i hi h => by omega, P⟩
      case round =>
        obtain ⟨k, hk, rfl, HE, HU, P2⟩ := hrel
        clear P c0 c1 c2 c3 hlw
        obtain ⟨_, c0, c1, c2, c3, hlw⟩ := id P2
        by_cases hlt : k < ys.length
        · obtain ⟨g, hg⟩ := own_some H2.out (by omega)
          subst hg
          obtain ⟨g0, g1⟩ := ownWay_at (own_below H2.out P2.b) hlt
          have hgl := ((own_below H2.out P2.b).lt g rfl).2
          have hsn := F4.out _ (List.getElem_mem hlt)
          generalize hT : ys[k] = t at g0 g1 hsn
          have hN := fun W => l2Name_any t.name W (by unfold maxLen; omega)
          have hI := fun W => l1In_any t.to_ 0 ((len : Int) - 1) W
          obtain ⟨q1, hq1⟩ : ∃ q, Hid (nmB t.name = q) := ⟨_, hid rfl⟩
          obtain ⟨q2, hq2⟩ : ∃ q, Hid (inB t.to_ 0 ((len : Int) - 1) = q) := ⟨_, hid rfl⟩
          rw [show Mx.nameB t.name.data.toList = q1 from hq1.out] at hN
          rw [show (decide ((0 : Int) ≤ t.to_) && decide (t.to_ ≤ (len : Int) - 1)) = q2 from hq2.out] at hI
          have HT := hid hT
          have HP2 := hid P2
          clear hT P2
          go_upto_region 15 with fail
          go_cut [99] (fun v wc => (∃ b : Bool, v = .bool b ∧ Hid (b = false ↔ (q1 = true ∧ q2 = true ∧ ∀ i (hi : i + 1 < ys.length), i + 1 = k → ¬ (leS ys[i + 1].name ys[i].name = true)))) ∧ LO w ao len cap (.slice a1 fs.length k1) (.slice (some ⟨g, 0, none⟩) ys.length k2) xp wc)
          case first =>
            have z3 : (k : Int) < (ys.length : Int) := by omega
            cases q1 with
            | false =>
              go_quiet (first | (go_at_call 32; exact Calls.quiet_of_same (hN _)))
              go_wp2_with fail
              go_meet
              case rel => exact ⟨⟨true, rfl, by unfold Hid; simp⟩, HP2.out.keep (below_drewN (Below.refl _ _) _)⟩
            | true =>
            have z4 : IntKind.i64.wrap ((len : Int) - 1) = (len : Int) - 1 := by rw [IntKind.wrap_i64]; omega
            cases q2 with
            | false =>
              go_quiet (first | (go_at_call 32; exact Calls.quiet_of_same (hN _)) | (go_at_call 31; exact Calls.quiet_of_same (hI _)))
              go_wp2_with fail
              go_meet
              case rel => exact ⟨⟨true, rfl, by unfold Hid; simp⟩, HP2.out.keep (below_drewN (Below.refl _ _) _)⟩
            | true =>
            by_cases hk0 : k = 0
            · subst hk0
              go_quiet (first | (go_at_call 32; exact Calls.quiet_of_same (hN _)) | (go_at_call 31; exact Calls.quiet_of_same (hI _)))
              go_wp2_with fail
              go_meet
              case rel => exact ⟨⟨false, rfl, by unfold Hid; simp⟩, HP2.out.keep (below_drewN (Below.refl _ _) _)⟩
            · obtain ⟨j, rfl⟩ : ∃ j, k = j + 1 := ⟨k - 1, by omega⟩
              obtain ⟨i0, i1⟩ := ownWay_at (own_below H2.out HP2.out.b) (k := j) (by omega)
              generalize hU' : ys[j] = u at i0 i1
              have HU2 := hid hU'
              clear hU'
              obtain ⟨q, hq⟩ : ∃ q, Hid ((Op.bytesLess t.name.toList u.name.toList || (t.name.toList == u.name.toList)) = q) := ⟨_, hid rfl⟩
              have z0 : (0 : Int) ≤ (j : Int) + 1 := by omega
              have z1 : IntKind.i64.wrap (j : Int) = (j : Int) := by rw [IntKind.wrap_i64]; omega
              have z2 : (j : Int) < (ys.length : Int) := by omega
              have z5 : (0 : Int) < (j : Int) + 1 := by omega
              have z6 : (j : Int) + 1 < (ys.length : Int) := by omega
              simp only [Int.natCast_add, Int.cast_ofNat_Int] at *
              go_quiet (first | (go_at_call 32; exact Calls.quiet_of_same (hN _)) | (go_at_call 31; exact Calls.quiet_of_same (hI _)))
              go_wp2_with fail
              go_meet
              case rel =>
                refine ⟨⟨_, rfl, ?_⟩, HP2.out.keep (below_drewN (Below.refl _ _) _)⟩
                unfold Hid
                constructor
                · intro h
                  refine ⟨trivial, trivial, fun i hi e => ?_⟩
                  obtain rfl : i = j := by omega
                  rw [HT.out, HU2.out]
                  unfold leS
                  rw [h]
                  simp
                · intro h
                  have := h.2.2 j hlt rfl
                  rw [HT.out, HU2.out] at this
                  unfold leS at this
                  simpa using this
          case rest =>
            obtain ⟨⟨b, rfl, hb⟩, P3⟩ := hcut
            clear c0 c1 c2 c3 g0 g1 HP2 hN hI
            have HB3 := hid P3.b
            cases b with
            | true =>
              have HN := hid (show ¬ fineL len ⟨fs, ys, xp⟩ from fun h => by
                have hw := h.y k hlt
                unfold wayQ at hw
                rw [List.getElem?_eq_getElem hlt] at hw
                have hw : wayB len (ys[k]) = true := hw
                rw [HT.out] at hw
                unfold wayB at hw
                simp at hw
                have := hb.out.2 ⟨by rw [← hq1.out]; exact hw.1, by rw [← hq2.out]; exact hw.2, fun i hi e => h.a i hi⟩
                cases this)
              clear P3 hb
              go_wp2
              go_ret
              first | exact ⟨false, rfl, ⟨fun h => (by cases h), fun h => absurd h HN.out⟩, HB3.out⟩ | exact .inl ⟨rfl, HN.out, HB3.out⟩
            | false =>
              have hx := hb.out.1 rfl
              have HE' := hid (show ∀ a, a < k + 1 → wayQ len ys a = true from fun a ha => by
                by_cases e : a = k
                · subst e
                  unfold wayQ
                  rw [List.getElem?_eq_getElem hlt]
                  show wayB len (ys[a]) = true
                  rw [HT.out]
                  unfold wayB
                  rw [hq1.out, hq2.out, hx.1, hx.2.1]
                  rfl
                · exact HE.out a (by omega))
              have HU' := hid (show ∀ i (hi : i + 1 < ys.length), i + 1 < k + 1 → ¬ (leS ys[i + 1].name ys[i].name = true) from fun i hi h => by
                by_cases e : i + 1 = k
                · exact hx.2.2 i hi e
                · exact HU.out i hi (by omega))
              clear HE HU hb hx hq1 hq2 HT
              go_wp2
              go_roundw
              case rel => exact ⟨k + 1, by omega, by go_num, HE', HU', P3⟩
              case measure => simp [intOf]; omega
        · have YY := hid (show ∀ a, a < ys.length → wayQ len ys a = true from fun a ha => HE.out a (by omega))
          have YA := hid (show AscP ys from fun i hi => HU.out i hi (by omega))
          have HB := hid P2.b
          clear HE HU P2
          by_cases hnf : fs.length ≤ 5
          case neg =>
            have HN := hid (show ¬ fineL len ⟨fs, ys, xp⟩ from fun h => hnf h.nf)
            go_wp2
            go_ret
            first | exact ⟨false, rfl, ⟨fun h => (by cases h), fun h => absurd h HN.out⟩, HB.out⟩ | exact .inl ⟨rfl, HN.out, HB.out⟩
          by_cases hny : ys.length ≤ 4
          case neg =>
            have HN := hid (show ¬ fineL len ⟨fs, ys, xp⟩ from fun h => hny h.ny)
            go_wp2
            go_ret
            first | exact ⟨false, rfl, ⟨fun h => (by cases h), fun h => absurd h HN.out⟩, HB.out⟩ | exact .inl ⟨rfl, HN.out, HB.out⟩
          have hI := fun W => l1In_any xp (-1) ((len : Int) - 1) W
          have z4 : IntKind.i64.wrap ((len : Int) - 1) = (len : Int) - 1 := by rw [IntKind.wrap_i64]; omega
          have HY := hid (show (decide ((-1 : Int) ≤ xp) && decide (xp ≤ (len : Int) - 1)) = true ↔ fineL len ⟨fs, ys, xp⟩ from ⟨fun h => ⟨hnf, hny, YY.out, YA.out, YF.out, YU.out, by
              simp at h
              by_cases e : xp = -1
              · exact .inl e
              · right
                unfold inB
                simp
                omega⟩, fun h => by
              have := h.p
              unfold inB at this
              simp at this ⊢
              omega⟩)
          generalize (decide ((-1 : Int) ≤ xp) && decide (xp ≤ (len : Int) - 1)) = q at hI HY
          go_wp2_with (first | (go_at_call 31; refine (hI _).mono ?_; rintro e w3 ⟨rfl, hw⟩; replace hw := hw.symm; subst hw))
          go_ret
          exact ⟨q, rfl, HY.out, HB.out⟩

end Go.Proofs.Ytjhmjjechagbjaa
