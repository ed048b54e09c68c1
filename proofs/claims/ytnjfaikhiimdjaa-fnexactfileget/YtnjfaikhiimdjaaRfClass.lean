/- The program's reader of files: a class. -/
import Derived.Test.YtnjfaikhiimdjaaRfClassA
namespace Go.Proofs.Ytnjfaikhiimdjaa
open Go.RowKit Fm
set_option maxHeartbeats 8000000
set_option maxRecDepth 20000
set_option linter.unusedVariables false

theorem rfClass_any (b : Nat) (s : ByteArray) (r : List UInt8) (w : World) (hs : s.size ≤ 1000000000) (h : PAt w b s r) :
    Calls Try.prog 44 #[.pointer (some ⟨b, 0, none⟩)] w (RfPost rClass b s r w (VClass w)) := by
  have H1 := fun r w h => rfOne_any b s r w hs h
  have H2 := fun r w h => rfTwo_any b s r w hs h
  have H3 := fun r w h => rfBytes_any b s 4 r w hs (by omega) h
  have H4 := fun r w h => refuse_any b s r w h
  have HC := fun m r w hm h => rfCount_any b s m r w hs hm h
  have HP := fun r w h => rfEntry_any b s r w hs h
  have HF := fun r w h => rfField_any b s r w hs h
  have HM := fun r w h => rfMethod_any b s r w hs h
  have HB := h.lt
  obtain ⟨e0, he, hc0, hc1, hc2⟩ := info_parts infoConst
  obtain ⟨i0, hi, hz0, hz1, hz2⟩ := info_parts infoInt
  obtain ⟨j0, hj, hy0, hy1, hy2⟩ := info_parts infoField
  obtain ⟨k0, hk0, hx0, hx1, hx2⟩ := info_parts infoMethod
  have S0 := Pq.start h
  have K0 := Lk.new w zC 27
  clear h
  go_enter Try.func44, Try.ntmps44
  go_wp2_with fail
  refine (H3 _ _ (S0.alloc _).rd).mono ?_
  rintro e w1 (⟨x, r1, p1, rfl, h1, g1⟩ | ⟨p1, ⟨n, rfl⟩, g1⟩)
  rotate_left
  · have G1 := hid g1
    have P1 := hid p1
    clear p1 g1 H1 H2 H3 H4 HC HP HF HM
    go_wp2
    exact ⟨rfl, (S0.alloc _).no G1.out (by unfold rClass rMark; rw [pb_none (pb_none (p := rText 4) P1.out)])⟩
  have P1 := hid p1
  have S1 := (S0.alloc _).call h1 g1
  have K1 := K0.call g1 (by omega)
  have B1 := hid (PBq.new1 zC S1 K1 (Nat.le_refl _))
  have S1h := hid S1
  have hm1 := S1.size
  clear p1 h1 g1 S0 K0 K1 S1 H3
  rcases hc : (!x.toList == [83, 84, 79, 87]) with _ | _
  rotate_left
  · go_wp2_with fail
    refine (H4 _ _ S1h.out.rd).mono ?_
    rintro e w2 ⟨⟨n, rfl⟩, rfl⟩
    clear H1 H2 H4 HC HP HF HM B1
    have HX := hid (show rClass r = none from by
      unfold rClass rMark
      rw [pb_none]
      rw [pb_some (p := rText 4) P1.out, if_neg (fun e => by rw [e, ByteArray.toList_eq] at hc; simp [Fm.mark] at hc)]
      rfl)
    clear hc
    go_wp2
    exact ⟨rfl, S1h.out.no (grown_refl _ _) HX.out⟩
  have hmk := hid (show rMark r = some ((), r1) from by
    unfold rMark
    rw [pb_some (p := rText 4) P1.out, if_pos (by
      simp [ByteArray.toList_eq] at hc
      exact ByteArray.ext (Array.ext' (by rw [hc]; rfl))), pp_some])
  clear H4 S1h P1
  have Q1 := hid (show CP w b s w1.heap.size zC (.slice none 0 0) (.slice none 0 0) (.slice none 0 0) (.slice none 0 0) [] [] [] [] [] [] r1 (w1.alloc (.cells zC 27)) from ⟨B1.out, World.ownsRow_nil _ _ _ _, World.ownsRow_nil _ _ _ _, World.ownsRow_nil _ _ _ _, MA.nil _ _⟩)
  clear B1
  have RA := hid (show ∀ q, (pbind (rList 60 rEntry) fun p => pbind rOne fun f => pbind rTwo fun n => pbind rTwo fun s => pbind (rList 3 rTwo) fun i => pbind (rList 5 rField) fun d => pbind (rList 6 rMethod) fun m => ppure (⟨p, f, n, s, i, d, m⟩ : MClass)) r1 = q → rClass r = q from fun q hq => by
    unfold rClass
    rw [pb_some hmk.out]
    exact hq)
  clear hmk
  go_wp2_with fail
  refine (HC 60 _ _ (by omega) Q1.out.bs.st.rd).mono ?_
  rintro e w2a (⟨n2, rc2, p, ⟨n2, rfl, hn2, rfl⟩, h, g⟩ | ⟨p, ⟨n, rfl⟩, g⟩)
  rotate_left
  · have G := hid g
    have PN := hid p
    clear p g H1 H2 HC HP HF HM
    go_wp2
    exact ⟨rfl, Q1.out.bs.st.no G.out (RA.out _ (pb_none (list_none1 (most := 60) PN.out)))⟩
  have PC2 := hid p
  have QC2 := hid (Q1.out.call h g)
  clear p h g Q1
  go_upto_block 0 with fail
  go_cut [11] (fun _ wc => ∃ (ts : List C4) (v : Value) (r' : List UInt8), Hid (CP w b s w1.heap.size (arrC v 0 0 0 (.slice none 0 0) (.slice none 0 0) (.slice none 0 0)) v (.slice none 0 0) (.slice none 0 0) (.slice none 0 0) ts [] [] [] [] [] r' wc) ∧ Hid (rList 60 rEntry r1 = some (ts, r')))
  case first =>
    go_wp2_with fail
    go_loopw [11] (fun i wr => ∃ (ts : List C4) (v : Value) (r' : List UInt8), i = .int .i64 ts.length ∧ ts.length ≤ n2 ∧ Hid (CP w b s w1.heap.size (arrC v 0 0 0 (.slice none 0 0) (.slice none 0 0) (.slice none 0 0)) v (.slice none 0 0) (.slice none 0 0) (.slice none 0 0) ts [] [] [] [] [] r' wr) ∧ Hid (rMany rEntry ts.length rc2 = some (ts, r'))) (fun i _ => n2 - (intOf i).toNat)
    case atStart => exact ⟨[], (.slice none 0 0), rc2, rfl, Nat.zero_le _, QC2, many_zero⟩
    case round =>
      obtain ⟨ts, v, r', rfl, hk, hS, hR⟩ := hrel
      have mm := hS.out.bs.m.c 0 _ rfl
      have hsr := hS.out.bs.st.size
      by_cases hlt : ts.length < n2
      · have hcp := hS.out.keep (Below.refl _ _).drew
        have hrd := hcp.bs.st.rd
        have how := hcp.p
        obtain ⟨ao, cap, hv⟩ := own_len how
        subst hv
        clear QC2 mm
        have mm := hcp.bs.m.c 0 _ rfl
        go_wp2_with fail
        go_region_law (first
          | (go_simp; go_at_call 80; refine (HP _ _ (by assumption)).mono ?_; rintro e w9 (⟨t9, r9, p9, rfl, h9, g9⟩ | ⟨p9, ⟨n9, rfl⟩, g9⟩); rotate_left; (focus (exact ⟨rfl, hcp.bs.st.no g9 (RA.out _ (pb_none (list_none2 (most := 60) PC2.out (many_stop hR.out p9 hlt))))⟩)); have hcp9 := CP.call hcp h9 g9; have hsz9 := g9.size; have how9 := hcp9.p; have hal9 : ∀ o, (w9.alloc o).cell? ⟨w1.heap.size, 0, none⟩ = some (.slice ao ts.length cap) := (fun o => (hcp9.bs.m.alloc o).c 0 _ rfl); have m9 := hcp9.bs.m.c 0 _ rfl; have z9 := hcp9.bs.m.z 0)
          | (refine step_append_lies _ rfl (.tmp 14) (.tmp 17) 22 rfl w.heap.size 75 e0 (.agg #[.int .i64 0, .string ⟨#[]⟩, .int .i64 0, .int .i64 0]) 4 40 Try.underlying22 he hc0 hc1 hc2 rfl (by decide) _ _ _ rfl (World.ownsRow.alloc (by assumption) _) _ 1 1 _ rfl (by rfl) (World.news_of_block (heap_alloc_new _ _)) (by intro u hu; simp at hu; rcases hu with rfl | rfl | rfl | rfl <;> rfl) (by omega) (by unfold maxLen; omega) (by omega) (by simp at hsz9 ⊢; omega) _ rfl ?_; intro g9 cap9 w8 hown9 hgrow9 hat9 hlt9; have hboth := CP.appP hcp9 hgrow9 hown9; have hbs8 := hboth.1; have m8 := hbs8.m.c 0 _ rfl; have z8 := hbs8.m.z 0))
        all_goals
          have S4 := hid hboth.2
          have R4 := hid (many_more hR.out p9)
          clear hboth hown9 hgrow9 hat9 hlt9 hbs8 hcp9 how hcp hrd mm hS hR H1 H2 HC HP HF HM
          go_wp2_with fail
          go_roundw
          case rel => exact ⟨_, _, _, by simp, by simp; omega, S4, by rw [List.length_append]; exact R4⟩
          case measure => simp [intOf]; omega
      · clear mm
        go_wp2_with fail
        go_meet
        case rel => exact ⟨ts, v, r', hS, list_some (most := 60) PC2.out (by rw [show n2 = ts.length by omega]; exact hR.out)⟩
  case rest =>
    obtain ⟨ps, vp, r2, Q2, PL2⟩ := hcut
    clear QC2 PC2
    have RB2 := hid (show ∀ q, (pbind rOne fun f => pbind rTwo fun n => pbind rTwo fun s => pbind (rList 3 rTwo) fun i => pbind (rList 5 rField) fun d => pbind (rList 6 rMethod) fun m => ppure (⟨ps, f, n, s, i, d, m⟩ : MClass)) r2 = q → rClass r = q from fun q hq => RA.out _ (by rw [pb_some PL2.out]; exact hq))
    clear RA PL2
    go_wp2_with fail
    refine (H1 _ _ Q2.out.bs.st.rd).mono ?_
    rintro e w3a (⟨f, r3, p, ⟨f, rfl, hf, rfl⟩, h, g⟩ | ⟨p, ⟨n, rfl⟩, g⟩)
    rotate_left
    · have G := hid g
      have PN := hid p
      clear p g H1 H2 HC HP HF HM
      go_wp2
      exact ⟨rfl, Q2.out.bs.st.no G.out (RB2.out _ (pb_none PN.out))⟩
    have PR3 := hid p
    have C3 := Q2.out.call h g
    have d3 := C3.bs.m.c 1 _ rfl
    have z3 := C3.bs.m.z 1
    have Q3 := hid (C3.set (cs' := arrC vp f 0 0 (.slice none 0 0) (.slice none 0 0) (.slice none 0 0)) 1 (.int .i64 f) rfl)
    have RB3 := hid (show ∀ q, (pbind rTwo fun n => pbind rTwo fun s => pbind (rList 3 rTwo) fun i => pbind (rList 5 rField) fun d => pbind (rList 6 rMethod) fun m => ppure (⟨ps, f, n, s, i, d, m⟩ : MClass)) r3 = q → rClass r = q from fun q hq => RB2.out _ (by rw [pb_some PR3.out]; exact hq))
    clear p h g Q2 C3 RB2 PR3
    go_wp2_with fail
    refine (H2 _ _ Q3.out.bs.st.rd).mono ?_
    rintro e w4a (⟨nm, r4, p, ⟨nm, rfl, hnm, rfl⟩, h, g⟩ | ⟨p, ⟨n, rfl⟩, g⟩)
    rotate_left
    · have G := hid g
      have PN := hid p
      clear p g H1 H2 HC HP HF HM
      go_wp2
      exact ⟨rfl, Q3.out.bs.st.no G.out (RB3.out _ (pb_none PN.out))⟩
    have PR4 := hid p
    have C4 := Q3.out.call h g
    have d4 := C4.bs.m.c 2 _ rfl
    have z4 := C4.bs.m.z 2
    have Q4 := hid (C4.set (cs' := arrC vp f nm 0 (.slice none 0 0) (.slice none 0 0) (.slice none 0 0)) 2 (.int .i64 nm) rfl)
    have RB4 := hid (show ∀ q, (pbind rTwo fun s => pbind (rList 3 rTwo) fun i => pbind (rList 5 rField) fun d => pbind (rList 6 rMethod) fun m => ppure (⟨ps, f, nm, s, i, d, m⟩ : MClass)) r4 = q → rClass r = q from fun q hq => RB3.out _ (by rw [pb_some PR4.out]; exact hq))
    clear p h g Q3 C4 RB3 PR4
    go_wp2_with fail
    refine (H2 _ _ Q4.out.bs.st.rd).mono ?_
    rintro e w5a (⟨u, r5, p, ⟨u, rfl, hu, rfl⟩, h, g⟩ | ⟨p, ⟨n, rfl⟩, g⟩)
    rotate_left
    · have G := hid g
      have PN := hid p
      clear p g H1 H2 HC HP HF HM
      go_wp2
      exact ⟨rfl, Q4.out.bs.st.no G.out (RB4.out _ (pb_none PN.out))⟩
    have PR5 := hid p
    have C5 := Q4.out.call h g
    have d5 := C5.bs.m.c 3 _ rfl
    have z5 := C5.bs.m.z 3
    have Q5 := hid (C5.set (cs' := arrC vp f nm u (.slice none 0 0) (.slice none 0 0) (.slice none 0 0)) 3 (.int .i64 u) rfl)
    have RB5 := hid (show ∀ q, (pbind (rList 3 rTwo) fun i => pbind (rList 5 rField) fun d => pbind (rList 6 rMethod) fun m => ppure (⟨ps, f, nm, u, i, d, m⟩ : MClass)) r5 = q → rClass r = q from fun q hq => RB4.out _ (by rw [pb_some PR5.out]; exact hq))
    clear p h g Q4 C5 RB4 PR5
    go_wp2_with fail
    refine (HC 3 _ _ (by omega) Q5.out.bs.st.rd).mono ?_
    rintro e w6a (⟨n6, rc6, p, ⟨n6, rfl, hn6, rfl⟩, h, g⟩ | ⟨p, ⟨n, rfl⟩, g⟩)
    rotate_left
    · have G := hid g
      have PN := hid p
      clear p g H1 H2 HC HP HF HM
      go_wp2
      exact ⟨rfl, Q5.out.bs.st.no G.out (RB5.out _ (pb_none (list_none1 (most := 3) PN.out)))⟩
    have PC6 := hid p
    have QC6 := hid (Q5.out.call h g)
    clear p h g Q5
    go_upto_block 2 with fail
    go_cut [32] (fun _ wc => ∃ (ts : List Int) (v : Value) (r' : List UInt8), Hid (CP w b s w1.heap.size (arrC vp f nm u v (.slice none 0 0) (.slice none 0 0)) vp v (.slice none 0 0) (.slice none 0 0) ps ts [] [] [] [] r' wc) ∧ Hid (rList 3 rTwo r5 = some (ts, r')))
    case first =>
      go_wp2_with fail
      go_loopw [32] (fun i wr => ∃ (ts : List Int) (v : Value) (r' : List UInt8), i = .int .i64 ts.length ∧ ts.length ≤ n6 ∧ Hid (CP w b s w1.heap.size (arrC vp f nm u v (.slice none 0 0) (.slice none 0 0)) vp v (.slice none 0 0) (.slice none 0 0) ps ts [] [] [] [] r' wr) ∧ Hid (rMany rTwo ts.length rc6 = some (ts, r'))) (fun i _ => n6 - (intOf i).toNat)
      case atStart => exact ⟨[], (.slice none 0 0), rc6, rfl, Nat.zero_le _, QC6, many_zero⟩
      case round =>
        obtain ⟨ts, v, r', rfl, hk, hS, hR⟩ := hrel
        have mm := hS.out.bs.m.c 4 _ rfl
        have hsr := hS.out.bs.st.size
        by_cases hlt : ts.length < n6
        · have hcp := hS.out.keep (Below.refl _ _).drew
          have hrd := hcp.bs.st.rd
          have how := hcp.i
          obtain ⟨ao, cap, hv⟩ := own_len how
          subst hv
          clear QC6 mm
          have mm := hcp.bs.m.c 4 _ rfl
          go_wp2_with fail
          go_region_law (first
            | (go_simp; go_at_call 82; refine (H2 _ _ (by assumption)).mono ?_; rintro e w9 (⟨t9, r9, p9, ⟨t9, rfl, ht9, rfl⟩, h9, g9⟩ | ⟨p9, ⟨n9, rfl⟩, g9⟩); rotate_left; (focus (exact ⟨rfl, hcp.bs.st.no g9 (RB5.out _ (pb_none (list_none2 (most := 3) PC6.out (many_stop hR.out p9 hlt))))⟩)); have hcp9 := CP.call hcp h9 g9; have hsz9 := g9.size; have how9 := hcp9.i; have hal9 : ∀ o, (w9.alloc o).cell? ⟨w1.heap.size, 4, none⟩ = some (.slice ao ts.length cap) := (fun o => (hcp9.bs.m.alloc o).c 4 _ rfl); have m9 := hcp9.bs.m.c 4 _ rfl; have z9 := hcp9.bs.m.z 4)
            | (refine step_append_lies _ rfl (.tmp 35) (.tmp 38) 23 rfl w.heap.size 3 i0 (.int .i64 0) 1 8 Try.underlying23 hi hz0 hz1 hz2 rfl (by decide) _ _ _ rfl (World.ownsRow.alloc (by assumption) _) _ 1 1 _ rfl (by rfl) (World.news_of_block (heap_alloc_new _ _)) (by intro u hu; simp at hu; rcases hu with rfl <;> rfl) (by omega) (by unfold maxLen; omega) (by omega) (by simp at hsz9 ⊢; omega) _ rfl ?_; intro g9 cap9 w8 hown9 hgrow9 hat9 hlt9; have hboth := CP.appI hcp9 hgrow9 hown9; have hbs8 := hboth.1; have m8 := hbs8.m.c 4 _ rfl; have z8 := hbs8.m.z 4))
          all_goals
            have S4 := hid hboth.2
            have R4 := hid (many_more hR.out p9)
            clear hboth hown9 hgrow9 hat9 hlt9 hbs8 hcp9 how hcp hrd mm hS hR H1 H2 HC HP HF HM
            go_wp2_with fail
            go_roundw
            case rel => exact ⟨_, _, _, by simp, by simp; omega, S4, by rw [List.length_append]; exact R4⟩
            case measure => simp [intOf]; omega
        · clear mm
          go_wp2_with fail
          go_meet
          case rel => exact ⟨ts, v, r', hS, list_some (most := 3) PC6.out (by rw [show n6 = ts.length by omega]; exact hR.out)⟩
    case rest =>
      obtain ⟨is, vi, r6, Q6, PL6⟩ := hcut
      clear QC6 PC6
      have RB6 := hid (show ∀ q, (pbind (rList 5 rField) fun d => pbind (rList 6 rMethod) fun m => ppure (⟨ps, f, nm, u, is, d, m⟩ : MClass)) r6 = q → rClass r = q from fun q hq => RB5.out _ (by rw [pb_some PL6.out]; exact hq))
      clear RB5 PL6
      go_wp2_with fail
      refine (HC 5 _ _ (by omega) Q6.out.bs.st.rd).mono ?_
      rintro e w7a (⟨n7, rc7, p, ⟨n7, rfl, hn7, rfl⟩, h, g⟩ | ⟨p, ⟨n, rfl⟩, g⟩)
      rotate_left
      · have G := hid g
        have PN := hid p
        clear p g H1 H2 HC HP HF HM
        go_wp2
        exact ⟨rfl, Q6.out.bs.st.no G.out (RB6.out _ (pb_none (list_none1 (most := 5) PN.out)))⟩
      have PC7 := hid p
      have QC7 := hid (Q6.out.call h g)
      clear p h g Q6
      go_upto_block 4 with fail
      go_cut [44] (fun _ wc => ∃ (ts : List MField) (v : Value) (r' : List UInt8), Hid (CP w b s w1.heap.size (arrC vp f nm u vi v (.slice none 0 0)) vp vi v (.slice none 0 0) ps is ts [] [] [] r' wc) ∧ Hid (rList 5 rField r6 = some (ts, r')))
      case first =>
        go_wp2_with fail
        go_loopw [44] (fun i wr => ∃ (ts : List MField) (v : Value) (r' : List UInt8), i = .int .i64 ts.length ∧ ts.length ≤ n7 ∧ Hid (CP w b s w1.heap.size (arrC vp f nm u vi v (.slice none 0 0)) vp vi v (.slice none 0 0) ps is ts [] [] [] r' wr) ∧ Hid (rMany rField ts.length rc7 = some (ts, r'))) (fun i _ => n7 - (intOf i).toNat)
        case atStart => exact ⟨[], (.slice none 0 0), rc7, rfl, Nat.zero_le _, QC7, many_zero⟩
        case round =>
          obtain ⟨ts, v, r', rfl, hk, hS, hR⟩ := hrel
          have mm := hS.out.bs.m.c 5 _ rfl
          have hsr := hS.out.bs.st.size
          by_cases hlt : ts.length < n7
          · have hcp := hS.out.keep (Below.refl _ _).drew
            have hrd := hcp.bs.st.rd
            have how := hcp.f
            obtain ⟨ao, cap, hv⟩ := own_len how
            subst hv
            clear QC7 mm
            have mm := hcp.bs.m.c 5 _ rfl
            go_wp2_with fail
            go_region_law (first
              | (go_simp; go_at_call 83; refine (HF _ _ (by assumption)).mono ?_; rintro e w9 (⟨t9, r9, p9, rfl, h9, g9⟩ | ⟨p9, ⟨n9, rfl⟩, g9⟩); rotate_left; (focus (exact ⟨rfl, hcp.bs.st.no g9 (RB6.out _ (pb_none (list_none2 (most := 5) PC7.out (many_stop hR.out p9 hlt))))⟩)); have hcp9 := CP.call hcp h9 g9; have hsz9 := g9.size; have how9 := hcp9.f; have hal9 : ∀ o, (w9.alloc o).cell? ⟨w1.heap.size, 5, none⟩ = some (.slice ao ts.length cap) := (fun o => (hcp9.bs.m.alloc o).c 5 _ rfl); have m9 := hcp9.bs.m.c 5 _ rfl; have z9 := hcp9.bs.m.z 5)
              | (refine step_append_lies _ rfl (.tmp 47) (.tmp 50) 24 rfl w.heap.size 78 j0 (.agg #[.int .i64 0, .int .i64 0, .int .i64 0]) 3 24 Try.underlying24 hj hy0 hy1 hy2 rfl (by decide) _ _ _ rfl (World.ownsRow.alloc (by assumption) _) _ 1 1 _ rfl (by rfl) (World.news_of_block (heap_alloc_new _ _)) (by intro u hu; simp at hu; rcases hu with rfl | rfl | rfl <;> rfl) (by omega) (by unfold maxLen; omega) (by omega) (by simp at hsz9 ⊢; omega) _ rfl ?_; intro g9 cap9 w8 hown9 hgrow9 hat9 hlt9; have hboth := CP.appF hcp9 hgrow9 hown9; have hbs8 := hboth.1; have m8 := hbs8.m.c 5 _ rfl; have z8 := hbs8.m.z 5))
            all_goals
              have S4 := hid hboth.2
              have R4 := hid (many_more hR.out p9)
              clear hboth hown9 hgrow9 hat9 hlt9 hbs8 hcp9 how hcp hrd mm hS hR H1 H2 HC HP HF HM
              go_wp2_with fail
              go_roundw
              case rel => exact ⟨_, _, _, by simp, by simp; omega, S4, by rw [List.length_append]; exact R4⟩
              case measure => simp [intOf]; omega
          · clear mm
            go_wp2_with fail
            go_meet
            case rel => exact ⟨ts, v, r', hS, list_some (most := 5) PC7.out (by rw [show n7 = ts.length by omega]; exact hR.out)⟩
      case rest =>
        obtain ⟨fs, vf, r7, Q7, PL7⟩ := hcut
        clear QC7 PC7
        have RB7 := hid (show ∀ q, (pbind (rList 6 rMethod) fun m => ppure (⟨ps, f, nm, u, is, fs, m⟩ : MClass)) r7 = q → rClass r = q from fun q hq => RB6.out _ (by rw [pb_some PL7.out]; exact hq))
        clear RB6 PL7
        go_wp2_with fail
        refine (HC 6 _ _ (by omega) Q7.out.bs.st.rd).mono ?_
        rintro e w8a (⟨n8, rc8, p, ⟨n8, rfl, hn8, rfl⟩, h, g⟩ | ⟨p, ⟨n, rfl⟩, g⟩)
        rotate_left
        · have G := hid g
          have PN := hid p
          clear p g H1 H2 HC HP HF HM
          go_wp2
          exact ⟨rfl, Q7.out.bs.st.no G.out (RB7.out _ (pb_none (list_none1 (most := 6) PN.out)))⟩
        have PC8 := hid p
        have QC8 := hid (Q7.out.call h g)
        clear p h g Q7
        go_upto_block 6 with fail
        go_cut [56] (fun _ wc => ∃ (ts : List MMethod) (xs : List SMethod) (ys : List (List SFrame)) (v : Value) (r' : List UInt8), Hid (CP w b s w1.heap.size (arrC vp f nm u vi vf v) vp vi vf v ps is fs ts xs ys r' wc) ∧ Hid (rList 6 rMethod r7 = some (ts, r')))
        case first =>
          go_wp2_with fail
          go_loopw [56] (fun i wr => ∃ (ts : List MMethod) (xs : List SMethod) (ys : List (List SFrame)) (v : Value) (r' : List UInt8), i = .int .i64 ts.length ∧ ts.length ≤ n8 ∧ Hid (CP w b s w1.heap.size (arrC vp f nm u vi vf v) vp vi vf v ps is fs ts xs ys r' wr) ∧ Hid (rMany rMethod ts.length rc8 = some (ts, r'))) (fun i _ => n8 - (intOf i).toNat)
          case atStart => exact ⟨[], [], [], (.slice none 0 0), rc8, rfl, Nat.zero_le _, QC8, many_zero⟩
          case round =>
            obtain ⟨ts, xs, ys, v, r', rfl, hk, hS, hR⟩ := hrel
            have mm := hS.out.bs.m.c 6 _ rfl
            have hsr := hS.out.bs.st.size
            by_cases hlt : ts.length < n8
            · have hcp := hS.out.keep (Below.refl _ _).drew
              have hrd := hcp.bs.st.rd
              have how := hcp.m.row
              obtain ⟨ao, cap, hv⟩ := own_len how
              subst hv
              clear QC8 mm
              have mm := hcp.bs.m.c 6 _ rfl
              go_wp2_with fail
              go_region_law (first
                | (go_simp; go_at_call 84; refine (HM _ _ (by assumption)).mono ?_; rintro e w9 (⟨t9, r9, p9, ⟨vt9, ve9, zs9, rfl, ht9, hf9, ha9⟩, h9, g9⟩ | ⟨p9, ⟨n9, rfl⟩, g9⟩); rotate_left; (focus (exact ⟨rfl, hcp.bs.st.no g9 (RB7.out _ (pb_none (list_none2 (most := 6) PC8.out (many_stop hR.out p9 hlt))))⟩)); obtain ⟨o91, c91, hv91⟩ := own_len ht9; obtain ⟨o92, c92, hv92⟩ := own_len hf9.row; have hnx9 := hcp.m.next rfl ht9 hf9 ha9 (by simpa using hsr); have hcp9 := CP.call hcp h9 g9; have hsz9 := g9.size; have how9 := hcp9.m.row; have hal9 : ∀ o, (w9.alloc o).cell? ⟨w1.heap.size, 6, none⟩ = some (.slice ao ts.length cap) := (fun o => (hcp9.bs.m.alloc o).c 6 _ rfl); have m9 := hcp9.bs.m.c 6 _ rfl; have z9 := hcp9.bs.m.z 6; subst hv91 hv92)
                | (refine step_append_lies _ rfl (.tmp 59) (.tmp 62) 25 rfl w.heap.size 83 k0 (.agg #[.int .i64 0, .int .i64 0, .int .i64 0, .int .i64 0, .int .i64 0, .string ⟨#[]⟩, .slice none 0 0, .slice none 0 0]) 8 104 Try.underlying25 hk0 hx0 hx1 hx2 rfl (by decide) _ _ _ rfl (World.ownsRow.alloc (by assumption) _) _ 1 1 _ rfl (by rfl) (World.news_of_block (heap_alloc_new _ _)) (by intro u hu; simp at hu; rcases hu with rfl | rfl | rfl | rfl | rfl | rfl | rfl | rfl <;> rfl) (by omega) (by unfold maxLen; omega) (by omega) (by simp at hsz9 ⊢; omega) _ rfl ?_; intro g9 cap9 w8 hown9 hgrow9 hat9 hlt9; have hboth := CP.appM hcp9 hnx9 hgrow9 hown9; have hbs8 := hboth.1; have m8 := hbs8.m.c 6 _ rfl; have z8 := hbs8.m.z 6))
              all_goals
                have S4 := hid hboth.2
                have R4 := hid (many_more hR.out p9)
                clear hboth hown9 hgrow9 hat9 hlt9 hbs8 hcp9 how hcp hrd mm hS hR H1 H2 HC HP HF HM hnx9
                go_wp2_with fail
                go_roundw
                case rel => exact ⟨_, _, _, _, _, by simp, by simp; omega, S4, by rw [List.length_append]; exact R4⟩
                case measure => simp [intOf]; omega
            · clear mm
              go_wp2_with fail
              go_meet
              case rel => exact ⟨ts, xs, ys, v, r', hS, list_some (most := 6) PC8.out (by rw [show n8 = ts.length by omega]; exact hR.out)⟩
        case rest =>
          obtain ⟨ms, xs, ys, vm, r8, Q8, PL8⟩ := hcut
          clear QC8 PC8
          have RB8 := hid (show ∀ q, (ppure (⟨ps, f, nm, u, is, fs, ms⟩ : MClass)) r8 = q → rClass r = q from fun q hq => RB7.out _ (by rw [pb_some PL8.out]; exact hq))
          clear RB7 PL8
          have HPp := hid (RB8.out _ pp_some)
          have HE := hid (show KE w b s vp vi vf vm ⟨ps, f, nm, u, is, fs, ms⟩ xs ys r8 _ from ⟨Q8.out.bs.st, ⟨Q8.out.p, Q8.out.i, Q8.out.f, Q8.out.m⟩, ⟨_, Q8.out.bs.r⟩⟩)
          obtain ⟨o1, k1, hv1⟩ := own_len Q8.out.p
          obtain ⟨o2, k2, hv2⟩ := own_len Q8.out.i
          obtain ⟨o3, k3, hv3⟩ := own_len Q8.out.f
          obtain ⟨o4, k4, hv4⟩ := own_len Q8.out.m.row
          subst hv1 hv2 hv3 hv4
          obtain ⟨⟨t0, t1, t2, t3, t4, t5, t6⟩, _⟩ := Q8.out.bs.m.c7
          obtain ⟨⟨a0, a1, a2, a3, a4, a5, a6⟩, y0, y1, y2, y3, y4, y5, y6⟩ := Q8.out.bs.r.c7
          clear Q8 H1 H2 HC HP HF HM RB8
          go_wp2
          refine bodyPost_ret (v := .agg #[.slice o1 ps.length k1, .int .i64 (f : Int), .int .i64 (nm : Int), .int .i64 (u : Int), .slice o2 is.length k2, .slice o3 fs.length k3, .slice o4 ms.length k4]) (by simp [results, Try.results44, go_sem, a0, a1, a2, a3, a4, a5, a6]) rfl ?_
          refine KE.fin (c := ⟨ps, f, nm, u, is, fs, ms⟩) (xs := xs) (ys := ys) (r' := r8) ?_ HPp.out
          repeat' (first | refine KE.set ?_ _ _ | exact HE.out)

end Go.Proofs.Ytnjfaikhiimdjaa
