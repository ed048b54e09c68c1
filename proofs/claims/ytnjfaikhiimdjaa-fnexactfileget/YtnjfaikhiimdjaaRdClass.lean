/- Contracts of the specification's reader: a class, the walk. -/
import Derived.Test.YtnjfaikhiimdjaaRdClassA
namespace Go.Proofs.Ytnjfaikhiimdjaa
open Go.RowKit Fm
set_option maxHeartbeats 8000000
set_option maxRecDepth 20000
set_option linter.unusedVariables false

theorem l1class_any (b : Nat) (s : ByteArray) (st : Option (List UInt8)) (w : World) (hs : s.size ≤ 1000000000) (h : RdAt w b s st) :
    Calls Try.prog 42 #[.pointer (some ⟨b, 0, none⟩)] w fun e w' => ∃ (c : MClass) (vp vi vf vm : Value) (st' : Option (List UInt8)), e = .returned (.agg #[vp, .int .i64 c.flags, .int .i64 c.name, .int .i64 c.super, vi, vf, vm]) ∧ ClassW w' w.heap.size vp vi vf vm c ∧ c.few ∧ RdAt w' b s st' ∧ w.grownBy w' (some b) ∧ Rd rClass st c st' := by
  have H1 := fun st w h => l1one_any b s st w hs h
  have H2 := fun st w h => l1two_any b s st w hs h
  have H3 := fun st w h => l1text_any b s st 4 w hs (by omega) h
  have H4 := fun st w h => l1pool_any b s st w hs h
  have H5 := fun st w h => l1method_any b s st w hs h
  have HB := h.lt
  obtain ⟨i0, hi, hz0, hz1, hz2⟩ := info_parts infoInt
  obtain ⟨j0, hj, hy0, hy1, hy2⟩ := info_parts infoField
  obtain ⟨k0, hk0, hx0, hx1, hx2⟩ := info_parts infoMethod
  have B0 := (show BS w b s (w.heap.size + 1) w.heap.size 27 zC st zC ((w.alloc (.cells zC 27)).alloc (.cells zC 27)) from
    ⟨((St.start h).alloc _).alloc _, by have := Lk.new (w.alloc (.cells zC 27)) zC 27; simpa using this, (Lk.new w _ _).alloc _, by omega, Nat.le_refl _, by omega⟩)
  clear h
  go_enter Try.func42, Try.ntmps42
  go_wp2_with fail
  refine (H3 _ _ B0.st.rd).mono ?_
  rintro e w1 ⟨x, st1, rfl, hx, h1, g1, r1⟩
  have B1 := B0.call h1 g1
  clear B0 h1 g1
  go_upto_if 11 with fail
  go_cut [] (fun wc => ∃ st1', Hid (BS w b s (w.heap.size + 1) w.heap.size 27 zC st1' zC wc) ∧ Hid (Rd rMark st () st1'))
  case first =>
    obtain ⟨c2, f2⟩ := B1.st.cells
    have R1 := hid r1
    clear r1
    go_wp2_with fail
    · rename_i hc
      go_meet
      case rel =>
        refine ⟨none, B1.bad, ?_⟩
        refine R1.out.bind ?_
        rw [if_neg (fun e => by rw [e, ByteArray.toList_eq] at hc; simp [Fm.mark] at hc)]
        exact Rd.fail
    · rename_i hc
      go_meet
      case rel =>
        refine ⟨st1, B1, ?_⟩
        refine R1.out.bind ?_
        rw [if_pos (by
          simp [ByteArray.toList_eq] at hc
          exact ByteArray.ext (Array.ext' (by rw [hc]; rfl)))]
        exact Rd.pure
  case rest =>
    obtain ⟨st1', B1', R1⟩ := hcut
    clear B1 r1 H3
    go_wp2_with fail
    refine (H4 _ _ B1'.out.st.rd).mono ?_
    rintro e w2 ⟨vp, ps, st2, rfl, op, hps, h2, g2, r2⟩
    have B2 := B1'.out.call h2 g2
    have op := Joins.ownsRow_le op B1'.out.st.size
    obtain ⟨oo, oc, hv⟩ := own_len op
    have HO := hid op
    subst hv
    obtain ⟨⟨p0, p1, p2, p3, p4, p5, p6⟩, y0, y1, y2, y3, y4, y5, y6⟩ := B2.m.c7
    have S2 := (show CSt w b s zC (.slice oo ps.length oc) (.slice none 0 0) (.slice none 0 0) (.slice none 0 0) ps [] [] [] [] st2 w2 from ⟨B2, op, World.ownsRow_nil _ _ _ _, World.ownsRow_nil _ _ _ _, MX.nil _ _⟩)
    have R2 := hid r2
    have HPs := hid hps
    clear h2 g2 r2 op B1' B2 hps HO H4
    go_wp2_with fail
    have S2 := S2.set (cs' := arrC (.slice oo ps.length oc) 0 0 0 (.slice none 0 0) (.slice none 0 0) (.slice none 0 0)) 0 (.slice oo ps.length oc) rfl
    refine (H1 _ _ S2.bs.st.rd).mono ?_
    rintro e w3 ⟨f, st3, rfl, hf, h3, g3, r3⟩
    have S3 := S2.call h3 g3
    clear p0 p1 p2 p3 p4 p5 p6 y0 y1 y2 y3 y4 y5 y6
    obtain ⟨⟨p0, p1, p2, p3, p4, p5, p6⟩, y0, y1, y2, y3, y4, y5, y6⟩ := S3.bs.m.c7
    clear S2 h3 g3
    go_wp2_with fail
    have S3 := S3.set (cs' := arrC (.slice oo ps.length oc) f 0 0 (.slice none 0 0) (.slice none 0 0) (.slice none 0 0)) 1 (.int .i64 f) rfl
    refine (H2 _ _ S3.bs.st.rd).mono ?_
    rintro e w4 ⟨n, st4, rfl, hn, h4, g4, r4⟩
    have S4 := S3.call h4 g4
    clear p0 p1 p2 p3 p4 p5 p6 y0 y1 y2 y3 y4 y5 y6
    obtain ⟨⟨p0, p1, p2, p3, p4, p5, p6⟩, y0, y1, y2, y3, y4, y5, y6⟩ := S4.bs.m.c7
    clear S3 h4 g4
    go_wp2_with fail
    have S4 := S4.set (cs' := arrC (.slice oo ps.length oc) f n 0 (.slice none 0 0) (.slice none 0 0) (.slice none 0 0)) 2 (.int .i64 n) rfl
    refine (H2 _ _ S4.bs.st.rd).mono ?_
    rintro e w5 ⟨u, st5, rfl, hu, h5, g5, r5⟩
    have S5 := S4.call h5 g5
    clear p0 p1 p2 p3 p4 p5 p6 y0 y1 y2 y3 y4 y5 y6
    obtain ⟨⟨p0, p1, p2, p3, p4, p5, p6⟩, y0, y1, y2, y3, y4, y5, y6⟩ := S5.bs.m.c7
    clear S4 h5 g5
    go_wp2_with fail
    have S5 := S5.set (cs' := arrC (.slice oo ps.length oc) f n u (.slice none 0 0) (.slice none 0 0) (.slice none 0 0)) 3 (.int .i64 u) rfl
    refine (H1 _ _ S5.bs.st.rd).mono ?_
    rintro e w6 ⟨qI, st6, rfl, hqI, h6, g6, r6⟩
    have S6 := S5.call h6 g6
    have R3 := hid r3
    have R4 := hid r4
    have R5 := hid r5
    clear S5 h6 g6 p0 p1 p2 p3 p4 p5 p6 y0 y1 y2 y3 y4 y5 y6 r3 r4 r5
    go_upto_if 30 with fail
    go_cut [] (fun wc => ∃ st', Hid (CSt w b s (arrC (.slice oo ps.length oc) f n u (.slice none 0 0) (.slice none 0 0) (.slice none 0 0)) (.slice oo ps.length oc) (.slice none 0 0) (.slice none 0 0) (.slice none 0 0) ps [] [] [] [] st' wc) ∧ Hid (Rd (rCount 3) st5 qI st'))
    case first =>
      obtain ⟨c2, f2⟩ := S6.bs.st.cells
      by_cases hq1 : qI ≤ 3
      · go_wp2_with fail
        go_meet
        case rel => exact ⟨st6, S6, r6.count (by omega)⟩
      · go_wp2_with fail
        go_meet
        case rel => exact ⟨none, S6.bad, r6.over (by omega)⟩
    case rest =>
      obtain ⟨stq, HS, HR⟩ := hcut
      clear S6 r6
      go_upto_block 0 with fail
      go_cut [5] (fun _ wc => ∃ (is : List Int) (st' : Option (List UInt8)) (v : Value), is.length ≤ 255 ∧ Hid (CSt w b s (arrC (.slice oo ps.length oc) f n u v (.slice none 0 0) (.slice none 0 0)) (.slice oo ps.length oc) v (.slice none 0 0) (.slice none 0 0) ps is [] [] [] st' wc) ∧ Hid (Rd (rList 3 rTwo) st5 is st'))
      case first =>
        go_wp2_with fail
        go_loopw [5] (fun i wr => ∃ (is : List Int) (st' : Option (List UInt8)) (v : Value), i = .int .i64 is.length ∧ is.length ≤ qI ∧ Hid (CSt w b s (arrC (.slice oo ps.length oc) f n u v (.slice none 0 0) (.slice none 0 0)) (.slice oo ps.length oc) v (.slice none 0 0) (.slice none 0 0) ps is [] [] [] st' wr) ∧ Hid (Rd (rMany rTwo is.length) stq is st')) (fun i _ => qI - (intOf i).toNat)
        case atStart => exact ⟨[], stq, .slice none 0 0, rfl, Nat.zero_le _, HS, Rd.pure⟩
        case round =>
          obtain ⟨is, st', v, rfl, hk, hS, hR⟩ := hrel
          obtain ⟨c2, f2⟩ := hS.out.bs.st.cells
          have mm := hS.out.bs.m.c7
          have hsr := hS.out.bs.st.size
          by_cases hlt : is.length < qI
          · cases st' with
            | none =>
              simp only [Option.isNone_none] at c2
              go_wp2_with fail
              go_meet
              case rel => exact ⟨is, none, v, by omega, hS, HR.out.list (hR.out.many_none (by omega))⟩
            | some rs =>
              simp only [Option.isNone_some] at c2
              obtain ⟨⟨_, _, _, _, mm4, mm5, mm6⟩, _⟩ := mm
              have hcs := hS.out.keep (Below.refl _ _).drew
              have hrd := hcs.bs.st.rd
              have hst := hcs.bs.st
              have how := hcs.i
              obtain ⟨ao, cap, hv⟩ := own_len how
              subst hv
              go_wp2_with fail
              go_region_law (first
                | (go_simp; go_at_call 75; refine (H2 _ _ (by assumption)).mono ?_; rintro e w9 ⟨a9, st9, rfl, ha9, h9, g9, r9⟩; have hcs9 := CSt.call (by assumption) h9 g9; have hsz9 := hcs9.bs.st.size; have how9 := hcs9.i; have hal9 : ∀ o, (w9.alloc o).cell? ⟨w.heap.size + 1, 4, none⟩ = some (.slice ao is.length cap) := (fun o => (hcs9.bs.m.alloc o).c 4 _ rfl); obtain ⟨⟨_, _, _, _, m49, m59, m69⟩, _, _, _, _, z49, z59, z69⟩ := hcs9.bs.m.c7; have hp9 := r9)
                | (refine step_append_lies _ rfl (.tmp 47) (.tmp 50) 23 rfl w.heap.size 3 i0 (.int .i64 0) 1 8 Try.underlying23 hi hz0 hz1 hz2 rfl (by decide) _ _ _ rfl (World.ownsRow.alloc (by assumption) _) _ 1 1 _ rfl (by rfl) (World.news_of_block (heap_alloc_new _ _)) (by intro u hu; simp at hu; rcases hu with rfl <;> rfl) (by omega) (by unfold maxLen; omega) (by omega) (by simp; omega) _ rfl ?_; intro g9 cap9 w8 hown9 hgrow9 hat9 hlt9; have hboth := CSt.appI (by assumption) hgrow9 hown9; have hbs8 := hboth.1; obtain ⟨⟨_, _, _, _, m48, m58, m68⟩, _, _, _, _, z48, z58, z68⟩ := hbs8.m.c7))
              all_goals
                have S4 := hid hboth.2
                have R4 := hid (hR.out.step hp9)
                clear hboth hown9 hgrow9 hat9 hlt9 hbs8 m48 z48 m58 z58 m68 z68 hp9 hcs9 how9 hal9 hcs hrd hst how hS hR c2 f2 mm4 mm5 mm6 H1 H2 H5
                go_wp2_with fail
                go_roundw
                case rel => exact ⟨_, _, _, by simp, by simp; omega, S4, by rw [List.length_append]; exact R4⟩
                case measure => simp [intOf]; omega
          · go_wp2_with fail
            go_meet
            case rel => exact ⟨is, st', v, by omega, hS, HR.out.list (by rw [show qI = is.length by omega]; exact hR.out)⟩
      case rest =>
        obtain ⟨is, st7, vi, his, HS7, R7⟩ := hcut
        clear HS HR
        go_wp2_with fail
        refine (H1 _ _ HS7.out.bs.st.rd).mono ?_
        rintro e w7 ⟨qF, st8, rfl, hqF, h7, g7, r7⟩
        have S7 := HS7.out.call h7 g7
        clear HS7 h7 g7
        go_upto_if 56 with fail
        go_cut [] (fun wc => ∃ st', Hid (CSt w b s (arrC (.slice oo ps.length oc) f n u vi (.slice none 0 0) (.slice none 0 0)) (.slice oo ps.length oc) vi (.slice none 0 0) (.slice none 0 0) ps is [] [] [] st' wc) ∧ Hid (Rd (rCount 5) st7 qF st'))
        case first =>
          obtain ⟨c2, f2⟩ := S7.bs.st.cells
          by_cases hq1 : qF ≤ 5
          · go_wp2_with fail
            go_meet
            case rel => exact ⟨st8, S7, r7.count (by omega)⟩
          · go_wp2_with fail
            go_meet
            case rel => exact ⟨none, S7.bad, r7.over (by omega)⟩
        case rest =>
          obtain ⟨stq, HS, HR⟩ := hcut
          clear S7 r7
          go_upto_block 2 with fail
          go_cut [6] (fun _ wc => ∃ (fs : List MField) (st' : Option (List UInt8)) (v : Value), fs.length ≤ 255 ∧ Hid (CSt w b s (arrC (.slice oo ps.length oc) f n u vi v (.slice none 0 0)) (.slice oo ps.length oc) vi v (.slice none 0 0) ps is fs [] [] st' wc) ∧ Hid (Rd (rList 5 rField) st7 fs st'))
          case first =>
            go_wp2_with fail
            go_loopw [6] (fun i wr => ∃ (fs : List MField) (st' : Option (List UInt8)) (v : Value), i = .int .i64 fs.length ∧ fs.length ≤ qF ∧ Hid (CSt w b s (arrC (.slice oo ps.length oc) f n u vi v (.slice none 0 0)) (.slice oo ps.length oc) vi v (.slice none 0 0) ps is fs [] [] st' wr) ∧ Hid (Rd (rMany rField fs.length) stq fs st')) (fun i _ => qF - (intOf i).toNat)
            case atStart => exact ⟨[], stq, .slice none 0 0, rfl, Nat.zero_le _, HS, Rd.pure⟩
            case round =>
              obtain ⟨fs, st', v, rfl, hk, hS, hR⟩ := hrel
              obtain ⟨c2, f2⟩ := hS.out.bs.st.cells
              have mm := hS.out.bs.m.c7
              have hsr := hS.out.bs.st.size
              by_cases hlt : fs.length < qF
              · cases st' with
                | none =>
                  simp only [Option.isNone_none] at c2
                  go_wp2_with fail
                  go_meet
                  case rel => exact ⟨fs, none, v, by omega, hS, HR.out.list (hR.out.many_none (by omega))⟩
                | some rs =>
                  simp only [Option.isNone_some] at c2
                  obtain ⟨⟨_, _, _, _, mm4, mm5, mm6⟩, _⟩ := mm
                  have hcs := hS.out.keep (Below.refl _ _).drew
                  have hrd := hcs.bs.st.rd
                  have hst := hcs.bs.st
                  have how := hcs.f
                  obtain ⟨ao, cap, hv⟩ := own_len how
                  subst hv
                  go_wp2_with fail
                  go_region_law (first
                    | (go_simp; go_at_call 74; refine (H1 _ _ (by assumption)).mono ?_; rintro e w9 ⟨a9, st9, rfl, ha9, h9, g9, r9⟩; have hcs9 := CSt.call (by assumption) h9 g9; have hsz9 := hcs9.bs.st.size; have how9 := hcs9.f; have hal9 : ∀ o, (w9.alloc o).cell? ⟨w.heap.size + 1, 5, none⟩ = some (.slice ao fs.length cap) := (fun o => (hcs9.bs.m.alloc o).c 5 _ rfl); obtain ⟨⟨_, _, _, _, m49, m59, m69⟩, _, _, _, _, z49, z59, z69⟩ := hcs9.bs.m.c7; have hp9 := Fd1.mk r9)
                    | (go_simp; go_at_call 75; refine (H2 _ _ (by assumption)).mono ?_; rintro e w9 ⟨a9, st9, rfl, ha9, h9, g9, r9⟩; have hcs9 := CSt.call (by assumption) h9 g9; have hsz9 := hcs9.bs.st.size; have how9 := hcs9.f; have hal9 : ∀ o, (w9.alloc o).cell? ⟨w.heap.size + 1, 5, none⟩ = some (.slice ao fs.length cap) := (fun o => (hcs9.bs.m.alloc o).c 5 _ rfl); obtain ⟨⟨_, _, _, _, m49, m59, m69⟩, _, _, _, _, z49, z59, z69⟩ := hcs9.bs.m.c7; (first | (have hp9 := Fd1.next (by assumption) r9) | (have hp9 := Fd2.done (by assumption) r9)))
                    | (refine step_append_lies _ rfl (.tmp 73) (.tmp 81) 24 rfl w.heap.size 78 j0 (.agg #[.int .i64 0, .int .i64 0, .int .i64 0]) 3 24 Try.underlying24 hj hy0 hy1 hy2 rfl (by decide) _ _ _ rfl (World.ownsRow.alloc (by assumption) _) _ 1 1 _ rfl (by rfl) (World.news_of_block (heap_alloc_new _ _)) (by intro u hu; simp at hu; rcases hu with rfl | rfl | rfl <;> rfl) (by omega) (by unfold maxLen; omega) (by omega) (by simp; omega) _ rfl ?_; intro g9 cap9 w8 hown9 hgrow9 hat9 hlt9; have hboth := CSt.appF (by assumption) hgrow9 hown9; have hbs8 := hboth.1; obtain ⟨⟨_, _, _, _, m48, m58, m68⟩, _, _, _, _, z48, z58, z68⟩ := hbs8.m.c7))
                  all_goals
                    have S4 := hid hboth.2
                    have R4 := hid (hR.out.step hp9)
                    clear hboth hown9 hgrow9 hat9 hlt9 hbs8 m48 z48 m58 z58 m68 z68 hp9 hcs9 how9 hal9 hcs hrd hst how hS hR c2 f2 mm4 mm5 mm6 H1 H2 H5
                    go_wp2_with fail
                    go_roundw
                    case rel => exact ⟨_, _, _, by simp, by simp; omega, S4, by rw [List.length_append]; exact R4⟩
                    case measure => simp [intOf]; omega
              · go_wp2_with fail
                go_meet
                case rel => exact ⟨fs, st', v, by omega, hS, HR.out.list (by rw [show qF = fs.length by omega]; exact hR.out)⟩
          case rest =>
            obtain ⟨fs, st9, vf, hfs, HS8, R8⟩ := hcut
            clear HS HR
            go_wp2_with fail
            refine (H1 _ _ HS8.out.bs.st.rd).mono ?_
            rintro e w8 ⟨qM, st10, rfl, hqM, h8, g8, r8⟩
            have S8 := HS8.out.call h8 g8
            clear HS8 h8 g8
            go_upto_if 87 with fail
            go_cut [] (fun wc => ∃ st', Hid (CSt w b s (arrC (.slice oo ps.length oc) f n u vi vf (.slice none 0 0)) (.slice oo ps.length oc) vi vf (.slice none 0 0) ps is fs [] [] st' wc) ∧ Hid (Rd (rCount 6) st9 qM st'))
            case first =>
              obtain ⟨c2, f2⟩ := S8.bs.st.cells
              by_cases hq1 : qM ≤ 6
              · go_wp2_with fail
                go_meet
                case rel => exact ⟨st10, S8, r8.count (by omega)⟩
              · go_wp2_with fail
                go_meet
                case rel => exact ⟨none, S8.bad, r8.over (by omega)⟩
            case rest =>
              obtain ⟨stq, HS, HR⟩ := hcut
              clear S8 r8
              go_upto_block 4 with fail
              go_cut [7] (fun _ wc => ∃ (ms : List MMethod) (xs : List SMethod) (st' : Option (List UInt8)) (v : Value), ms.length ≤ 255 ∧ Hid (CSt w b s (arrC (.slice oo ps.length oc) f n u vi vf v) (.slice oo ps.length oc) vi vf v ps is fs ms xs st' wc) ∧ Hid (Rd (rList 6 rMethod) st9 ms st') ∧ Hid (∀ m ∈ ms, m.few))
              case first =>
                go_wp2_with fail
                go_loopw [7] (fun i wr => ∃ (ms : List MMethod) (xs : List SMethod) (st' : Option (List UInt8)) (v : Value), i = .int .i64 ms.length ∧ ms.length ≤ qM ∧ Hid (CSt w b s (arrC (.slice oo ps.length oc) f n u vi vf v) (.slice oo ps.length oc) vi vf v ps is fs ms xs st' wr) ∧ Hid (Rd (rMany rMethod ms.length) stq ms st') ∧ Hid (∀ m ∈ ms, m.few)) (fun i _ => qM - (intOf i).toNat)
                case atStart => exact ⟨[], [], stq, .slice none 0 0, rfl, Nat.zero_le _, HS, Rd.pure, hid (by simp)⟩
                case round =>
                  obtain ⟨ms, xs, st', v, rfl, hk, hS, hR, hE⟩ := hrel
                  obtain ⟨c2, f2⟩ := hS.out.bs.st.cells
                  have mm := hS.out.bs.m.c7
                  have hsr := hS.out.bs.st.size
                  by_cases hlt : ms.length < qM
                  · cases st' with
                    | none =>
                      simp only [Option.isNone_none] at c2
                      go_wp2_with fail
                      go_meet
                      case rel => exact ⟨ms, xs, none, v, by omega, hS, HR.out.list (hR.out.many_none (by omega)), hE⟩
                    | some rs =>
                      simp only [Option.isNone_some] at c2
                      obtain ⟨⟨_, _, _, _, mm4, mm5, mm6⟩, _⟩ := mm
                      have hcs := hS.out.keep (Below.refl _ _).drew
                      have hrd := hcs.bs.st.rd
                      have hst := hcs.bs.st
                      have how := hcs.m.row
                      obtain ⟨ao, cap, hv⟩ := own_len how
                      subst hv
                      go_wp2_with fail
                      go_region_law (first
                        | (go_simp; go_at_call 76; refine (H5 _ _ (by assumption)).mono ?_; rintro e w9 ⟨m9, vt9, ve9, st9, rfl, hm9, hf9, h9, g9, r9⟩; have hm9 := hm9.mono (show w.heap.size ≤ _ from St.size (by assumption)); obtain ⟨o9, c9, hv9⟩ := own_len hm9.t; obtain ⟨o8, c8, hv8⟩ := hm9.f.len; subst hv9 hv8; have hcs9 := CSt.call (by assumption) h9 g9; have hsz9 := hcs9.bs.st.size; have how9 := hcs9.m.row; have hal9 : ∀ o, (w9.alloc o).cell? ⟨w.heap.size + 1, 6, none⟩ = some (.slice ao ms.length cap) := (fun o => (hcs9.bs.m.alloc o).c 6 _ rfl); obtain ⟨⟨_, _, _, _, m49, m59, m69⟩, _, _, _, _, z49, z59, z69⟩ := hcs9.bs.m.c7; have hp9 := r9)
                        | (refine step_append_lies _ rfl (.tmp 104) (.tmp 107) 25 rfl w.heap.size 83 k0 (.agg #[.int .i64 0, .int .i64 0, .int .i64 0, .int .i64 0, .int .i64 0, .string ⟨#[]⟩, .slice none 0 0, .slice none 0 0]) 8 104 Try.underlying25 hk0 hx0 hx1 hx2 rfl (by decide) _ _ _ rfl (World.ownsRow.alloc (by assumption) _) _ 1 1 _ rfl (by rfl) (World.news_of_block (heap_alloc_new _ _)) (by intro u hu; simp at hu; rcases hu with rfl | rfl | rfl | rfl | rfl | rfl | rfl | rfl <;> rfl) (by omega) (by unfold maxLen; omega) (by omega) (by simp; omega) _ rfl ?_; intro g9 cap9 w8 hown9 hgrow9 hat9 hlt9; have hboth := CSt.appM (by assumption) hm9 hgrow9 hown9; have hbs8 := hboth.1; obtain ⟨⟨_, _, _, _, m48, m58, m68⟩, _, _, _, _, z48, z58, z68⟩ := hbs8.m.c7))
                      all_goals
                        have S4 := hid hboth.2
                        have R4 := hid (hR.out.step hp9)
                        have W4 := hid hf9
                        clear hboth hown9 hgrow9 hat9 hlt9 hbs8 m48 z48 m58 z58 m68 z68 hp9 hcs9 how9 hal9 hcs hrd hst how hS hR c2 f2 mm4 mm5 mm6 H1 H2 H5
                        go_wp2_with fail
                        go_roundw
                        case rel => exact ⟨_, _, _, _, by simp, by simp; omega, S4, by rw [List.length_append]; exact R4, hid (fun m hm => by
                          rcases List.mem_append.1 hm with hm | hm
                          · exact hE.out m hm
                          · simp at hm; subst hm; exact W4.out)⟩
                        case measure => simp [intOf]; omega
                  · go_wp2_with fail
                    go_meet
                    case rel => exact ⟨ms, xs, st', v, by omega, hS, HR.out.list (by rw [show qM = ms.length by omega]; exact hR.out), hE⟩
              case rest =>
                obtain ⟨ms, xs, st11, vm, hms, HS9, R9, E9⟩ := hcut
                clear HS HR H1 H2 H5
                obtain ⟨⟨p0, p1, p2, p3, p4, p5, p6⟩, y0, y1, y2, y3, y4, y5, y6⟩ := HS9.out.bs.r.c7
                obtain ⟨⟨t0, t1, t2, t3, t4, t5, t6⟩, _⟩ := HS9.out.bs.m.c7
                obtain ⟨a1, k1, hv1⟩ := own_len HS9.out.i
                obtain ⟨a2, k2, hv2⟩ := own_len HS9.out.f
                obtain ⟨a3, k3, hv3⟩ := own_len HS9.out.m.row
                subst hv1 hv2 hv3
                have HRc := hid (show Rd rClass st ⟨ps, f, n, u, is, fs, ms⟩ st11 from by
                  refine R1.out.bind ?_
                  refine R2.out.bind ?_
                  refine R3.out.bind ?_
                  refine R4.out.bind ?_
                  refine R5.out.bind ?_
                  refine R7.out.bind ?_
                  refine R8.out.bind ?_
                  refine R9.out.bind ?_
                  exact Rd.pure)
                have HF := hid HS9.out.ce
                clear HS9 R1 R2 R3 R4 R5 R7 R8 R9
                go_wp2_with fail
                refine bodyPost_ret (v := .agg #[.slice oo ps.length oc, .int .i64 f, .int .i64 n, .int .i64 u, .slice a1 is.length k1, .slice a2 fs.length k2, .slice a3 ms.length k3]) (by simp [results, Try.results42, go_sem, p0, p1, p2, p3, p4, p5, p6]) rfl ?_
                refine ⟨⟨ps, f, n, u, is, fs, ms⟩, _, _, _, _, st11, rfl, CE.fin ?_ HRc.out ?_⟩
                · repeat' (first | refine CE.set ?_ _ _ | exact HF.out)
                · exact ⟨by have := HPs.out.1; simp; omega, fun t ht => by have := HPs.out.2 t ht; omega, by simp; omega, by simp; omega, by simp; omega, E9.out⟩

end Go.Proofs.Ytnjfaikhiimdjaa
