/- Contract of the specification's TracePut. -/
import Derived.Test.YtpjpbilcmnfgpaaDoorTPutMath
import Derived.Laws.IdiomStrings
import Derived.Deep.RegionHeld
import Derived.Deep.DeepCutAuto
namespace Go.Proofs.YtpjpbilcmnfgpaaDoor
open Go.RowKit
set_option maxHeartbeats 2000000
set_option maxRecDepth 20000
set_option linter.unusedVariables false

theorem l1InP_any (n : Int) (w : World) :
    Calls Tryd.prog 16 #[.int .i64 n, .int .i64 0, .int .i64 34] w fun e w' => e = .returned (.bool (isOpB n)) ∧ w' = w := by
  unfold isOpB
  go_enter Tryd.func16, Tryd.ntmps16
  go_wp2
  all_goals go_ret
  all_goals refine ⟨ret_bool ?_, rfl⟩
  all_goals (rw [Bool.eq_iff_iff]; simp; omega)
theorem l13OpsP_any (w : World) : Calls Tryd.prog 17 #[] w fun e w' => ∃ g : Nat, e = .returned (.slice (some ⟨g, 0, none⟩) 35 35) ∧ (∀ m : Nat, m < 35 → w'.cell? ⟨g, m, none⟩ = some (.string (wordT (m : Int)))) ∧ Below w.heap.size w w' := by
  go_enter Tryd.func17, Tryd.ntmps17
  go_wp2
  go_ret
  refine ⟨_, rfl, fun m hm => ?_, (Below.refl _ _).alloc (Nat.le_refl _) _⟩
  have h := wordT_op hm
  rw [World.cell?_alloc_new]
  have e : wordsL.map Value.string = [_, _, _, _, _, _, _, _, _, _, _, _, _, _, _, _, _, _, _, _, _, _, _, _, _, _, _, _, _, _, _, _, _, _, _] := rfl
  have h2 : (wordsL.map Value.string)[m]? = some (.string (wordT (m : Int))) := by rw [List.getElem?_map, h]; rfl
  rw [e] at h2
  simpa using h2

theorem l26Put_any (t : MLine) (w : World) (hok : OkLine t) :
    Calls Tryd.prog 10 #[.agg #[.int .i64 t.loader, .string t.cls, .string t.method, .int .i64 t.at_, .int .i64 t.op, .int .i64 t.deep]] w fun e w' => e = .returned (.string (lineT t)) ∧ Below w.heap.size w w' := by
  obtain ⟨lo, cl, me, at_, op, de⟩ := t
  obtain ⟨⟨hl0, hl1⟩, ⟨ha0, ha1⟩, ⟨hd0, hd1⟩, hc, hm⟩ := hok
  simp only at hl0 hl1 ha0 ha1 hd0 hd1 hc hm
  obtain ⟨R, HT⟩ : ∃ R, Hid (lineT ⟨lo, cl, me, at_, op, de⟩ = R) := ⟨_, rfl⟩
  have HT2 : Hid (R = blankT (indN de) ++ itoaT lo ++ ⟨#[58]⟩ ++ cl ++ ⟨#[46]⟩ ++ me ++ ⟨#[64]⟩ ++ itoaT at_ ++ ⟨#[32]⟩ ++ wordT op ++ ⟨#[10]⟩) := HT.out.symm
  rw [HT.out]
  have hO := fun W => l13OpsP_any W
  have hI := fun W => l1InP_any op W
  have hD := fun (n : Int) W (h0 : -9223372036854775808 ≤ n) (h1 : n ≤ 9223372036854775807) => l13DecX_any n W h0 h1
  have hLs := itoaT_size lo hl0 hl1
  have hAs := itoaT_size at_ ha0 ha1
  have hWs := wordT_size op
  obtain ⟨tt, hcc, HP0⟩ : ∃ tt : MLine, (∀ W, LV w w.heap.size tt W → W.cell? ⟨w.heap.size, 0, none⟩ = some (.int .i64 lo) ∧ W.cell? ⟨w.heap.size, 1, none⟩ = some (.string cl) ∧ W.cell? ⟨w.heap.size, 2, none⟩ = some (.string me) ∧ W.cell? ⟨w.heap.size, 3, none⟩ = some (.int .i64 at_) ∧ W.cell? ⟨w.heap.size, 4, none⟩ = some (.int .i64 op) ∧ W.cell? ⟨w.heap.size, 5, none⟩ = some (.int .i64 de)) ∧ Hid (LV w w.heap.size tt (w.alloc (.cells #[.int .i64 lo, .string cl, .string me, .int .i64 at_, .int .i64 op, .int .i64 de] 33))) := ⟨⟨lo, cl, me, at_, op, de⟩, fun W h => h.c, LV.new w _⟩
  clear HT
  go_enter Tryd.func10, Tryd.ntmps10
  go_upto_region 2 with fail
  go_cut [11] (fun sv wc => sv = .bool (isOpB op) ∧ Hid (LV w w.heap.size tt wc))
  case first =>
    have P1 := HP0.out.drew
    obtain ⟨-, -, -, -, c4, -⟩ := hcc _ P1
    go_region_held (fun w' => w'.cell? ⟨w.heap.size, 4, none⟩ = some (.int .i64 op)) (first | assumption) (first
      | (go_at_call 17; refine (hO _).mono ?_; rintro e w9 ⟨g9, rfl, hg9, hb9⟩; have P9 := LV.keep (by assumption) hb9; obtain ⟨-, -, -, -, d4, -⟩ := hcc _ P9)
      | (go_at_call 16; refine (hI _).mono ?_; rintro e w8 ⟨rfl, hw8⟩; replace hw8 := hw8.symm; subst hw8))
    all_goals go_wp2_with fail
    all_goals go_meet
    case rel => exact ⟨rfl, P9⟩
  case rest =>
    obtain ⟨rfl, P1⟩ := hcut
    go_upto_if 11 with fail
    go_cut [3] (fun sv wd => sv = .string (wordT op) ∧ Hid (LV w w.heap.size tt wd))
    case first =>
      cases hop : isOpB op
      · have HE := hid (wordT_no hop)
        clear hop
        go_wp2_with fail
        go_meet
        case rel => exact ⟨by rw [HE.out]; rfl, P1⟩
      · obtain ⟨m, hm1, hm35⟩ := isOpB_nat hop
        clear hop
        subst hm1
        have P2 := P1.out.drew
        obtain ⟨-, -, -, -, c4, -⟩ := hcc _ P2
        go_wp2_with fail
        go_region_with (go_at_call 17; refine (hO _).mono ?_; rintro e w9 ⟨g9, rfl, hg9, hb9⟩; have P9 := LV.keep P2 hb9; obtain ⟨-, -, -, -, d4, -⟩ := hcc _ P9; have x9 := hg9 m hm35; clear hg9)
        all_goals go_wp2_with fail
        all_goals go_meet
        all_goals exact ⟨rfl, P9⟩
    case rest =>
      obtain ⟨rfl, P2⟩ := hcut
      clear P1 hI hO HP0
      go_wp2_with fail
      go_loopw [4, 5] (fun s i wr => ∃ k : Nat, k ≤ indN de ∧ s = .string (blankT k) ∧ i = .int .i64 ((k : Int) + 1) ∧ Hid (LV w w.heap.size tt wr)) (fun _ i _ => 14 - (intOf i).toNat)
      case atStart => exact ⟨0, by omega, rfl, rfl, P2⟩
      case round =>
        obtain ⟨k, hk, rfl, rfl, P⟩ := hrel
        obtain ⟨-, -, -, -, -, c5⟩ := hcc _ P.out
        have hi := indN_le de
        have hbs := blankT_size k
        by_cases hlt : k < indN de
        · have h1 : (k : Int) + 1 < de := by unfold indN at hlt; omega
          have h2 : (k : Int) + 1 ≤ 12 := by omega
          have HB := hid (blankT_next k)
          have hfit : ¬ 9223372036854775807 < (blankT k).size + 2 := by omega
          clear hbs hlt hi
          go_wp2_with fail
          go_roundw
          case rel => exact ⟨k + 1, by unfold indN; omega, by rw [← HB.out], by go_num, P⟩
          case measure => simp [intOf]; omega
        · have HK : Hid (k = indN de) := by unfold Hid; omega
          obtain ⟨q0, q1, q2, q3, q4, q5, q6, q7, q8, q9⟩ := fits (b := blankT k) (L := itoaT lo) (c := cl) (m := me) (A := itoaT at_) (d := wordT op) (by omega) hLs hc hm hAs hWs
          have hend : de ≤ (k : Int) + 1 ∨ ((k : Int) + 1 < de ∧ 12 < (k : Int) + 1) := by
            have := HK.out
            unfold indN at this
            omega
          have PD := P.out.drew
          obtain ⟨c0, c1, c2, c3, -, -⟩ := hcc _ PD
          have HF := hid (fun s : ByteArray => (show s = blankT k ++ itoaT lo ++ ⟨#[58]⟩ ++ cl ++ ⟨#[46]⟩ ++ me ++ ⟨#[64]⟩ ++ itoaT at_ ++ ⟨#[32]⟩ ++ wordT op ++ ⟨#[10]⟩ → s = R from fun h => by rw [h, HT2.out, HK.out]))
          clear hbs hlt hi hk HK HT2
          rcases hend with h1 | ⟨h1, h2⟩
          all_goals
            go_wp2_with fail
            go_region_held (fun w' => w'.cell? ⟨w.heap.size, 0, none⟩ = some (.int .i64 lo) ∧ w'.cell? ⟨w.heap.size, 1, none⟩ = some (.string cl) ∧ w'.cell? ⟨w.heap.size, 2, none⟩ = some (.string me) ∧ w'.cell? ⟨w.heap.size, 3, none⟩ = some (.int .i64 at_)) (refine ⟨?_, ?_, ?_, ?_⟩ <;> assumption) (first
              | (go_at_call 18; refine (hD _ _ (by assumption) (by assumption)).mono ?_; rintro e w9 ⟨rfl, hb9⟩; have P9 := LV.keep (by assumption) hb9; obtain ⟨d0, d1, d2, d3, -, -⟩ := hcc _ P9))
            all_goals go_wp2_with fail
            all_goals go_ret
            all_goals exact ⟨ret_str (HF.out _ rfl), LV.b (by assumption)⟩

theorem specTracePut_any (v : Value) (ts : List MLine) (B : Nat) (w : World) (hl : ts.length ≤ 1048576) (hok : ∀ t ∈ ts, OkLine t) (h : w.ownsRow B 33 6 v ts.length (rowLine ts)) :
    Calls Tryd.prog 5 #[v] w fun e w' => e = .returned (.string (putT ts)) ∧ Below w.heap.size w w' := by
  obtain ⟨ao, cap, rfl⟩ := own_len h
  have H1 := hid h
  clear h
  go_enter Tryd.func5, Tryd.ntmps5
  go_wp2_with fail
  go_loopw [3, 4] (fun s i wr => ∃ (k : Nat) (o : ByteArray), k ≤ ts.length ∧ i = .int .i64 k ∧ s = .string o ∧ Hid (putT (ts.take k) = o) ∧ Hid (Below w.heap.size w wr)) (fun _ i _ => ts.length - (intOf i).toNat)
  case atStart => exact ⟨0, ⟨#[]⟩, by omega, rfl, rfl, rfl, Below.refl _ _⟩
  case round =>
    obtain ⟨k, o, hk, rfl, rfl, HO, HB⟩ := hrel
    by_cases hlt : k < ts.length
    · obtain ⟨g, hg⟩ := own_some H1.out (by omega)
      subst hg
      obtain ⟨c0, c1, c2, c3, c4, c5⟩ := ownLine_at (own_below H1.out HB.out) hlt
      have HN := putT_next ts k hlt
      have hz := putT_size ts hok k hk
      have hok1 := hok _ (List.getElem_mem hlt)
      obtain ⟨t, HX⟩ : ∃ t, Hid (ts[k] = t) := ⟨ts[k], hid rfl⟩
      rw [HX.out] at c0 c1 c2 c3 c4 c5 HN hok1
      rw [HO.out] at HN hz
      have hls := lineT_size hok1
      have hP := fun W => l26Put_any t W hok1
      obtain ⟨x, HL⟩ : ∃ x, Hid (lineT t = x) := ⟨_, rfl⟩
      rw [HL.out] at HN hls hP
      have HN2 := hid HN
      have hfit : ¬ 9223372036854775807 < o.size + x.size := by omega
      have hs := HB.out.size
      clear HN hz hok1
      go_wp2_with (go_at_call 10; refine (hP _).mono ?_; rintro e w9 ⟨rfl, hb9⟩)
      go_roundw
      case rel => exact ⟨k + 1, o ++ x, by omega, by go_num, rfl, HN2.out, HB.out.trans (hb9.mono hs)⟩
      case measure => simp [intOf]; omega
    · have HE := hid (show putT ts = o by rw [← HO.out, List.take_of_length_le (by omega)])
      go_wp2_with fail
      go_ret
      exact ⟨ret_str HE.out.symm, HB.out⟩
end Go.Proofs.YtpjpbilcmnfgpaaDoor
