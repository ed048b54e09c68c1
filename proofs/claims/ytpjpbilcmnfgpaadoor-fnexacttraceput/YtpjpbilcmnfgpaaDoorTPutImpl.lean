/- Contract of the program's TracePut. -/
import Derived.Test.YtpjpbilcmnfgpaaDoorTPutMath
import Derived.Test.YtpjpbilcmnfgpaaDoorTPutWrite
import Derived.Test.YtpjpbilcmnfgpaaDoorShelf
import Derived.Lib.LaidTab
import Derived.Deep.RegionHeld
import Derived.Deep.DeepCutAuto
namespace Go.Proofs.YtpjpbilcmnfgpaaDoor
open Go.RowKit
set_option maxHeartbeats 2000000
set_option maxRecDepth 20000
set_option linter.unusedVariables false

/-- the two tables that are read: of the powers of ten, and of the words -/
structure TabP (W : World) : Prop where
  s : 0 < W.heap.size ∧ 2 < W.heap.size
  p : Lib.TabIs Tryd.prog W "internal/strconv.uint64pow10" .u64 Lib.pow10Tab
  o : ∀ m : Nat, m < 35 → W.cell? ⟨0, m, none⟩ = some (.string (wordT (m : Int)))
theorem TabP.keep {W W' : World} {B : Nat} (h : TabP W) (hb : Below B W W') (hB : W.heap.size ≤ B) : TabP W' :=
  ⟨⟨Nat.lt_of_lt_of_le h.s.1 hb.size, Nat.lt_of_lt_of_le h.s.2 hb.size⟩, var?_below hb (show Tryd.prog.globalNamed "internal/strconv.uint64pow10" = some 2 by kernel_rfl) (Nat.lt_of_lt_of_le h.s.2 hB) h.p, fun m hm => (hb.cell (p := ⟨0, m, none⟩) (Nat.lt_of_lt_of_le h.s.1 hB)).trans (h.o m hm)⟩

theorem isOpP_any (n : Int) (w : World) :
    Calls Tryd.prog 20 #[.int .i64 n] w fun e w' => e = .returned (.bool (isOpB n)) ∧ w' = w := by
  unfold isOpB
  go_enter Tryd.func20, Tryd.ntmps20
  go_wp2
  all_goals go_ret
  all_goals refine ⟨ret_bool ?_, rfl⟩
  all_goals (rw [Bool.eq_iff_iff]; simp; omega)
theorem itoa_any (n : Int) (w : World) (h0 : -9223372036854775808 ≤ n) (h1 : n ≤ 9223372036854775807) (hT : TabP w) :
    Calls Tryd.prog 23 #[.int .i64 n] w fun e w' => e = .returned (.string (itoaT n)) ∧ Below w.heap.size w w' := by
  refine (Tryd.strconv_Itoa n h0 h1 w hT.p).mono ?_
  rintro e w' ⟨rfl, k, os, rfl⟩
  exact ⟨rfl, rfl, rfl, rfl, by show w.heap.size ≤ (w.heap ++ os).size; simp, fun j hj => by show (w.heap ++ os)[j]? = w.heap[j]?; exact Array.getElem?_append_left hj⟩
theorem rep_any (c : Nat) (w : World) (hc : c ≤ 12) :
    Calls Tryd.prog 21 #[.string ⟨#[32, 32]⟩, .int .i64 (c : Int)] w fun e w' => e = .returned (.string (blankT c)) ∧ Below w.heap.size w w' := by
  refine (Tryd.strings_Repeat ⟨#[32, 32]⟩ c w (by omega) (by show 2 * c ≤ _; omega)).mono ?_
  rintro e w' ⟨rfl, hb⟩
  exact ⟨rfl, hb⟩
theorem lineIndent_any (d : Int) (w : World) (h0 : -9223372036854775808 ≤ d) (h1 : d ≤ 9223372036854775807) :
    Calls Tryd.prog 22 #[.int .i64 d] w fun e w' => e = .returned (.int .i64 ((indN d : Nat) : Int)) ∧ w' = w := by
  go_enter Tryd.func22, Tryd.ntmps22
  go_wp2
  go_ret
  exact ⟨ret_i64 (by unfold indN; omega), rfl⟩

theorem lineText_any (t : MLine) (w : World) (hok : OkLine t) (hT : TabP w) :
    Calls Tryd.prog 13 #[.agg #[.int .i64 t.loader, .string t.cls, .string t.method, .int .i64 t.at_, .int .i64 t.op, .int .i64 t.deep]] w fun e w' => e = .returned (.string (lineT t)) ∧ Below w.heap.size w w' := by
  obtain ⟨lo, cl, me, at_, op, de⟩ := t
  obtain ⟨⟨hl0, hl1⟩, ⟨ha0, ha1⟩, ⟨hd0, hd1⟩, hc, hm⟩ := hok
  simp only at hl0 hl1 ha0 ha1 hd0 hd1 hc hm
  obtain ⟨R, HT⟩ : ∃ R, Hid (lineT ⟨lo, cl, me, at_, op, de⟩ = R) := ⟨_, rfl⟩
  have HT2 : Hid (R = blankT (indN de) ++ itoaT lo ++ ⟨#[58]⟩ ++ cl ++ ⟨#[46]⟩ ++ me ++ ⟨#[64]⟩ ++ itoaT at_ ++ ⟨#[32]⟩ ++ wordT op ++ ⟨#[10]⟩) := HT.out.symm
  rw [HT.out]
  have hI := fun W => isOpP_any op W
  have hN := fun W => lineIndent_any de W hd0 hd1
  have hR := fun W => rep_any (indN de) W (indN_le de)
  have hLs := itoaT_size lo hl0 hl1
  have hAs := itoaT_size at_ ha0 ha1
  have hWs := wordT_size op
  have hbs := blankT_size (indN de)
  have hi := indN_le de
  obtain ⟨q0, q1, q2, q3, q4, q5, q6, q7, q8, q9⟩ := fits (b := blankT (indN de)) (L := itoaT lo) (c := cl) (m := me) (A := itoaT at_) (d := wordT op) (by omega) hLs hc hm hAs hWs
  have HF := hid (fun s : ByteArray => (show s = blankT (indN de) ++ itoaT lo ++ ⟨#[58]⟩ ++ cl ++ ⟨#[46]⟩ ++ me ++ ⟨#[64]⟩ ++ itoaT at_ ++ ⟨#[32]⟩ ++ wordT op ++ ⟨#[10]⟩ → s = R from fun h => by rw [h, HT2.out]))
  obtain ⟨tt, hcc, HP0⟩ : ∃ tt : MLine, (∀ W, LV w w.heap.size tt W → W.cell? ⟨w.heap.size, 0, none⟩ = some (.int .i64 lo) ∧ W.cell? ⟨w.heap.size, 1, none⟩ = some (.string cl) ∧ W.cell? ⟨w.heap.size, 2, none⟩ = some (.string me) ∧ W.cell? ⟨w.heap.size, 3, none⟩ = some (.int .i64 at_) ∧ W.cell? ⟨w.heap.size, 4, none⟩ = some (.int .i64 op) ∧ W.cell? ⟨w.heap.size, 5, none⟩ = some (.int .i64 de)) ∧ Hid (LV w w.heap.size tt (w.alloc (.cells #[.int .i64 lo, .string cl, .string me, .int .i64 at_, .int .i64 op, .int .i64 de] 33))) := ⟨⟨lo, cl, me, at_, op, de⟩, fun W h => h.c, LV.new w _⟩
  have HT0 := hid hT
  have hTw : ∀ W, LV w w.heap.size tt W → TabP W := fun W h => HT0.out.keep h.b (Nat.le_refl _)
  generalize hg : indN de = c at hN hR hbs hi q0 q1 q2 q3 q4 q5 q6 q7 q8 q9 HF
  clear HT HT2 hbs hi hg hT
  go_enter Tryd.func13, Tryd.ntmps13
  go_upto_if 7 with (go_at_call 20; refine (hI _).mono ?_; rintro e w8 ⟨rfl, hw8⟩; replace hw8 := hw8.symm; subst hw8)
  go_cut [3] (fun sv wd => sv = .string (wordT op) ∧ Hid (LV w w.heap.size tt wd))
  case first =>
    obtain ⟨-, -, -, -, c4, -⟩ := hcc _ HP0.out
    have hTa := hTw _ HP0.out
    cases hop : isOpB op
    · have HE := hid (wordT_no hop)
      clear hop
      go_wp2_with fail
      go_meet
      case rel => exact ⟨by rw [HE.out]; rfl, HP0⟩
    · obtain ⟨m, hm1, hm35⟩ := isOpB_nat hop
      have hx := hTa.o m hm35
      clear hop hTa
      subst hm1
      go_wp2_with fail
      go_meet
      case rel => exact ⟨rfl, HP0⟩
  case rest =>
    obtain ⟨rfl, P2⟩ := hcut
    obtain ⟨-, -, -, -, -, c5⟩ := hcc _ P2.out
    clear HP0 hI
    go_upto_region 5 with (first
      | (go_at_call 22; refine (hN _).mono ?_; rintro e w7 ⟨rfl, hw7⟩; replace hw7 := hw7.symm; subst hw7)
      | (go_at_call 21; refine (hR _).mono ?_; rintro e w6 ⟨rfl, hb6⟩))
    have P6 := P2.out.keep hb6
    have PD := P6.drew
    have TD := hTw _ PD
    obtain ⟨c0, c1, c2, c3, -, -⟩ := hcc _ PD
    clear hN hR P6 hb6 P2
    go_region_held (fun w' => w'.cell? ⟨w.heap.size, 0, none⟩ = some (.int .i64 lo) ∧ w'.cell? ⟨w.heap.size, 1, none⟩ = some (.string cl) ∧ w'.cell? ⟨w.heap.size, 2, none⟩ = some (.string me) ∧ w'.cell? ⟨w.heap.size, 3, none⟩ = some (.int .i64 at_)) (refine ⟨?_, ?_, ?_, ?_⟩ <;> assumption) (first
      | (go_at_call 23; refine (itoa_any _ _ (by assumption) (by assumption) (by assumption)).mono ?_; rintro e w9 ⟨rfl, hb9⟩; have P9 := LV.keep (by assumption) hb9; have T9 := hTw _ P9; obtain ⟨d0, d1, d2, d3, -, -⟩ := hcc _ P9))
    all_goals go_wp2_with fail
    all_goals go_ret
    all_goals exact ⟨ret_str (HF.out _ rfl), LV.b (by assumption)⟩

theorem strBytes (s : ByteArray) : (⟨s.data.toList.toArray⟩ : ByteArray) = s := by
  cases s; simp
theorem implTracePut_any (v : Value) (ts : List MLine) (B : Nat) (w : World) (hl : ts.length ≤ 1048576) (hok : ∀ t ∈ ts, OkLine t) (hT : TabP w) (h : w.ownsRow B 33 6 v ts.length (rowLine ts)) :
    Calls Tryd.prog 7 #[v] w fun e w' => e = .returned (.string (putT ts)) ∧ Below w.heap.size w w' := by
  obtain ⟨ao, cap, rfl⟩ := own_len h
  have H1 := hid h
  have HT := hid hT
  clear h hT
  go_enter Tryd.func7, Tryd.ntmps7
  go_wp2_with fail
  go_loopw [8] (fun i wr => ∃ (k : Nat) (o : ByteArray), k ≤ ts.length ∧ i = .int .i64 k ∧ Hid (putT (ts.take k) = o) ∧ Hid (Lib.IsBuilder 38 5 w.heap.size w.heap.size (Lib.byteCells o.data.toList) wr) ∧ Hid (Below w.heap.size w wr)) (fun i _ => ts.length - (intOf i).toNat)
  case atStart => exact ⟨0, ⟨#[]⟩, by omega, rfl, rfl, Lib.fresh_isBuilder _ _ w, (Below.refl _ _).alloc (Nat.le_refl _) _⟩
  case round =>
    obtain ⟨k, o, hk, rfl, HO, HI, HB⟩ := hrel
    by_cases hlt : k < ts.length
    · obtain ⟨g, hg⟩ := own_some H1.out (by omega)
      subst hg
      obtain ⟨c0, c1, c2, c3, c4, c5⟩ := ownLine_at (own_below H1.out HB.out) hlt
      have HN := putT_next ts k hlt
      have hz := putT_size ts hok k hk
      have hok1 := hok _ (List.getElem_mem hlt)
      obtain ⟨t, HX⟩ : ∃ t, Hid (ts[k] = t) := ⟨ts[k], hid rfl⟩
      rw [HX.out] at c0 c1 c2 c3 c4 c5 HN hok1
      rw [HO.out] at HN hz
      have hls := lineT_size hok1
      have hP := fun W hW => lineText_any t W hok1 hW
      obtain ⟨x, HL⟩ : ∃ x, Hid (lineT t = x) := ⟨_, rfl⟩
      rw [HL.out] at HN hls hP
      have HN2 := hid HN
      have hs := HB.out.size
      have hTa := fun ob => HT.out.keep (HB.out.alloc HB.out.size ob) (Nat.le_refl _)
      have HI2 := fun ob => hid (builder_keep HI.out ((Below.refl _ _).alloc (Nat.le_refl _) ob))
      have HB2 := fun ob => hid (HB.out.alloc HB.out.size ob)
      clear HN hok1
      go_wp2_with fail
      refine (hP _ (hTa _)).mono ?_
      rintro e w9 ⟨rfl, hb9⟩
      have hs9 := hb9.size
      have HB9 := hid ((HB2 _).out.trans (hb9.mono (HB2 _).out.size))
      have HI9 := hid (builder_keep (HI2 _).out hb9)
      have hsz9 := HB9.out.size
      have hW := WriteString_any _ _ _ x w9 HI9.out (by rw [Lib.byteCells_length]; simp; omega) hsz9
      clear hb9 HB2 HI2 hTa hP hz
      go_wp2_with fail
      refine hW.mono ?_
      rintro e w10 ⟨rfl, hi10, hb10⟩
      have HI10 := hid (show Lib.IsBuilder 38 5 w.heap.size w.heap.size (Lib.byteCells (o ++ x).data.toList) w10 from by
        have e2 : Lib.byteCells (o ++ x).data.toList = Lib.byteCells o.data.toList ++ Lib.strCells x := by simp [Lib.byteCells, Lib.strCells]
        rw [e2]; exact hi10)
      have HB10 := hid (HB9.out.trans hb10)
      clear hi10 hb10 hW HI9
      go_wp2_with fail
      go_roundw
      case rel => exact ⟨k + 1, o ++ x, by omega, by go_num, HN2.out, HI10, HB10⟩
      case measure => simp [intOf]; omega
    · have HE := hid (show putT ts = o by rw [← HO.out, List.take_of_length_le (by omega)])
      have hS := Tryd.Builder_String_any _ _ _ wr HI.out HB.out.size
      go_wp2_with fail
      refine hS.mono ?_
      rintro e w9 ⟨rfl, hb9⟩
      have HB9 := hid (HB.out.trans hb9)
      clear hS hb9
      go_wp2_with fail
      go_ret
      exact ⟨ret_str (by rw [HE.out]), HB9.out⟩
end Go.Proofs.YtpjpbilcmnfgpaaDoor
