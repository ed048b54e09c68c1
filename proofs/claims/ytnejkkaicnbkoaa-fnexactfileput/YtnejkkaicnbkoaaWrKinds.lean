/- Contracts of the program's writer: lists of kinds, frames, texts. -/
import Derived.Test.YtnejkkaicnbkoaaWrKind
import Derived.Test.YtnejkkaicnbkoaaPutKinds
namespace Go.Proofs.Ytnejkkaicnbkoaa
open Go.RowKit Fm
set_option maxHeartbeats 2000000
set_option maxRecDepth 20000
set_option linter.unusedVariables false

/-- a row of another type beside the writer -/
theorem WB.row {w0 : World} {b : Nat} {sp : Bool} {bs : List UInt8} {W W' : World} {B : Nat} {e : TypeId} {z n : Nat} {v : Value} {xs : List Value} (h : WB w0 b sp bs W) (k : Kw b W W') (ho : W.ownsRow B e z v n xs) (h5 : e ≠ 5) (hf : 63 ≠ e) : W'.ownsRow B e z v n xs := by
  obtain ⟨cs, hk⟩ := h.lk
  exact k.own ho h5 (own_ne ho hk hf)

theorem wkinds_any {w0 : World} {b : Nat} {sp : Bool} {bs : List UInt8} {W : World} (v : Value) (ts : List MKind) (B : Nat) (h : WB w0 b sp bs W) (hl : bs.length ≤ 700000) (hn : ts.length ≤ 1048576) (ho : W.ownsRow B 144 2 v ts.length (rowKind ts)) :
    Calls Try.prog 123 #[.pointer (some ⟨b, 0, none⟩), v] W fun e w' => e = .returned (.tuple #[]) ∧ WP w0 b sp bs W 25 (fineKs ts) (putKs ts) w' := by
  obtain ⟨ao, cap, hv⟩ := own_len ho
  subst hv
  have HO := hid ho
  have HH := hid h
  have HC := wcount_any ts.length 8 h (by omega) (by omega) (by omega)
  clear h ho
  by_cases h8 : ts.length ≤ 8
  · rw [if_pos (by omega)] at HC
    go_enter Try.func123, Try.ntmps123
    go_wp2_with fail
    refine HC.mono ?_
    rintro e w1 ⟨rfl, sp1, bs1, h1, k1, z1⟩
    have Z1 := hid (z1.to (n' := 1) (P' := True) (l' := one ts.length) (by omega) (by simp; omega) (fun _ => rfl))
    have H1 := hid h1
    have K1 := hid k1
    clear HC h1 k1 z1
    go_wp2_with fail
    go_loopw [9, 4] (fun c _ wr => ∃ (k : Nat) (s : Bool) (l : List UInt8), k ≤ ts.length ∧ c = .int .i64 k ∧ Hid (WB w0 b s l wr) ∧ Hid (Kw b W wr) ∧ Hid (Wx sp s bs l (1 + 3 * k) (True ∧ ∀ x ∈ ts.take k, fineK x) (one ts.length ++ (ts.take k).flatMap putK))) (fun c _ _ => ts.length - (intOf c).toNat)
    case atStart => exact ⟨0, sp1, bs1, by omega, rfl, H1, K1, Z1.out.to (by omega) (by simp) (fun _ => by simp)⟩
    case round =>
      obtain ⟨k, s, l, hk, rfl, HW, HK, HX⟩ := hrel
      by_cases hlt : k < ts.length
      · obtain ⟨g, hg⟩ := own_some HO.out (by omega)
        subst hg
        obtain ⟨x, y, hxy⟩ : ∃ x y, ts[k] = ⟨x, y⟩ := ⟨_, _, rfl⟩
        obtain ⟨ca, cb⟩ := kind_at (HH.out.row HK.out HO.out (by decide) (by decide)) hlt hxy
        have HXY := hid hxy
        have HT := hid (List.take_succ_eq_append_getElem hlt)
        have hxl := HX.out.len
        have hcall := wkind_any ⟨x, y⟩ HW.out (by omega)
        clear hxy
        go_wp2_with fail
        refine hcall.mono ?_
        rintro e w2 ⟨rfl, s2, l2, h2, k2, z2⟩
        have X2 := hid (show Wx sp s2 bs l2 (1 + 3 * (k + 1)) (True ∧ ∀ x ∈ ts.take (k + 1), fineK x) (one ts.length ++ (ts.take (k + 1)).flatMap putK) from (HX.out.trans z2).to (by omega) (by
          rw [HT.out, HXY.out]
          simp only [List.mem_append, List.mem_singleton]
          constructor
          · rintro ⟨⟨_, h1⟩, h2⟩
            exact ⟨trivial, fun q hq => by rcases hq with hq | rfl; exact h1 q hq; exact h2⟩
          · rintro ⟨_, h1⟩
            exact ⟨⟨trivial, fun q hq => h1 q (.inl hq)⟩, h1 _ (.inr rfl)⟩) (fun _ => by rw [HT.out, HXY.out]; simp))
        have H2 := hid h2
        have K2 := hid (HK.out.trans k2)
        clear h2 k2 z2 HW HK HX hcall
        go_wp2_with fail
        go_roundw
        case rel => exact ⟨k + 1, s2, l2, by omega, by go_num, H2, K2, X2⟩
        case measure => simp [intOf]; omega
      · have hke : k = ts.length := by omega
        have HF := hid (show WP w0 b sp bs W 25 (fineKs ts) (putKs ts) wr from ⟨s, l, HW.out, HK.out, HX.out.to (by omega) (by
          rw [hke, List.take_length]
          show _ ↔ (ts.length : Int) ≤ 8 ∧ _
          constructor
          · rintro ⟨_, h⟩; exact ⟨by omega, h⟩
          · rintro ⟨_, h⟩; exact ⟨trivial, h⟩) (fun _ => by rw [hke, List.take_length]; rfl)⟩)
        clear HW HK HX
        go_wp2_with fail
        go_end0
        exact ⟨rfl, HF.out⟩
  · rw [if_neg (by omega)] at HC
    go_enter Try.func123, Try.ntmps123
    go_wp2_with fail
    refine HC.mono ?_
    rintro e w1 ⟨rfl, sp1, bs1, h1, k1, z1⟩
    have HF := hid (show WP w0 b sp bs W 25 (fineKs ts) (putKs ts) w1 from ⟨sp1, bs1, h1, k1, by have := z1.len; omega, by
      rw [z1.ok]
      constructor
      · rintro ⟨_, h⟩; omega
      · rintro ⟨_, h⟩; have := h.1; omega, fun e => by have := (z1.ok.1 e).2; omega⟩)
    clear HC h1 k1 z1
    go_wp2_with fail
    refine wp_loop_rounds 1 ?_
    rw [rounds_succ]
    go_wp2_with fail
    go_end0
    exact ⟨rfl, HF.out⟩

theorem wframe_any {w0 : World} {b : Nat} {sp : Bool} {bs : List UInt8} {W : World} (x : SFrame) (f : MFrame) (B : Nat) (h : WB w0 b sp bs W) (hl : bs.length ≤ 600000) (hf : f.few) (hw : FrameW W B x f) :
    Calls Try.prog 114 #[.pointer (some ⟨b, 0, none⟩), .agg #[.int .i64 x.at_, x.l, x.s]] W fun e w' => e = .returned (.tuple #[]) ∧ WP w0 b sp bs W 52 (fineF f) (putF f) w' := by
  obtain ⟨a, vl, vs⟩ := x
  obtain ⟨a', ls, ss⟩ := f
  have ha : a = a' := hw.at_
  subst ha
  have hb := h.lt
  obtain ⟨o1, k1, hv1⟩ := own_len hw.l
  obtain ⟨o2, k2, hv2⟩ := own_len hw.s
  simp only at hv1 hv2
  subst hv1 hv2
  have h0 := h.alloc (.cells #[.int .i64 a, .slice o1 ls.length k1, .slice o2 ss.length k2] 123)
  have L0 := Lk.new W #[.int .i64 a, .slice o1 ls.length k1, .slice o2 ss.length k2] 123
  have K0 := Kw.alloc b W (.cells #[.int .i64 a, .slice o1 ls.length k1, .slice o2 ss.length k2] 123)
  have R1 := hid hw.l
  have R2 := hid hw.s
  have HH := hid h
  have f1 : ls.length ≤ 1048576 := hf.1
  have f2 : ss.length ≤ 1048576 := hf.2
  clear h hw hf
  go_enter Try.func114, Try.ntmps114
  go_wp2_with fail
  refine (wtwo_any _ h0 (by omega)).mono ?_
  rintro e w1 ⟨rfl, sp1, bs1, h1, k1x, z1⟩
  have L1 := k1x.lk L0 (by omega) (by decide)
  obtain ⟨c0, c1, c2⟩ := L1.c3'
  have hl1 := z1.len
  have KK1 := hid (K0.trans k1x)
  clear h0 L0 K0 k1x
  go_wp2_with fail
  refine (wkinds_any _ ls B h1 (by omega) f1 (HH.out.row KK1.out R1.out (by decide) (by decide))).mono ?_
  rintro e w2 ⟨rfl, sp2, bs2, h2, k2x, z2⟩
  have L2 := k2x.lk L1 (by omega) (by decide)
  clear c0 c1 c2
  obtain ⟨c0, c1, c2⟩ := L2.c3'
  have hl2 := z2.len
  have KK2 := hid (KK1.out.trans k2x)
  clear h1 L1 k2x
  go_wp2_with fail
  refine (wkinds_any _ ss B h2 (by omega) f2 (HH.out.row KK2.out R2.out (by decide) (by decide))).mono ?_
  rintro e w3 ⟨rfl, sp3, bs3, h3, k3x, z3⟩
  have HF := hid (show WP w0 b sp bs W 52 (fineF ⟨a, ls, ss⟩) (putF ⟨a, ls, ss⟩) w3 from ⟨sp3, bs3, h3, KK2.out.trans k3x, ((z1.trans z2).trans z3).to (by omega) (by unfold fineF; simp [and_assoc]) (fun _ => by simp [putF])⟩)
  clear h2 h3 k3x z1 z2 z3 KK1 KK2 L2 c0 c1 c2
  go_wp2_with fail
  go_end0
  exact ⟨rfl, HF.out⟩

theorem wname_any {w0 : World} {b : Nat} {sp : Bool} {bs : List UInt8} {W : World} (s : ByteArray) (h : WB w0 b sp bs W) (hl : bs.length ≤ 700000) (hs : s.size ≤ 1048576) :
    Calls Try.prog 97 #[.pointer (some ⟨b, 0, none⟩), .string s] W fun e w' => e = .returned (.tuple #[]) ∧ WP w0 b sp bs W 256 (in1 s.size) (one s.size ++ s.data.toList) w' := by
  have H1 := wone_any s.size h (by omega)
  clear h
  go_enter Try.func97, Try.ntmps97
  go_wp2_with fail
  refine H1.mono ?_
  rintro e w1 ⟨rfl, sp1, bs1, h1, k1, z1⟩
  obtain ⟨p, v, q1, q2, q3⟩ := h1.at_
  have c2 : w1.cell? ⟨b, 2, none⟩ = some (.bool sp1) := by rw [Lib.cell_of_heap q2]; rfl
  have hl1 := z1.len
  clear q1 q2 q3 H1
  cases sp1 with
  | true =>
    have HF := hid (show WP w0 b sp bs W 256 (in1 s.size) (one s.size ++ s.data.toList) w1 from ⟨true, bs1, h1, k1, by omega, z1.ok, fun e => by simp at e⟩)
    clear h1 k1 z1
    go_wp2_with fail
    go_end0
    exact ⟨rfl, HF.out⟩
  | false =>
    have hin := (z1.ok.1 rfl).2
    have hz : s.size ≤ 255 := by unfold in1 at hin; omega
    have HS := wstr_any s h1 (by omega) (by omega)
    have Z1 := hid z1
    have K1 := hid k1
    have HI := hid hin
    clear hin h1 k1 z1
    go_wp2_with fail
    refine HS.mono ?_
    rintro e w2 ⟨rfl, h2, k2⟩
    have HF := hid (show WP w0 b sp bs W 256 (in1 s.size) (one s.size ++ s.data.toList) w2 from ⟨false, _, h2, K1.out.trans k2, by simp; omega, Z1.out.ok, fun _ => by rw [Z1.out.out rfl]; simp⟩)
    clear h2 k2 HS
    go_wp2_with fail
    go_end0
    exact ⟨rfl, HF.out⟩

theorem wcode_any {w0 : World} {b : Nat} {sp : Bool} {bs : List UInt8} {W : World} (s : ByteArray) (h : WB w0 b sp bs W) (hl : bs.length ≤ 700000) (hs : s.size ≤ 1048576) :
    Calls Try.prog 112 #[.pointer (some ⟨b, 0, none⟩), .string s] W fun e w' => e = .returned (.tuple #[]) ∧ WP w0 b sp bs W 122 (fineCode s) (putCode s) w' := by
  have H0 := wmust_any h (decide ((s.size : Int) ≤ 120)) ((s.size : Int) ≤ 120) (by simp)
  clear h
  go_enter Try.func112, Try.ntmps112
  go_wp2_with fail
  refine H0.mono ?_
  rintro e w0x ⟨rfl, sp0, bs0, h0, k0, z0⟩
  have hl0 := z0.len
  clear H0
  go_wp2_with fail
  refine (wtwo_any _ h0 (by omega)).mono ?_
  rintro e w1 ⟨rfl, sp1, bs1, h1, k1, z1⟩
  have Z := hid ((z0.trans z1).to (n' := 2) (P' := fineCode s) (l' := two s.size) (by omega) (by unfold fineCode in2; constructor <;> (intro q; omega)) (fun _ => by simp))
  have hl1 := Z.out.len
  have K1 := hid (k0.trans k1)
  obtain ⟨p, v, q1, q2, q3⟩ := h1.at_
  have c2 : w1.cell? ⟨b, 2, none⟩ = some (.bool sp1) := by rw [Lib.cell_of_heap q2]; rfl
  clear q1 q2 q3 z0 z1 k0 k1 h0
  cases sp1 with
  | true =>
    have HF := hid (show WP w0 b sp bs W 122 (fineCode s) (putCode s) w1 from ⟨true, bs1, h1, K1.out, by omega, Z.out.ok, fun e => by simp at e⟩)
    clear h1
    go_wp2_with fail
    go_end0
    exact ⟨rfl, HF.out⟩
  | false =>
    have hin := (Z.out.ok.1 rfl).2
    have hz : s.size ≤ 120 := by unfold fineCode at hin; omega
    have HS := wstr_any s h1 (by omega) (by omega)
    clear hin h1
    go_wp2_with fail
    refine HS.mono ?_
    rintro e w2 ⟨rfl, h2, k2⟩
    have HF := hid (show WP w0 b sp bs W 122 (fineCode s) (putCode s) w2 from ⟨false, _, h2, K1.out.trans k2, by simp; omega, Z.out.ok, fun _ => by rw [Z.out.out rfl]; simp [putCode]⟩)
    clear h2 k2 HS
    go_wp2_with fail
    go_end0
    exact ⟨rfl, HF.out⟩

end Go.Proofs.Ytnejkkaicnbkoaa
