/- Contracts of the program's writer: methods. -/
import Derived.Test.YtnejkkaicnbkoaaWrBody
namespace Go.Proofs.Ytnejkkaicnbkoaa
open Go.RowKit Fm
set_option maxHeartbeats 4000000
set_option maxRecDepth 20000
set_option linter.unusedVariables false

theorem wmethod_any {w0 : World} {b : Nat} {sp : Bool} {bs : List UInt8} {W : World} (m : MMethod) (vt vf : Value) (B : Nat) (h : WB w0 b sp bs W) (hl : bs.length ≤ 400000) (hm : m.few) (hw : MethodW W B vt vf m) :
    Calls Try.prog 71 #[.pointer (some ⟨b, 0, none⟩), .agg #[.int .i64 m.flags, .int .i64 m.name, .int .i64 m.desc, .int .i64 m.deep, .int .i64 m.locals, .string m.code, vt, vf]] W fun e w' => e = .returned (.tuple #[]) ∧ WP w0 b sp bs W 571 (fineM m) (putM m) w' := by
  have hbody := fun (s : Bool) (r : List UInt8) (W' : World) (h' : WB w0 b s r W') (hl' : r.length ≤ 500000) (hw' : MethodW W' B vt vf m) => wbody_any m vt vf B h' hl' hm hw'
  obtain ⟨x, y, z, d, l, cd, ts, fs⟩ := m
  obtain ⟨o1, k1, hv1⟩ := own_len hw.t
  obtain ⟨o2, k2, hv2⟩ := hw.f.len
  simp only at hv1 hv2
  subst hv1 hv2
  have HM := hid hw
  have HH := hid h
  have hb := h.lt
  have S0 := (show WS w0 b sp bs W W.heap.size (arrM x y z d l cd (.slice o1 ts.length k1) (.slice o2 fs.length k2)) 83 0 True [] sp bs (W.alloc (.cells (arrM x y z d l cd (.slice o1 ts.length k1) (.slice o2 fs.length k2)) 83)) from ⟨h.alloc _, Kw.alloc _ _ _, Wx.nil, Lk.new _ _ _⟩)
  have HB := hid hbody
  clear h hw hbody hm
  go_enter Try.func71, Try.ntmps71
  go_wp2_with fail
  refine (wone_any _ S0.wb (by omega)).mono ?_
  rintro e w1 ⟨rfl, s1, r1, h1, q1, z1⟩
  have S1 := S0.call (by omega) (by decide) h1 q1 z1
  obtain ⟨⟨c0, c1, c2, c3, c4, c5, c6, c7⟩, _⟩ := S1.box.c8
  have hl1 := S1.wx.len
  clear S0 h1 q1 z1
  go_wp2_with fail
  refine (wtwo_any _ S1.wb (by omega)).mono ?_
  rintro e w2 ⟨rfl, s2, r2, h2, q2, z2⟩
  have S2 := S1.call (by omega) (by decide) h2 q2 z2
  clear c0 c1 c2 c3 c4 c5 c6 c7
  obtain ⟨⟨c0, c1, c2, c3, c4, c5, c6, c7⟩, _⟩ := S2.box.c8
  have hl2 := S2.wx.len
  clear S1 h2 q2 z2 hl1
  go_wp2_with fail
  refine (wtwo_any _ S2.wb (by omega)).mono ?_
  rintro e w3 ⟨rfl, s3, r3, h3, q3, z3⟩
  have S3 := S2.call (by omega) (by decide) h3 q3 z3
  clear c0 c1 c2 c3 c4 c5 c6 c7
  obtain ⟨⟨c0, c1, c2, c3, c4, c5, c6, c7⟩, _⟩ := S3.box.c8
  have hl3 := S3.wx.len
  clear S2 h3 q3 z3 hl2
  have HA := hid (show in1 x → hasB x = decide (¬ absF x) from hasB_in)
  obtain ⟨hb2, HB2⟩ : ∃ q, Hid (hasB x = q) := ⟨_, rfl⟩
  have hhas := (show Calls Try.prog 99 #[.int .i64 x] w3 fun e w' => e = .returned (.bool hb2) ∧ w' = w3 from by rw [← HB2.out]; exact whas_any x w3)
  go_wp2_with fail
  refine hhas.mono ?_
  rintro e w4 ⟨rfl, hw4⟩
  replace hw4 := hw4.symm
  subst hw4
  clear hhas
  have HS3 := hid S3
  clear S3
  cases hb2 with
  | true =>
    go_wp2_with fail
    refine (HB.out _ _ _ HS3.out.wb (by omega) (show MethodW w3 B _ _ ⟨x, y, z, d, l, cd, ts, fs⟩ from ⟨HH.out.row HS3.out.kw HM.out.t (by decide) (by decide), by
      obtain ⟨xs, hxs⟩ := FX.of HM.out.f
      exact ⟨xs, hxs.len, HH.out.row HS3.out.kw hxs.row (by decide) (by decide), fun k p1 p2 => ⟨(hxs.each k p1 p2).at_, HH.out.row HS3.out.kw (hxs.each k p1 p2).l (by decide) (by decide), HH.out.row HS3.out.kw (hxs.each k p1 p2).s (by decide) (by decide)⟩⟩⟩)).mono ?_
    rintro e w5 ⟨rfl, s5, r5, h5, q5, z5⟩
    have S5 := HS3.out.call (by omega) (by decide) h5 q5 z5
    have HF := hid (show WP w0 b sp bs W 571 (fineM ⟨x, y, z, d, l, cd, ts, fs⟩) (putM ⟨x, y, z, d, l, cd, ts, fs⟩) w5 from ⟨s5, r5, S5.wb, S5.kw, S5.wx.to (by omega) (by
      unfold fineM fineM2
      constructor
      · rintro ⟨⟨⟨⟨_, p1⟩, p2⟩, p3⟩, p4⟩
        have := HA.out p1
        rw [HB2.out] at this
        have hna : ¬ absF x := by simpa using this.symm
        exact ⟨p1, p2, p3, by rw [if_neg hna]; exact p4⟩
      · rintro ⟨p1, p2, p3, p4⟩
        have := HA.out p1
        rw [HB2.out] at this
        have hna : ¬ absF x := by simpa using this.symm
        rw [if_neg hna] at p4
        exact ⟨⟨⟨⟨trivial, p1⟩, p2⟩, p3⟩, p4⟩) (fun p => by
      have := HA.out p.1
      rw [HB2.out] at this
      have hna : ¬ absF x := by simpa using this.symm
      simp [putM, hna])⟩)
    clear S5 h5 q5 z5 HS3 c0 c1 c2 c3 c4 c5 c6 c7
    go_wp2_with fail
    refine bodyPost_ret (results_none (by rfl) _ _ _) rfl ?_
    exact ⟨rfl, HF.out⟩
  | false =>
    have HAb := hid (show in1 x → absF x from fun p => by
      have := HA.out p
      rw [HB2.out] at this
      simpa using this.symm)
    have HFin := hid (show ∀ w5 s5 r5, WS w0 b sp bs W W.heap.size (arrM x y z d l cd (.slice o1 ts.length k1) (.slice o2 fs.length k2)) 83 (0 + 1 + 2 + 2 + 0 + 0) ((((((True ∧ in1 x) ∧ in2 y) ∧ in2 z) ∧ (d = 0 ∧ l = 0 ∧ cd = empty)) ∧ (ts = [] ∧ fs = []))) ([] ++ one x ++ two y ++ two z ++ [] ++ []) s5 r5 w5 → WP w0 b sp bs W 571 (fineM ⟨x, y, z, d, l, cd, ts, fs⟩) (putM ⟨x, y, z, d, l, cd, ts, fs⟩) w5 from fun w5 s5 r5 S5 => ⟨s5, r5, S5.wb, S5.kw, S5.wx.to (by omega) (by
      unfold fineM fineM2 bare
      constructor
      · rintro ⟨⟨⟨⟨⟨_, p1⟩, p2⟩, p3⟩, p4, p5, p6⟩, p7, p8⟩
        exact ⟨p1, p2, p3, by rw [if_pos (HAb.out p1)]; exact ⟨p4, p5, p6, p7, p8⟩⟩
      · rintro ⟨p1, p2, p3, p4⟩
        rw [if_pos (HAb.out p1)] at p4
        obtain ⟨p4, p5, p6, p7, p8⟩ := p4
        exact ⟨⟨⟨⟨⟨trivial, p1⟩, p2⟩, p3⟩, p4, p5, p6⟩, p7, p8⟩) (fun p => by
      have ha := HAb.out p.1
      simp [putM, ha])⟩)
    clear HA HAb HB2
    by_cases hd : d = 0
    · have HD := hid hd
      have hd' : (d == 0) = true := by simpa using hd
      clear hd
      by_cases hlz : l = 0
      · have HL := hid hlz
        have hl' : (l == 0) = true := by simpa using hlz
        clear hlz
        go_wp2_with fail
        refine (wmust_any HS3.out.wb (cd.toList.isEmpty) (d = 0 ∧ l = 0 ∧ cd = empty) (by rw [HD.out, HL.out, ← empty_iff]; simp)).mono ?_
        rintro e w5 ⟨rfl, s5, r5, h5, q5, z5⟩
        have S4 := hid (HS3.out.call (by omega) (by decide) h5 q5 z5)
        clear c0 c1 c2 c3 c4 c5 c6 c7
        obtain ⟨⟨c0, c1, c2, c3, c4, c5, c6, c7⟩, _⟩ := S4.out.box.c8
        clear HS3 h5 q5 z5
        by_cases ht : ts.length = 0
        · have ht' : ((ts.length : Int) == 0) = true := by simp [ht]
          have HT0 := hid (List.eq_nil_of_length_eq_zero ht)
          clear ht
          go_wp2_with fail
          refine (wmust_any S4.out.wb ((fs.length : Int) == 0) (ts = [] ∧ fs = []) (by rw [HT0.out]; simp)).mono ?_
          rintro e w6 ⟨rfl, s6, r6, h6, q6, z6⟩
          have HF := hid (HFin.out _ _ _ (S4.out.call (by omega) (by decide) h6 q6 z6))
          clear S4 h6 q6 z6 HFin c0 c1 c2 c3 c4 c5 c6 c7
          go_wp2_with fail
          go_end0
          exact ⟨rfl, HF.out⟩
        · have ht' : ((ts.length : Int) == 0) = false := by simp; exact fun e => ht (by rw [e]; rfl)
          have HT0 := hid (show ¬ ts = [] from fun e => ht (by rw [e]; rfl))
          clear ht
          go_wp2_with fail
          refine (wmust_any S4.out.wb false (ts = [] ∧ fs = []) (by simp [HT0.out])).mono ?_
          rintro e w6 ⟨rfl, s6, r6, h6, q6, z6⟩
          have HF := hid (HFin.out _ _ _ (S4.out.call (by omega) (by decide) h6 q6 z6))
          clear S4 h6 q6 z6 HFin c0 c1 c2 c3 c4 c5 c6 c7
          go_wp2_with fail
          go_end0
          exact ⟨rfl, HF.out⟩
      · have HL := hid hlz
        have hl' : (l == 0) = false := by simpa using hlz
        clear hlz
        go_wp2_with fail
        refine (wmust_any HS3.out.wb (false) (d = 0 ∧ l = 0 ∧ cd = empty) (by simp [HL.out])).mono ?_
        rintro e w5 ⟨rfl, s5, r5, h5, q5, z5⟩
        have S4 := hid (HS3.out.call (by omega) (by decide) h5 q5 z5)
        clear c0 c1 c2 c3 c4 c5 c6 c7
        obtain ⟨⟨c0, c1, c2, c3, c4, c5, c6, c7⟩, _⟩ := S4.out.box.c8
        clear HS3 h5 q5 z5
        by_cases ht : ts.length = 0
        · have ht' : ((ts.length : Int) == 0) = true := by simp [ht]
          have HT0 := hid (List.eq_nil_of_length_eq_zero ht)
          clear ht
          go_wp2_with fail
          refine (wmust_any S4.out.wb ((fs.length : Int) == 0) (ts = [] ∧ fs = []) (by rw [HT0.out]; simp)).mono ?_
          rintro e w6 ⟨rfl, s6, r6, h6, q6, z6⟩
          have HF := hid (HFin.out _ _ _ (S4.out.call (by omega) (by decide) h6 q6 z6))
          clear S4 h6 q6 z6 HFin c0 c1 c2 c3 c4 c5 c6 c7
          go_wp2_with fail
          go_end0
          exact ⟨rfl, HF.out⟩
        · have ht' : ((ts.length : Int) == 0) = false := by simp; exact fun e => ht (by rw [e]; rfl)
          have HT0 := hid (show ¬ ts = [] from fun e => ht (by rw [e]; rfl))
          clear ht
          go_wp2_with fail
          refine (wmust_any S4.out.wb false (ts = [] ∧ fs = []) (by simp [HT0.out])).mono ?_
          rintro e w6 ⟨rfl, s6, r6, h6, q6, z6⟩
          have HF := hid (HFin.out _ _ _ (S4.out.call (by omega) (by decide) h6 q6 z6))
          clear S4 h6 q6 z6 HFin c0 c1 c2 c3 c4 c5 c6 c7
          go_wp2_with fail
          go_end0
          exact ⟨rfl, HF.out⟩
    · have HD := hid hd
      have hd' : (d == 0) = false := by simpa using hd
      clear hd
      go_wp2_with fail
      refine (wmust_any HS3.out.wb (false) (d = 0 ∧ l = 0 ∧ cd = empty) (by simp [HD.out])).mono ?_
      rintro e w5 ⟨rfl, s5, r5, h5, q5, z5⟩
      have S4 := hid (HS3.out.call (by omega) (by decide) h5 q5 z5)
      clear c0 c1 c2 c3 c4 c5 c6 c7
      obtain ⟨⟨c0, c1, c2, c3, c4, c5, c6, c7⟩, _⟩ := S4.out.box.c8
      clear HS3 h5 q5 z5
      by_cases ht : ts.length = 0
      · have ht' : ((ts.length : Int) == 0) = true := by simp [ht]
        have HT0 := hid (List.eq_nil_of_length_eq_zero ht)
        clear ht
        go_wp2_with fail
        refine (wmust_any S4.out.wb ((fs.length : Int) == 0) (ts = [] ∧ fs = []) (by rw [HT0.out]; simp)).mono ?_
        rintro e w6 ⟨rfl, s6, r6, h6, q6, z6⟩
        have HF := hid (HFin.out _ _ _ (S4.out.call (by omega) (by decide) h6 q6 z6))
        clear S4 h6 q6 z6 HFin c0 c1 c2 c3 c4 c5 c6 c7
        go_wp2_with fail
        go_end0
        exact ⟨rfl, HF.out⟩
      · have ht' : ((ts.length : Int) == 0) = false := by simp; exact fun e => ht (by rw [e]; rfl)
        have HT0 := hid (show ¬ ts = [] from fun e => ht (by rw [e]; rfl))
        clear ht
        go_wp2_with fail
        refine (wmust_any S4.out.wb false (ts = [] ∧ fs = []) (by simp [HT0.out])).mono ?_
        rintro e w6 ⟨rfl, s6, r6, h6, q6, z6⟩
        have HF := hid (HFin.out _ _ _ (S4.out.call (by omega) (by decide) h6 q6 z6))
        clear S4 h6 q6 z6 HFin c0 c1 c2 c3 c4 c5 c6 c7
        go_wp2_with fail
        go_end0
        exact ⟨rfl, HF.out⟩

end Go.Proofs.Ytnejkkaicnbkoaa
