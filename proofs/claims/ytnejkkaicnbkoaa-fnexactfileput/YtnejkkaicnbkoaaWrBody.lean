/- Contracts of the program's writer: bodies of methods. -/
import Derived.Test.YtnejkkaicnbkoaaWrEntry
import Derived.Test.YtnejkkaicnbkoaaPutMethod
namespace Go.Proofs.Ytnejkkaicnbkoaa
open Go.RowKit Fm
set_option maxHeartbeats 4000000
set_option maxRecDepth 20000
set_option linter.unusedVariables false

/-- the writer beside a box of the call, since the call began at W -/
structure WS (w0 : World) (b : Nat) (sp : Bool) (bs : List UInt8) (W : World) (C : Nat) (cs : Array Value) (T : TypeId) (n : Nat) (P : Prop) (l : List UInt8) (s : Bool) (r : List UInt8) (W' : World) : Prop where
  wb : WB w0 b s r W'
  kw : Kw b W W'
  wx : Wx sp s bs r n P l
  box : Lk W' C cs T
theorem WS.call {w0 : World} {b : Nat} {sp : Bool} {bs : List UInt8} {W : World} {C : Nat} {cs : Array Value} {T : TypeId} {n m : Nat} {P Q : Prop} {l t : List UInt8} {s s' : Bool} {r r' : List UInt8} {W1 W2 : World} (h : WS w0 b sp bs W C cs T n P l s r W1) (hC : C ≠ b) (hT : T ≠ 5) (h2 : WB w0 b s' r' W2) (k2 : Kw b W1 W2) (z2 : Wx s s' r r' m Q t) : WS w0 b sp bs W C cs T (n + m) (P ∧ Q) (l ++ t) s' r' W2 :=
  ⟨h2, h.kw.trans k2, h.wx.trans z2, k2.lk h.box hC hT⟩
theorem WS.to {w0 : World} {b : Nat} {sp : Bool} {bs : List UInt8} {W : World} {C : Nat} {cs : Array Value} {T : TypeId} {n n' : Nat} {P P' : Prop} {l l' : List UInt8} {s : Bool} {r : List UInt8} {W1 : World} (h : WS w0 b sp bs W C cs T n P l s r W1) (hn : n ≤ n') (hp : P ↔ P') (hl : P' → l = l') : WS w0 b sp bs W C cs T n' P' l' s r W1 := ⟨h.wb, h.kw, h.wx.to hn hp hl, h.box⟩

theorem wbody_any {w0 : World} {b : Nat} {sp : Bool} {bs : List UInt8} {W : World} (m : MMethod) (vt vf : Value) (B : Nat) (h : WB w0 b sp bs W) (hl : bs.length ≤ 500000) (hm : m.few) (hw : MethodW W B vt vf m) :
    Calls Try.prog 100 #[.pointer (some ⟨b, 0, none⟩), .agg #[.int .i64 m.flags, .int .i64 m.name, .int .i64 m.desc, .int .i64 m.deep, .int .i64 m.locals, .string m.code, vt, vf]] W fun e w' => e = .returned (.tuple #[]) ∧ WP w0 b sp bs W 566 (fineBody m) (putBody m) w' := by
  obtain ⟨x, y, z, d, l, cd, ts, fs⟩ := m
  obtain ⟨xs, hxs⟩ := FX.of hw.f
  have ht := hw.t
  obtain ⟨o1, k1, hv1⟩ := own_len ht
  obtain ⟨o2, k2, hv2⟩ := own_len hxs.row
  simp only at ht hxs hv1 hv2
  subst hv1 hv2
  obtain ⟨f1, f2, f3, f4⟩ := hm
  simp only at f1 f2 f3 f4
  have HT := hid ht
  have HX := hid hxs
  have HF4 := hid f4
  have HH := hid h
  have hb := h.lt
  have S0 := (show WS w0 b sp bs W W.heap.size (arrM x y z d l cd (.slice o1 ts.length k1) (.slice o2 fs.length k2)) 83 0 True [] sp bs (W.alloc (.cells (arrM x y z d l cd (.slice o1 ts.length k1) (.slice o2 fs.length k2)) 83)) from ⟨h.alloc _, Kw.alloc _ _ _, Wx.nil, Lk.new _ _ _⟩)
  clear h ht hxs f4 hw
  go_enter Try.func100, Try.ntmps100
  go_wp2_with fail
  refine (wone_any _ S0.wb (by omega)).mono ?_
  rintro e w1 ⟨rfl, s1, r1, h1, q1, z1⟩
  have S1 := S0.call (by omega) (by decide) h1 q1 z1
  obtain ⟨⟨c0, c1, c2, c3, c4, c5, c6, c7⟩, _⟩ := S1.box.c8
  have hl1 := S1.wx.len
  clear S0 h1 q1 z1
  go_wp2_with fail
  refine (wone_any _ S1.wb (by omega)).mono ?_
  rintro e w2 ⟨rfl, s2, r2, h2, q2, z2⟩
  have S2 := S1.call (by omega) (by decide) h2 q2 z2
  clear c0 c1 c2 c3 c4 c5 c6 c7
  obtain ⟨⟨c0, c1, c2, c3, c4, c5, c6, c7⟩, _⟩ := S2.box.c8
  have hl2 := S2.wx.len
  clear S1 h2 q2 z2 hl1
  go_wp2_with fail
  refine (wcode_any _ S2.wb (by omega) f1).mono ?_
  rintro e w3 ⟨rfl, s3, r3, h3, q3, z3⟩
  have S3 := S2.call (by omega) (by decide) h3 q3 z3
  clear c0 c1 c2 c3 c4 c5 c6 c7
  obtain ⟨⟨c0, c1, c2, c3, c4, c5, c6, c7⟩, _⟩ := S3.box.c8
  have hl3 := S3.wx.len
  clear S2 h3 q3 z3 hl2
  go_wp2_with fail
  refine (wcount_any ts.length 3 S3.wb (by omega) (by omega) (by omega)).mono ?_
  rintro e w4 ⟨rfl, s4, r4, h4, q4, z4⟩
  have S4 := hid (S3.call (by omega) (by decide) h4 q4 z4)
  have hl4 := S4.out.wx.len
  clear S3 h4 q4 z4 hl3 c0 c1 c2 c3 c4 c5 c6 c7
  go_upto_block 0 with fail
  go_cut [4, 22] (fun _ _ wc => ∃ s r, Hid (WS w0 b sp bs W W.heap.size (arrM x y z d l cd (.slice o1 ts.length k1) (.slice o2 fs.length k2)) 83 149 (((in1 d ∧ in1 l) ∧ fineCode cd) ∧ fineL 3 fineT ts) (one d ++ (one l ++ (putCode cd ++ putL putT ts))) s r wc))
  case first =>
    have hi4 := S4.out.wx
    by_cases h3 : ts.length ≤ 3
    · have hif : (if (ts.length : Int) ≤ 3 then (ts.length : Int) else 0) = ts.length := if_pos (by omega)
      rw [hif]
      clear hif hi4
      go_wp2_with fail
      go_loopw [23, 4] (fun c _ wr => ∃ (k : Nat) (s : Bool) (r : List UInt8), k ≤ ts.length ∧ c = .int .i64 k ∧ Hid (WS w0 b sp bs W W.heap.size (arrM x y z d l cd (.slice o1 ts.length k1) (.slice o2 fs.length k2)) 83 (125 + 8 * k) (((((True ∧ in1 d) ∧ in1 l) ∧ fineCode cd) ∧ (ts.length : Int) ≤ 3) ∧ ∀ q ∈ ts.take k, fineT q) (one d ++ (one l ++ putCode cd) ++ one ts.length ++ (ts.take k).flatMap putT) s r wr)) (fun c _ _ => ts.length - (intOf c).toNat)
      case atStart => exact ⟨0, s4, r4, by omega, rfl, S4.out.to (by omega) (by simp) (fun _ => by simp)⟩
      case round =>
        obtain ⟨k, s, r, hk, rfl, HS⟩ := hrel
        obtain ⟨⟨c0, c1, c2, c3, c4, c5, c6, c7⟩, _⟩ := HS.out.box.c8
        have hlr := HS.out.wx.len
        by_cases hlt : k < ts.length
        · obtain ⟨g, hg⟩ := own_some HT.out (by omega)
          subst hg
          obtain ⟨a1, a2, a3, a4, ha⟩ : ∃ a b c d, ts[k] = ⟨a, b, c, d⟩ := ⟨_, _, _, _, rfl⟩
          obtain ⟨e1, e2, e3, e4⟩ := trap_at (HH.out.row HS.out.kw HT.out (by decide) (by decide)) hlt ha
          have HK := hid (List.take_succ_eq_append_getElem hlt)
          have HA := hid ha
          have hcall := wtrap_any ⟨a1, a2, a3, a4⟩ HS.out.wb (by omega)
          clear ha
          go_wp2_with fail
          refine hcall.mono ?_
          rintro e w5 ⟨rfl, s5, r5, h5, q5, z5⟩
          have S5 := hid ((HS.out.call (by omega) (by decide) h5 q5 z5).to (n' := 125 + 8 * (k + 1)) (P' := ((((True ∧ in1 d) ∧ in1 l) ∧ fineCode cd) ∧ (ts.length : Int) ≤ 3) ∧ ∀ q ∈ ts.take (k + 1), fineT q) (l' := one d ++ (one l ++ putCode cd) ++ one ts.length ++ (ts.take (k + 1)).flatMap putT) (by omega) (by
            rw [HK.out, HA.out]
            simp only [List.mem_append, List.mem_singleton]
            constructor
            · rintro ⟨⟨h0, h1⟩, h2⟩
              exact ⟨h0, fun q hq => by rcases hq with hq | rfl; exact h1 q hq; exact h2⟩
            · rintro ⟨h0, h1⟩
              exact ⟨⟨h0, fun q hq => h1 q (.inl hq)⟩, h1 _ (.inr rfl)⟩) (fun _ => by rw [HK.out, HA.out]; simp))
          clear HS h5 q5 z5 hcall
          go_wp2_with fail
          go_roundw
          case rel => exact ⟨k + 1, s5, r5, by omega, by go_num, S5⟩
          case measure => simp [intOf]; omega
        · have hke : k = ts.length := by omega
          have S5 := hid (HS.out.to (n' := 149) (P' := ((in1 d ∧ in1 l) ∧ fineCode cd) ∧ fineL 3 fineT ts) (l' := one d ++ (one l ++ (putCode cd ++ putL putT ts))) (by omega) (by
            rw [hke, List.take_length]
            unfold fineL
            simp [and_assoc]) (fun _ => by rw [hke, List.take_length]; simp [putL]))
          clear HS
          go_wp2_with fail
          go_meet
          case rel => exact ⟨s, r, S5⟩
    · have hif : (if (ts.length : Int) ≤ 3 then (ts.length : Int) else 0) = 0 := if_neg (by omega)
      have HN := hid (show ¬ fineL 3 fineT ts from fun q => h3 (by have := q.1; omega))
      have HN2 := hid (show ¬ (ts.length : Int) ≤ 3 from by omega)
      have S5 := hid (S4.out.to (n' := 149) (P' := ((in1 d ∧ in1 l) ∧ fineCode cd) ∧ fineL 3 fineT ts) (l' := one d ++ (one l ++ (putCode cd ++ putL putT ts))) (by omega) (by simp [HN.out, HN2.out]) (fun q => absurd q.2 HN.out))
      rw [hif]
      clear hif hi4 S4 h3
      go_wp2_with fail
      refine wp_loop_rounds 1 ?_
      rw [rounds_succ]
      go_wp2_with fail
      go_meet
      case rel => exact ⟨s4, r4, S5⟩
  case rest =>
    obtain ⟨s5, r5, S5⟩ := hcut
    clear S4 hl4
    obtain ⟨⟨c0, c1, c2, c3, c4, c5, c6, c7⟩, _⟩ := S5.out.box.c8
    have hl5 := S5.out.wx.len
    go_wp2_with fail
    refine (wcount_any fs.length 8 S5.out.wb (by omega) (by omega) (by omega)).mono ?_
    rintro e w6 ⟨rfl, s6, r6, h6, q6, z6⟩
    have S6 := hid (S5.out.call (by omega) (by decide) h6 q6 z6)
    clear S5 h6 q6 z6 hl5 c0 c1 c2 c3 c4 c5 c6 c7
    by_cases h8 : fs.length ≤ 8
    · have hif : (if (fs.length : Int) ≤ 8 then (fs.length : Int) else 0) = fs.length := if_pos (by omega)
      rw [hif]
      clear hif
      go_wp2_with fail
      go_loopw [39, 5] (fun c _ wr => ∃ (k : Nat) (s : Bool) (r : List UInt8), k ≤ fs.length ∧ c = .int .i64 k ∧ Hid (WS w0 b sp bs W W.heap.size (arrM x y z d l cd (.slice o1 ts.length k1) (.slice o2 fs.length k2)) 83 (150 + 52 * k) (((((in1 d ∧ in1 l) ∧ fineCode cd) ∧ fineL 3 fineT ts) ∧ (fs.length : Int) ≤ 8) ∧ ∀ q ∈ fs.take k, fineF q) (one d ++ (one l ++ (putCode cd ++ putL putT ts)) ++ one fs.length ++ (fs.take k).flatMap putF) s r wr)) (fun c _ _ => fs.length - (intOf c).toNat)
      case atStart => exact ⟨0, s6, r6, by omega, rfl, S6.out.to (by omega) (by simp) (fun _ => by simp)⟩
      case round =>
        obtain ⟨k, s, r, hk, rfl, HS⟩ := hrel
        obtain ⟨⟨c0, c1, c2, c3, c4, c5, c6, c7⟩, _⟩ := HS.out.box.c8
        have hlr := HS.out.wx.len
        by_cases hlt : k < fs.length
        · obtain ⟨g, hg⟩ := own_some HX.out.row (by omega)
          subst hg
          have hxl : k < xs.length := by rw [HX.out.len]; exact hlt
          obtain ⟨b1, b2, b3, hbx⟩ : ∃ a b c, xs[k] = ⟨a, b, c⟩ := ⟨_, _, _, rfl⟩
          obtain ⟨f, hfk⟩ : ∃ f, fs[k] = f := ⟨_, rfl⟩
          have hfe := HX.out.each k hlt hxl
          have hfw := HF4.out fs[k] (List.getElem_mem _)
          rw [hbx, hfk] at hfe
          rw [hfk] at hfw
          have hfe2 := (show FrameW wr B ⟨b1, b2, b3⟩ f from ⟨hfe.at_, HH.out.row HS.out.kw hfe.l (by decide) (by decide), HH.out.row HS.out.kw hfe.s (by decide) (by decide)⟩)
          obtain ⟨u1, v1, hv1⟩ := own_len hfe.l
          obtain ⟨u2, v2, hv2⟩ := own_len hfe.s
          simp only at hv1 hv2
          subst hv1 hv2
          obtain ⟨e1, e2, e3⟩ := ownFrame_at (HH.out.row HS.out.kw HX.out.row (by decide) (by decide)) HX.out.len hxl
          rw [hbx] at e1 e2 e3
          simp only at e1 e2 e3
          have HK := hid (List.take_succ_eq_append_getElem hlt)
          have HA := hid hfk
          have hcall := wframe_any ⟨b1, .slice u1 f.locals.length v1, .slice u2 f.stack.length v2⟩ f B HS.out.wb (by omega) hfw hfe2
          simp only at hcall
          clear hfk hbx hfe hfe2 hfw
          go_wp2_with fail
          refine hcall.mono ?_
          rintro e w7 ⟨rfl, s7, r7, h7, q7, z7⟩
          have S7 := hid ((HS.out.call (by omega) (by decide) h7 q7 z7).to (n' := 150 + 52 * (k + 1)) (P' := ((((in1 d ∧ in1 l) ∧ fineCode cd) ∧ fineL 3 fineT ts) ∧ (fs.length : Int) ≤ 8) ∧ ∀ q ∈ fs.take (k + 1), fineF q) (l' := one d ++ (one l ++ (putCode cd ++ putL putT ts)) ++ one fs.length ++ (fs.take (k + 1)).flatMap putF) (by omega) (by
            rw [HK.out, HA.out]
            simp only [List.mem_append, List.mem_singleton]
            constructor
            · rintro ⟨⟨h0, h1⟩, h2⟩
              exact ⟨h0, fun q hq => by rcases hq with hq | rfl; exact h1 q hq; exact h2⟩
            · rintro ⟨h0, h1⟩
              exact ⟨⟨h0, fun q hq => h1 q (.inl hq)⟩, h1 _ (.inr rfl)⟩) (fun _ => by rw [HK.out, HA.out]; simp))
          clear HS h7 q7 z7 hcall
          go_wp2_with fail
          go_roundw
          case rel => exact ⟨k + 1, s7, r7, by omega, by go_num, S7⟩
          case measure => simp [intOf]; omega
        · have hke : k = fs.length := by omega
          have S7 := hid (HS.out.to (n' := 566) (P' := fineBody ⟨x, y, z, d, l, cd, ts, fs⟩) (l' := putBody ⟨x, y, z, d, l, cd, ts, fs⟩) (by omega) (by
            rw [hke, List.take_length]
            unfold fineBody fineL
            simp [and_assoc]) (fun _ => by rw [hke, List.take_length]; simp [putL, putBody]))
          have HF := hid (show WP w0 b sp bs W 566 (fineBody ⟨x, y, z, d, l, cd, ts, fs⟩) (putBody ⟨x, y, z, d, l, cd, ts, fs⟩) wr from ⟨s, r, S7.out.wb, S7.out.kw, S7.out.wx⟩)
          clear HS S7
          go_wp2_with fail
          go_end0
          exact ⟨rfl, HF.out⟩
    · have hif : (if (fs.length : Int) ≤ 8 then (fs.length : Int) else 0) = 0 := if_neg (by omega)
      have HN := hid (show ¬ fineBody ⟨x, y, z, d, l, cd, ts, fs⟩ from fun q => h8 (by have := q.2.2.2.2.1; simp only at this; omega))
      have HN2 := hid (show ¬ (fs.length : Int) ≤ 8 from by omega)
      have S7 := hid (S6.out.to (n' := 566) (P' := fineBody ⟨x, y, z, d, l, cd, ts, fs⟩) (l' := putBody ⟨x, y, z, d, l, cd, ts, fs⟩) (by omega) (by simp [HN.out, HN2.out]) (fun q => absurd q HN.out))
      have HF := hid (show WP w0 b sp bs W 566 (fineBody ⟨x, y, z, d, l, cd, ts, fs⟩) (putBody ⟨x, y, z, d, l, cd, ts, fs⟩) w6 from ⟨s6, r6, S7.out.wb, S7.out.kw, S7.out.wx⟩)
      rw [hif]
      clear hif S6 S7 h8
      go_wp2_with fail
      refine wp_loop_rounds 1 ?_
      rw [rounds_succ]
      go_wp2_with fail
      go_end0
      exact ⟨rfl, HF.out⟩

end Go.Proofs.Ytnejkkaicnbkoaa
