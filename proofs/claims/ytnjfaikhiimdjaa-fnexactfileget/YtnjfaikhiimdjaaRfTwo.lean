/- The program's reader of files: codes, kinds, entries. -/
import Derived.Test.YtnjfaikhiimdjaaRfOne
namespace Go.Proofs.Ytnjfaikhiimdjaa
open Go.RowKit Fm
set_option maxHeartbeats 1000000
set_option maxRecDepth 20000
set_option linter.unusedVariables false

theorem rfCode_any (b : Nat) (s : ByteArray) (r : List UInt8) (w : World) (hs : s.size ≤ 1000000000) (h : PAt w b s r) :
    Calls Try.prog 117 #[.pointer (some ⟨b, 0, none⟩)] w (RfPost rCode b s r w VStr) := by
  have H2 := fun r w h => rfTwo_any b s r w hs h
  have H3 := fun r w h => refuse_any b s r w h
  have H4 := fun m r w hm h => rfBytes_any b s m r w hs hm h
  have S0 := Pq.start h
  clear h
  go_enter Try.func117, Try.ntmps117
  go_wp2_with fail
  refine (H2 _ _ S0.rd).mono ?_
  rintro e w1 (⟨x, r1, p1, ⟨x, rfl, hx, rfl⟩, h1, g1⟩ | ⟨p1, ⟨n, rfl⟩, g1⟩)
  rotate_left
  · have G1 := hid g1
    have P1 := hid p1
    clear p1 g1 H2 H3 H4
    go_wp2
    exact ⟨rfl, S0.no G1.out (by unfold rCode; rw [pb_none P1.out])⟩
  have S1 := hid (S0.call h1 g1)
  have P1 := hid p1
  clear p1 h1 g1 S0 H2
  by_cases hxm : x ≤ 120
  · go_wp2_with fail
    refine (H4 _ _ _ (by omega) S1.out.rd).mono ?_
    rintro e w2 (⟨y, r2, p2, rfl, h2, g2⟩ | ⟨p2, ⟨n, rfl⟩, g2⟩)
    · have S2 := hid (S1.out.call h2 g2)
      have P2 := hid p2
      clear p2 h2 g2 S1 H3 H4
      go_wp2
      go_ret
      exact S2.out.yes (by unfold rCode; rw [pb_some P1.out, if_pos (by omega)]; exact P2.out) rfl
    · have G2 := hid g2
      have P2 := hid p2
      clear p2 g2 H3 H4
      go_wp2
      exact ⟨rfl, S1.out.no G2.out (by unfold rCode; rw [pb_some P1.out, if_pos (by omega)]; exact P2.out)⟩
  · go_wp2_with fail
    refine (H3 _ _ S1.out.rd).mono ?_
    rintro e w2 ⟨⟨n, rfl⟩, rfl⟩
    clear H3 H4
    go_wp2
    refine ⟨rfl, S1.out.no (grown_refl _ _) ?_⟩
    unfold rCode
    rw [pb_some P1.out, if_neg (by omega)]
    rfl

/-- a new variable behind a call -/
theorem PBq.new1 {w w1 : World} {b R : Nat} {s : ByteArray} {r : List UInt8} {zs : Array Value} {T : TypeId} (cs : Array Value) (h : Pq w b s r w1) (k : Lk w1 R zs T) (hR : w.heap.size ≤ R) : PBq w b s w1.heap.size R T zs r cs (w1.alloc (.cells cs T)) :=
  ⟨h.alloc _, Lk.new _ _ _, k.alloc _, h.size, hR, by have := k.lt; omega⟩

abbrev VKind (x : MKind) (e : Ending) (_ : World) : Prop := e = .returned (.agg #[.int .i64 x.tag, .int .i64 x.cls])
theorem rfKind_any (b : Nat) (s : ByteArray) (r : List UInt8) (w : World) (hs : s.size ≤ 1000000000) (h : PAt w b s r) :
    Calls Try.prog 128 #[.pointer (some ⟨b, 0, none⟩)] w (RfPost rKind b s r w VKind) := by
  have H1 := fun r w h => rfOne_any b s r w hs h
  have H2 := fun r w h => rfTwo_any b s r w hs h
  have H3 := fun r w h => refuse_any b s r w h
  have S0 := Pq.start h
  have K0 := Lk.new w #[.int .i64 0, .int .i64 0] 144
  have HB := h.lt
  clear h
  go_enter Try.func128, Try.ntmps128
  go_wp2_with fail
  refine (H1 _ _ (S0.alloc _).rd).mono ?_
  rintro e w1 (⟨x, r1, p1, ⟨x, rfl, hx, rfl⟩, h1, g1⟩ | ⟨p1, ⟨n, rfl⟩, g1⟩)
  rotate_left
  · have G1 := hid g1
    have P1 := hid p1
    clear p1 g1 H1 H2 H3
    go_wp2
    exact ⟨rfl, (S0.alloc _).no G1.out (by unfold rKind; rw [pb_none P1.out])⟩
  have S1 := (S0.alloc _).call h1 g1
  have K1 := K0.call g1 (by omega)
  have B1 := hid (PBq.new1 #[.int .i64 (x : Int), .int .i64 0] S1 K1 (Nat.le_refl _))
  have P1 := hid p1
  have hne : w1.heap.size ≠ w.heap.size := by have := K1.lt; omega
  have hne2 : w.heap.size ≠ w1.heap.size := by have := K1.lt; omega
  have hsz := S1.size
  clear p1 h1 g1 S0 H1 S1 K0 K1
  by_cases hx3 : x ≤ 3
  · by_cases hx4 : x = 3
    · subst hx4
      go_wp2_with fail
      refine (H2 _ _ B1.out.st.rd).mono ?_
      rintro e w2 (⟨y, r2, p2, ⟨y, rfl, hy, rfl⟩, h2, g2⟩ | ⟨p2, ⟨n, rfl⟩, g2⟩)
      rotate_left
      · have G2 := hid g2
        have P2 := hid p2
        clear p2 g2 H2 H3
        go_wp2
        exact ⟨rfl, B1.out.st.no G2.out (by unfold rKind; rw [pb_some P1.out, if_pos (by omega), if_pos (by omega), pb_none P2.out])⟩
      have C2 := B1.out.call h2 g2
      have P2 := hid p2
      have HS := hid C2.st
      obtain ⟨q0, q1, z0, z1⟩ := C2.m.c2
      obtain ⟨a0, a1, y0, y1⟩ := C2.r.c2
      clear p2 h2 g2 B1 C2 H2 H3
      go_wp2
      refine bodyPost_ret (v := .agg #[.int .i64 3, .int .i64 (y : Int)]) (by simp [results, Try.results128, go_sem, a0, a1]) rfl ?_
      refine Pq.yes (x := ⟨3, y⟩) (r' := r2) ?_ (by unfold rKind; rw [pb_some P1.out, if_pos (by omega), if_pos (by omega), pb_some P2.out, pp_some]; rfl) rfl
      repeat' (first | refine Pq.set ?_ (by dsimp only; omega) | exact HS.out)
    · have e3 : ((x : Int) == 3) = false := by rw [beq_eq_false_iff_ne]; omega
      have HS := hid B1.out.st
      obtain ⟨q0, q1, z0, z1⟩ := B1.out.m.c2
      obtain ⟨a0, a1, y0, y1⟩ := B1.out.r.c2
      clear B1 H2 H3
      go_wp2
      refine bodyPost_ret (v := .agg #[.int .i64 (x : Int), .int .i64 0]) (by simp [results, Try.results128, go_sem, a0, a1]) rfl ?_
      refine Pq.yes (x := ⟨x, 0⟩) (r' := r1) ?_ (by unfold rKind; rw [pb_some P1.out, if_pos (by omega), if_neg (by omega), pp_some]) rfl
      repeat' (first | refine Pq.set ?_ (by dsimp only; omega) | exact HS.out)
  · go_wp2_with fail
    refine (H3 _ _ B1.out.st.rd).mono ?_
    rintro e w2 ⟨⟨n, rfl⟩, rfl⟩
    have HS := hid B1.out.st
    clear B1 H2 H3
    go_wp2
    exact ⟨rfl, HS.out.no (grown_refl _ _) (by unfold rKind; rw [pb_some P1.out, if_neg (by omega)]; rfl)⟩

abbrev VConst (x : C4) (e : Ending) (_ : World) : Prop := e = .returned (.agg #[.int .i64 x.kind, .string x.text, .int .i64 x.a, .int .i64 x.b])
theorem rfEntry_any (b : Nat) (s : ByteArray) (r : List UInt8) (w : World) (hs : s.size ≤ 1000000000) (h : PAt w b s r) :
    Calls Try.prog 80 #[.pointer (some ⟨b, 0, none⟩)] w (RfPost rEntry b s r w VConst) := by
  have H1 := fun r w h => rfOne_any b s r w hs h
  have H2 := fun r w h => rfTwo_any b s r w hs h
  have H3 := fun r w h => refuse_any b s r w h
  have H4 := fun m r w hm h => rfBytes_any b s m r w hs hm h
  have S0 := Pq.start h
  have K0 := Lk.new w #[.int .i64 0, .string ⟨#[]⟩, .int .i64 0, .int .i64 0] 75
  have HB := h.lt
  clear h
  go_enter Try.func80, Try.ntmps80
  go_wp2_with fail
  refine (H1 _ _ (S0.alloc _).rd).mono ?_
  rintro e w1 (⟨k, r1, p1, ⟨k, rfl, hk, rfl⟩, h1, g1⟩ | ⟨p1, ⟨n, rfl⟩, g1⟩)
  rotate_left
  · have G1 := hid g1
    have P1 := hid p1
    clear p1 g1 H1 H2 H3 H4
    go_wp2
    exact ⟨rfl, (S0.alloc _).no G1.out (by unfold rEntry; rw [pb_none P1.out])⟩
  have S1 := (S0.alloc _).call h1 g1
  have K1 := K0.call g1 (by omega)
  have B1 := hid (PBq.new1 #[.int .i64 (k : Int), .string ⟨#[]⟩, .int .i64 0, .int .i64 0] S1 K1 (Nat.le_refl _))
  have P1 := hid p1
  have hne : w1.heap.size ≠ w.heap.size := by have := K1.lt; omega
  have hne2 : w.heap.size ≠ w1.heap.size := by have := K1.lt; omega
  have hsz := S1.size
  clear p1 h1 g1 S0 S1 K0 K1
  by_cases k1 : k = 1
  · subst k1
    go_wp2_with fail
    refine (H1 _ _ B1.out.st.rd).mono ?_
    rintro e w2 (⟨m, r2, p2, ⟨m, rfl, hm, rfl⟩, h2, g2⟩ | ⟨p2, ⟨n, rfl⟩, g2⟩)
    rotate_left
    · have G2 := hid g2
      have P2 := hid p2
      clear p2 g2 H1 H2 H3 H4
      go_wp2
      exact ⟨rfl, B1.out.st.no G2.out (by unfold rEntry; rw [pb_some P1.out, if_pos (by omega), pb_none P2.out])⟩
    have B2 := hid (B1.out.call h2 g2)
    have P2 := hid p2
    clear p2 h2 g2 B1
    go_wp2_with fail
    refine (H4 _ _ _ (by omega) B2.out.st.rd).mono ?_
    rintro e w3 (⟨x, r3, p3, rfl, h3, g3⟩ | ⟨p3, ⟨n, rfl⟩, g3⟩)
    rotate_left
    · have G3 := hid g3
      have P3 := hid p3
      clear p3 g3 H1 H2 H3 H4
      go_wp2
      exact ⟨rfl, B2.out.st.no G3.out (by unfold rEntry; rw [pb_some P1.out, if_pos (by omega), pb_some P2.out, pb_none P3.out])⟩
    have C3 := B2.out.call h3 g3
    have P3 := hid p3
    have HS := hid C3.st
    obtain ⟨q0, q1, q2, q3, z0, z1, z2, z3⟩ := C3.m.c4
    obtain ⟨a0, a1, a2, a3, y0, y1, y2, y3⟩ := C3.r.c4
    clear p3 h3 g3 B2 C3 H1 H2 H3 H4
    go_wp2
    refine bodyPost_ret (v := .agg #[.int .i64 1, .string x, .int .i64 0, .int .i64 0]) (by simp [results, Try.results80, go_sem, a0, a1, a2, a3]) rfl ?_
    refine Pq.yes (x := ⟨1, x, 0, 0⟩) (r' := r3) ?_ (by unfold rEntry; rw [pb_some P1.out, if_pos (by omega), pb_some P2.out, pb_some P3.out, pp_some]; rfl) rfl
    repeat' (first | refine Pq.set ?_ (by dsimp only; omega) | exact HS.out)
  · by_cases k2 : k = 2
    · subst k2
      go_wp2_with fail
      refine (H2 _ _ B1.out.st.rd).mono ?_
      rintro e w2 (⟨x, r2, p2, ⟨x, rfl, hx, rfl⟩, h2, g2⟩ | ⟨p2, ⟨n, rfl⟩, g2⟩)
      rotate_left
      · have G2 := hid g2
        have P2 := hid p2
        clear p2 g2 H1 H2 H3 H4
        go_wp2
        exact ⟨rfl, B1.out.st.no G2.out (by unfold rEntry; rw [pb_some P1.out, if_neg (by omega), if_pos (by omega), pb_none P2.out])⟩
      have C3 := B1.out.call h2 g2
      have P2 := hid p2
      have HS := hid C3.st
      obtain ⟨q0, q1, q2, q3, z0, z1, z2, z3⟩ := C3.m.c4
      obtain ⟨a0, a1, a2, a3, y0, y1, y2, y3⟩ := C3.r.c4
      clear p2 h2 g2 B1 C3 H1 H2 H3 H4
      go_wp2
      refine bodyPost_ret (v := .agg #[.int .i64 2, .string empty, .int .i64 (x : Int), .int .i64 0]) (by simp [results, Try.results80, go_sem, empty, a0, a1, a2, a3]) rfl ?_
      refine Pq.yes (x := ⟨2, empty, x, 0⟩) (r' := r2) ?_ (by unfold rEntry; rw [pb_some P1.out, if_neg (by omega), if_pos (by omega), pb_some P2.out, pp_some]; rfl) rfl
      repeat' (first | refine Pq.set ?_ (by dsimp only; omega) | exact HS.out)
    · by_cases k3 : 3 ≤ k ∧ k ≤ 6
      · have k4 : k = 3 ∨ k = 4 ∨ k = 5 ∨ k = 6 := by omega
        have HK := hid (show ∀ r', (pbind rTwo fun a => pbind rTwo fun b => ppure (⟨(k : Int), empty, a, b⟩ : C4)) r1 = r' → rEntry r = r' from fun r' hr => by
          unfold rEntry
          rw [pb_some P1.out, if_neg (by omega), if_neg (by omega), if_pos (by omega)]
          exact hr)
        obtain ⟨Z, HZ2⟩ : ∃ Z : Int, Hid (Z = (k : Int)) := ⟨_, rfl⟩
        rw [← HZ2.out] at HK
        clear k1 k2 k3 P1
        rcases k4 with rfl | rfl | rfl | rfl
        all_goals
          go_wp2_with fail
          refine (H2 _ _ B1.out.st.rd).mono ?_
          rintro e w2 (⟨x, r2, p2, ⟨x, rfl, hx, rfl⟩, h2, g2⟩ | ⟨p2, ⟨n, rfl⟩, g2⟩)
          rotate_left
          · have G2 := hid g2
            have P2 := hid p2
            clear p2 g2 H1 H2 H3 H4
            go_wp2
            exact ⟨rfl, B1.out.st.no G2.out (HK.out _ (by rw [pb_none P2.out]))⟩
          have C2 := B1.out.call h2 g2
          have P2 := hid p2
          have d2 := C2.m.c 2 _ rfl
          have f2 := C2.m.z 2
          have B2 := hid (C2.set (cs' := #[.int .i64 Z, .string ⟨#[]⟩, .int .i64 (x : Int), .int .i64 0]) 2 (.int .i64 (x : Int)) (by rw [HZ2.out]; rfl))
          clear p2 h2 g2 B1 C2
          go_wp2_with fail
          refine (H2 _ _ B2.out.st.rd).mono ?_
          rintro e w3 (⟨y, r3, p3, ⟨y, rfl, hy, rfl⟩, h3, g3⟩ | ⟨p3, ⟨n, rfl⟩, g3⟩)
          rotate_left
          · have G3 := hid g3
            have P3 := hid p3
            clear p3 g3 H1 H2 H3 H4
            go_wp2
            exact ⟨rfl, B2.out.st.no G3.out (HK.out _ (by rw [pb_some P2.out, pb_none P3.out]))⟩
          have C3 := B2.out.call h3 g3
          have P3 := hid p3
          have HS := hid C3.st
          obtain ⟨q0, q1, q2, q3, z0, z1, z2, z3⟩ := C3.m.c4
          obtain ⟨a0, a1, a2, a3, y0, y1, y2, y3⟩ := C3.r.c4
          clear p3 h3 g3 B2 C3 H1 H2 H3 H4
          go_wp2
          refine bodyPost_ret (v := .agg #[.int .i64 Z, .string empty, .int .i64 (x : Int), .int .i64 (y : Int)]) (by simp [results, Try.results80, go_sem, empty, a0, a1, a2, a3]) rfl ?_
          refine Pq.yes (x := ⟨Z, empty, x, y⟩) (r' := r3) ?_ (HK.out _ (by rw [pb_some P2.out, pb_some P3.out, pp_some])) rfl
          repeat' (first | refine Pq.set ?_ (by dsimp only; omega) | exact HS.out)
      · have e1 : ((k : Int) == 1) = false := by rw [beq_eq_false_iff_ne]; omega
        have e2 : ((k : Int) == 2) = false := by rw [beq_eq_false_iff_ne]; omega
        have e3 : ((k : Int) == 3) = false := by rw [beq_eq_false_iff_ne]; omega
        have e4 : ((k : Int) == 4) = false := by rw [beq_eq_false_iff_ne]; omega
        have e5 : ((k : Int) == 5) = false := by rw [beq_eq_false_iff_ne]; omega
        have e6 : ((k : Int) == 6) = false := by rw [beq_eq_false_iff_ne]; omega
        go_wp2_with fail
        refine (H3 _ _ B1.out.st.rd).mono ?_
        rintro e w2 ⟨⟨n, rfl⟩, rfl⟩
        have HS := hid B1.out.st
        clear B1 H1 H2 H3 H4
        go_wp2
        exact ⟨rfl, HS.out.no (grown_refl _ _) (by unfold rEntry; rw [pb_some P1.out, if_neg (by omega), if_neg (by omega), if_neg (by omega)]; rfl)⟩

end Go.Proofs.Ytnjfaikhiimdjaa
