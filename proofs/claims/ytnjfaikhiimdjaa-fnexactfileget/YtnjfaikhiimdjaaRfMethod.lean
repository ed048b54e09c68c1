/- The program's reader of files: a method. -/
import Derived.Test.YtnjfaikhiimdjaaRfBody
namespace Go.Proofs.Ytnjfaikhiimdjaa
open Go.RowKit Fm
set_option maxHeartbeats 2000000
set_option maxRecDepth 20000
set_option linter.unusedVariables false

def hasR (n : Int) : Bool := bits BinOp.and IntKind.i64 n 8 == 0
theorem rhas_any (n : Int) (w : World) : Calls Try.prog 99 #[.int .i64 n] w fun e w' => e = .returned (.bool (hasR n)) ∧ w' = w := by
  go_enter Try.func99, Try.ntmps99
  go_wp2
  go_ret
  exact ⟨rfl, rfl⟩
theorem hasR_in {n : Nat} (h : n < 256) : hasR n = decide (¬ absF n) := by
  have key : ∀ k : Fin 256, hasR ((k.val : Nat) : Int) = decide (¬ absF ((k.val : Nat) : Int)) := by decide +kernel
  exact key ⟨n, h⟩

/-- stores into R leave what lies elsewhere -/
structure ME (w : World) (b : Nat) (s : ByteArray) (R B : Nat) (vt vf : Value) (ts : List MTrap) (fs : List MFrame) (xs : List SFrame) (r : List UInt8) (W : World) : Prop where
  st : Pq w b s r W
  tr : W.ownsRow B 120 4 vt ts.length (rowTrap ts)
  fx : FX W B vf fs xs
  r : ∃ zs, Lk W R zs 83
  rn : w.heap.size ≤ R
theorem ME.set {w : World} {b : Nat} {s : ByteArray} {R B : Nat} {vt vf : Value} {ts : List MTrap} {fs : List MFrame} {xs : List SFrame} {r : List UInt8} {W : World} (h : ME w b s R B vt vf ts fs xs r W) (j : Nat) (u : Value) : ME w b s R B vt vf ts fs xs r (W.setCell ⟨R, j, none⟩ u) := by
  obtain ⟨zs, hz⟩ := h.r
  exact ⟨h.st.set (by exact h.rn), ownsRow_set_ne h.tr u (own_ne h.tr hz (by decide)), h.fx.set hz (by decide) (by decide) j u, ⟨_, hz.set j u rfl⟩, h.rn⟩
/-- a method that was read: its value, its lists, each list of kinds in a block of its own -/
def VMethod (w : World) (m : MMethod) (e : Ending) (w' : World) : Prop := ∃ (vt vf : Value) (xs : List SFrame), e = .returned (.agg #[.int .i64 m.flags, .int .i64 m.name, .int .i64 m.desc, .int .i64 m.deep, .int .i64 m.locals, .string m.code, vt, vf]) ∧ w'.ownsRow w.heap.size 120 4 vt m.traps.length (rowTrap m.traps) ∧ FX w' w.heap.size vf m.frames xs ∧ Apart (kb xs)
theorem FX.mono {w : World} {B B' : Nat} {v : Value} {fs : List MFrame} {xs : List SFrame} (h : FX w B v fs xs) (hb : B' ≤ B) : FX w B' v fs xs := ⟨h.len, Joins.ownsRow_le h.row hb, fun k h1 h2 => (h.each k h1 h2).mono hb⟩
theorem ME.fin {w : World} {b : Nat} {s : ByteArray} {R B : Nat} {vt vf : Value} {m : MMethod} {xs : List SFrame} {r r' : List UInt8} {W : World} (h : ME w b s R B vt vf m.traps m.frames xs r' W) (hB : w.heap.size ≤ B) (ha : Apart (kb xs)) (hp : rMethod r = some (m, r')) :
    RfPost rMethod b s r w (VMethod w) (.returned (.agg #[.int .i64 m.flags, .int .i64 m.name, .int .i64 m.desc, .int .i64 m.deep, .int .i64 m.locals, .string m.code, vt, vf])) W :=
  h.st.yes hp ⟨vt, vf, xs, rfl, Joins.ownsRow_le h.tr hB, h.fx.mono hB, ha⟩

set_option maxHeartbeats 4000000 in
theorem rfMethod_any (b : Nat) (s : ByteArray) (r : List UInt8) (w : World) (hs : s.size ≤ 1000000000) (h : PAt w b s r) :
    Calls Try.prog 84 #[.pointer (some ⟨b, 0, none⟩)] w (RfPost rMethod b s r w (VMethod w)) := by
  have H1 := fun r w h => rfOne_any b s r w hs h
  have H2 := fun r w h => rfTwo_any b s r w hs h
  have H3 := fun x y z r w1 h => rfBody_any w b s (w.heap.size + 1) w.heap.size zM x y z r w1 hs h
  have H4 := fun n w => rhas_any n w
  have HB := h.lt
  have B0 := hid (PBq.new2 zM zM 83 h)
  clear h
  go_enter Try.func84, Try.ntmps84
  go_wp2_with fail
  refine (H1 _ _ B0.out.st.rd).mono ?_
  rintro e w1 (⟨x, r1, p1, ⟨x, rfl, hx, rfl⟩, h, g⟩ | ⟨p1, ⟨n, rfl⟩, g⟩)
  rotate_left
  · have G := hid g
    have P1 := hid p1
    clear p1 g H1 H2 H3 H4
    go_wp2
    exact ⟨rfl, B0.out.st.no G.out (by unfold rMethod; rw [pb_none P1.out])⟩
  have P1 := hid p1
  have C1 := B0.out.call h g
  have d0 := C1.m.c 0 _ rfl
  have f0 := C1.m.z 0
  have B1 := hid (C1.set (cs' := arrM x 0 0 0 0 empty (.slice none 0 0) (.slice none 0 0)) 0 (.int .i64 x) rfl)
  clear p1 h g B0 C1
  go_wp2_with fail
  refine (H2 _ _ B1.out.st.rd).mono ?_
  rintro e w2 (⟨y, r2, p2, ⟨y, rfl, hy, rfl⟩, h, g⟩ | ⟨p2, ⟨n, rfl⟩, g⟩)
  rotate_left
  · have G := hid g
    have P2 := hid p2
    clear p2 g H1 H2 H3 H4
    go_wp2
    exact ⟨rfl, B1.out.st.no G.out (by unfold rMethod; rw [pb_some P1.out, pb_none P2.out])⟩
  have P2 := hid p2
  have C2 := B1.out.call h g
  have d1 := C2.m.c 1 _ rfl
  have f1 := C2.m.z 1
  have B2 := hid (C2.set (cs' := arrM x y 0 0 0 empty (.slice none 0 0) (.slice none 0 0)) 1 (.int .i64 y) rfl)
  clear p2 h g B1 C2 d0 f0
  go_wp2_with fail
  refine (H2 _ _ B2.out.st.rd).mono ?_
  rintro e w3 (⟨z, r3, p3, ⟨z, rfl, hz, rfl⟩, h, g⟩ | ⟨p3, ⟨n, rfl⟩, g⟩)
  rotate_left
  · have G := hid g
    have P3 := hid p3
    clear p3 g H1 H2 H3 H4
    go_wp2
    exact ⟨rfl, B2.out.st.no G.out (by unfold rMethod; rw [pb_some P1.out, pb_some P2.out, pb_none P3.out])⟩
  have P3 := hid p3
  have C3 := B2.out.call h g
  have d0 := C3.m.c 0 _ rfl
  have d2 := C3.m.c 2 _ rfl
  have f2 := C3.m.z 2
  have B3 := hid (C3.set (cs' := arrM x y z 0 0 empty (.slice none 0 0) (.slice none 0 0)) 2 (.int .i64 z) rfl)
  clear p3 h g B2 C3 d1 f1 H1 H2
  obtain ⟨q, HQ⟩ : ∃ q, Hid (hasR (x : Int) = q) := ⟨_, rfl⟩
  have hh := (show ∀ W, Calls Try.prog 99 #[.int .i64 (x : Int)] W fun e w' => e = .returned (.bool q) ∧ w' = W from fun W => by rw [← HQ.out]; exact H4 x W)
  have HA := hid (hasR_in hx)
  clear H4
  go_wp2_with fail
  refine (hh _).mono ?_
  rintro e w4 ⟨rfl, hw4⟩
  replace hw4 := hw4.symm
  clear hh
  have B4 := hid (show PBq w b s (w.heap.size + 1) w.heap.size 83 zM r3 (arrM x y z 0 0 empty (.slice none 0 0) (.slice none 0 0)) w4 from by rw [← hw4]; exact B3.out)
  clear hw4 B3 d0 d2 f2
  cases q with
  | true =>
    have hab : ¬ absF (x : Int) := by have := HA.out; rw [HQ.out] at this; simpa using this.symm
    go_wp2_with fail
    refine (H3 _ _ _ _ _ B4.out).mono ?_
    rintro e w5 (⟨m, r5, vt, vf, xs, p5, rfl, h5, t5, x5, a5⟩ | ⟨p5, ⟨n, rfl⟩, g⟩)
    rotate_left
    · have G := hid g
      have P5 := hid p5
      clear p5 g H3
      go_wp2
      exact ⟨rfl, .inr ⟨by unfold rMethod; rw [pb_some P1.out, pb_some P2.out, pb_some P3.out, if_neg hab, P5.out], ⟨n, rfl⟩, G.out⟩⟩
    have HP := hid (show rMethod r = some (m, r5) from by unfold rMethod; rw [pb_some P1.out, pb_some P2.out, pb_some P3.out, if_neg hab, p5])
    have hw4 := B4.out.st.size
    have HE := hid (show ME w b s w.heap.size w4.heap.size vt vf m.traps m.frames xs r5 w5 from ⟨h5.st, t5, x5, ⟨_, h5.r⟩, Nat.le_refl _⟩)
    have HAp := hid a5
    obtain ⟨o1, k1, hv1⟩ := own_len t5
    obtain ⟨o2, k2, hv2⟩ := own_len x5.row
    subst hv1 hv2
    obtain ⟨⟨t0, t1, t2, t3, t4, t5, t6, t7⟩, _⟩ := h5.m.c8
    obtain ⟨⟨a0, a1, a2, a3, a4, a5, a6, a7⟩, y0, y1, y2, y3, y4, y5, y6, y7⟩ := h5.r.c8
    clear p5 h5 x5 B4 H3
    go_wp2
    refine bodyPost_ret (v := .agg #[.int .i64 m.flags, .int .i64 m.name, .int .i64 m.desc, .int .i64 m.deep, .int .i64 m.locals, .string m.code, .slice o1 m.traps.length k1, .slice o2 m.frames.length k2]) (by simp [results, Try.results84, go_sem, a0, a1, a2, a3, a4, a5, a6, a7]) rfl ?_
    refine ME.fin (R := w.heap.size) ?_ hw4 HAp.out HP.out
    repeat' (first | refine ME.set ?_ _ _ | exact HE.out)
  | false =>
    have hab : absF (x : Int) := by have := HA.out; rw [HQ.out] at this; simpa using this.symm
    have HP := hid (show rMethod r = some (⟨x, y, z, 0, 0, empty, [], []⟩, r3) from by unfold rMethod; rw [pb_some P1.out, pb_some P2.out, pb_some P3.out, if_pos hab, pp_some])
    have HE := hid (show ME w b s w.heap.size w.heap.size (.slice none 0 0) (.slice none 0 0) [] [] [] r3 w4 from ⟨B4.out.st, World.ownsRow_nil _ _ _ _, ⟨rfl, World.ownsRow_nil _ _ _ _, fun k hk => by simp at hk⟩, ⟨_, B4.out.r⟩, Nat.le_refl _⟩)
    obtain ⟨⟨t0, t1, t2, t3, t4, t5, t6, t7⟩, _⟩ := B4.out.m.c8
    obtain ⟨⟨a0, a1, a2, a3, a4, a5, a6, a7⟩, y0, y1, y2, y3, y4, y5, y6, y7⟩ := B4.out.r.c8
    clear B4 H3
    go_wp2
    refine bodyPost_ret (v := .agg #[.int .i64 (x : Int), .int .i64 (y : Int), .int .i64 (z : Int), .int .i64 0, .int .i64 0, .string empty, .slice none 0 0, .slice none 0 0]) (by simp [results, Try.results84, go_sem, empty, a0, a1, a2, a3, a4, a5, a6, a7]) rfl ?_
    refine ME.fin (m := ⟨x, y, z, 0, 0, empty, [], []⟩) (xs := []) (R := w.heap.size) ?_ (Nat.le_refl _) Apart.nil HP.out
    repeat' (first | refine ME.set ?_ _ _ | exact HE.out)

end Go.Proofs.Ytnjfaikhiimdjaa
