/- Contracts of the specification's reader: entries of a pool, kinds. -/
import Derived.Test.YtnjfaikhiimdjaaRdBase
namespace Go.Proofs.Ytnjfaikhiimdjaa
open Go.RowKit Fm
set_option maxHeartbeats 1000000
set_option linter.unusedVariables false

theorem app_grown {w w1 w2 : World} {b : Nat} {o : Obj} {v : Value} (h : w.grownBy w1 (some b)) (hv : ∀ k, v.ownBlock = some k → w.heap.size ≤ k) (hg : (w1.alloc o).grownBy w2 v.ownBlock) : w.grownBy w2 (some b) := by
  refine ⟨hg.os.trans h.os, hg.tape.trans h.tape, hg.output.trans h.output, Nat.le_trans h.size (Nat.le_trans (by simp) hg.size), fun k hk hkb => ?_⟩
  rw [hg.block k (by have := h.size; simp; omega) (fun e => by have := hv k e.symm; omega), Below.heap_alloc w1 o k (Nat.lt_of_lt_of_le hk h.size)]
  exact h.block k hk hkb
theorem RdAt.app {w1 w2 : World} {b : Nat} {o : Obj} {v : Value} {s : ByteArray} {st : Option (List UInt8)} (h : RdAt w1 b s st) (hv : v.ownBlock ≠ some b) (hg : (w1.alloc o).grownBy w2 v.ownBlock) : RdAt w2 b s st := by
  have hl := h.lt
  obtain ⟨a, h1, h2, h3⟩ := h
  refine ⟨a, h1, ?_, h3⟩
  rw [hg.block b (by simp; omega) (fun e => hv e.symm), Below.heap_alloc w1 o b hl]
  exact h2

/-- a block of cells -/
def Lk (W : World) (C : Nat) (cs : Array Value) (T : TypeId) : Prop := W.heap[C]? = some (.cells cs T (0, 0))
theorem Lk.new (w : World) (cs : Array Value) (T : TypeId) : Lk (w.alloc (.cells cs T)) w.heap.size cs T := heap_alloc_new w _
theorem Lk.lt {W : World} {C : Nat} {cs : Array Value} {T : TypeId} (h : Lk W C cs T) : C < W.heap.size := (Array.getElem?_eq_some_iff.1 h).1
theorem Lk.call {W W' : World} {C b : Nat} {cs : Array Value} {T : TypeId} (h : Lk W C cs T) (g : W.grownBy W' (some b)) (hb : C ≠ b) : Lk W' C cs T := by
  unfold Lk; rw [g.block C h.lt (by simpa using hb)]; exact h
theorem Lk.keep {W W' : World} {C : Nat} {cs : Array Value} {T : TypeId} (h : Lk W C cs T) (g : Below W.heap.size W W') : Lk W' C cs T := (g.block C h.lt).trans h
theorem Lk.alloc {W : World} {C : Nat} {cs : Array Value} {T : TypeId} (h : Lk W C cs T) (o : Obj) : Lk (W.alloc o) C cs T := h.keep ((Below.refl _ _).alloc (Nat.le_refl _) _)
theorem Lk.c {W : World} {C : Nat} {cs : Array Value} {T : TypeId} (h : Lk W C cs T) (j : Nat) (u : Value) (hu : cs[j]? = some u) : W.cell? ⟨C, j, none⟩ = some u := by
  rw [Lib.cell_of_heap h]; exact hu
theorem Lk.z {W : World} {C : Nat} {cs : Array Value} {T : TypeId} (h : Lk W C cs T) (j : Nat) : W.frozen? ⟨C, j, none⟩ = false := Lib.frozen_of_heap h j
theorem Lk.set {W : World} {C : Nat} {cs cs' : Array Value} {T : TypeId} (h : Lk W C cs T) (j : Nat) (u : Value) (hu : cs.setIfInBounds j u = cs') : Lk (W.setCell ⟨C, j, none⟩ u) C cs' T := by
  subst hu
  unfold Lk at *
  simp [World.setCell, Array.getElem?_modify, h]
theorem Lk.other {W : World} {C : Nat} {cs : Array Value} {T : TypeId} (h : Lk W C cs T) {a : Addr} (u : Value) (hne : C ≠ a.block) : Lk (W.setCell a u) C cs T := by
  unfold Lk at *
  rw [Below.heap_setCell _ _ _ _ hne]; exact h

theorem Lk.c4 {W : World} {C : Nat} {a b c d : Value} {T : TypeId} (h : Lk W C #[a, b, c, d] T) : W.cell? ⟨C, 0, none⟩ = some a ∧ W.cell? ⟨C, 1, none⟩ = some b ∧ W.cell? ⟨C, 2, none⟩ = some c ∧ W.cell? ⟨C, 3, none⟩ = some d ∧ W.frozen? ⟨C, 0, none⟩ = false ∧ W.frozen? ⟨C, 1, none⟩ = false ∧ W.frozen? ⟨C, 2, none⟩ = false ∧ W.frozen? ⟨C, 3, none⟩ = false :=
  ⟨h.c 0 _ rfl, h.c 1 _ rfl, h.c 2 _ rfl, h.c 3 _ rfl, h.z 0, h.z 1, h.z 2, h.z 3⟩

/-- a reader in block b; w: the world in which the call began -/
structure St (w : World) (b : Nat) (s : ByteArray) (st : Option (List UInt8)) (W : World) : Prop where
  rd : RdAt W b s st
  grow : w.grownBy W (some b)
  old : b < w.heap.size
theorem St.start {w : World} {b : Nat} {s : ByteArray} {st : Option (List UInt8)} (h : RdAt w b s st) : St w b s st w := ⟨h, grown_refl _ _, h.lt⟩
theorem St.call {w : World} {b : Nat} {s : ByteArray} {st st' : Option (List UInt8)} {W W' : World} (h : St w b s st W) (h1 : RdAt W' b s st') (h2 : W.grownBy W' (some b)) : St w b s st' W' := ⟨h1, grown_trans h.grow h2, h.old⟩
theorem St.keep {w : World} {b : Nat} {s : ByteArray} {st : Option (List UInt8)} {W W' : World} (h : St w b s st W) (hb : Below W.heap.size W W') : St w b s st W' := h.call (h.rd.keep hb) (below_grow hb)
theorem St.alloc {w : World} {b : Nat} {s : ByteArray} {st : Option (List UInt8)} {W : World} (h : St w b s st W) (o : Obj) : St w b s st (W.alloc o) := h.keep ((Below.refl _ _).alloc (Nat.le_refl _) _)
theorem St.set {w : World} {b : Nat} {s : ByteArray} {st : Option (List UInt8)} {W : World} (h : St w b s st W) {a : Addr} {u : Value} (ha : w.heap.size ≤ a.block) : St w b s st (W.setCell a u) := by
  have ho := h.old
  obtain ⟨q, h1, h2, h3⟩ := h.rd
  refine ⟨⟨q, h1, ?_, h3⟩, ⟨h.grow.os, h.grow.tape, h.grow.output, by have := h.grow.size; simp [World.setCell]; omega, fun k hk hkb => ?_⟩, ho⟩
  · rw [Below.heap_setCell _ _ _ _ (by omega)]; exact h2
  · rw [Below.heap_setCell _ _ _ _ (by omega)]; exact h.grow.block k hk hkb
theorem St.bad {w : World} {b : Nat} {s : ByteArray} {st : Option (List UInt8)} {W : World} (h : St w b s st W) : St w b s none (W.setCell ⟨b, 2, none⟩ (.bool true)) := by
  obtain ⟨h1, h2⟩ := h.rd.setBad W (Below.refl _ _)
  exact h.call h1 h2
theorem St.fin {α : Type} {p : Ps α} {t : α} {w : World} {b : Nat} {s : ByteArray} {st st' : Option (List UInt8)} {W : World} (h : St w b s st' W) (hr : Rd p st t st') : RdAt W b s st' ∧ w.grownBy W (some b) ∧ Rd p st t st' := ⟨h.rd, h.grow, hr⟩
theorem St.size {w : World} {b : Nat} {s : ByteArray} {st : Option (List UInt8)} {W : World} (h : St w b s st W) : w.heap.size ≤ W.heap.size := h.grow.size
theorem St.app {w w1 w2 : World} {b : Nat} {s : ByteArray} {st : Option (List UInt8)} {o : Obj} {v : Value} (h : St w b s st w1) (hv : ∀ k, v.ownBlock = some k → w.heap.size ≤ k) (hg : (w1.alloc o).grownBy w2 v.ownBlock) : St w b s st w2 :=
  ⟨h.rd.app (fun e => by have := hv _ e; have := h.old; omega) hg, app_grown h.grow hv hg, h.old⟩

theorem l1entry_any (b : Nat) (s : ByteArray) (st : Option (List UInt8)) (w : World) (hs : s.size ≤ 1000000000) (h : RdAt w b s st) :
    Calls Try.prog 101 #[.pointer (some ⟨b, 0, none⟩)] w fun e w' => ∃ (t : C4) (st' : Option (List UInt8)), e = .returned (.agg #[.int .i64 t.kind, .string t.text, .int .i64 t.a, .int .i64 t.b]) ∧ t.text.size ≤ 255 ∧ RdAt w' b s st' ∧ w.grownBy w' (some b) ∧ Rd rEntry st t st' := by
  have H1 := fun st w h => l1one_any b s st w hs h
  have H2 := fun st w h => l1two_any b s st w hs h
  have H3 := fun st n w hn h => l1text_any b s st n w hs hn h
  have S0 := St.start h
  have K0 := Lk.new w #[.int .i64 0, .string ⟨#[]⟩, .int .i64 0, .int .i64 0] 75
  have HB := h.lt
  clear h
  go_enter Try.func101, Try.ntmps101
  go_wp2_with fail
  refine (H1 _ _ (S0.alloc _).rd).mono ?_
  rintro e w1 ⟨k, st1, rfl, hk, h1, g1, r1⟩
  have S1 := (S0.alloc _).call h1 g1
  have K1 := K0.call g1 (by omega)
  have HZ := K1.lt
  have R1 := hid r1
  clear h1 g1 r1 S0 K0
  by_cases k1 : k = 1
  · subst k1
    go_wp2_with fail
    refine (H1 _ _ (S1.alloc _).rd).mono ?_
    rintro e w2 ⟨n, st2, rfl, hn, h2, g2, r2⟩
    have S2 := (S1.alloc _).call h2 g2
    have K2 := (K1.alloc _).call g2 (by omega)
    have C2 := (Lk.new w1 _ _).call g2 (by omega)
    go_wp2_with fail
    refine (H3 _ _ _ (by omega) S2.rd).mono ?_
    rintro e w3 ⟨x, st3, rfl, hx, h3, g3, r3⟩
    have HS := hid (S2.call h3 g3)
    have K3 := K2.call g3 (by omega)
    have C3 := C2.call g3 (by omega)
    obtain ⟨p0, p1, p2, p3, y0, y1, y2, y3⟩ := K3.c4
    obtain ⟨q0, q1, q2, q3, z0, z1, z2, z3⟩ := C3.c4
    have hne : w1.heap.size ≠ w.heap.size := by omega
    have HR := hid (show Rd rEntry st ⟨1, x, 0, 0⟩ st3 from by
      refine R1.out.bind ?_
      rw [if_pos (by simp)]
      refine r2.bind ?_
      refine r3.bind ?_
      exact Rd.pure)
    clear S1 S2 R1 h2 g2 r2 h3 g3 r3 H1 H2 H3 K1 K2 K3 C2 C3
    go_wp2
    refine bodyPost_ret (v := .agg #[.int .i64 1, .string x, .int .i64 0, .int .i64 0]) (by simp [results, Try.results101, go_sem, p0, p1, p2, p3]) rfl ?_
    refine ⟨⟨1, x, 0, 0⟩, st3, rfl, (by show x.size ≤ 255; omega), St.fin ?_ HR.out⟩
    repeat' (first | refine St.set ?_ (by dsimp only; omega) | exact HS.out)
  · by_cases k2 : k = 2
    · subst k2
      go_wp2_with fail
      refine (H2 _ _ (S1.alloc _).rd).mono ?_
      rintro e w2 ⟨x, st2, rfl, hx, h2, g2, r2⟩
      have S2 := (S1.alloc _).call h2 g2
      have K2 := (K1.alloc _).call g2 (by omega)
      have C2 := (Lk.new w1 _ _).call g2 (by omega)
      have HS := hid S2
      obtain ⟨p0, p1, p2, p3, y0, y1, y2, y3⟩ := K2.c4
      obtain ⟨q0, q1, q2, q3, z0, z1, z2, z3⟩ := C2.c4
      have hne : w1.heap.size ≠ w.heap.size := by omega
      have HR := hid (show Rd rEntry st ⟨2, empty, x, 0⟩ st2 from by
        refine R1.out.bind ?_
        rw [if_neg (by simp), if_pos (by simp)]
        refine r2.bind ?_
        exact Rd.pure)
      clear S1 S2 R1 h2 g2 r2 H1 H2 H3 K1 K2 C2
      go_wp2
      refine bodyPost_ret (v := .agg #[.int .i64 2, .string empty, .int .i64 x, .int .i64 0]) (by simp [results, Try.results101, go_sem, empty, p0, p1, p2, p3]) rfl ?_
      refine ⟨⟨2, empty, x, 0⟩, st2, rfl, Nat.zero_le _, St.fin ?_ HR.out⟩
      repeat' (first | refine St.set ?_ (by dsimp only; omega) | exact HS.out)
    · by_cases k3 : 3 ≤ k ∧ k ≤ 6
      · have HK : ∀ w2 x st2 y st3, Rd rTwo st1 x st2 → Rd rTwo st2 y st3 → St w b s st3 w2 → Hid (Rd rEntry st ⟨k, empty, x, y⟩ st3) := fun w2 x st2 y st3 r2 r3 _ => by
          refine R1.out.bind ?_
          rw [if_neg (by omega), if_neg (by omega), if_pos (by omega)]
          refine r2.bind ?_
          refine r3.bind ?_
          exact Rd.pure
        have k4 : k = 3 ∨ k = 4 ∨ k = 5 ∨ k = 6 := by omega
        clear k1 k2 k3 R1
        obtain ⟨Z, HZ2⟩ : ∃ Z : Int, Hid (Z = (k : Int)) := ⟨_, rfl⟩
        rcases k4 with rfl | rfl | rfl | rfl
        all_goals
          go_wp2_with fail
          refine (H2 _ _ (S1.alloc _).rd).mono ?_
          rintro e w2 ⟨x, st2, rfl, hx, h2, g2, r2⟩
          have S2 := (S1.alloc _).call h2 g2
          have K2 := (K1.alloc _).call g2 (by omega)
          have C2 := (Lk.new w1 _ _).call g2 (by omega)
          obtain ⟨q0, q1, q2, q3, z0, z1, z2, z3⟩ := C2.c4
          have hne : w1.heap.size ≠ w.heap.size := by omega
          have S3 := S2.set (a := ⟨w1.heap.size, 2, none⟩) (u := .int .i64 x) (by dsimp only; omega)
          go_wp2_with fail
          refine (H2 _ _ S3.rd).mono ?_
          rintro e w3 ⟨y, st3, rfl, hy, h3, g3, r3⟩
          have HS := hid (S3.call h3 g3)
          have HR := HK w3 _ _ _ _ r2 r3 HS.out
          have K3 := (K2.other (a := ⟨w1.heap.size, 2, none⟩) (.int .i64 x) (by dsimp only; omega)).call g3 (by omega)
          have C3 := (C2.set 2 (.int .i64 x) rfl).call g3 (by omega)
          clear q0 q1 q2 q3 z0 z1 z2 z3
          obtain ⟨p0, p1, p2, p3, y0, y1, y2, y3⟩ := K3.c4
          obtain ⟨q0, q1, q2, q3, z0, z1, z2, z3⟩ := C3.c4
          clear S1 S2 S3 h2 g2 r2 h3 g3 r3 H1 H2 H3 K1 K2 C2 K3 C3 HK
          go_wp2
          refine bodyPost_ret (v := .agg #[.int .i64 Z, .string empty, .int .i64 x, .int .i64 y]) (by simp [results, Try.results101, go_sem, empty, p0, p1, p2, p3, HZ2.out]) rfl ?_
          refine ⟨⟨Z, empty, x, y⟩, st3, rfl, Nat.zero_le _, St.fin ?_ (by rw [HZ2.out]; exact HR.out)⟩
          repeat' (first | refine St.set ?_ (by dsimp only; omega) | exact HS.out)
      · have HR := hid (show Rd rEntry st ⟨k, empty, 0, 0⟩ none from by
          refine R1.out.bind ?_
          rw [if_neg (by omega), if_neg (by omega), if_neg (by omega)]
          exact Rd.fail)
        have e1 : ((k : Int) == 1) = false := by rw [beq_eq_false_iff_ne]; omega
        have e2 : ((k : Int) == 2) = false := by rw [beq_eq_false_iff_ne]; omega
        have e3 : ((k : Int) == 3) = false := by rw [beq_eq_false_iff_ne]; omega
        have e4 : ((k : Int) == 4) = false := by rw [beq_eq_false_iff_ne]; omega
        have e5 : ((k : Int) == 5) = false := by rw [beq_eq_false_iff_ne]; omega
        have e6 : ((k : Int) == 6) = false := by rw [beq_eq_false_iff_ne]; omega
        have HS := hid S1
        obtain ⟨p0, p1, p2, p3, y0, y1, y2, y3⟩ := K1.c4
        obtain ⟨a, ha, hr, c0, c1, c2, fz, hu1, hu2⟩ := S1.rd.cells
        obtain ⟨_, _, _, _, _, d2, dz, _, _⟩ := (S1.alloc (.cells #[.int .i64 (k : Int), .string ⟨#[]⟩, .int .i64 0, .int .i64 0] 75)).rd.cells
        have f2 := fz 2
        have f3 := dz 2
        clear hu1 hu2 c0 c1 hr ha dz
        have hne : w1.heap.size ≠ w.heap.size := by omega
        have hnb : ¬ b = w1.heap.size := by omega
        have hnc : ¬ w.heap.size = b := by omega
        have hnd : ¬ w.heap.size = w1.heap.size := by omega
        have hnf : ¬ w1.heap.size = b := by omega
        obtain ⟨t0, t1, t2, t3, x0, x1, x2, x3⟩ := ((K1.alloc (.cells #[.int .i64 (k : Int), .string ⟨#[]⟩, .int .i64 0, .int .i64 0] 75)).other (a := ⟨b, 2, none⟩) (.bool true) hnc).c4
        clear S1 R1 H1 H2 H3 K1 k1 k2 k3 fz
        go_wp2
        refine bodyPost_ret (v := .agg #[.int .i64 k, .string empty, .int .i64 0, .int .i64 0]) (by simp [results, Try.results101, go_sem, empty, t0, t1, t2, t3]) rfl ?_
        refine ⟨⟨k, empty, 0, 0⟩, none, rfl, Nat.zero_le _, St.fin ?_ HR.out⟩
        repeat' (first | exact (HS.out.alloc _).bad | refine St.set ?_ (by dsimp only; omega))

end Go.Proofs.Ytnjfaikhiimdjaa
