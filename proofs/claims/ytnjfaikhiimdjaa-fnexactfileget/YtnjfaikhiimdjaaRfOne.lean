/- The program's reader of files: fields, traps, kinds, codes, entries. -/
import Derived.Test.YtnjfaikhiimdjaaRfSmall
namespace Go.Proofs.Ytnjfaikhiimdjaa
open Go.RowKit Fm
set_option maxHeartbeats 1000000
set_option maxRecDepth 20000
set_option linter.unusedVariables false

/-- a reader beside two variables of the call: M, and R that holds what is given back; w: the world in which the call began -/
structure PBq (w : World) (b : Nat) (s : ByteArray) (M R : Nat) (T : TypeId) (zs : Array Value) (r : List UInt8) (cs : Array Value) (W : World) : Prop where
  st : Pq w b s r W
  m : Lk W M cs T
  r : Lk W R zs T
  mn : w.heap.size ≤ M
  rn : w.heap.size ≤ R
  mr : M ≠ R
theorem PBq.call {w : World} {b : Nat} {s : ByteArray} {M R : Nat} {T : TypeId} {zs cs : Array Value} {r r' : List UInt8} {W W' : World} (h : PBq w b s M R T zs r cs W) (h1 : PAt W' b s r') (h2 : W.grownBy W' (some b)) : PBq w b s M R T zs r' cs W' :=
  ⟨h.st.call h1 h2, h.m.call h2 (by have := h.mn; have := h.st.old; omega), h.r.call h2 (by have := h.rn; have := h.st.old; omega), h.mn, h.rn, h.mr⟩
theorem PBq.set {w : World} {b : Nat} {s : ByteArray} {M R : Nat} {T : TypeId} {zs cs cs' : Array Value} {r : List UInt8} {W : World} (h : PBq w b s M R T zs r cs W) (j : Nat) (u : Value) (hu : cs.setIfInBounds j u = cs') : PBq w b s M R T zs r cs' (W.setCell ⟨M, j, none⟩ u) :=
  ⟨h.st.set (by exact h.mn), h.m.set j u hu, h.r.other u (by exact h.mr.symm), h.mn, h.rn, h.mr⟩
theorem PBq.keep {w : World} {b : Nat} {s : ByteArray} {M R : Nat} {T : TypeId} {zs cs : Array Value} {r : List UInt8} {W W' : World} (h : PBq w b s M R T zs r cs W) (hb : Below W.heap.size W W') : PBq w b s M R T zs r cs W' :=
  h.call (h.st.rd.keep hb) (below_grow hb)
/-- two new variables -/
theorem PBq.new2 {w : World} {b : Nat} {s : ByteArray} {r : List UInt8} (zs cs : Array Value) (T : TypeId) (h : PAt w b s r) : PBq w b s (w.heap.size + 1) w.heap.size T zs r cs ((w.alloc (.cells zs T)).alloc (.cells cs T)) :=
  ⟨((Pq.start h).alloc _).alloc _, by have := Lk.new (w.alloc (.cells zs T)) cs T; simpa using this, (Lk.new w zs T).alloc _, by omega, Nat.le_refl _, by omega⟩
theorem Lk.c3 {W : World} {C : Nat} {a b c : Value} {T : TypeId} (h : Lk W C #[a, b, c] T) : W.cell? ⟨C, 0, none⟩ = some a ∧ W.cell? ⟨C, 1, none⟩ = some b ∧ W.cell? ⟨C, 2, none⟩ = some c ∧ W.frozen? ⟨C, 0, none⟩ = false ∧ W.frozen? ⟨C, 1, none⟩ = false ∧ W.frozen? ⟨C, 2, none⟩ = false :=
  ⟨h.c 0 _ rfl, h.c 1 _ rfl, h.c 2 _ rfl, h.z 0, h.z 1, h.z 2⟩

abbrev VField (x : MField) (e : Ending) (_ : World) : Prop := e = .returned (.agg #[.int .i64 x.flags, .int .i64 x.name, .int .i64 x.typ])
theorem rfField_any (b : Nat) (s : ByteArray) (r : List UInt8) (w : World) (hs : s.size ≤ 1000000000) (h : PAt w b s r) :
    Calls Try.prog 83 #[.pointer (some ⟨b, 0, none⟩)] w (RfPost rField b s r w VField) := by
  have H1 := fun r w h => rfOne_any b s r w hs h
  have H2 := fun r w h => rfTwo_any b s r w hs h
  have B0 := hid (PBq.new2 #[.int .i64 0, .int .i64 0, .int .i64 0] #[.int .i64 0, .int .i64 0, .int .i64 0] 78 h)
  clear h
  go_enter Try.func83, Try.ntmps83
  go_wp2_with fail
  refine (H1 _ _ B0.out.st.rd).mono ?_
  rintro e w1 (⟨x0, r1, p0, ⟨x0, rfl, hx0, rfl⟩, h, g⟩ | ⟨p0, ⟨n, rfl⟩, g⟩)
  rotate_left
  · have G := hid g
    have P0 := hid p0
    clear p0 g H1 H2
    go_wp2
    exact ⟨rfl, B0.out.st.no G.out (by unfold rField; rw [pb_none P0.out])⟩
  have P0 := hid p0
  have C1 := B0.out.call h g
  have d0 := C1.m.c 0 _ rfl
  have f0 := C1.m.z 0
  have B1 := hid (C1.set (cs' := #[.int .i64 (x0 : Int), .int .i64 0, .int .i64 0]) 0 (.int .i64 (x0 : Int)) rfl)
  clear p0 h g B0 C1
  go_wp2_with fail
  refine (H2 _ _ B1.out.st.rd).mono ?_
  rintro e w2 (⟨x1, r2, p1, ⟨x1, rfl, hx1, rfl⟩, h, g⟩ | ⟨p1, ⟨n, rfl⟩, g⟩)
  rotate_left
  · have G := hid g
    have P1 := hid p1
    clear p1 g H1 H2
    go_wp2
    exact ⟨rfl, B1.out.st.no G.out (by unfold rField; rw [pb_some P0.out, pb_none P1.out])⟩
  have P1 := hid p1
  have C2 := B1.out.call h g
  have d1 := C2.m.c 1 _ rfl
  have f1 := C2.m.z 1
  have B2 := hid (C2.set (cs' := #[.int .i64 (x0 : Int), .int .i64 (x1 : Int), .int .i64 0]) 1 (.int .i64 (x1 : Int)) rfl)
  clear p1 h g B1 C2
  go_wp2_with fail
  refine (H2 _ _ B2.out.st.rd).mono ?_
  rintro e w3 (⟨x2, r3, p2, ⟨x2, rfl, hx2, rfl⟩, h, g⟩ | ⟨p2, ⟨n, rfl⟩, g⟩)
  rotate_left
  · have G := hid g
    have P2 := hid p2
    clear p2 g H1 H2
    go_wp2
    exact ⟨rfl, B2.out.st.no G.out (by unfold rField; rw [pb_some P0.out, pb_some P1.out, pb_none P2.out])⟩
  have P2 := hid p2
  have C3 := B2.out.call h g
  have HS := hid C3.st
  obtain ⟨q0, q1, q2, z0, z1, z2⟩ := C3.m.c3
  obtain ⟨p0_, p1_, p2_, y0, y1, y2⟩ := C3.r.c3
  clear p2 h g B2 C3 H1 H2
  go_wp2
  refine bodyPost_ret (v := .agg #[.int .i64 (x0 : Int), .int .i64 (x1 : Int), .int .i64 (x2 : Int)]) (by simp [results, Try.results83, go_sem, p0_, p1_, p2_]) rfl ?_
  refine Pq.yes (x := ⟨x0, x1, x2⟩) (r' := r3) ?_ (by unfold rField; rw [pb_some P0.out, pb_some P1.out, pb_some P2.out, pp_some]) rfl
  repeat' (first | refine Pq.set ?_ (by dsimp only; omega) | exact HS.out)

abbrev VTrap (x : MTrap) (e : Ending) (_ : World) : Prop := e = .returned (.agg #[.int .i64 x.from_, .int .i64 x.to_, .int .i64 x.at_, .int .i64 x.cls])
theorem rfTrap_any (b : Nat) (s : ByteArray) (r : List UInt8) (w : World) (hs : s.size ≤ 1000000000) (h : PAt w b s r) :
    Calls Try.prog 118 #[.pointer (some ⟨b, 0, none⟩)] w (RfPost rTrap b s r w VTrap) := by
  have H1 := fun r w h => rfOne_any b s r w hs h
  have H2 := fun r w h => rfTwo_any b s r w hs h
  have B0 := hid (PBq.new2 #[.int .i64 0, .int .i64 0, .int .i64 0, .int .i64 0] #[.int .i64 0, .int .i64 0, .int .i64 0, .int .i64 0] 120 h)
  clear h
  go_enter Try.func118, Try.ntmps118
  go_wp2_with fail
  refine (H2 _ _ B0.out.st.rd).mono ?_
  rintro e w1 (⟨x0, r1, p0, ⟨x0, rfl, hx0, rfl⟩, h, g⟩ | ⟨p0, ⟨n, rfl⟩, g⟩)
  rotate_left
  · have G := hid g
    have P0 := hid p0
    clear p0 g H1 H2
    go_wp2
    exact ⟨rfl, B0.out.st.no G.out (by unfold rTrap; rw [pb_none P0.out])⟩
  have P0 := hid p0
  have C1 := B0.out.call h g
  have d0 := C1.m.c 0 _ rfl
  have f0 := C1.m.z 0
  have B1 := hid (C1.set (cs' := #[.int .i64 (x0 : Int), .int .i64 0, .int .i64 0, .int .i64 0]) 0 (.int .i64 (x0 : Int)) rfl)
  clear p0 h g B0 C1
  go_wp2_with fail
  refine (H2 _ _ B1.out.st.rd).mono ?_
  rintro e w2 (⟨x1, r2, p1, ⟨x1, rfl, hx1, rfl⟩, h, g⟩ | ⟨p1, ⟨n, rfl⟩, g⟩)
  rotate_left
  · have G := hid g
    have P1 := hid p1
    clear p1 g H1 H2
    go_wp2
    exact ⟨rfl, B1.out.st.no G.out (by unfold rTrap; rw [pb_some P0.out, pb_none P1.out])⟩
  have P1 := hid p1
  have C2 := B1.out.call h g
  have d1 := C2.m.c 1 _ rfl
  have f1 := C2.m.z 1
  have B2 := hid (C2.set (cs' := #[.int .i64 (x0 : Int), .int .i64 (x1 : Int), .int .i64 0, .int .i64 0]) 1 (.int .i64 (x1 : Int)) rfl)
  clear p1 h g B1 C2
  go_wp2_with fail
  refine (H2 _ _ B2.out.st.rd).mono ?_
  rintro e w3 (⟨x2, r3, p2, ⟨x2, rfl, hx2, rfl⟩, h, g⟩ | ⟨p2, ⟨n, rfl⟩, g⟩)
  rotate_left
  · have G := hid g
    have P2 := hid p2
    clear p2 g H1 H2
    go_wp2
    exact ⟨rfl, B2.out.st.no G.out (by unfold rTrap; rw [pb_some P0.out, pb_some P1.out, pb_none P2.out])⟩
  have P2 := hid p2
  have C3 := B2.out.call h g
  have d2 := C3.m.c 2 _ rfl
  have f2 := C3.m.z 2
  have B3 := hid (C3.set (cs' := #[.int .i64 (x0 : Int), .int .i64 (x1 : Int), .int .i64 (x2 : Int), .int .i64 0]) 2 (.int .i64 (x2 : Int)) rfl)
  clear p2 h g B2 C3
  go_wp2_with fail
  refine (H2 _ _ B3.out.st.rd).mono ?_
  rintro e w4 (⟨x3, r4, p3, ⟨x3, rfl, hx3, rfl⟩, h, g⟩ | ⟨p3, ⟨n, rfl⟩, g⟩)
  rotate_left
  · have G := hid g
    have P3 := hid p3
    clear p3 g H1 H2
    go_wp2
    exact ⟨rfl, B3.out.st.no G.out (by unfold rTrap; rw [pb_some P0.out, pb_some P1.out, pb_some P2.out, pb_none P3.out])⟩
  have P3 := hid p3
  have C4 := B3.out.call h g
  have HS := hid C4.st
  obtain ⟨q0, q1, q2, q3, z0, z1, z2, z3⟩ := C4.m.c4
  obtain ⟨p0_, p1_, p2_, p3_, y0, y1, y2, y3⟩ := C4.r.c4
  clear p3 h g B3 C4 H1 H2
  go_wp2
  refine bodyPost_ret (v := .agg #[.int .i64 (x0 : Int), .int .i64 (x1 : Int), .int .i64 (x2 : Int), .int .i64 (x3 : Int)]) (by simp [results, Try.results118, go_sem, p0_, p1_, p2_, p3_]) rfl ?_
  refine Pq.yes (x := ⟨x0, x1, x2, x3⟩) (r' := r4) ?_ (by unfold rTrap; rw [pb_some P0.out, pb_some P1.out, pb_some P2.out, pb_some P3.out, pp_some]) rfl
  repeat' (first | refine Pq.set ?_ (by dsimp only; omega) | exact HS.out)

end Go.Proofs.Ytnjfaikhiimdjaa
