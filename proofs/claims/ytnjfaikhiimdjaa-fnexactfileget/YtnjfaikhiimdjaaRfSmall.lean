/- The program's reader of files: two bytes, counts, texts, the end. -/
import Derived.Test.YtnjfaikhiimdjaaRfBase
import Derived.Test.YtnjfaikhiimdjaaRdKinds
import Derived.Test.YtnjfaikhiimdjaaShelf
import Derived.Deep.RegionHeld
namespace Go.Proofs.Ytnjfaikhiimdjaa
open Go.RowKit Fm
set_option maxHeartbeats 1000000
set_option maxRecDepth 20000
set_option linter.unusedVariables false

theorem pb_some {α γ : Type} {p : Ps α} {q : α → Ps γ} {r r1 : List UInt8} {x : α} (h : p r = some (x, r1)) : pbind p q r = q x r1 := by simp [pbind, h]
theorem pb_none {α γ : Type} {p : Ps α} {q : α → Ps γ} {r : List UInt8} (h : p r = none) : pbind p q r = none := by simp [pbind, h]
theorem pp_some {α : Type} {x : α} {r : List UInt8} : ppure x r = some (x, r) := rfl

/-- a reader in block b; w: the world in which the call began -/
structure Pq (w : World) (b : Nat) (s : ByteArray) (r : List UInt8) (W : World) : Prop where
  rd : PAt W b s r
  grow : w.grownBy W (some b)
  old : b < w.heap.size
theorem Pq.start {w : World} {b : Nat} {s : ByteArray} {r : List UInt8} (h : PAt w b s r) : Pq w b s r w := ⟨h, grown_refl _ _, h.lt⟩
theorem Pq.call {w : World} {b : Nat} {s : ByteArray} {r r' : List UInt8} {W W' : World} (h : Pq w b s r W) (h1 : PAt W' b s r') (h2 : W.grownBy W' (some b)) : Pq w b s r' W' := ⟨h1, grown_trans h.grow h2, h.old⟩
theorem Pq.keep {w : World} {b : Nat} {s : ByteArray} {r : List UInt8} {W W' : World} (h : Pq w b s r W) (hb : Below W.heap.size W W') : Pq w b s r W' := h.call (h.rd.keep hb) (below_grow hb)
theorem Pq.alloc {w : World} {b : Nat} {s : ByteArray} {r : List UInt8} {W : World} (h : Pq w b s r W) (o : Obj) : Pq w b s r (W.alloc o) := h.keep ((Below.refl _ _).alloc (Nat.le_refl _) _)
theorem Pq.set {w : World} {b : Nat} {s : ByteArray} {r : List UInt8} {W : World} (h : Pq w b s r W) {a : Addr} {u : Value} (ha : w.heap.size ≤ a.block) : Pq w b s r (W.setCell a u) := by
  have ho := h.old
  obtain ⟨q, h1, h2, h3⟩ := h.rd
  refine ⟨⟨q, h1, ?_, h3⟩, ⟨h.grow.os, h.grow.tape, h.grow.output, by have := h.grow.size; simp [World.setCell]; omega, fun k hk hkb => ?_⟩, ho⟩
  · rw [Below.heap_setCell _ _ _ _ (by omega)]; exact h2
  · rw [Below.heap_setCell _ _ _ _ (by omega)]; exact h.grow.block k hk hkb
theorem Pq.size {w : World} {b : Nat} {s : ByteArray} {r : List UInt8} {W : World} (h : Pq w b s r W) : w.heap.size ≤ W.heap.size := h.grow.size
theorem PAt.app {w1 w2 : World} {b : Nat} {o : Obj} {v : Value} {s : ByteArray} {r : List UInt8} (h : PAt w1 b s r) (hv : v.ownBlock ≠ some b) (hg : (w1.alloc o).grownBy w2 v.ownBlock) : PAt w2 b s r := by
  have hl := h.lt
  obtain ⟨a, h1, h2, h3⟩ := h
  refine ⟨a, h1, ?_, h3⟩
  rw [hg.block b (by simp; omega) (fun e => hv e.symm), Below.heap_alloc w1 o b hl]
  exact h2
theorem Pq.app {w w1 w2 : World} {b : Nat} {s : ByteArray} {r : List UInt8} {o : Obj} {v : Value} (h : Pq w b s r w1) (hv : ∀ k, v.ownBlock = some k → w.heap.size ≤ k) (hg : (w1.alloc o).grownBy w2 v.ownBlock) : Pq w b s r w2 :=
  ⟨h.rd.app (fun e => by have := hv _ e; have := h.old; omega) hg, app_grown h.grow hv hg, h.old⟩
/-- the ends of a walk -/
theorem Pq.yes {α : Type} {p : Ps α} {V : α → Ending → World → Prop} {w : World} {b : Nat} {s : ByteArray} {r r' : List UInt8} {W : World} {x : α} {e : Ending} (h : Pq w b s r' W) (hp : p r = some (x, r')) (hv : V x e W) : RfPost p b s r w V e W := .inl ⟨x, r', hp, hv, h.rd, h.grow⟩
theorem Pq.no {α : Type} {p : Ps α} {V : α → Ending → World → Prop} {w : World} {b : Nat} {s : ByteArray} {r r' : List UInt8} {W W' : World} {n : Int} (h : Pq w b s r' W) (g : W.grownBy W' (some b)) (hp : p r = none) : RfPost p b s r w V (.panicked [{ v := .iface 138 (.agg #[.int .i64 n]), recovered := false }]) W' := .inr ⟨hp, ⟨n, rfl⟩, grown_trans h.grow g⟩
abbrev VInt (m : Nat) (x : Int) (e : Ending) (_ : World) : Prop := ∃ n : Nat, x = n ∧ n < m ∧ e = .returned (.int .i64 n)

theorem rfTwo_any (b : Nat) (s : ByteArray) (r : List UInt8) (w : World) (hs : s.size ≤ 1000000000) (h : PAt w b s r) :
    Calls Try.prog 82 #[.pointer (some ⟨b, 0, none⟩)] w (RfPost rTwo b s r w (VInt 65536)) := by
  have H1 := fun r w h => rfOne_any b s r w hs h
  have S0 := Pq.start h
  clear h
  go_enter Try.func82, Try.ntmps82
  go_wp2_with fail
  refine (H1 _ _ S0.rd).mono ?_
  rintro e w1 (⟨x, r1, p1, ⟨x, rfl, hx, rfl⟩, h1, g1⟩ | ⟨p1, ⟨n, rfl⟩, g1⟩)
  · have S1 := hid (S0.call h1 g1)
    have P1 := hid p1
    clear p1 h1 g1 S0
    go_wp2_with fail
    refine (H1 _ _ S1.out.rd).mono ?_
    rintro e w2 (⟨y, r2, p2, ⟨y, rfl, hy, rfl⟩, h2, g2⟩ | ⟨p2, ⟨n, rfl⟩, g2⟩)
    · have S2 := hid (S1.out.call h2 g2)
      have P2 := hid p2
      clear p2 h2 g2 S1 H1
      go_wp2
      go_ret
      refine S2.out.yes (x := ((x * 256 + y : Nat) : Int)) ?_ ⟨x * 256 + y, rfl, by omega, ret_i64 (by go_num)⟩
      unfold rTwo
      rw [pb_some P1.out, pb_some P2.out, pp_some, show (((x * 256 + y : Nat)) : Int) = (x : Int) * 256 + y by omega]
    · have G2 := hid g2
      have P2 := hid p2
      clear p2 g2 H1
      go_wp2
      exact ⟨rfl, S1.out.no G2.out (by unfold rTwo; rw [pb_some P1.out, pb_none P2.out])⟩
  · have G1 := hid g1
    have P1 := hid p1
    clear p1 g1 H1
    go_wp2
    exact ⟨rfl, S0.no G1.out (by unfold rTwo; rw [pb_none P1.out])⟩

theorem rfCount_any (b : Nat) (s : ByteArray) (m : Nat) (r : List UInt8) (w : World) (hs : s.size ≤ 1000000000) (hm : m ≤ 255) (h : PAt w b s r) :
    Calls Try.prog 79 #[.pointer (some ⟨b, 0, none⟩), .int .i64 m] w (RfPost (rCount m) b s r w (VInt (m + 1))) := by
  have H1 := fun r w h => rfOne_any b s r w hs h
  have H2 := fun r w h => refuse_any b s r w h
  have S0 := Pq.start h
  clear h
  go_enter Try.func79, Try.ntmps79
  go_wp2_with fail
  refine (H1 _ _ S0.rd).mono ?_
  rintro e w1 (⟨x, r1, p1, ⟨x, rfl, hx, rfl⟩, h1, g1⟩ | ⟨p1, ⟨n, rfl⟩, g1⟩)
  · have S1 := hid (S0.call h1 g1)
    have P1 := hid p1
    clear p1 h1 g1 S0 H1
    by_cases hxm : x ≤ m
    · clear H2
      go_wp2
      go_ret
      refine S1.out.yes (x := (x : Int)) ?_ ⟨x, rfl, by omega, rfl⟩
      unfold rCount
      rw [pb_some P1.out, if_pos (by omega), pp_some]
    · go_wp2_with fail
      refine (H2 _ _ S1.out.rd).mono ?_
      rintro e w2 ⟨⟨n, rfl⟩, rfl⟩
      clear H2
      go_wp2
      refine ⟨rfl, S1.out.no (grown_refl _ _) ?_⟩
      unfold rCount
      rw [pb_some P1.out, if_neg (by omega)]
      rfl
  · have G1 := hid g1
    have P1 := hid p1
    clear p1 g1 H1 H2
    go_wp2
    exact ⟨rfl, S0.no G1.out (by unfold rCount; rw [pb_none P1.out])⟩

theorem cell_lt {w : World} {b j : Nat} {v : Value} (h : w.cell? ⟨b, j, none⟩ = some v) : b < w.heap.size := by
  rcases Nat.lt_or_ge b w.heap.size with h' | h'
  · exact h'
  · simp [World.cell?, Array.getElem?_eq_none h'] at h
theorem strClone_any (s : ByteArray) (w : World) (hs : s.size ≤ 1000000000) :
    Calls Try.prog 103 #[.string s] w fun e w' => e = .returned (.string s) ∧ Below w.heap.size w w' := by
  have H := Try.stringslite_Clone s w (by omega)
  go_enter Try.func103, Try.ntmps103
  go_wp2_with fail
  refine H.mono ?_
  rintro e w1 ⟨rfl, hb⟩
  have HB := hid hb
  clear hb H
  go_wp2
  go_ret
  exact ⟨rfl, HB.out⟩

abbrev VStr (x : ByteArray) (e : Ending) (_ : World) : Prop := e = .returned (.string x)
theorem rfBytes_any (b : Nat) (s : ByteArray) (m : Nat) (r : List UInt8) (w : World) (hs : s.size ≤ 1000000000) (hm : m ≤ 65535) (h : PAt w b s r) :
    Calls Try.prog 77 #[.pointer (some ⟨b, 0, none⟩), .int .i64 m] w (RfPost (rText m) b s r w VStr) := by
  obtain ⟨a, ha, hr, c0, c1, f0, f1, hu⟩ := h.cells
  by_cases hl : a + m ≤ s.size
  · have HB := hid (hu m ((a : Int) + m) rfl hl)
    have HR := hid (show rText m r = some (s.extract a (a + m), s.data.toList.drop (a + m)) from by
      unfold rText
      subst hr
      rw [if_pos (by simp; omega)]
      simp only [Int.toNat_natCast, List.drop_drop]
      rw [drop_take hl])
    have HC := fun l w' => strClone_any (s.extract l (a + m)) w' (by simp [ByteArray.size_extract]; omega)
    clear hr h hu
    go_enter Try.func77, Try.ntmps77
    go_wp2_with fail
    go_quiet (fail)
    go_wp2_with fail
    obtain ⟨z, hz⟩ : ∃ z : Nat, Hid (z = a + m) := ⟨_, rfl⟩
    have q0 : ((w.drewN nq).setCell ⟨b, 1, none⟩ (.int .i64 ((a : Int) + m))).cell? ⟨b, 0, none⟩ = some (.string s) := by simp [go_sem, c0]
    have q1 : ((w.drewN nq).setCell ⟨b, 1, none⟩ (.int .i64 ((a : Int) + m))).cell? ⟨b, 1, none⟩ = some (.int .i64 (z : Int)) := by simp [go_sem, c1, hz.out]
    have hW := hid (HB.out _ (below_drewN (Below.refl _ _) nq))
    have k1 : (z : Int) ≤ s.size := by have := hz.out; omega
    have k2 : IntKind.i64.wrap ((z : Int) - m) = (a : Int) := by have := hz.out; rw [IntKind.wrap_i64]; omega
    have k3 : (a : Int) ≤ z := by have := hz.out; omega
    have k4 : a ≤ z := by omega
    have k5 : z ≤ s.size := by omega
    have HC2 : ∀ l w', w'.cell? ⟨b, 0, none⟩ = some (.string s) → w'.cell? ⟨b, 1, none⟩ = some (.int .i64 (z : Int)) → Calls Try.prog 103 #[.string (s.extract l z)] w' fun e w2 => e = .returned (.string (s.extract l z)) ∧ Below w'.heap.size w' w2 ∧ w2.cell? ⟨b, 0, none⟩ = some (.string s) ∧ w2.cell? ⟨b, 1, none⟩ = some (.int .i64 (z : Int)) := by
      intro l w' y0 y1
      have := HC l w'
      rw [← hz.out] at this
      refine this.mono ?_
      rintro e w2 ⟨rfl, hb⟩
      exact ⟨rfl, hb, (hb_cell hb (cell_lt y0)).trans y0, (hb_cell hb (cell_lt y0)).trans y1⟩
    clear HB HC
    generalize (w.drewN nq).setCell ⟨b, 1, none⟩ (.int .i64 ((a : Int) + m)) = wz at q0 q1 hW ⊢
    go_region_held (fun w' => w'.cell? ⟨b, 0, none⟩ = some (.string s) ∧ w'.cell? ⟨b, 1, none⟩ = some (.int .i64 (z : Int))) (refine ⟨?_, ?_⟩ <;> assumption) ((go_at_call 103; refine (HC2 _ _ (by assumption) (by assumption)).mono ?_; rintro e w1 ⟨rfl, hb1, y0, y1⟩))
    have HB1 := hid hb1
    clear hb1
    go_wp2
    go_ret
    have hb : Below wz.heap.size wz w1 := (Below.refl wz.heap.size wz).drew.trans HB1.out
    exact .inl ⟨_, _, HR.out, ret_str (by rw [hz.out]), hW.out.1.keep hb, grown_trans hW.out.2 (below_grow hb)⟩
  · have HR := hid (show rText m r = none from by
      unfold rText
      subst hr
      rw [if_neg (by simp; omega)])
    have HB := fun w' (hw : Below w.heap.size w w') => refuse_any b s r w' (h.keep hw)
    clear hr h hu
    go_enter Try.func77, Try.ntmps77
    go_wp2_with fail
    go_quiet (fail)
    go_wp2_with fail
    refine (HB _ (below_drewN (Below.refl _ _) _)).mono ?_
    rintro e w1 ⟨⟨n, rfl⟩, rfl⟩
    go_wp2
    exact ⟨rfl, .inr ⟨HR.out, ⟨n, rfl⟩, below_grow (below_drewN (Below.refl _ _) _)⟩⟩

/-- the end: nothing is left, or it panics -/
theorem rfEnd_any (b : Nat) (s : ByteArray) (r : List UInt8) (w : World) (hs : s.size ≤ 1000000000) (h : PAt w b s r) :
    Calls Try.prog 45 #[.pointer (some ⟨b, 0, none⟩)] w fun e w' => (r = [] ∧ e = .returned (.tuple #[]) ∨ r ≠ [] ∧ Brk e) ∧ Below w.heap.size w w' := by
  obtain ⟨a, ha, hr, c0, c1, f0, f1, hu⟩ := h.cells
  have HB := fun w' (hw : Below w.heap.size w w') => refuse_any b s r w' (h.keep hw)
  by_cases he : a = s.size
  · have HR := hid (show r = [] from by rw [hr, he]; exact List.drop_eq_nil_of_le (by simp))
    subst he
    clear hr h hu HB
    go_enter Try.func45, Try.ntmps45
    go_wp2_with fail
    go_quiet (fail)
    go_wp2
    go_end0
    exact ⟨.inl ⟨HR.out, rfl⟩, below_drewN (Below.refl _ _) _⟩
  · have HR := hid (show r ≠ [] from by
      intro e0
      rw [e0] at hr
      have := congrArg List.length hr
      simp at this
      omega)
    have hne : ((a : Int) != (s.size : Int)) = true := by simpa using (by omega : ¬ (a : Int) = s.size)
    clear hr h hu
    go_enter Try.func45, Try.ntmps45
    go_wp2_with fail
    go_quiet (fail)
    go_wp2_with fail
    refine (HB _ (below_drewN (Below.refl _ _) _)).mono ?_
    rintro e w1 ⟨⟨n, rfl⟩, rfl⟩
    go_wp2
    exact ⟨rfl, .inr ⟨HR.out, ⟨n, rfl⟩⟩, below_drewN (Below.refl _ _) _⟩

end Go.Proofs.Ytnjfaikhiimdjaa
