/- The program's reader of files: a method's body. -/
import Derived.Test.YtnjfaikhiimdjaaRfKinds
import Derived.Test.YtnjfaikhiimdjaaRdBody
namespace Go.Proofs.Ytnjfaikhiimdjaa
open Go.RowKit Fm
set_option maxHeartbeats 1000000
set_option maxRecDepth 20000
set_option linter.unusedVariables false

theorem PBq.app {w : World} {b : Nat} {s : ByteArray} {M R : Nat} {T : TypeId} {zs cs : Array Value} {r : List UInt8} {W W' : World} {o : Obj} {v : Value} {B : Nat} {e : TypeId} {z n : Nat} {xs : List Value} (h : PBq w b s M R T zs r cs W) (hv : W.ownsRow B e z v n xs) (hB : w.heap.size ≤ B) (he : T ≠ e) (hg : (W.alloc o).grownBy W' v.ownBlock) : PBq w b s M R T zs r cs W' := by
  have k : ∀ {C xs}, Lk W C xs T → Lk W' C xs T := fun {C xs} hk => by
    unfold Lk
    rw [hg.block C (by have := hk.lt; simp; omega) ?_, Below.heap_alloc W o C hk.lt]
    · exact hk
    · intro e2
      rcases hv.2 with ⟨rfl, _⟩ | ⟨g', cap', cur', rfl, _, hg2, _⟩
      · simp [Value.ownBlock] at e2
      · simp only [Value.ownBlock, Option.some.injEq] at e2
        subst e2
        unfold Lk at hk
        rw [hg2] at hk
        simp only [Option.some.injEq, Obj.cells.injEq] at hk
        exact he hk.2.1.symm
  exact ⟨h.st.app (fun q hq => Nat.le_trans hB (hv.lt q hq).1) hg, k h.m, k h.r, h.mn, h.rn, h.mr⟩
def kb (xs : List SFrame) : List Value := xs.flatMap fun x => [x.l, x.s]
/-- what the body's reader leaves -/
def BodyPost (w0 : World) (b : Nat) (s : ByteArray) (M R : Nat) (zs : Array Value) (x y z : Int) (r : List UInt8) (B : Nat) (e : Ending) (W' : World) : Prop :=
  (∃ (m : MMethod) (r' : List UInt8) (vt vf : Value) (xs : List SFrame), rBody x y z r = some (m, r') ∧ e = .returned (.tuple #[]) ∧ PBq w0 b s M R 83 zs r' (arrM m.flags m.name m.desc m.deep m.locals m.code vt vf) W' ∧ W'.ownsRow B 120 4 vt m.traps.length (rowTrap m.traps) ∧ FX W' B vf m.frames xs ∧ Apart (kb xs)) ∨ (rBody x y z r = none ∧ Brk e ∧ w0.grownBy W' (some b))
theorem PBq.broke {w0 : World} {b : Nat} {s : ByteArray} {M R : Nat} {zs cs : Array Value} {T : TypeId} {x y z : Int} {r r' : List UInt8} {B : Nat} {W W' : World} {n : Int} (h : PBq w0 b s M R T zs r' cs W) (g : W.grownBy W' (some b)) (hp : rBody x y z r = none) : BodyPost w0 b s M R zs x y z r B (.panicked [{ v := .iface 138 (.agg #[.int .i64 n]), recovered := false }]) W' := .inr ⟨hp, ⟨n, rfl⟩, grown_trans h.st.grow g⟩

theorem kb_snoc (xs : List SFrame) (x : SFrame) : kb (xs ++ [x]) = kb xs ++ [x.l, x.s] := by simp [kb]
theorem FX.under {W : World} {B : Nat} {v : Value} {fs : List MFrame} {xs : List SFrame} (h : FX W B v fs xs) : Under W.heap.size (kb xs) := by
  intro u hu i hi
  obtain ⟨x, hx, hm⟩ := List.mem_flatMap.1 hu
  obtain ⟨k, hk, rfl⟩ := List.getElem_of_mem hx
  have hf := h.each k (by have := h.len; omega) hk
  simp at hm
  rcases hm with rfl | rfl
  · exact (hf.l.lt i hi).2
  · exact (hf.s.lt i hi).2
theorem FX.over {W : World} {B : Nat} {v : Value} {fs : List MFrame} {xs : List SFrame} (h : FX W B v fs xs) : Over B (kb xs) := by
  intro u hu i hi
  obtain ⟨x, hx, hm⟩ := List.mem_flatMap.1 hu
  obtain ⟨k, hk, rfl⟩ := List.getElem_of_mem hx
  have hf := h.each k (by have := h.len; omega) hk
  simp at hm
  rcases hm with rfl | rfl
  · exact (hf.l.lt i hi).1
  · exact (hf.s.lt i hi).1
/-- what stands while frames are read: the reader and the variables, the traps, the frames -/
structure QS (w0 : World) (b : Nat) (s : ByteArray) (M R : Nat) (zs cs : Array Value) (B : Nat) (vt vf : Value) (ts : List MTrap) (fs : List MFrame) (xs : List SFrame) (r : List UInt8) (W : World) : Prop where
  bs : PBq w0 b s M R 83 zs r cs W
  tr : W.ownsRow B 120 4 vt ts.length (rowTrap ts)
  fx : FX W B vf fs xs
  ap : Apart (kb xs)
  hB : w0.heap.size ≤ B
theorem QS.call {w0 : World} {b : Nat} {s : ByteArray} {M R : Nat} {zs cs : Array Value} {B : Nat} {vt vf : Value} {ts : List MTrap} {fs : List MFrame} {xs : List SFrame} {r r' : List UInt8} {W W' : World} (h : QS w0 b s M R zs cs B vt vf ts fs xs r W) (h1 : PAt W' b s r') (h2 : W.grownBy W' (some b)) : QS w0 b s M R zs cs B vt vf ts fs xs r' W' :=
  ⟨h.bs.call h1 h2, grown_own h2 h.tr (fun e => by have := (h.tr.lt _ e).1; have := h.bs.st.old; have := h.hB; omega), h.fx.call h2 (by have := h.bs.st.old; have := h.hB; omega), h.ap, h.hB⟩
theorem QS.keep {w0 : World} {b : Nat} {s : ByteArray} {M R : Nat} {zs cs : Array Value} {B : Nat} {vt vf : Value} {ts : List MTrap} {fs : List MFrame} {xs : List SFrame} {r : List UInt8} {W W' : World} (h : QS w0 b s M R zs cs B vt vf ts fs xs r W) (hb : Below W.heap.size W W') : QS w0 b s M R zs cs B vt vf ts fs xs r W' := h.call (h.bs.st.rd.keep hb) (below_grow hb)
/-- a frame that was read behind the others -/
theorem QS.next {w0 : World} {b : Nat} {s : ByteArray} {M R : Nat} {zs cs : Array Value} {B : Nat} {vt vf : Value} {ts : List MTrap} {fs : List MFrame} {xs : List SFrame} {r : List UInt8} {W W' : World} {x : SFrame} {f : MFrame} (h : QS w0 b s M R zs cs B vt vf ts fs xs r W) (hx : FrameW W' W.drew.heap.size x f) (ha : Apart [x.l, x.s]) (hB : B ≤ W.heap.size) : FrameW W' B x f ∧ Apart (kb (xs ++ [x])) := by
  refine ⟨hx.mono hB, ?_⟩
  rw [kb_snoc]
  exact h.ap.app ha h.fx.under ((over_row hx.l).app (over_row hx.s))
/-- behind the append of a frame, and the store of the longer list -/
theorem QS.app {w0 : World} {b : Nat} {s : ByteArray} {M R : Nat} {zs : Array Value} {B : Nat} {vt vf vf' : Value} {ts : List MTrap} {fs : List MFrame} {xs : List SFrame} {r : List UInt8} {W W' : World} {o : Obj} {x : SFrame} {f : MFrame} {a1 a2 a3 a4 a5 : Int} {a6 : ByteArray} (h : QS w0 b s M R zs (arrM a1 a2 a3 a4 a5 a6 vt vf) B vt vf ts fs xs r W) (hx : FrameW W B x f) (ha' : Apart (kb (xs ++ [x]))) (hg : (W.alloc o).grownBy W' vf.ownBlock) (ho : W'.ownsRow B 123 3 vf' (fs.length + 1) (rowFrame xs ++ cellsFrame x)) :
    PBq w0 b s M R 83 zs r (arrM a1 a2 a3 a4 a5 a6 vt vf) W' ∧ QS w0 b s M R zs (arrM a1 a2 a3 a4 a5 a6 vt vf') B vt vf' ts (fs ++ [f]) (xs ++ [x]) r (W'.setCell ⟨M, 7, none⟩ vf') := by
  have hB := h.bs.app h.fx.row h.hB (by decide) hg
  have ha : Below W.heap.size W (W.alloc o) := (Below.refl _ _).alloc (Nat.le_refl _) _
  have htr : W'.ownsRow B 120 4 vt ts.length (rowTrap ts) := own_grow (own_below h.tr ha) (own_below h.fx.row ha) (by decide) hg
  have hfx : FX W' B vf' (fs ++ [f]) (xs ++ [x]) := FX.snoc (w := W.alloc o) ⟨h.fx.len, own_below h.fx.row ha, fun k q1 q2 => (h.fx.each k q1 q2).keep ha⟩ (hx.keep ha) hg ho
  exact ⟨hB, hB.set 7 vf' rfl, ownsRow_set_ne htr vf' (own_ne htr hB.m (by decide)), hfx.set hB.m (by decide) (by decide) 7 vf', ha', h.hB⟩

set_option maxHeartbeats 12000000 in
theorem rfBody_any (w0 : World) (b : Nat) (s : ByteArray) (M R : Nat) (zs : Array Value) (x y z : Int) (r : List UInt8) (w : World) (hs : s.size ≤ 1000000000) (h : PBq w0 b s M R 83 zs r (arrM x y z 0 0 empty (.slice none 0 0) (.slice none 0 0)) w) :
    Calls Try.prog 104 #[.pointer (some ⟨b, 0, none⟩), .pointer (some ⟨M, 0, none⟩)] w (BodyPost w0 b s M R zs x y z r w.heap.size) := by
  have H1 := fun r w h => rfOne_any b s r w hs h
  have H2 := fun r w h => rfCode_any b s r w hs h
  have H3 := fun r w h => rfCount_any b s 3 r w hs (by omega) h
  have H4 := fun r w h => rfCount_any b s 8 r w hs (by omega) h
  have H5 := fun r w h => rfTrap_any b s r w hs h
  have H6 := fun r w h => rfFrame_any b s r w hs h
  obtain ⟨i0, hi, hz0, hz1, hz2⟩ := info_parts infoTrap
  obtain ⟨j0, hj, hy0, hy1, hy2⟩ := info_parts infoFrame
  have B0 := hid h
  have hbw := h.st.old
  have hww := h.st.size
  clear h
  go_enter Try.func104, Try.ntmps104
  go_wp2_with fail
  refine (H1 _ _ B0.out.st.rd).mono ?_
  rintro e w1 (⟨d, r1, p1, ⟨d, rfl, hd, rfl⟩, h, g⟩ | ⟨p1, ⟨n, rfl⟩, g⟩)
  rotate_left
  · have G := hid g
    have P1 := hid p1
    clear p1 g H1 H2 H3 H4 H5 H6
    go_wp2
    exact ⟨rfl, B0.out.broke G.out (by unfold rBody; rw [pb_none P1.out])⟩
  have P1 := hid p1
  have C1 := B0.out.call h g
  have hw1 := g.size
  have d3 := C1.m.c 3 _ rfl
  have f3 := C1.m.z 3
  have B1 := hid (C1.set (cs' := arrM x y z d 0 empty (.slice none 0 0) (.slice none 0 0)) 3 (.int .i64 d) rfl)
  clear p1 h g B0 C1
  go_wp2_with fail
  refine (H1 _ _ B1.out.st.rd).mono ?_
  rintro e w2 (⟨l, r2, p2, ⟨l, rfl, hl, rfl⟩, h, g⟩ | ⟨p2, ⟨n, rfl⟩, g⟩)
  rotate_left
  · have G := hid g
    have P2 := hid p2
    clear p2 g H1 H2 H3 H4 H5 H6
    go_wp2
    exact ⟨rfl, B1.out.broke G.out (by unfold rBody; rw [pb_some P1.out, pb_none P2.out])⟩
  have P2 := hid p2
  have C2 := B1.out.call h g
  have hw2 : w1.heap.size ≤ w2.heap.size := by have := g.size; simpa [World.setCell] using this
  have d4 := C2.m.c 4 _ rfl
  have f4 := C2.m.z 4
  have B2 := hid (C2.set (cs' := arrM x y z d l empty (.slice none 0 0) (.slice none 0 0)) 4 (.int .i64 l) rfl)
  clear p2 h g B1 C2 d3 f3
  go_wp2_with fail
  refine (H2 _ _ B2.out.st.rd).mono ?_
  rintro e w3 (⟨cd, r3, p3, rfl, h, g⟩ | ⟨p3, ⟨n, rfl⟩, g⟩)
  rotate_left
  · have G := hid g
    have P3 := hid p3
    clear p3 g H1 H2 H3 H4 H5 H6
    go_wp2
    exact ⟨rfl, B2.out.broke G.out (by unfold rBody; rw [pb_some P1.out, pb_some P2.out, pb_none P3.out])⟩
  have P3 := hid p3
  have C3 := B2.out.call h g
  have hw3 : w2.heap.size ≤ w3.heap.size := by have := g.size; simpa [World.setCell] using this
  have d5 := C3.m.c 5 _ rfl
  have f5 := C3.m.z 5
  have B3 := hid (C3.set (cs' := arrM x y z d l cd (.slice none 0 0) (.slice none 0 0)) 5 (.string cd) rfl)
  clear p3 h g B2 C3 d4 f4
  go_wp2_with fail
  refine (H3 _ _ B3.out.st.rd).mono ?_
  rintro e w4 (⟨n, r4, p4, ⟨n, rfl, hn, rfl⟩, h, g⟩ | ⟨p4, ⟨n, rfl⟩, g⟩)
  rotate_left
  · have G := hid g
    have P4 := hid p4
    clear p4 g H1 H2 H3 H4 H5 H6
    go_wp2
    exact ⟨rfl, B3.out.broke G.out (by unfold rBody; rw [pb_some P1.out, pb_some P2.out, pb_some P3.out, pb_none (list_none1 (most := 3) P4.out)])⟩
  have P4 := hid p4
  have B4 := hid (B3.out.call h g)
  have hw4 : w3.heap.size ≤ w4.heap.size := by have := g.size; simpa [World.setCell] using this
  have HB := hid (show ∀ q, (pbind (rList 3 rTrap) fun ts => pbind (rList 8 rFrame) fun fs => ppure (⟨x, y, z, d, l, cd, ts, fs⟩ : MMethod)) r3 = q → rBody x y z r = q from fun q hq => by
    unfold rBody
    rw [pb_some P1.out, pb_some P2.out, pb_some P3.out]
    exact hq)
  clear p4 h g B3 d5 f5 P1 P2 P3 H1 H2 H3
  go_upto_block 0 with fail
  go_cut [21] (fun _ wc => ∃ (ts : List MTrap) (r5 : List UInt8) (vt : Value), Hid (PBq w0 b s M R 83 zs r5 (arrM x y z d l cd vt (.slice none 0 0)) wc) ∧ Hid (wc.ownsRow w.heap.size 120 4 vt ts.length (rowTrap ts)) ∧ Hid (rList 3 rTrap r3 = some (ts, r5)) ∧ w.heap.size ≤ wc.heap.size)
  case first =>
    clear H4 H6
    go_wp2_with fail
    go_loopw [21] (fun i wr => ∃ (ts : List MTrap) (r' : List UInt8) (vt : Value), i = .int .i64 ts.length ∧ ts.length ≤ n ∧ Hid (PBq w0 b s M R 83 zs r' (arrM x y z d l cd vt (.slice none 0 0)) wr) ∧ Hid (wr.ownsRow w.heap.size 120 4 vt ts.length (rowTrap ts)) ∧ Hid (rMany rTrap ts.length r4 = some (ts, r')) ∧ w.heap.size ≤ wr.heap.size) (fun i _ => n - (intOf i).toNat)
    case atStart => exact ⟨[], r4, .slice none 0 0, rfl, Nat.zero_le _, B4, World.ownsRow_nil _ _ _ _, many_zero, by omega⟩
    case round =>
      obtain ⟨ts, r', vt, rfl, hk, hS, hO, hR, hsr⟩ := hrel
      obtain ⟨⟨_, _, _, _, _, _, m6, _⟩, _⟩ := hS.out.m.c8
      by_cases hlt : ts.length < n
      · have hbs := hS.out.keep (Below.refl _ _).drew
        have hrd := hbs.st.rd
        have how := (own_below hO.out (Below.refl _ _).drew)
        obtain ⟨ao, cap, hv⟩ := own_len how
        subst hv
        clear B4
        go_wp2_with fail
        go_region_law (first
          | (go_simp; go_at_call 118; refine (H5 _ _ (by assumption)).mono ?_; rintro e w9 (⟨t9, r9, p9, rfl, h9, g9⟩ | ⟨p9, ⟨n9, rfl⟩, g9⟩); rotate_left; (focus (exact ⟨rfl, PBq.broke (by assumption) g9 (HB.out _ (pb_none (list_none2 (most := 3) P4.out (many_stop hR.out p9 hlt))))⟩)); have hbs9 := PBq.call (by assumption) h9 g9; have hsz9 := g9.size; have hal9 : ∀ o, (w9.alloc o).cell? ⟨M, 6, none⟩ = some (.slice ao ts.length cap) := (fun o => (hbs9.m.alloc o).c 6 _ rfl); obtain ⟨⟨_, _, _, _, _, _, m69, _⟩, _, _, _, _, _, _, z69, _⟩ := hbs9.m.c8; have how9 := grown_own g9 (by assumption) (fun e => by have := (hO.out.lt _ e).1; omega))
          | (refine step_append_lies _ rfl (.tmp 27) (.tmp 30) 80 rfl w.heap.size 120 i0 (.agg #[.int .i64 0, .int .i64 0, .int .i64 0, .int .i64 0]) 4 32 Try.underlying80 hi hz0 hz1 hz2 rfl (by decide) _ _ _ rfl (World.ownsRow.alloc (by assumption) _) _ 1 1 _ rfl (by rfl) (World.news_of_block (heap_alloc_new _ _)) (by intro u hu; simp at hu; rcases hu with rfl | rfl | rfl | rfl <;> rfl) (by omega) (by unfold maxLen; omega) (by omega) (by simp at hsz9 ⊢; omega) _ rfl ?_; intro g9 cap9 w8 hown9 hgrow9 hat9 hlt9; have hbs8 := PBq.app (v := .slice ao ts.length cap) (by assumption) (by assumption) (by assumption) (by decide) hgrow9; obtain ⟨⟨_, _, _, _, _, _, m68, _⟩, _, _, _, _, _, _, z68, _⟩ := hbs8.m.c8))
        all_goals
          have Z4 : w.heap.size ≤ w8.heap.size := by have := hgrow9.size; simp at this hsz9; omega
          have S4 := hid (hbs8.set (cs' := arrM x y z d l cd (.slice (some ⟨g9, 0, none⟩) (ts.length + 1) cap9) (.slice none 0 0)) 6 (.slice (some ⟨g9, 0, none⟩) (ts.length + 1) cap9) rfl)
          have O4 := hid (trap_snoc (ownsRow_set_ne hown9 (a := ⟨M, 6, none⟩) (.slice (some ⟨g9, 0, none⟩) (ts.length + 1) cap9) (own_ne hown9 hbs8.m (by decide))))
          have R4 := hid (many_more hR.out p9)
          clear hown9 hgrow9 hat9 hlt9 hbs8 m68 how hbs hrd m6 hO hS hR H5
          go_wp2_with fail
          go_roundw
          case rel => exact ⟨_, _, _, by simp, by simp; omega, S4, O4, by rw [List.length_append]; exact R4, by simpa [World.setCell] using Z4⟩
          case measure => simp [intOf]; omega
      · go_wp2_with fail
        go_meet
        case rel => exact ⟨ts, r', vt, hS, hO, list_some (most := 3) P4.out (by rw [show n = ts.length by omega]; exact hR.out), hsr⟩
  case rest =>
    obtain ⟨ts, r5, vt, B5, O5, R5, hs5⟩ := hcut
    clear B4 H5
    go_wp2_with fail
    refine (H4 _ _ B5.out.st.rd).mono ?_
    rintro e w6 (⟨q, r6, p6, ⟨q, rfl, hq, rfl⟩, h, g⟩ | ⟨p6, ⟨n6, rfl⟩, g⟩)
    rotate_left
    · have G := hid g
      have P6 := hid p6
      clear p6 g H4 H6
      go_wp2
      exact ⟨rfl, B5.out.broke G.out (HB.out _ (by rw [pb_some R5.out, pb_none (list_none1 (most := 8) P6.out)]))⟩
    have P6 := hid p6
    have Q6 := hid (show QS w0 b s M R zs (arrM x y z d l cd vt (.slice none 0 0)) w.heap.size vt (.slice none 0 0) ts [] [] r6 w6 from ⟨B5.out.call h g, grown_own g O5.out (fun e => by have := (O5.out.lt _ e).1; omega), ⟨rfl, World.ownsRow_nil _ _ _ _, fun k hk => by simp at hk⟩, Apart.nil, hww⟩)
    have hs6 : w.heap.size ≤ w6.heap.size := Nat.le_trans hs5 g.size
    have HC := hid (show ∀ q, (pbind (rList 8 rFrame) fun fs => ppure (⟨x, y, z, d, l, cd, ts, fs⟩ : MMethod)) r5 = q → rBody x y z r = q from fun q hq => HB.out _ (by rw [pb_some R5.out]; exact hq))
    clear p6 h g B5 O5 H4 R5 HB P4
    go_wp2_with fail
    go_loopw [37] (fun i wr => ∃ (fs : List MFrame) (xs : List SFrame) (r' : List UInt8) (vf : Value), i = .int .i64 fs.length ∧ fs.length ≤ q ∧ Hid (QS w0 b s M R zs (arrM x y z d l cd vt vf) w.heap.size vt vf ts fs xs r' wr) ∧ Hid (rMany rFrame fs.length r6 = some (fs, r')) ∧ w.heap.size ≤ wr.heap.size) (fun i _ => q - (intOf i).toNat)
    case atStart => exact ⟨[], [], r6, .slice none 0 0, rfl, Nat.zero_le _, Q6, many_zero, hs6⟩
    case round =>
      obtain ⟨fs, xs, r', vf, rfl, hk, hS, hR, hsr⟩ := hrel
      obtain ⟨⟨_, _, _, _, _, _, _, m7⟩, _⟩ := hS.out.bs.m.c8
      by_cases hlt : fs.length < q
      · have hfs := hS.out.keep (Below.refl _ _).drew
        have hrd := hfs.bs.st.rd
        have how := hfs.fx.row
        have hlx := hfs.fx.len
        obtain ⟨ao, cap, hv⟩ := own_len how
        subst hv
        clear Q6
        go_wp2_with fail
        go_region_law (first
          | (go_simp; go_at_call 119; refine (H6 _ _ (by assumption)).mono ?_; rintro e w9 (⟨f9, r9, p9, ⟨x9, rfl, hw9, ha9⟩, h9, g9⟩ | ⟨p9, ⟨n9, rfl⟩, g9⟩); rotate_left; (focus (exact ⟨rfl, PBq.broke hfs.bs g9 (HC.out _ (pb_none (list_none2 (most := 8) P6.out (many_stop hR.out p9 hlt))))⟩)); obtain ⟨o91, c91, hv91⟩ := own_len hw9.l; obtain ⟨o92, c92, hv92⟩ := own_len hw9.s; have hnx9 := hfs.next hw9 ha9 hsr; have hfs9 := QS.call hfs h9 g9; have hsz9 := g9.size; have how9 := hfs9.fx.row; have hal9 : ∀ o, (w9.alloc o).cell? ⟨M, 7, none⟩ = some (.slice ao fs.length cap) := (fun o => (hfs9.bs.m.alloc o).c 7 _ rfl); obtain ⟨⟨_, _, _, _, _, _, _, m79⟩, _, _, _, _, _, _, _, z79⟩ := hfs9.bs.m.c8; obtain ⟨x9a, x9l, x9s⟩ := x9; simp only at hv91 hv92; subst hv91 hv92)
          | (refine step_append_lies _ rfl (.tmp 43) (.tmp 46) 81 rfl w.heap.size 123 j0 (.agg #[.int .i64 0, .slice none 0 0, .slice none 0 0]) 3 56 Try.underlying81 hj hy0 hy1 hy2 rfl (by decide) _ _ _ rfl (World.ownsRow.alloc (by assumption) _) _ 1 1 _ rfl (by rfl) (World.news_of_block (heap_alloc_new _ _)) (by intro u hu; simp at hu; rcases hu with rfl | rfl | rfl <;> rfl) (by omega) (by unfold maxLen; omega) (by omega) (by simp at hsz9 ⊢; omega) _ rfl ?_; intro g9 cap9 w8 hown9 hgrow9 hat9 hlt9; have hboth := QS.app hfs9 hnx9.1 hnx9.2 hgrow9 hown9; have hbs8 := hboth.1; obtain ⟨⟨_, _, _, _, _, _, _, m78⟩, _, _, _, _, _, _, _, z78⟩ := hbs8.m.c8))
        all_goals
          have Z4 : w.heap.size ≤ w8.heap.size := by have := hgrow9.size; simp at this hsz9; omega
          have S4 := hid hboth.2
          have R4 := hid (many_more hR.out p9)
          clear hboth hown9 hgrow9 hat9 hlt9 hbs8 m78 hfs9 hnx9 how hfs hrd m7 hS hR H6
          go_wp2_with fail
          go_roundw
          case rel => exact ⟨_, _, _, _, by simp, by simp; omega, S4, by rw [List.length_append]; exact R4, by simpa [World.setCell] using Z4⟩
          case measure => simp [intOf]; omega
      · go_wp2_with fail
        go_end0
        exact .inl ⟨⟨x, y, z, d, l, cd, ts, fs⟩, r', vt, vf, xs, HC.out _ (by rw [pb_some (list_some (most := 8) P6.out (by rw [show q = fs.length by omega]; exact hR.out)), pp_some]), rfl, hS.out.bs, hS.out.tr, hS.out.fx, hS.out.ap⟩

end Go.Proofs.Ytnjfaikhiimdjaa
