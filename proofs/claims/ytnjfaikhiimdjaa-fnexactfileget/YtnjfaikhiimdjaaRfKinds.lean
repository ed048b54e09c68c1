/- The program's reader of files: lists of kinds, frames. -/
import Derived.Test.YtnjfaikhiimdjaaRfTwo
namespace Go.Proofs.Ytnjfaikhiimdjaa
open Go.RowKit Fm
set_option maxHeartbeats 1000000
set_option maxRecDepth 20000
set_option linter.unusedVariables false

theorem many_more {α : Type} {p : Ps α} {k : Nat} {r1 r2 r3 : List UInt8} {ts : List α} {x : α} (h : rMany p k r1 = some (ts, r2)) (g : p r2 = some (x, r3)) : rMany p (k + 1) r1 = some (ts ++ [x], r3) := by
  show pbind (rMany p k) (fun xs => pbind p fun x => ppure (xs ++ [x])) r1 = _
  rw [pb_some h, pb_some g, pp_some]
theorem many_stop {α : Type} {p : Ps α} {k n : Nat} {r1 r2 : List UInt8} {ts : List α} (h : rMany p k r1 = some (ts, r2)) (g : p r2 = none) (hk : k < n) : rMany p n r1 = none := by
  refine rMany_none (k := k + 1) ?_ n hk
  show pbind (rMany p k) (fun xs => pbind p fun x => ppure (xs ++ [x])) r1 = _
  rw [pb_some h, pb_none g]
theorem list_some {α : Type} {p : Ps α} {most : Int} {n : Nat} {r r1 r2 : List UInt8} {ts : List α} (h : rCount most r = some ((n : Int), r1)) (k : rMany p n r1 = some (ts, r2)) : rList most p r = some (ts, r2) := by
  unfold rList
  rw [pb_some h]
  simpa using k
theorem list_none1 {α : Type} {p : Ps α} {most : Int} {r : List UInt8} (h : rCount most r = none) : rList most p r = none := by
  unfold rList
  rw [pb_none h]
theorem list_none2 {α : Type} {p : Ps α} {most : Int} {n : Nat} {r r1 : List UInt8} (h : rCount most r = some ((n : Int), r1)) (k : rMany p n r1 = none) : rList most p r = none := by
  unfold rList
  rw [pb_some h]
  simpa using k
theorem many_zero {α : Type} {p : Ps α} {r : List UInt8} : rMany p 0 r = some ([], r) := rfl

theorem rfKinds_any (b : Nat) (s : ByteArray) (r : List UInt8) (w : World) (hs : s.size ≤ 1000000000) (h : PAt w b s r) :
    Calls Try.prog 124 #[.pointer (some ⟨b, 0, none⟩)] w (RfPost rKinds b s r w fun ts e w' => ∃ v, e = .returned v ∧ w'.ownsRow w.heap.size 144 2 v ts.length (rowKind ts)) := by
  have H1 := fun r w h => rfCount_any b s 8 r w hs (by omega) h
  have H2 := fun r w h => rfKind_any b s r w hs h
  have S0 := Pq.start h
  have HB := h.lt
  obtain ⟨i0, hi, hz0, hz1, hz2⟩ := info_parts infoKind
  clear h
  go_enter Try.func124, Try.ntmps124
  go_wp2_with fail
  refine (H1 _ _ S0.rd).mono ?_
  rintro e w1 (⟨n, r1, p1, ⟨n, rfl, hn, rfl⟩, h1, g1⟩ | ⟨p1, ⟨n, rfl⟩, g1⟩)
  rotate_left
  · have G1 := hid g1
    have P1 := hid p1
    clear p1 g1 H1 H2
    go_wp2
    exact ⟨rfl, S0.no G1.out (list_none1 P1.out)⟩
  have HS := hid (S0.call h1 g1)
  have P1 := hid p1
  clear p1 h1 g1 S0 H1
  go_wp2_with fail
  go_loopw [3, 6] (fun v i wr => ∃ (ts : List MKind) (r' : List UInt8), i = .int .i64 ts.length ∧ ts.length ≤ n ∧ Hid (Pq w b s r' wr) ∧ wr.ownsRow w.heap.size 144 2 v ts.length (rowKind ts) ∧ Hid (rMany rKind ts.length r1 = some (ts, r'))) (fun _ i _ => n - (intOf i).toNat)
  case atStart => exact ⟨[], r1, rfl, Nat.zero_le _, HS, World.ownsRow_nil _ _ _ _, many_zero⟩
  case round =>
    obtain ⟨ts, r', rfl, hk, hS, hown, hR⟩ := hrel
    obtain ⟨ao, cap, hv⟩ := own_len hown
    subst hv
    have HW := hid hown
    have hsr := hS.out.size
    by_cases hlt : ts.length < n
    · clear hown HS
      go_wp2_with fail
      refine (H2 _ _ hS.out.rd).mono ?_
      rintro e w2 (⟨t, r2, p2, rfl, h2, g2⟩ | ⟨p2, ⟨m, rfl⟩, g2⟩)
      rotate_left
      · have G2 := hid g2
        have P2 := hid p2
        clear p2 g2 H2
        go_wp2
        exact ⟨rfl, hS.out.no G2.out (list_none2 P1.out (many_stop hR.out P2.out hlt))⟩
      have S2 := hid (hS.out.call h2 g2)
      have HO2 := hid (grown_own g2 HW.out (fun e => by have := (HW.out.lt _ e).1; omega))
      have R2 := hid p2
      clear p2 h2 g2 HW H2
      go_wp2_with (at_builtin; refine wpList_append_own _ rfl _ _ 121 rfl w.heap.size 144 i0 (.agg #[.int .i64 0, .int .i64 0]) 2 16 Try.underlying121 hi hz0 hz1 hz2 rfl (by decide) _ _ _ rfl (HO2.out.alloc _) ⟨w2.heap.size, 0, none⟩ 1 1 [.int .i64 t.tag, .int .i64 t.cls] rfl rfl ?c1 ?c2 ?c3 ?c4 ?c5 ?_)
      case c1 => exact fun j u hj => cells_new _ _ _ j u hj
      case c2 => intro u hu; simp at hu; rcases hu with rfl | rfl <;> rfl
      case c3 => unfold maxLen; omega
      case c4 => omega
      case c5 => have := S2.out.size; simp; omega
      intro v' w4 hown' hgrow _
      have S4 := hid (S2.out.app (fun k hk => (HO2.out.lt k hk).1) hgrow)
      have O4 := hid (show w4.ownsRow w.heap.size 144 2 v' (ts ++ [t]).length (rowKind (ts ++ [t])) from by rw [rowKind_snoc, List.length_append]; exact hown')
      have R4 := hid (show rMany rKind (ts ++ [t]).length r1 = some (ts ++ [t], r2) from by rw [List.length_append]; exact many_more hR.out R2.out)
      clear hown' hgrow
      go_wp2_with fail
      go_roundw
      case rel => exact ⟨ts ++ [t], _, by simp, by simp; omega, S4, O4.out, R4⟩
      case measure => simp [intOf]; omega
    · have HF := hid (show rKinds r = some (ts, r') from list_some P1.out (by rw [show n = ts.length by omega]; exact hR.out))
      clear hown HS hR hsr H2
      go_wp2_with fail
      go_ret
      exact hS.out.yes HF.out ⟨_, rfl, HW.out⟩

/-- rows in blocks of their own, each above those ahead of it -/
def Apart (vs : List Value) : Prop := vs.Pairwise fun a b => ∀ i j, a.ownBlock = some i → b.ownBlock = some j → i < j
/-- rows in blocks below a bound -/
def Under (H : Nat) (vs : List Value) : Prop := ∀ v ∈ vs, ∀ i, v.ownBlock = some i → i < H
def Over (H : Nat) (vs : List Value) : Prop := ∀ v ∈ vs, ∀ i, v.ownBlock = some i → H ≤ i
theorem Apart.nil : Apart [] := List.Pairwise.nil
theorem Apart.app {vs us : List Value} {H : Nat} (h : Apart vs) (k : Apart us) (h1 : Under H vs) (h2 : Over H us) : Apart (vs ++ us) :=
  List.pairwise_append.2 ⟨h, k, fun a ha b hb i j hi hj => Nat.lt_of_lt_of_le (h1 a ha i hi) (h2 b hb j hj)⟩
theorem Under.mono {H H' : Nat} {vs : List Value} (h : Under H vs) (hh : H ≤ H') : Under H' vs := fun v hv i hi => Nat.lt_of_lt_of_le (h v hv i hi) hh
theorem Over.mono {H H' : Nat} {vs : List Value} (h : Over H vs) (hh : H' ≤ H) : Over H' vs := fun v hv i hi => Nat.le_trans hh (h v hv i hi)
theorem Under.app {H : Nat} {vs us : List Value} (h : Under H vs) (k : Under H us) : Under H (vs ++ us) := fun v hv => by
  rcases List.mem_append.1 hv with hv | hv
  · exact h v hv
  · exact k v hv
theorem Over.app {H : Nat} {vs us : List Value} (h : Over H vs) (k : Over H us) : Over H (vs ++ us) := fun v hv => by
  rcases List.mem_append.1 hv with hv | hv
  · exact h v hv
  · exact k v hv
theorem under_row {w : World} {B : Nat} {e : TypeId} {z n : Nat} {v : Value} {xs : List Value} (h : w.ownsRow B e z v n xs) : Under w.heap.size [v] := fun u hu i hi => by
  simp at hu; subst hu; exact (h.lt i hi).2
theorem over_row {w : World} {B : Nat} {e : TypeId} {z n : Nat} {v : Value} {xs : List Value} (h : w.ownsRow B e z v n xs) : Over B [v] := fun u hu i hi => by
  simp at hu; subst hu; exact (h.lt i hi).1
theorem apart_one (v : Value) : Apart [v] := by simp [Apart]

/-- a frame that was read: its value, its lists, each in a block of its own -/
def VFrame (w : World) (f : MFrame) (e : Ending) (w' : World) : Prop := ∃ x : SFrame, e = .returned (.agg #[.int .i64 x.at_, x.l, x.s]) ∧ FrameW w' w.heap.size x f ∧ Apart [x.l, x.s]
theorem rfFrame_any (b : Nat) (s : ByteArray) (r : List UInt8) (w : World) (hs : s.size ≤ 1000000000) (h : PAt w b s r) :
    Calls Try.prog 119 #[.pointer (some ⟨b, 0, none⟩)] w (RfPost rFrame b s r w (VFrame w)) := by
  have H1 := fun r w h => rfTwo_any b s r w hs h
  have H2 := fun r w h => rfKinds_any b s r w hs h
  have HB := h.lt
  have B0 := hid (PBq.new2 #[.int .i64 0, .slice none 0 0, .slice none 0 0] #[.int .i64 0, .slice none 0 0, .slice none 0 0] 123 h)
  clear h
  go_enter Try.func119, Try.ntmps119
  go_wp2_with fail
  refine (H1 _ _ B0.out.st.rd).mono ?_
  rintro e w1 (⟨x0, r1, p0, ⟨x0, rfl, hx0, rfl⟩, h, g⟩ | ⟨p0, ⟨n, rfl⟩, g⟩)
  rotate_left
  · have G := hid g
    have P0 := hid p0
    clear p0 g H1 H2
    go_wp2
    exact ⟨rfl, B0.out.st.no G.out (by unfold rFrame; rw [pb_none P0.out])⟩
  have P0 := hid p0
  have C1 := B0.out.call h g
  have d0 := C1.m.c 0 _ rfl
  have f0 := C1.m.z 0
  have B1 := hid (C1.set (cs' := #[.int .i64 (x0 : Int), .slice none 0 0, .slice none 0 0]) 0 (.int .i64 (x0 : Int)) rfl)
  clear p0 h g B0 C1
  go_wp2_with fail
  refine (H2 _ _ B1.out.st.rd).mono ?_
  rintro e w2 (⟨l, r2, p1, ⟨v1, rfl, ho1⟩, h, g⟩ | ⟨p1, ⟨n, rfl⟩, g⟩)
  rotate_left
  · have G := hid g
    have P1 := hid p1
    clear p1 g H1 H2
    go_wp2
    exact ⟨rfl, B1.out.st.no G.out (by unfold rFrame; rw [pb_some P0.out, pb_none P1.out])⟩
  have P1 := hid p1
  have C2 := B1.out.call h g
  have d1 := C2.m.c 1 _ rfl
  have f1 := C2.m.z 1
  obtain ⟨o1, k1, hv1⟩ := own_len ho1
  subst hv1
  have hw1 := B1.out.st.size
  have hge := B1.out.m.lt
  have B2 := hid (C2.set (cs' := #[.int .i64 (x0 : Int), .slice o1 l.length k1, .slice none 0 0]) 1 (.slice o1 l.length k1) rfl)
  have O2 := hid (ownsRow_set_ne ho1 (a := ⟨w.heap.size + 1, 1, none⟩) (.slice o1 l.length k1) (fun e => by have := (ho1.lt _ e).1; dsimp only at this; omega))
  clear p1 h g B1 C2 ho1
  go_wp2_with fail
  refine (H2 _ _ B2.out.st.rd).mono ?_
  rintro e w3 (⟨q, r3, p2, ⟨v2, rfl, ho2⟩, h, g⟩ | ⟨p2, ⟨n, rfl⟩, g⟩)
  rotate_left
  · have G := hid g
    have P2 := hid p2
    clear p2 g H1 H2
    go_wp2
    exact ⟨rfl, B2.out.st.no G.out (by unfold rFrame; rw [pb_some P0.out, pb_some P1.out, pb_none P2.out])⟩
  have P2 := hid p2
  have C3 := B2.out.call h g
  have HS := hid C3.st
  obtain ⟨o2, k2, hv2⟩ := own_len ho2
  subst hv2
  have hm := B2.out.m.lt
  have O3 := grown_own g O2.out (fun e => by have := (O2.out.lt _ e).1; omega)
  have HA := hid (show Apart [.slice o1 l.length k1, .slice o2 q.length k2] from (apart_one _).app (apart_one _) (under_row O2.out) (over_row ho2))
  have HO1 := hid (show w3.ownsRow (w.heap.size + 2) 144 2 (.slice o1 l.length k1) l.length (rowKind l) from Joins.ownsRow_le O3 (by omega))
  have HO2 := hid (show w3.ownsRow (w.heap.size + 2) 144 2 (.slice o2 q.length k2) q.length (rowKind q) from Joins.ownsRow_le ho2 (by omega))
  obtain ⟨q0, q1, q2, z0, z1, z2⟩ := C3.m.c3
  obtain ⟨a0, a1, a2, y0, y1, y2⟩ := C3.r.c3
  clear p2 h g B2 C3 H1 H2 O2 O3 ho2
  go_wp2
  refine bodyPost_ret (v := .agg #[.int .i64 (x0 : Int), .slice o1 l.length k1, .slice o2 q.length k2]) (by simp [results, Try.results119, go_sem, a0, a1, a2]) rfl ?_
  refine Pq.yes (x := ⟨x0, l, q⟩) (r' := r3) ?_ (by unfold rFrame; rw [pb_some P0.out, pb_some P1.out, pb_some P2.out, pp_some]) ⟨⟨x0, _, _⟩, rfl, ⟨rfl, Joins.ownsRow_le ?_ (Nat.le_add_right _ 2), Joins.ownsRow_le ?_ (Nat.le_add_right _ 2)⟩, HA.out⟩
  · repeat' (first | refine Pq.set ?_ (by dsimp only; omega) | exact HS.out)
  · repeat' (first | exact HO1.out | refine ownsRow_set_ne ?_ _ (fun e => by have := (HO1.out.lt _ e).1; dsimp only at this; omega))
  · repeat' (first | exact HO2.out | refine ownsRow_set_ne ?_ _ (fun e => by have := (HO2.out.lt _ e).1; dsimp only at this; omega))

end Go.Proofs.Ytnjfaikhiimdjaa
