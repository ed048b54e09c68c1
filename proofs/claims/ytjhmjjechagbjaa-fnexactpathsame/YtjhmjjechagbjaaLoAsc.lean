/- Contract of the program's ascending over ways. -/
import Derived.Test.YtjhmjjechagbjaaLoUnlike
import Derived.Deep.CutBlock
import Derived.Deep.DeepCutAuto
namespace Go.Proofs.Ytjhmjjechagbjaa
open Go.RowKit
set_option maxHeartbeats 1000000
set_option maxRecDepth 20000
set_option linter.unusedVariables false

def leS (a b : ByteArray) : Bool := Op.bytesLess a.toList b.toList || (a.toList == b.toList)
def AscP (ts : List MWay) : Prop := ∀ i (hi : i + 1 < ts.length), ¬ (leS ts[i + 1].name ts[i].name = true)

/-- two ways that lie in memory -/
structure AW (w0 : World) (t1 u1 : ByteArray) (t2 u2 : Int) (g k : Nat) (W : World) : Prop where
  b : Below w0.heap.size w0 W
  k0 : W.cell? ⟨g, k * 2, none⟩ = some (.string t1)
  k1 : W.cell? ⟨g, k * 2 + 1, none⟩ = some (.int .i64 t2)
  k2 : W.cell? ⟨g, (k + 1) * 2, none⟩ = some (.string u1)
  k3 : W.cell? ⟨g, (k + 1) * 2 + 1, none⟩ = some (.int .i64 u2)
  l0 : g < W.heap.size
theorem AW.keep {w0 W W' : World} {t1 u1 : ByteArray} {t2 u2 : Int} {g k : Nat} (h : AW w0 t1 u1 t2 u2 g k W) (hb : Below W.heap.size W W') : AW w0 t1 u1 t2 u2 g k W' :=
  ⟨h.b.trans (hb.mono h.b.size), (hb_cell hb h.l0).trans h.k0, (hb_cell hb h.l0).trans h.k1, (hb_cell hb h.l0).trans h.k2, (hb_cell hb h.l0).trans h.k3, Nat.lt_of_lt_of_le h.l0 hb.size⟩

theorem ascWay_any (v : Value) (ts : List MWay) (B : Nat) (w : World) (hl : ts.length ≤ 1048576) (ho : w.ownsRow B 73 2 v ts.length (rowWay ts)) :
    Calls Try.prog 67 #[v, .func (.func 68) #[] #[]] w fun e w' => ∃ b : Bool, e = .returned (.bool b) ∧ (b = true ↔ AscP ts) ∧ Below w.heap.size w w' := by
  obtain ⟨ao, cap, hv⟩ := own_len ho
  subst hv
  have HO := hid ho
  clear ho
  go_enter Try.func67, Try.ntmps67
  go_wp2_with fail
  go_loopw [5] (fun i wr => ∃ (k : Nat), k ≤ ts.length ∧ i = .int .i64 ((k : Int) + 1) ∧ Hid (∀ i (hi : i + 1 < ts.length), i < k → ¬ (leS ts[i + 1].name ts[i].name = true)) ∧ Hid (Below w.heap.size w wr)) (fun i _ => ts.length + 1 - (intOf i).toNat)
  case atStart => exact ⟨0, by omega, rfl, fun i hi h => by omega, Below.refl _ _⟩
  case round =>
    obtain ⟨k, hk, rfl, HE, HB⟩ := hrel
    by_cases hlt : k + 1 < ts.length
    · obtain ⟨g, hg⟩ := own_some HO.out (by omega)
      subst hg
      obtain ⟨c0, c1⟩ := ownWay_at (own_below HO.out HB.out) (k := k) (by omega)
      obtain ⟨d0, d1⟩ := ownWay_at (own_below HO.out HB.out) hlt
      have hgl := ((own_below HO.out HB.out).lt g rfl).2
      generalize hT : ts[k] = t at c0 c1
      generalize hU : ts[k + 1] = u at d0 d1
      obtain ⟨t1, t2⟩ := t
      obtain ⟨u1, u2⟩ := u
      simp only at c0 c1 d0 d1
      obtain ⟨q, hq⟩ : ∃ q, Hid (leS u1 t1 = q) := ⟨_, hid rfl⟩
      have HT := hid hT
      have HU := hid hU
      clear hT hU
      have z0 : (0 : Int) ≤ (k : Int) + 1 := by omega
      have z1 : IntKind.i64.wrap (k : Int) = (k : Int) := by rw [IntKind.wrap_i64]; omega
      have z2 : (k : Int) < (ts.length : Int) := by omega
      go_upto_region 4 with fail
      go_cut [25] (fun x wc => x = .bool q ∧ Hid (Below w.heap.size w wc))
      case first =>
        have PD := (AW.mk HB.out c0 c1 d0 d1 hgl).keep (show Below wr.heap.size wr wr.drew from (Below.refl _ _).drew)
        obtain ⟨_, e0, e1, e2, e3, _⟩ := id PD
        refine wp_region_held_drew (S := (fun w' : World => w'.cell? ⟨g, k * 2, none⟩ = some (.string t1) ∧ w'.cell? ⟨g, k * 2 + 1, none⟩ = some (.int .i64 t2) ∧ w'.cell? ⟨g, (k + 1) * 2, none⟩ = some (.string u1) ∧ w'.cell? ⟨g, (k + 1) * 2 + 1, none⟩ = some (.int .i64 u2))) (by kernel_rfl) ⟨e0, e1, e2, e3⟩ (fun hHeld => ?_)
        refine wpAnyH_take (i := 0) (oi := { dst := some 12, op := Op.move (Operand.tmp 1), type := 100, pos := "l4_check.go:263", after := #[], guard := none }) (v := ?_) rfl (by kernel_rfl) (by kernel_rfl) (by kernel_rfl) (fun _ _ _ h => h) (Or.inl ⟨by rfl, ?_⟩) (by assumption) ?_
        rotate_left
        · intro w hSw
          (try dsimp only at hSw); go_simp; with_reducible rfl
        (try simp only [Act.put, List.setIfInBounds_toArray, List.set_cons_zero, List.set_cons_succ])
        refine wpAnyH_take (i := 1) (oi := { dst := some 13, op := Op.move (Operand.tmp 0), type := 45, pos := "l4_check.go:263", after := #[], guard := none }) (v := ?_) rfl (by kernel_rfl) (by kernel_rfl) (by kernel_rfl) (fun _ _ _ h => h) (Or.inl ⟨by rfl, ?_⟩) (by assumption) ?_
        rotate_left
        · intro w hSw
          (try dsimp only at hSw); go_simp; with_reducible rfl
        (try simp only [Act.put, List.setIfInBounds_toArray, List.set_cons_zero, List.set_cons_succ])
        refine wpAnyH_take (i := 2) (oi := { dst := some 14, op := Op.move (Operand.tmp 5), type := 3, pos := "l4_check.go:263", after := #[], guard := none }) (v := ?_) rfl (by kernel_rfl) (by kernel_rfl) (by kernel_rfl) (fun _ _ _ h => h) (Or.inl ⟨by rfl, ?_⟩) (by assumption) ?_
        rotate_left
        · intro w hSw
          (try dsimp only at hSw); go_simp; with_reducible rfl
        (try simp only [Act.put, List.setIfInBounds_toArray, List.set_cons_zero, List.set_cons_succ])
        refine wpAnyH_take (i := 3) (oi := { dst := some 15, op := Op.indexAddr 45 (Operand.tmp 13) (Operand.tmp 14), type := 0, pos := "l4_check.go:263", after := #[{ on := 1, ground := Ground.data }, { on := 2, ground := Ground.data }], guard := none }) (v := ?_) rfl (by kernel_rfl) (by kernel_rfl) (by kernel_rfl) (fun _ _ _ h => h) (Or.inl ⟨by rfl, ?_⟩) (by assumption) ?_
        rotate_left
        · intro w hSw
          (try dsimp only at hSw); go_simp; with_reducible rfl
        (try simp only [Act.put, List.setIfInBounds_toArray, List.set_cons_zero, List.set_cons_succ])
        refine wpAnyH_take (i := 4) (oi := { dst := some 16, op := Op.load 73 (Operand.tmp 15), type := 73, pos := "l4_check.go:263", after := #[{ on := 3, ground := Ground.data }], guard := none }) (v := ?_) rfl (by kernel_rfl) (by kernel_rfl) (by kernel_rfl) (fun _ _ _ h => h) (Or.inl ⟨by rfl, ?_⟩) (by assumption) ?_
        rotate_left
        · intro w hSw
          (try dsimp only at hSw); go_simp; with_reducible rfl
        (try simp only [Act.put, List.setIfInBounds_toArray, List.set_cons_zero, List.set_cons_succ])
        refine wpAnyH_take (i := 6) (oi := { dst := some 18, op := Op.move (Operand.tmp 1), type := 100, pos := "l4_check.go:263", after := #[], guard := none }) (v := ?_) rfl (by kernel_rfl) (by kernel_rfl) (by kernel_rfl) (fun _ _ _ h => h) (Or.inl ⟨by rfl, ?_⟩) (by assumption) ?_
        rotate_left
        · intro w hSw
          (try dsimp only at hSw); go_simp; with_reducible rfl
        (try simp only [Act.put, List.setIfInBounds_toArray, List.set_cons_zero, List.set_cons_succ])
        refine wpAnyH_take (i := 7) (oi := { dst := some 19, op := Op.move (Operand.tmp 0), type := 45, pos := "l4_check.go:263", after := #[], guard := none }) (v := ?_) rfl (by kernel_rfl) (by kernel_rfl) (by kernel_rfl) (fun _ _ _ h => h) (Or.inl ⟨by rfl, ?_⟩) (by assumption) ?_
        rotate_left
        · intro w hSw
          (try dsimp only at hSw); go_simp; with_reducible rfl
        (try simp only [Act.put, List.setIfInBounds_toArray, List.set_cons_zero, List.set_cons_succ])
        refine wpAnyH_take (i := 8) (oi := { dst := some 20, op := Op.move (Operand.tmp 5), type := 3, pos := "l4_check.go:263", after := #[], guard := none }) (v := ?_) rfl (by kernel_rfl) (by kernel_rfl) (by kernel_rfl) (fun _ _ _ h => h) (Or.inl ⟨by rfl, ?_⟩) (by assumption) ?_
        rotate_left
        · intro w hSw
          (try dsimp only at hSw); go_simp; with_reducible rfl
        (try simp only [Act.put, List.setIfInBounds_toArray, List.set_cons_zero, List.set_cons_succ])
        refine wpAnyH_take (i := 9) (oi := { dst := some 21, op := Op.binOp BinOp.sub 3 (Operand.tmp 20) (Operand.const (Value.int IntKind.i64 1)) 3, type := 3, pos := "l4_check.go:263", after := #[{ on := 8, ground := Ground.data }], guard := none }) (v := ?_) rfl (by kernel_rfl) (by kernel_rfl) (by kernel_rfl) (fun _ _ _ h => h) (Or.inl ⟨by rfl, ?_⟩) (by assumption) ?_
        rotate_left
        · intro w hSw
          (try dsimp only at hSw); go_simp; with_reducible rfl
        (try simp only [Act.put, List.setIfInBounds_toArray, List.set_cons_zero, List.set_cons_succ])
        refine wpAnyH_take (i := 10) (oi := { dst := some 22, op := Op.indexAddr 45 (Operand.tmp 19) (Operand.tmp 21), type := 0, pos := "l4_check.go:263", after := #[{ on := 7, ground := Ground.data }, { on := 9, ground := Ground.data }], guard := none }) (v := ?_) rfl (by kernel_rfl) (by kernel_rfl) (by kernel_rfl) (fun _ _ _ h => h) (Or.inl ⟨by rfl, ?_⟩) (by assumption) ?_
        rotate_left
        · intro w hSw
          (try dsimp only at hSw); go_simp; with_reducible rfl
        (try simp only [Act.put, List.setIfInBounds_toArray, List.set_cons_zero, List.set_cons_succ])
        refine wpAnyH_take (i := 11) (oi := { dst := some 23, op := Op.load 73 (Operand.tmp 22), type := 73, pos := "l4_check.go:263", after := #[{ on := 10, ground := Ground.data }], guard := none }) (v := ?_) rfl (by kernel_rfl) (by kernel_rfl) (by kernel_rfl) (fun _ _ _ h => h) (Or.inl ⟨by rfl, ?_⟩) (by assumption) ?_
        rotate_left
        · intro w hSw
          (try dsimp only at hSw); go_simp; with_reducible rfl
        (try simp only [Act.put, List.setIfInBounds_toArray, List.set_cons_zero, List.set_cons_succ])
        refine wpAnyH_ready (rs := [5]) (by kernel_rfl) (by simp) ?_
        refine AllReadyH.cons rfl (fun K hK => ?_) AllReadyH.nil
        go_simp
        refine (wayName_any _ _ _).mono ?_
        rintro e w8 ⟨rfl, hb8⟩
        have P8 := PD.keep hb8
        refine hK.out _ _ ⟨P8.k0, P8.k1, P8.k2, P8.k3⟩ (fun hHeld => ?_)
        clear hK K e0 e1 e2 e3 hb8 PD
        refine wpAnyH_ready (rs := [12]) (by kernel_rfl) (by simp) ?_
        refine AllReadyH.cons rfl (fun K hK => ?_) AllReadyH.nil
        go_simp
        refine (wayName_any _ _ _).mono ?_
        rintro e w9 ⟨rfl, hb9⟩
        have P9 := P8.keep hb9
        refine hK.out _ _ ⟨P9.k0, P9.k1, P9.k2, P9.k3⟩ (fun hHeld => ?_)
        clear hK K hb9 P8
        refine wpAnyH_ready (rs := [13]) (by kernel_rfl) (by simp) ?_
        refine AllReadyH.cons rfl (fun K hK => ?_) AllReadyH.nil
        go_simp
        refine hK.out _ _ ⟨P9.k0, P9.k1, P9.k2, P9.k3⟩ (fun hHeld => ?_)
        clear hK K
        refine wpAnyH_done (by kernel_rfl) ?_ _
        have HB9 := hid P9.b
        clear P9
        go_wp2_with fail
        go_meet
        case rel => exact ⟨by rw [← hq.out]; rfl, HB9⟩
      case rest =>
        obtain ⟨rfl, HB1⟩ := hcut
        clear c0 c1 d0 d1
        cases q with
        | true =>
          have HN := hid (show ¬ AscP ts from fun h => by
            have := h k hlt
            rw [HT.out, HU.out] at this
            exact this hq.out)
          go_wp2
          go_ret
          exact ⟨false, rfl, ⟨fun h => (by cases h), fun h => absurd h HN.out⟩, HB1.out⟩
        | false =>
          have HN := hid (show ∀ i (hi : i + 1 < ts.length), i < k + 1 → ¬ (leS ts[i + 1].name ts[i].name = true) from fun i hi h => by
            by_cases e : i = k
            · subst e
              rw [HT.out, HU.out]
              simp only
              rw [hq.out]
              simp
            · exact HE.out i hi (by omega))
          go_wp2
          go_roundw
          case rel => exact ⟨k + 1, by omega, by go_num, HN, HB1⟩
          case measure => simp [intOf]; omega
    · have HN := hid (show AscP ts from fun i hi => HE.out i hi (by omega))
      go_wp2
      go_ret
      exact ⟨true, rfl, ⟨fun _ => HN.out, fun _ => rfl⟩, HB.out⟩

end Go.Proofs.Ytjhmjjechagbjaa
