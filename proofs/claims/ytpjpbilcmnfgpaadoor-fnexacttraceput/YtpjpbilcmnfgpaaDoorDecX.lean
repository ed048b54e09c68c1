/- Contract of the specification's l13Dec: it answers the decimal numeral, at every int. Printed by tools/gen/decx.py. -/
import Derived.Test.YtpjpbilcmnfgpaaDoorTrDec
import Derived.Lib.ItoaLen
namespace Go.Proofs.YtpjpbilcmnfgpaaDoor
open Go.RowKit
set_option maxHeartbeats 1000000
set_option maxRecDepth 20000
set_option linter.unusedVariables false

/-- the decimal numeral of a number that is not below 0 -/
def numT (n : Int) : ByteArray := bytesOf (Lib.decDigits n.toNat)
theorem byte_of {n : Int} {c : UInt8} (h0 : 0 ≤ n) (h1 : n < 10) (hc : 48 + n = (c.toNat : Int)) : c = UInt8.ofNat (48 + n.toNat) := by
  apply UInt8.toNat_inj.1
  simp
  omega
theorem numT_one {n : Int} {c : UInt8} (h0 : 0 ≤ n) (h10 : n < 10) (hc : 48 + n = (c.toNat : Int)) : Hid (bytesOf [c] = numT n) := by
  unfold Hid numT
  rw [Lib.decDigits_one (by omega), byte_of h0 h10 hc]
theorem numT_next {n : Int} {c : UInt8} {s : ByteArray} (h0 : 0 ≤ n) (h10 : ¬ n < 10) (hs : s = numT (n / 10)) (hc : 48 + n % 10 = (c.toNat : Int)) : Hid (s ++ bytesOf [c] = numT n) := by
  unfold Hid numT
  subst hs
  rw [Lib.decDigits, dif_neg (by omega), byte_of (by omega) (by omega) hc, numT, bytes_app, show (n / 10).toNat = n.toNat / 10 by omega, show (n % 10).toNat = n.toNat % 10 by omega]

/-- a number in decimals -/
theorem l13DecQ_any : ∀ (k : Nat) (n : Int) (w : World), k ≤ 19 → 0 ≤ n → n ≤ 9223372036854775807 → n < 10 ^ k → 1 ≤ k →
    Calls Tryd.prog 18 #[.int .i64 n] w fun e w' => ∃ s : ByteArray, e = .returned (.string s) ∧ s.size ≤ k ∧ Hid (s = numT n) ∧ Below w.heap.size w w'
  | 0, n, w, _, _, _, _, h => by omega
  | k + 1, n, w, hk, h0, hmax, h1, _ => by
    have hlo : ¬ n < -9223372036854775807 := by omega
    have hneg : ¬ n < 0 := by omega
    by_cases h10 : n < 10
    · obtain ⟨c, hc⟩ := fig_byte n h0 h10
      have hcv := fun W => conv_new W (48 + n) c hc
      have HC := hid hc
      clear h1 hc
      go_enter Tryd.func18, Tryd.ntmps18
      go_wp2
      go_ret
      refine ⟨_, rfl, ?_, ?_, ?_⟩
      · rw [bytes_size]; simp
      · exact numT_one h0 (by omega) HC.out
      · go_grown
    · obtain ⟨j, rfl⟩ : ∃ j, k = j + 1 := by
        cases k with
        | zero => simp at h1; omega
        | succ j => exact ⟨j, rfl⟩
      have hq : n / 10 < 10 ^ (j + 1) := by
        rw [Int.pow_succ] at h1
        omega
      have hR := fun W => l13DecQ_any (j + 1) (n / 10) W (by omega) (by omega) (by omega) hq (by omega)
      have hm0 : 0 ≤ n % 10 := by omega
      have hm1 : n % 10 < 10 := by omega
      obtain ⟨c, hc⟩ := fig_byte (n % 10) hm0 hm1
      have he1 : IntKind.i64.wrap (n.tdiv 10) = n / 10 := by rw [Int.tdiv_eq_ediv_of_nonneg h0, IntKind.wrap_i64]; omega
      have he2 : IntKind.u8.wrap (IntKind.i64.wrap (48 + n.tmod 10)) = (c.toNat : Int) := by
        rw [Int.tmod_eq_emod_of_nonneg h0, ← hc, show IntKind.i64.wrap (48 + n % 10) = 48 + n % 10 by rw [IntKind.wrap_i64]; omega]
        simp only [IntKind.wrap, IntKind.bits, IntKind.signed]
        simp
        omega
      have HC := hid hc
      clear h1 hq
      go_enter Tryd.func18, Tryd.ntmps18
      go_wp2_with fail
      refine wp_region_held_drew (S := fun _ : World => True) (by kernel_rfl) True.intro (fun hHeld => ?_)
      refine wpAnyH_take (i := 0) (oi := { dst := some 18, op := Op.move (Operand.tmp 0), type := 3, pos := "l13_asm.go:29", after := #[], guard := none }) (v := ?_) rfl (by kernel_rfl) (by kernel_rfl) (by kernel_rfl) (fun _ _ _ h => h) (Or.inl ⟨by rfl, ?_⟩) (by assumption) ?_
      rotate_left
      · intro w hSw
        (try dsimp only at hSw); go_simp; with_reducible rfl
      (try simp only [Act.put, List.setIfInBounds_toArray, List.set_cons_zero, List.set_cons_succ])
      refine wpAnyH_take (i := 1) (oi := { dst := some 19, op := Op.binOp BinOp.quo 3 (Operand.tmp 18) (Operand.const (Value.int IntKind.i64 10)) 3, type := 3, pos := "l13_asm.go:29", after := #[{ on := 0, ground := Ground.data }], guard := none }) (v := ?_) rfl (by kernel_rfl) (by kernel_rfl) (by kernel_rfl) (fun _ _ _ h => h) (Or.inl ⟨by rfl, ?_⟩) (by assumption) ?_
      rotate_left
      · intro w hSw
        (try dsimp only at hSw); go_simp; with_reducible rfl
      (try simp only [Act.put, List.setIfInBounds_toArray, List.set_cons_zero, List.set_cons_succ])
      refine wpAnyH_take (i := 3) (oi := { dst := some 21, op := Op.move (Operand.tmp 0), type := 3, pos := "l13_asm.go:29", after := #[], guard := none }) (v := ?_) rfl (by kernel_rfl) (by kernel_rfl) (by kernel_rfl) (fun _ _ _ h => h) (Or.inl ⟨by rfl, ?_⟩) (by assumption) ?_
      rotate_left
      · intro w hSw
        (try dsimp only at hSw); go_simp; with_reducible rfl
      (try simp only [Act.put, List.setIfInBounds_toArray, List.set_cons_zero, List.set_cons_succ])
      refine wpAnyH_take (i := 4) (oi := { dst := some 22, op := Op.binOp BinOp.rem 3 (Operand.tmp 21) (Operand.const (Value.int IntKind.i64 10)) 3, type := 3, pos := "l13_asm.go:29", after := #[{ on := 3, ground := Ground.data }], guard := none }) (v := ?_) rfl (by kernel_rfl) (by kernel_rfl) (by kernel_rfl) (fun _ _ _ h => h) (Or.inl ⟨by rfl, ?_⟩) (by assumption) ?_
      rotate_left
      · intro w hSw
        (try dsimp only at hSw); go_simp; with_reducible rfl
      (try simp only [Act.put, List.setIfInBounds_toArray, List.set_cons_zero, List.set_cons_succ])
      refine wpAnyH_take (i := 5) (oi := { dst := some 23, op := Op.binOp BinOp.add 3 (Operand.const (Value.int IntKind.i64 48)) (Operand.tmp 22) 3, type := 3, pos := "l13_asm.go:29", after := #[{ on := 4, ground := Ground.data }], guard := none }) (v := ?_) rfl (by kernel_rfl) (by kernel_rfl) (by kernel_rfl) (fun _ _ _ h => h) (Or.inl ⟨by rfl, ?_⟩) (by assumption) ?_
      rotate_left
      · intro w hSw
        (try dsimp only at hSw); go_simp; with_reducible rfl
      (try simp only [Act.put, List.setIfInBounds_toArray, List.set_cons_zero, List.set_cons_succ])
      refine wpAnyH_take (i := 6) (oi := { dst := some 24, op := Op.convert 3 5 (Operand.tmp 23), type := 5, pos := "l13_asm.go:29", after := #[{ on := 5, ground := Ground.data }], guard := none }) (v := ?_) rfl (by kernel_rfl) (by kernel_rfl) (by kernel_rfl) (fun _ _ _ h => h) (Or.inl ⟨by rfl, ?_⟩) (by assumption) ?_
      rotate_left
      · intro w hSw
        (try dsimp only at hSw); go_simp; with_reducible rfl
      (try simp only [Act.put, List.setIfInBounds_toArray, List.set_cons_zero, List.set_cons_succ])
      have hdr : Below w.heap.size w w.drew := (Below.refl _ _).drew
      have hcn := fun W => conv_new W (c.toNat : Int) c rfl
      have hca := fun W b => conv_at W b c
      refine wpAnyH_ready (rs := [2, 7]) (by kernel_rfl) (by simp) ?_
      refine AllReadyH.cons rfl (fun K' hK' => ?_) (AllReadyH.cons rfl (fun K' hK' => ?_) AllReadyH.nil)
      · go_simp
        refine (hR _).mono ?_
        rintro e w2 ⟨s2, rfl, hs2, HE2, hb2⟩
        refine hK'.out _ _ True.intro (fun _ => ?_)
        clear hK' K'
        refine wpAnyH_ready (rs := [7]) (by kernel_rfl) (by simp) ?_
        refine AllReadyH.cons rfl (fun K' hK' => ?_) AllReadyH.nil
        go_simp
        refine hK'.out _ _ True.intro (fun _ => ?_)
        clear hK' K'
        refine wpAnyH_ready (rs := [8]) (by kernel_rfl) (by simp) ?_
        refine AllReadyH.cons rfl (fun K' hK' => ?_) AllReadyH.nil
        go_simp
        refine hK'.out _ _ True.intro (fun hHeld => ?_)
        clear hK' K'
        have hbs : (bytesOf [c]).size = 1 := by rw [bytes_size]; rfl
        have hfit : ¬ 9223372036854775807 < s2.size + 1 := by omega
        have hb3 := hid (show Below w.heap.size w (w2.alloc (.cells #[.int .u8 (c.toNat : Int)] 5)) from (hdr.trans (hb2.mono hdr.size)).alloc (Nat.le_trans hdr.size hb2.size) _)
        clear hb2 hcn hca hR he1 he2
        refine wpAnyH_take (i := 9) (oi := { dst := some 27, op := Op.binOp BinOp.add 9 (Operand.tmp 20) (Operand.tmp 26) 9, type := 9, pos := "l13_asm.go:29", after := #[{ on := 2, ground := Ground.data }, { on := 8, ground := Ground.data }], guard := none }) (v := ?_) rfl (by kernel_rfl) (by kernel_rfl) (by kernel_rfl) (fun _ _ _ h => h) (Or.inl ⟨by rfl, ?_⟩) (by assumption) ?_
        rotate_left
        · intro w hSw
          (try dsimp only at hSw); go_simp; with_reducible rfl
        (try simp only [Act.put, List.setIfInBounds_toArray, List.set_cons_zero, List.set_cons_succ])
        refine wpAnyH_take (i := 10) (oi := { dst := some 2, op := Op.assign (Operand.tmp 27), type := 9, pos := "l13_asm.go:29", after := #[{ on := 9, ground := Ground.data }, { on := 2, ground := Ground.chain }, { on := 0, ground := Ground.phase }, { on := 1, ground := Ground.phase }, { on := 2, ground := Ground.phase }, { on := 3, ground := Ground.phase }, { on := 4, ground := Ground.phase }, { on := 5, ground := Ground.phase }, { on := 6, ground := Ground.phase }, { on := 7, ground := Ground.phase }, { on := 8, ground := Ground.phase }, { on := 9, ground := Ground.phase }], guard := none }) (v := ?_) rfl (by kernel_rfl) (by kernel_rfl) (by kernel_rfl) (fun _ _ _ h => h) (Or.inl ⟨by rfl, ?_⟩) (by assumption) ?_
        rotate_left
        · intro w hSw
          (try dsimp only at hSw); go_simp; with_reducible rfl
        (try simp only [Act.put, List.setIfInBounds_toArray, List.set_cons_zero, List.set_cons_succ])
        refine wpAnyH_done (by kernel_rfl) ?_ _
        have HBX := hid (hb3.out)
        go_wp2
        go_ret
        refine ⟨_, rfl, ?_, numT_next h0 (by omega) HE2.out HC.out, HBX.out⟩
        rw [ByteArray.size_append, bytes_size]
        simp
        omega
      · go_simp
        refine hK'.out _ _ True.intro (fun _ => ?_)
        clear hK' K'
        have hcl : (w.alloc (.cells #[.int .u8 (c.toNat : Int)] 5)).drew.cell? ⟨w.heap.size, 0, none⟩ = some (.int .u8 (c.toNat : Int)) := by
          have := cells_new w #[.int .u8 (c.toNat : Int)] 5 0 _ rfl
          rw [addr_add] at this
          exact this
        have hbd : Below w.heap.size w (w.alloc (.cells #[.int .u8 (c.toNat : Int)] 5)).drew := ((Below.refl _ _).alloc (Nat.le_refl _) _).drew
        have hlt : w.heap.size < (w.alloc (.cells #[.int .u8 (c.toNat : Int)] 5)).drew.heap.size := by
          show w.heap.size < (w.alloc (.cells #[.int .u8 (c.toNat : Int)] 5)).heap.size
          simp
        have hcd := conv_at _ _ c hcl
        have HBD := hid hbd
        refine wpAnyH_ready (rs := [2, 8]) (by kernel_rfl) (by simp) ?_
        refine AllReadyH.cons rfl (fun K' hK' => ?_) (AllReadyH.cons rfl (fun K' hK' => ?_) AllReadyH.nil)
        · go_simp
          refine (hR _).mono ?_
          rintro e w2 ⟨s2, rfl, hs2, HE2, hb2⟩
          have hc2 := conv_at w2 w.heap.size c ((hb_cell hb2 hlt).trans hcl)
          refine hK'.out _ _ True.intro (fun _ => ?_)
          clear hK' K'
          refine wpAnyH_ready (rs := [8]) (by kernel_rfl) (by simp) ?_
          refine AllReadyH.cons rfl (fun K' hK' => ?_) AllReadyH.nil
          go_simp
          refine hK'.out _ _ True.intro (fun hHeld => ?_)
          clear hK' K'
          have hbs : (bytesOf [c]).size = 1 := by rw [bytes_size]; rfl
          have hfit : ¬ 9223372036854775807 < s2.size + 1 := by omega
          have hb3 := hid (show Below w.heap.size w w2 from HBD.out.trans (hb2.mono HBD.out.size))
          clear hb2 hcn hca hR he1 he2 hc2 hcd hcl
          refine wpAnyH_take (i := 9) (oi := { dst := some 27, op := Op.binOp BinOp.add 9 (Operand.tmp 20) (Operand.tmp 26) 9, type := 9, pos := "l13_asm.go:29", after := #[{ on := 2, ground := Ground.data }, { on := 8, ground := Ground.data }], guard := none }) (v := ?_) rfl (by kernel_rfl) (by kernel_rfl) (by kernel_rfl) (fun _ _ _ h => h) (Or.inl ⟨by rfl, ?_⟩) (by assumption) ?_
          rotate_left
          · intro w hSw
            (try dsimp only at hSw); go_simp; with_reducible rfl
          (try simp only [Act.put, List.setIfInBounds_toArray, List.set_cons_zero, List.set_cons_succ])
          refine wpAnyH_take (i := 10) (oi := { dst := some 2, op := Op.assign (Operand.tmp 27), type := 9, pos := "l13_asm.go:29", after := #[{ on := 9, ground := Ground.data }, { on := 2, ground := Ground.chain }, { on := 0, ground := Ground.phase }, { on := 1, ground := Ground.phase }, { on := 2, ground := Ground.phase }, { on := 3, ground := Ground.phase }, { on := 4, ground := Ground.phase }, { on := 5, ground := Ground.phase }, { on := 6, ground := Ground.phase }, { on := 7, ground := Ground.phase }, { on := 8, ground := Ground.phase }, { on := 9, ground := Ground.phase }], guard := none }) (v := ?_) rfl (by kernel_rfl) (by kernel_rfl) (by kernel_rfl) (fun _ _ _ h => h) (Or.inl ⟨by rfl, ?_⟩) (by assumption) ?_
          rotate_left
          · intro w hSw
            (try dsimp only at hSw); go_simp; with_reducible rfl
          (try simp only [Act.put, List.setIfInBounds_toArray, List.set_cons_zero, List.set_cons_succ])
          refine wpAnyH_done (by kernel_rfl) ?_ _
          have HBX := hid (hb3.out)
          go_wp2
          go_ret
          refine ⟨_, rfl, ?_, numT_next h0 (by omega) HE2.out HC.out, HBX.out⟩
          rw [ByteArray.size_append, bytes_size]
          simp
          omega
        · go_simp
          refine hK'.out _ _ True.intro (fun _ => ?_)
          clear hK' K'
          refine wpAnyH_ready (rs := [2]) (by kernel_rfl) (by simp) ?_
          refine AllReadyH.cons rfl (fun K' hK' => ?_) AllReadyH.nil
          go_simp
          refine (hR _).mono ?_
          rintro e w2 ⟨s2, rfl, hs2, HE2, hb2⟩
          refine hK'.out _ _ True.intro (fun hHeld => ?_)
          clear hK' K'
          have hbs : (bytesOf [c]).size = 1 := by rw [bytes_size]; rfl
          have hfit : ¬ 9223372036854775807 < s2.size + 1 := by omega
          have hb3 := hid (show Below w.heap.size w w2 from HBD.out.trans (hb2.mono HBD.out.size))
          clear hb2 hcn hca hR he1 he2 hcd hcl
          refine wpAnyH_take (i := 9) (oi := { dst := some 27, op := Op.binOp BinOp.add 9 (Operand.tmp 20) (Operand.tmp 26) 9, type := 9, pos := "l13_asm.go:29", after := #[{ on := 2, ground := Ground.data }, { on := 8, ground := Ground.data }], guard := none }) (v := ?_) rfl (by kernel_rfl) (by kernel_rfl) (by kernel_rfl) (fun _ _ _ h => h) (Or.inl ⟨by rfl, ?_⟩) (by assumption) ?_
          rotate_left
          · intro w hSw
            (try dsimp only at hSw); go_simp; with_reducible rfl
          (try simp only [Act.put, List.setIfInBounds_toArray, List.set_cons_zero, List.set_cons_succ])
          refine wpAnyH_take (i := 10) (oi := { dst := some 2, op := Op.assign (Operand.tmp 27), type := 9, pos := "l13_asm.go:29", after := #[{ on := 9, ground := Ground.data }, { on := 2, ground := Ground.chain }, { on := 0, ground := Ground.phase }, { on := 1, ground := Ground.phase }, { on := 2, ground := Ground.phase }, { on := 3, ground := Ground.phase }, { on := 4, ground := Ground.phase }, { on := 5, ground := Ground.phase }, { on := 6, ground := Ground.phase }, { on := 7, ground := Ground.phase }, { on := 8, ground := Ground.phase }, { on := 9, ground := Ground.phase }], guard := none }) (v := ?_) rfl (by kernel_rfl) (by kernel_rfl) (by kernel_rfl) (fun _ _ _ h => h) (Or.inl ⟨by rfl, ?_⟩) (by assumption) ?_
          rotate_left
          · intro w hSw
            (try dsimp only at hSw); go_simp; with_reducible rfl
          (try simp only [Act.put, List.setIfInBounds_toArray, List.set_cons_zero, List.set_cons_succ])
          refine wpAnyH_done (by kernel_rfl) ?_ _
          have HBX := hid (hb3.out)
          go_wp2
          go_ret
          refine ⟨_, rfl, ?_, numT_next h0 (by omega) HE2.out HC.out, HBX.out⟩
          rw [ByteArray.size_append, bytes_size]
          simp
          omega

def itoaT (n : Int) : ByteArray := bytesOf (Lib.itoa n)
theorem itoaT_pos {n : Int} (h : 0 ≤ n) : itoaT n = numT n := by
  obtain ⟨u, rfl⟩ : ∃ u : Nat, n = u := ⟨n.toNat, by omega⟩
  unfold itoaT numT
  rw [Lib.itoa_nonneg]; simp
theorem itoaT_neg {n : Int} (h : n < 0) {s : ByteArray} (hs : s = numT (-n)) : (⟨#[45]⟩ : ByteArray) ++ s = itoaT n := by
  obtain ⟨u, rfl⟩ : ∃ u : Nat, n = -(u : Int) := ⟨n.natAbs, by omega⟩
  subst hs
  unfold itoaT numT
  rw [Lib.itoa_neg u (by omega), show (- -(u : Int)).toNat = u by omega]
  exact bytes_app [45] _
theorem itoaT_size (n : Int) (h0 : -9223372036854775808 ≤ n) (h1 : n ≤ 9223372036854775807) : (itoaT n).size ≤ 21 := by
  unfold itoaT
  rw [bytes_size]
  exact Lib.itoa_length_le n h0 h1
theorem itoaT_least : (⟨#[45, 57, 50, 50, 51, 51, 55, 50, 48, 51, 54, 56, 53, 52, 55, 55, 53, 56, 48, 56]⟩ : ByteArray) = itoaT (-9223372036854775808) := by
  have : Lib.itoa (-9223372036854775808) = [45, 57, 50, 50, 51, 51, 55, 50, 48, 51, 54, 56, 53, 52, 55, 55, 53, 56, 48, 56] := by
    unfold Lib.itoa
    rw [if_pos (by decide)]
    simp [Lib.decDigits]
  unfold itoaT
  rw [this]
  rfl
theorem l13DecX_any (n : Int) (w : World) (h0 : -9223372036854775808 ≤ n) (h1 : n ≤ 9223372036854775807) :
    Calls Tryd.prog 18 #[.int .i64 n] w fun e w' => e = .returned (.string (itoaT n)) ∧ Below w.heap.size w w' := by
  have hp : (10 : Int) ^ 19 = 10000000000000000000 := by decide
  by_cases hl : n < -9223372036854775807
  · obtain rfl : n = -9223372036854775808 := by omega
    rw [← itoaT_least]
    go_enter Tryd.func18, Tryd.ntmps18
    go_wp2
    go_ret
    exact ⟨rfl, by go_grown⟩
  by_cases hn : n < 0
  · have hR := fun W => l13DecQ_any 19 (-n) W (by omega) (by omega) (by omega) (by rw [hp]; omega) (by omega)
    clear hp
    go_enter Tryd.func18, Tryd.ntmps18
    go_wp2_with fail
    refine (hR _).mono ?_
    rintro e w2 ⟨s2, rfl, hs2, HE2, hb2⟩
    have HB2 := hid hb2
    have hfit : ¬ 9223372036854775807 < 1 + s2.size := by omega
    clear hb2 hR
    go_wp2
    go_ret
    exact ⟨ret_str (itoaT_neg hn HE2.out), HB2.out⟩
  · refine (l13DecQ_any 19 n w (by omega) (by omega) h1 (by rw [hp]; omega) (by omega)).mono ?_
    rintro e w' ⟨s, rfl, hs, HE, hb⟩
    exact ⟨by rw [itoaT_pos (by omega), HE.out], hb⟩

end Go.Proofs.YtpjpbilcmnfgpaaDoor
