/- Contract of the specification's l13Dec: of what it answers only a bound is said. Printed by tools/gen/dec.py. -/
import Derived.Test.YtpjpbilcmnfgpaaDoorTrCutB
import Derived.Test.YtpjpbilcmnfgpaaDoorLkBase
import Derived.Laws.IdiomStrings
import Derived.Deep.RegionHeld
namespace Go.Proofs.YtpjpbilcmnfgpaaDoor
open Go.RowKit
set_option maxHeartbeats 1000000
set_option maxRecDepth 20000
set_option linter.unusedVariables false

theorem conv_at (W : World) (b : Nat) (c : UInt8) (hc : W.cell? ⟨b, 0, none⟩ = some (.int .u8 (c.toNat : Int))) :
    (convert 36 9 (.slice (some ⟨b, 0, none⟩) 1 1)).run Tryd.prog W = .ok (.string (bytesOf [c])) W := by
  refine run_convert_bytes_back (P := Tryd.prog) W 36 9 5 ⟨b, 0, none⟩ 1 [c] Tryd.underlying36 Tryd.underlying5 Tryd.underlying9 ?_
  intro j hj
  simp at hj
  subst hj
  rw [addr_add]
  simpa using hc
theorem conv_new (W : World) (n : Int) (c : UInt8) (hn : n = (c.toNat : Int)) :
    (convert 36 9 (.slice (some ⟨W.heap.size, 0, none⟩) 1 1)).run Tryd.prog (W.alloc (.cells #[.int .u8 n] 5)) = .ok (.string (bytesOf [c])) (W.alloc (.cells #[.int .u8 n] 5)) :=
  conv_at _ _ c (by have := cells_new W #[.int .u8 n] 5 0 _ rfl; rw [addr_add] at this; rw [← hn]; exact this)
theorem fig_byte (n : Int) (h0 : 0 ≤ n) (h1 : n < 10) : ∃ c : UInt8, 48 + n = (c.toNat : Int) := by
  refine ⟨UInt8.ofNat (48 + n.toNat), ?_⟩
  simp
  omega

/-- a number in decimals: no longer than its figures -/
theorem l13DecP_any : ∀ (k : Nat) (n : Int) (w : World), k ≤ 10 → 0 ≤ n → n < 10 ^ k → 1 ≤ k →
    Calls Tryd.prog 18 #[.int .i64 n] w fun e w' => ∃ s : ByteArray, e = .returned (.string s) ∧ s.size ≤ k ∧ Below w.heap.size w w'
  | 0, n, w, _, _, _, h => by omega
  | k + 1, n, w, hk, h0, h1, _ => by
    have h2 : ∀ j : Nat, j ≤ 10 → (10 : Int) ^ j ≤ 10000000000 := by
      intro j hj
      match j, hj with
      | 0, _ => decide
      | 1, _ => decide
      | 2, _ => decide
      | 3, _ => decide
      | 4, _ => decide
      | 5, _ => decide
      | 6, _ => decide
      | 7, _ => decide
      | 8, _ => decide
      | 9, _ => decide
      | 10, _ => decide
    have hn := h2 (k + 1) hk
    have hnb : n < 10000000000 := by omega
    have hlo : ¬ n < -9223372036854775807 := by omega
    have hneg : ¬ n < 0 := by omega
    by_cases h10 : n < 10
    · obtain ⟨c, hc⟩ := fig_byte n h0 h10
      have hcv := fun W => conv_new W (48 + n) c hc
      have HC := hid hc
      clear h1 h2 hn hc
      go_enter Tryd.func18, Tryd.ntmps18
      go_wp2
      go_ret
      refine ⟨_, rfl, ?_, ?_⟩
      · rw [bytes_size]; simp
      · go_grown
    · obtain ⟨j, rfl⟩ : ∃ j, k = j + 1 := by
        cases k with
        | zero => simp at h1; omega
        | succ j => exact ⟨j, rfl⟩
      have hq : n / 10 < 10 ^ (j + 1) := by
        rw [Int.pow_succ] at h1
        omega
      have hR := fun W => l13DecP_any (j + 1) (n / 10) W (by omega) (by omega) hq (by omega)
      have hm0 : 0 ≤ n % 10 := by omega
      have hm1 : n % 10 < 10 := by omega
      obtain ⟨c, hc⟩ := fig_byte (n % 10) hm0 hm1
      have he1 : IntKind.i64.wrap (n.tdiv 10) = n / 10 := by rw [Int.tdiv_eq_ediv_of_nonneg h0, IntKind.wrap_i64]; omega
      have he2 : IntKind.u8.wrap (IntKind.i64.wrap (48 + n.tmod 10)) = (c.toNat : Int) := by
        rw [Int.tmod_eq_emod_of_nonneg h0, ← hc, show IntKind.i64.wrap (48 + n % 10) = 48 + n % 10 by rw [IntKind.wrap_i64]; omega]
        simp only [IntKind.wrap, IntKind.bits, IntKind.signed]
        simp
        omega
      clear h1 h2 hn hq
      go_enter Tryd.func18, Tryd.ntmps18
      go_wp2_with fail
      refine wp_region_held_drew (S := fun _ : World => True) (by kernel_rfl) True.intro (fun hHeld => ?_)
      refine wpAnyH_take (i := 0) (oi := { dst := some 18, op := Op.move (Operand.tmp 0), type := 3, pos := "l13_asm.go:29", after := #[], guard := none }) (v := ?_) rfl (by kernel_rfl) (by kernel_rfl) (by kernel_rfl) (fun _ _ _ h => h) (Or.inl ⟨by rfl, ?_⟩) (by assumption) ?_
      rotate_left
      · intro w hSw
        (try dsimp only at hSw); go_simp; with_reducible rfl
      (try simp only [Act.put, List.setIfInBounds_toArray, List.set_cons_zero, List.set_cons_succ])
      refine wpAnyH_take (i := 1) (oi := { dst := some 19, op := Op.binOp BinOp.quo 3 (Operand.tmp 18) (Operand.const (Value.int IntKind.i64 10)) 3, type := 3, pos := "l13_asm.go:29", after := #[{ on := 0, ground := Ground.data }], guard := none }) (v := ?_) rfl (by kernel_rfl) (by kernel_rfl) (by kernel_rfl) (fun _ _ _ h => h) (Or.inl ⟨by rfl, ?_⟩) (by assumption) ?_
      rotate_left
      · intro w hSw
        (try dsimp only at hSw); go_simp; with_reducible rfl
      (try simp only [Act.put, List.setIfInBounds_toArray, List.set_cons_zero, List.set_cons_succ])
      refine wpAnyH_take (i := 3) (oi := { dst := some 21, op := Op.move (Operand.tmp 0), type := 3, pos := "l13_asm.go:29", after := #[], guard := none }) (v := ?_) rfl (by kernel_rfl) (by kernel_rfl) (by kernel_rfl) (fun _ _ _ h => h) (Or.inl ⟨by rfl, ?_⟩) (by assumption) ?_
      rotate_left
      · intro w hSw
        (try dsimp only at hSw); go_simp; with_reducible rfl
      (try simp only [Act.put, List.setIfInBounds_toArray, List.set_cons_zero, List.set_cons_succ])
      refine wpAnyH_take (i := 4) (oi := { dst := some 22, op := Op.binOp BinOp.rem 3 (Operand.tmp 21) (Operand.const (Value.int IntKind.i64 10)) 3, type := 3, pos := "l13_asm.go:29", after := #[{ on := 3, ground := Ground.data }], guard := none }) (v := ?_) rfl (by kernel_rfl) (by kernel_rfl) (by kernel_rfl) (fun _ _ _ h => h) (Or.inl ⟨by rfl, ?_⟩) (by assumption) ?_
      rotate_left
      · intro w hSw
        (try dsimp only at hSw); go_simp; with_reducible rfl
      (try simp only [Act.put, List.setIfInBounds_toArray, List.set_cons_zero, List.set_cons_succ])
      refine wpAnyH_take (i := 5) (oi := { dst := some 23, op := Op.binOp BinOp.add 3 (Operand.const (Value.int IntKind.i64 48)) (Operand.tmp 22) 3, type := 3, pos := "l13_asm.go:29", after := #[{ on := 4, ground := Ground.data }], guard := none }) (v := ?_) rfl (by kernel_rfl) (by kernel_rfl) (by kernel_rfl) (fun _ _ _ h => h) (Or.inl ⟨by rfl, ?_⟩) (by assumption) ?_
      rotate_left
      · intro w hSw
        (try dsimp only at hSw); go_simp; with_reducible rfl
      (try simp only [Act.put, List.setIfInBounds_toArray, List.set_cons_zero, List.set_cons_succ])
      refine wpAnyH_take (i := 6) (oi := { dst := some 24, op := Op.convert 3 5 (Operand.tmp 23), type := 5, pos := "l13_asm.go:29", after := #[{ on := 5, ground := Ground.data }], guard := none }) (v := ?_) rfl (by kernel_rfl) (by kernel_rfl) (by kernel_rfl) (fun _ _ _ h => h) (Or.inl ⟨by rfl, ?_⟩) (by assumption) ?_
      rotate_left
      · intro w hSw
        (try dsimp only at hSw); go_simp; with_reducible rfl
      (try simp only [Act.put, List.setIfInBounds_toArray, List.set_cons_zero, List.set_cons_succ])
      have hdr : Below w.heap.size w w.drew := (Below.refl _ _).drew
      have hcn := fun W => conv_new W (c.toNat : Int) c rfl
      have hca := fun W b => conv_at W b c
      refine wpAnyH_ready (rs := [2, 7]) (by kernel_rfl) (by simp) ?_
      refine AllReadyH.cons rfl (fun K' hK' => ?_) (AllReadyH.cons rfl (fun K' hK' => ?_) AllReadyH.nil)
      · go_simp
        refine (hR _).mono ?_
        rintro e w2 ⟨s2, rfl, hs2, hb2⟩
        refine hK'.out _ _ True.intro (fun _ => ?_)
        clear hK' K'
        refine wpAnyH_ready (rs := [7]) (by kernel_rfl) (by simp) ?_
        refine AllReadyH.cons rfl (fun K' hK' => ?_) AllReadyH.nil
        go_simp
        refine hK'.out _ _ True.intro (fun _ => ?_)
        clear hK' K'
        refine wpAnyH_ready (rs := [8]) (by kernel_rfl) (by simp) ?_
        refine AllReadyH.cons rfl (fun K' hK' => ?_) AllReadyH.nil
        go_simp
        refine hK'.out _ _ True.intro (fun hHeld => ?_)
        clear hK' K'
        have hbs : (bytesOf [c]).size = 1 := by rw [bytes_size]; rfl
        have hfit : ¬ 9223372036854775807 < s2.size + 1 := by omega
        have hb3 := hid (show Below w.heap.size w (w2.alloc (.cells #[.int .u8 (c.toNat : Int)] 5)) from (hdr.trans (hb2.mono hdr.size)).alloc (Nat.le_trans hdr.size hb2.size) _)
        clear hb2 hcn hca hR he1 he2
        refine wpAnyH_take (i := 9) (oi := { dst := some 27, op := Op.binOp BinOp.add 9 (Operand.tmp 20) (Operand.tmp 26) 9, type := 9, pos := "l13_asm.go:29", after := #[{ on := 2, ground := Ground.data }, { on := 8, ground := Ground.data }], guard := none }) (v := ?_) rfl (by kernel_rfl) (by kernel_rfl) (by kernel_rfl) (fun _ _ _ h => h) (Or.inl ⟨by rfl, ?_⟩) (by assumption) ?_
        rotate_left
        · intro w hSw
          (try dsimp only at hSw); go_simp; with_reducible rfl
        (try simp only [Act.put, List.setIfInBounds_toArray, List.set_cons_zero, List.set_cons_succ])
        refine wpAnyH_take (i := 10) (oi := { dst := some 2, op := Op.assign (Operand.tmp 27), type := 9, pos := "l13_asm.go:29", after := #[{ on := 9, ground := Ground.data }, { on := 2, ground := Ground.chain }, { on := 0, ground := Ground.phase }, { on := 1, ground := Ground.phase }, { on := 2, ground := Ground.phase }, { on := 3, ground := Ground.phase }, { on := 4, ground := Ground.phase }, { on := 5, ground := Ground.phase }, { on := 6, ground := Ground.phase }, { on := 7, ground := Ground.phase }, { on := 8, ground := Ground.phase }, { on := 9, ground := Ground.phase }], guard := none }) (v := ?_) rfl (by kernel_rfl) (by kernel_rfl) (by kernel_rfl) (fun _ _ _ h => h) (Or.inl ⟨by rfl, ?_⟩) (by assumption) ?_
        rotate_left
        · intro w hSw
          (try dsimp only at hSw); go_simp; with_reducible rfl
        (try simp only [Act.put, List.setIfInBounds_toArray, List.set_cons_zero, List.set_cons_succ])
        refine wpAnyH_done (by kernel_rfl) ?_ _
        have HBX := hid (hb3.out)
        go_wp2
        go_ret
        refine ⟨_, rfl, ?_, HBX.out⟩
        rw [ByteArray.size_append, bytes_size]
        simp
        omega
      · go_simp
        refine hK'.out _ _ True.intro (fun _ => ?_)
        clear hK' K'
        have hcl : (w.alloc (.cells #[.int .u8 (c.toNat : Int)] 5)).drew.cell? ⟨w.heap.size, 0, none⟩ = some (.int .u8 (c.toNat : Int)) := by
          have := cells_new w #[.int .u8 (c.toNat : Int)] 5 0 _ rfl
          rw [addr_add] at this
          exact this
        have hbd : Below w.heap.size w (w.alloc (.cells #[.int .u8 (c.toNat : Int)] 5)).drew := ((Below.refl _ _).alloc (Nat.le_refl _) _).drew
        have hlt : w.heap.size < (w.alloc (.cells #[.int .u8 (c.toNat : Int)] 5)).drew.heap.size := by
          show w.heap.size < (w.alloc (.cells #[.int .u8 (c.toNat : Int)] 5)).heap.size
          simp
        have hcd := conv_at _ _ c hcl
        have HBD := hid hbd
        refine wpAnyH_ready (rs := [2, 8]) (by kernel_rfl) (by simp) ?_
        refine AllReadyH.cons rfl (fun K' hK' => ?_) (AllReadyH.cons rfl (fun K' hK' => ?_) AllReadyH.nil)
        · go_simp
          refine (hR _).mono ?_
          rintro e w2 ⟨s2, rfl, hs2, hb2⟩
          have hc2 := conv_at w2 w.heap.size c ((hb_cell hb2 hlt).trans hcl)
          refine hK'.out _ _ True.intro (fun _ => ?_)
          clear hK' K'
          refine wpAnyH_ready (rs := [8]) (by kernel_rfl) (by simp) ?_
          refine AllReadyH.cons rfl (fun K' hK' => ?_) AllReadyH.nil
          go_simp
          refine hK'.out _ _ True.intro (fun hHeld => ?_)
          clear hK' K'
          have hbs : (bytesOf [c]).size = 1 := by rw [bytes_size]; rfl
          have hfit : ¬ 9223372036854775807 < s2.size + 1 := by omega
          have hb3 := hid (show Below w.heap.size w w2 from HBD.out.trans (hb2.mono HBD.out.size))
          clear hb2 hcn hca hR he1 he2 hc2 hcd hcl
          refine wpAnyH_take (i := 9) (oi := { dst := some 27, op := Op.binOp BinOp.add 9 (Operand.tmp 20) (Operand.tmp 26) 9, type := 9, pos := "l13_asm.go:29", after := #[{ on := 2, ground := Ground.data }, { on := 8, ground := Ground.data }], guard := none }) (v := ?_) rfl (by kernel_rfl) (by kernel_rfl) (by kernel_rfl) (fun _ _ _ h => h) (Or.inl ⟨by rfl, ?_⟩) (by assumption) ?_
          rotate_left
          · intro w hSw
            (try dsimp only at hSw); go_simp; with_reducible rfl
          (try simp only [Act.put, List.setIfInBounds_toArray, List.set_cons_zero, List.set_cons_succ])
          refine wpAnyH_take (i := 10) (oi := { dst := some 2, op := Op.assign (Operand.tmp 27), type := 9, pos := "l13_asm.go:29", after := #[{ on := 9, ground := Ground.data }, { on := 2, ground := Ground.chain }, { on := 0, ground := Ground.phase }, { on := 1, ground := Ground.phase }, { on := 2, ground := Ground.phase }, { on := 3, ground := Ground.phase }, { on := 4, ground := Ground.phase }, { on := 5, ground := Ground.phase }, { on := 6, ground := Ground.phase }, { on := 7, ground := Ground.phase }, { on := 8, ground := Ground.phase }, { on := 9, ground := Ground.phase }], guard := none }) (v := ?_) rfl (by kernel_rfl) (by kernel_rfl) (by kernel_rfl) (fun _ _ _ h => h) (Or.inl ⟨by rfl, ?_⟩) (by assumption) ?_
          rotate_left
          · intro w hSw
            (try dsimp only at hSw); go_simp; with_reducible rfl
          (try simp only [Act.put, List.setIfInBounds_toArray, List.set_cons_zero, List.set_cons_succ])
          refine wpAnyH_done (by kernel_rfl) ?_ _
          have HBX := hid (hb3.out)
          go_wp2
          go_ret
          refine ⟨_, rfl, ?_, HBX.out⟩
          rw [ByteArray.size_append, bytes_size]
          simp
          omega
        · go_simp
          refine hK'.out _ _ True.intro (fun _ => ?_)
          clear hK' K'
          refine wpAnyH_ready (rs := [2]) (by kernel_rfl) (by simp) ?_
          refine AllReadyH.cons rfl (fun K' hK' => ?_) AllReadyH.nil
          go_simp
          refine (hR _).mono ?_
          rintro e w2 ⟨s2, rfl, hs2, hb2⟩
          refine hK'.out _ _ True.intro (fun hHeld => ?_)
          clear hK' K'
          have hbs : (bytesOf [c]).size = 1 := by rw [bytes_size]; rfl
          have hfit : ¬ 9223372036854775807 < s2.size + 1 := by omega
          have hb3 := hid (show Below w.heap.size w w2 from HBD.out.trans (hb2.mono HBD.out.size))
          clear hb2 hcn hca hR he1 he2 hcd hcl
          refine wpAnyH_take (i := 9) (oi := { dst := some 27, op := Op.binOp BinOp.add 9 (Operand.tmp 20) (Operand.tmp 26) 9, type := 9, pos := "l13_asm.go:29", after := #[{ on := 2, ground := Ground.data }, { on := 8, ground := Ground.data }], guard := none }) (v := ?_) rfl (by kernel_rfl) (by kernel_rfl) (by kernel_rfl) (fun _ _ _ h => h) (Or.inl ⟨by rfl, ?_⟩) (by assumption) ?_
          rotate_left
          · intro w hSw
            (try dsimp only at hSw); go_simp; with_reducible rfl
          (try simp only [Act.put, List.setIfInBounds_toArray, List.set_cons_zero, List.set_cons_succ])
          refine wpAnyH_take (i := 10) (oi := { dst := some 2, op := Op.assign (Operand.tmp 27), type := 9, pos := "l13_asm.go:29", after := #[{ on := 9, ground := Ground.data }, { on := 2, ground := Ground.chain }, { on := 0, ground := Ground.phase }, { on := 1, ground := Ground.phase }, { on := 2, ground := Ground.phase }, { on := 3, ground := Ground.phase }, { on := 4, ground := Ground.phase }, { on := 5, ground := Ground.phase }, { on := 6, ground := Ground.phase }, { on := 7, ground := Ground.phase }, { on := 8, ground := Ground.phase }, { on := 9, ground := Ground.phase }], guard := none }) (v := ?_) rfl (by kernel_rfl) (by kernel_rfl) (by kernel_rfl) (fun _ _ _ h => h) (Or.inl ⟨by rfl, ?_⟩) (by assumption) ?_
          rotate_left
          · intro w hSw
            (try dsimp only at hSw); go_simp; with_reducible rfl
          (try simp only [Act.put, List.setIfInBounds_toArray, List.set_cons_zero, List.set_cons_succ])
          refine wpAnyH_done (by kernel_rfl) ?_ _
          have HBX := hid (hb3.out)
          go_wp2
          go_ret
          refine ⟨_, rfl, ?_, HBX.out⟩
          rw [ByteArray.size_append, bytes_size]
          simp
          omega

theorem l13Dec_any (n : Int) (w : World) (h0 : -1000000000 ≤ n) (h1 : n ≤ 1000000000) :
    Calls Tryd.prog 18 #[.int .i64 n] w fun e w' => ∃ s : ByteArray, e = .returned (.string s) ∧ s.size ≤ 11 ∧ Below w.heap.size w w' := by
  by_cases hn : n < 0
  · have hR := fun W => l13DecP_any 10 (-n) W (by omega) (by omega) (by have : (10 : Int) ^ 10 = 10000000000 := by decide
                                                                        omega) (by omega)
    have hlo : ¬ n < -9223372036854775807 := by omega
    go_enter Tryd.func18, Tryd.ntmps18
    go_wp2_with fail
    refine (hR _).mono ?_
    rintro e w2 ⟨s2, rfl, hs2, hb2⟩
    have HB2 := hid hb2
    have hfit : ¬ 9223372036854775807 < 1 + s2.size := by omega
    clear hb2 hR
    go_wp2
    go_ret
    refine ⟨_, rfl, ?_, HB2.out⟩
    rw [ByteArray.size_append]
    have : (ByteArray.mk #[45]).size = 1 := rfl
    omega
  · refine (l13DecP_any 10 n w (by omega) (by omega) (by have : (10 : Int) ^ 10 = 10000000000 := by decide
                                                         omega) (by omega)).mono ?_
    rintro e w' ⟨s, rfl, hs, hb⟩
    exact ⟨s, rfl, by omega, hb⟩

end Go.Proofs.YtpjpbilcmnfgpaaDoor
