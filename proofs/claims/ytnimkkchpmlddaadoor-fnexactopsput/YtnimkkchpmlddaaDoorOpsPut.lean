/- Contracts of numberFits and OpsPut of the program. -/
import Derived.Test.YtnimkkchpmlddaaDoorOpsPutMath
import Derived.Test.YtnimkkchpmlddaaDoorOpsEq
import Derived.Test.YtnimkkchpmlddaaDoorBuilder
namespace Go.Proofs.YtnimkkchpmlddaaDoor
open Mx Go.RowKit
set_option maxHeartbeats 400000

theorem numberFits_any (op : Nat) (num : Int) (w : World) (h1 : op < 35) (hT : Tab w) :
    Calls Tryd.prog 23 #[.int .i64 (op : Int), .int .i64 num] w fun e w' => e = .returned (.bool (fitsB op num)) ∧ w' = w := by
  have HF : Hid (fitsB op num = if (op : Int) = 1 then decide (-32768 ≤ num) && decide (num ≤ 32767) else decide (0 ≤ num) && decide (num < (if args op = 2 then 65536 else if args op = 1 then 256 else 1))) := rfl
  have hc := hT.2 op h1
  rw [← args_tab op h1] at hc
  have hr := op_args (op := op) (by omega) (by omega)
  by_cases ho : op = 1
  · have ho' : ((op : Int) == 1) = true := by rw [beq_iff_eq]; omega
    have HO : Hid ((op : Int) = 1) := by unfold Hid; omega
    clear ho hc hr
    go_enter Tryd.func23, Tryd.ntmps23
    go_wp2
    all_goals go_ret
    all_goals refine ⟨ret_bool ?_, rfl⟩
    all_goals (rw [HF.out, if_pos HO.out, Bool.eq_iff_iff]; simp; omega)
  · have ho' : ((op : Int) == 1) = false := by rw [beq_eq_false_iff_ne]; omega
    have h3 : args (op : Int) = 0 ∨ args (op : Int) = 1 ∨ args (op : Int) = 2 := by omega
    rcases h3 with ha | ha | ha
    all_goals
      rw [ha] at hc
      have HA : Hid (args (op : Int) = _) := ha
      clear hr ha
      go_enter Tryd.func23, Tryd.ntmps23
      go_wp2
      all_goals go_ret
      all_goals refine ⟨ret_bool ?_, rfl⟩
      all_goals (rw [HF.out, HA.out, if_neg (by omega), Bool.eq_iff_iff]; simp; try omega)

theorem take_next {ts : List Op3} {k : Nat} (h : k < ts.length) : ts.take (k + 1) = ts.take k ++ [ts[k]] := List.take_succ_eq_append_getElem h
theorem valid_next {ts : List Op3} {k : Nat} (h : k < ts.length) (hv : valid 0 (ts.take k) = true) :
    valid 0 (ts.take (k + 1)) = valid (flatP (ts.take k)).length [ts[k]] := by
  rw [take_next h, valid_append, hv, Nat.zero_add]; rfl
/-- a list whose beginning is not valid, or too long, is written as nothing -/
theorem out_no {ts : List Op3} {k : Nat} (h : valid 0 (ts.take k) = false ∨ 120 < (flatP (ts.take k)).length) : outPut ts = ⟨#[]⟩ := by
  unfold outPut outGood
  have e : ts = ts.take k ++ ts.drop k := (List.take_append_drop k ts).symm
  rcases h with h | h
  · rw [e, valid_append, h]; rfl
  · have : ¬ (flatP ts).length ≤ 120 := by
      rw [e]
      unfold flatP at *
      rw [List.flatMap_append, List.length_append]; omega
    rw [decide_eq_false this]; simp
theorem out_bad {ts : List Op3} {k : Nat} (hk : k < ts.length) (hv : valid 0 (ts.take k) = true) (hb : ¬ (ts[k].at_ = ((flatP (ts.take k)).length : Int) ∧ 0 ≤ ts[k].op ∧ ts[k].op < 35 ∧ fitsB ts[k].op ts[k].num = true)) : outPut ts = ⟨#[]⟩ := by
  refine out_no (k := k + 1) (.inl ?_)
  rw [valid_next hk hv]
  cases h : valid (flatP (ts.take k)).length [ts[k]] with
  | false => rfl
  | true =>
    obtain ⟨h1, h2, h3, h4, _⟩ := valid_cons.1 h
    exact absurd ⟨h1, h2, h3, h4⟩ hb

def PutRel (w : World) (ts : List Op3) (k : Nat) (wr : World) : Prop :=
  valid 0 (ts.take k) = true ∧ (flatP (ts.take k)).length ≤ 120 ∧ Lib.IsBuilder 45 5 w.heap.size w.heap.size (Lib.byteCells (flatP (ts.take k))) wr ∧ Below w.heap.size w wr ∧ w.heap.size < wr.heap.size

/-- while an op is written: the builder holds these bytes, the op lies in block c -/
def Wr (w : World) (c : Nat) (x y z : Int) (bs : List UInt8) (W : World) : Prop :=
  Lib.IsBuilder 45 5 w.heap.size w.heap.size (Lib.byteCells bs) W ∧ Below w.heap.size w W ∧ W.heap[c]? = some (.cells #[.int .i64 x, .int .i64 y, .int .i64 z] 37 (0, 0)) ∧ w.heap.size < c ∧ w.heap.size < W.heap.size
theorem Wr.cells {w : World} {c : Nat} {x y z : Int} {bs : List UInt8} {W : World} (h : Wr w c x y z bs W) :
    W.cell? ⟨c, 0, none⟩ = some (.int .i64 x) ∧ W.cell? ⟨c, 1, none⟩ = some (.int .i64 y) ∧ W.cell? ⟨c, 2, none⟩ = some (.int .i64 z) :=
  ⟨by rw [Lib.cell_of_heap h.2.2.1]; rfl, by rw [Lib.cell_of_heap h.2.2.1]; rfl, by rw [Lib.cell_of_heap h.2.2.1]; rfl⟩
theorem Wr.len {w : World} {c : Nat} {x y z : Int} {bs : List UInt8} {W : World} (h : Wr w c x y z bs W) :
    Calls Tryd.prog 22 #[.pointer (some ⟨w.heap.size, 0, none⟩)] W fun e w' => e = .returned (.int .i64 (bs.length : Int)) ∧ w' = W := by
  refine (Tryd.Builder_Len _ _ _ _ h.1).mono ?_
  rintro e w' ⟨rfl, rfl⟩
  rw [Lib.byteCells_length]
  exact ⟨rfl, rfl⟩
theorem Wr.write {w : World} {c : Nat} {x y z : Int} {bs : List UInt8} {W : World} (h : Wr w c x y z bs W) (q : UInt8) (n : Int) (hn : n = (q.toNat : Int)) (hl : bs.length ≤ 1000) :
    Calls Tryd.prog 24 #[.pointer (some ⟨w.heap.size, 0, none⟩), .int .u8 n] W fun e w' => e = .returned .nilIface ∧ Wr w c x y z (bs ++ [q]) w' := by
  obtain ⟨h1, h2, h3, h4, h5⟩ := h
  refine (WriteByte_any _ _ _ n W h1 (by rw [Lib.byteCells_length]; omega) (Nat.le_of_lt h5)).mono ?_
  rintro e w' ⟨rfl, k1, k2, k3⟩
  refine ⟨rfl, ?_, h2.trans k2, k3.at (by omega) (by decide) h3, h4, Nat.lt_of_lt_of_le h5 k2.size⟩
  rw [hn] at k1
  simpa [Lib.byteCells] using k1

theorem u8_eq_of {a b : Int} (h : a % 256 = b % 256) : toB a = toB b := by unfold toB; rw [h]
theorem u8_high (z : Int) : toB (low z / 256) = toB (z / 256) := u8_eq_of (by unfold low; omega)
theorem u8_low (z : Int) : toB (low z % 256) = toB z := u8_eq_of (by unfold low; omega)

theorem OpsPut_any (v : Value) (ts : List Op3) (Bv : Nat) (w : World) (hl : ts.length ≤ 1048576) (h1 : w.ownsRow Bv 37 3 v ts.length (cellsL ts)) (hT : Tab w) :
    Calls Tryd.prog 13 #[v] w fun e w' => e = .returned (.string (outPut ts)) ∧ Below w.heap.size w w' := by
  obtain ⟨ao, cap, hv⟩ := own_len h1
  subst hv
  have H1 : Hid (w.ownsRow Bv 37 3 (.slice ao ts.length cap) ts.length (cellsL ts)) := h1
  have HT : Hid (Tab w) := hT
  clear h1 hT
  go_enter Tryd.func13, Tryd.ntmps13
  go_wp2
  go_loopw [9] (fun i wr => ∃ k : Nat, k ≤ ts.length ∧ i = .int .i64 k ∧ Hid (PutRel w ts k wr)) (fun i _ => ts.length - (intOf i).toNat)
  case atStart => exact ⟨0, by omega, rfl, rfl, by simp [flatP], Lib.fresh_isBuilder _ _ w, (Below.refl _ _).alloc (Nat.le_refl _) _, by simp⟩
  case round =>
    obtain ⟨k, hk, rfl, HR⟩ := hrel
    by_cases hlt : k < ts.length
    · obtain ⟨hv0, hlen, hB, hbel, hsz⟩ := HR.out
      obtain ⟨g, hg⟩ := own_some H1.out (by omega)
      subst hg
      have hgw : g < w.heap.size := (H1.out.lt g rfl).2
      obtain ⟨ca, cb, cc⟩ := cells3_at (own_below H1.out hbel) hlt
      have hTw := HT.out.keep hbel HT.out.1
      have HBad := fun hb => out_bad hlt hv0 hb
      obtain ⟨x, y, z, hxyz⟩ : ∃ x y z, ts[k] = ⟨x, y, z⟩ := ⟨_, _, _, rfl⟩
      rw [hxyz] at ca cb cc HBad
      simp only at ca cb cc HBad
      have HBad' : Hid (¬ (x = ((flatP (ts.take k)).length : Int) ∧ 0 ≤ y ∧ y < 35 ∧ fitsB y z = true) → outPut ts = ⟨#[]⟩) := HBad
      obtain ⟨l, HLl⟩ : ∃ l, Hid (flatP (ts.take k) = l) := ⟨_, rfl⟩
      have hLen : ∀ q, Calls Tryd.prog 22 #[.pointer (some ⟨w.heap.size, 0, none⟩)] ((wr.alloc (.cells #[.int .i64 x, .int .i64 y, .int .i64 z] 37)).drewN q) fun e w' => e = .returned (.int .i64 (l.length : Int)) ∧ w' = (wr.alloc (.cells #[.int .i64 x, .int .i64 y, .int .i64 z] 37)).drewN q := fun q => by
        have hB' := builder_keep hB (below_drewN ((Below.refl _ wr).alloc (Nat.le_refl _) (.cells #[.int .i64 x, .int .i64 y, .int .i64 z] 37)) q)
        refine (Tryd.Builder_Len _ _ _ _ hB').mono ?_
        rintro e w' ⟨rfl, rfl⟩
        rw [Lib.byteCells_length, HLl.out]
        exact ⟨rfl, rfl⟩
      rw [HLl.out] at HBad'
      clear HBad
      by_cases hx : x = (l.length : Int)
      · subst hx
        by_cases hop : 0 ≤ y ∧ y < 35
        · obtain ⟨m, rfl⟩ : ∃ m : Nat, y = m := ⟨y.toNat, by omega⟩
          have hm35 : m < 35 := by omega
          have hO : ∀ w, Calls Tryd.prog 15 #[.int .i64 (m : Int)] w fun e w' => e = .returned (.bool true) ∧ w' = w := fun w => by
            refine (isOp_any _ w).mono ?_
            rintro e w' ⟨rfl, rfl⟩
            exact ⟨ret_bool (by simp; omega), rfl⟩
          have hFt : ∀ q, Calls Tryd.prog 23 #[.int .i64 (m : Int), .int .i64 z] ((wr.alloc (.cells #[.int .i64 (l.length : Int), .int .i64 (m : Int), .int .i64 z] 37)).drewN q) fun e w' => e = .returned (.bool (fitsB (m : Int) z)) ∧ w' = (wr.alloc (.cells #[.int .i64 (l.length : Int), .int .i64 (m : Int), .int .i64 z] 37)).drewN q := fun q =>
            numberFits_any m z _ hm35 (hTw.keep (below_drewN ((Below.refl _ wr).alloc (Nat.le_refl _) _) q) hTw.1)
          cases hfit : fitsB (m : Int) z
          · have HN : Hid (outPut ts = ⟨#[]⟩) := HBad'.out (fun h => by rw [hfit] at h; exact absurd h.2.2.2 (by simp))
            rw [hfit] at hFt
            clear hop HBad' hTw hv0 hlen hB hfit hxyz
            go_wp2
            go_quiet (first | (go_at_call 22; exact Calls.quiet_of_same (hLen _)) | (go_at_call 15; exact Calls.quiet_of_same (hO _)) | (go_at_call 23; exact Calls.quiet_of_same (hFt _)))
            go_wp2
            go_ret
            exact ⟨ret_str HN.out.symm, below_drewN (hbel.alloc hbel.size _) _⟩
          · rw [hfit] at hFt
            have HX : Hid (ts[k] = ⟨(l.length : Int), (m : Int), z⟩) := hxyz
            clear hxyz
            go_wp2
            go_quiet (first | (go_at_call 22; exact Calls.quiet_of_same (hLen _)) | (go_at_call 15; exact Calls.quiet_of_same (hO _)) | (go_at_call 23; exact Calls.quiet_of_same (hFt _)))
            have hw0 : Wr w wr.heap.size (l.length : Int) (m : Int) z l ((wr.alloc (.cells #[.int .i64 (l.length : Int), .int .i64 (m : Int), .int .i64 z] 37)).drewN nq) := by
              refine ⟨?_, below_drewN (hbel.alloc hbel.size _) nq, heap_alloc_new wr _, hsz, by simp; omega⟩
              rw [← HLl.out]
              exact builder_keep hB (below_drewN ((Below.refl _ wr).alloc (Nat.le_refl _) _) nq)
            have hl120 : l.length ≤ 120 := by rw [← HLl.out]; exact hlen
            have HV1 : Hid (valid 0 (ts.take (k + 1)) = true) := by
              unfold Hid; rw [valid_next hlt hv0, HLl.out, HX.out]
              exact valid_cons.2 ⟨rfl, by show 0 ≤ (m : Int); omega, by show (m : Int) < 35; omega, hfit, rfl⟩
            have HP1 : Hid (flatP (ts.take (k + 1)) = l ++ putB ⟨(l.length : Int), (m : Int), z⟩) := by
              unfold Hid; rw [take_next hlt, flatP_snoc, HLl.out, HX.out]
            go_wp2_with fail
            refine (hw0.write (toB m) (m : Int) (by rw [u8_toNat]; omega) (by omega)).mono ?_
            rintro e w2 ⟨rfl, hw2⟩
            obtain ⟨ca2, cb2, cc2⟩ := hw2.cells
            have hTm := (HT.out.keep hw2.2.1 HT.out.1).2 m hm35
            rw [← args_tab m hm35] at hTm
            have ha3 := op_args (op := (m : Int)) (by omega) (by omega)
            have h3 : args (m : Int) = 0 ∨ args (m : Int) = 1 ∨ args (m : Int) = 2 := by omega
            clear hw0 hLen hFt hO hTw hv0 hlen hB hbel HR ca cb cc HBad' hop hfit ha3 HX
            rcases h3 with ha | ha | ha
            · rw [ha] at hTm
              have HP2 : Hid (flatP (ts.take (k + 1)) = l ++ [toB m]) := by
                unfold Hid; rw [HP1.out]; unfold putB; simp [ha]
              clear ha HP1
              go_wp2_with fail
              refine wp_loop_rounds 1 ?_
              rw [rounds_succ]
              go_wp2_with fail
              have hN1 := hw2.len
              obtain ⟨L, hL⟩ : ∃ L, Hid ((flatP (ts.take (k + 1))).length = L) := ⟨_, rfl⟩
              rw [← HP2.out, hL.out] at hN1
              by_cases hbig : 120 < L
              · have HN : Hid (outPut ts = ⟨#[]⟩) := out_no (k := k + 1) (.inr (by rw [hL.out]; exact hbig))
                have hbW := hw2.2.1
                clear ca2 cb2 cc2 hTm
                go_wp2_with (go_at_call 22; refine hN1.mono ?_; rintro e w5 ⟨rfl, hw⟩; replace hw := hw.symm; subst hw)
                go_ret
                exact ⟨ret_str HN.out.symm, hbW⟩
              · have HR2 : Hid (PutRel w ts (k + 1) w2) := ⟨HV1.out, by rw [hL.out]; omega, by rw [HP2.out]; exact hw2.1, hw2.2.1, hw2.2.2.2.2⟩
                clear ca2 cb2 cc2 hTm
                go_wp2_with (go_at_call 22; refine hN1.mono ?_; rintro e w5 ⟨rfl, hw⟩; replace hw := hw.symm; subst hw)
                go_roundw
                case rel => exact ⟨k + 1, by omega, by go_num, HR2⟩
                case measure => simp [intOf]; omega
            · rw [ha] at hTm
              have HP2 : Hid (flatP (ts.take (k + 1)) = l ++ [toB m] ++ [toB z]) := by
                unfold Hid; rw [HP1.out]; unfold putB; simp [ha]
              clear ha HP1
              go_wp2_with fail
              refine wp_loop_rounds 2 ?_
              rw [rounds_succ]
              go_wp2_with fail
              refine (hw2.write (toB z) _ (by rw [u8_toNat]) (by simp; omega)).mono ?_
              rintro e w3 ⟨rfl, hw3⟩
              go_wp2_with fail
              rw [rounds_succ]
              go_wp2_with fail
              have hN1 := hw3.len
              obtain ⟨L, hL⟩ : ∃ L, Hid ((flatP (ts.take (k + 1))).length = L) := ⟨_, rfl⟩
              rw [← HP2.out, hL.out] at hN1
              by_cases hbig : 120 < L
              · have HN : Hid (outPut ts = ⟨#[]⟩) := out_no (k := k + 1) (.inr (by rw [hL.out]; exact hbig))
                have hbW := hw3.2.1
                clear ca2 cb2 cc2 hTm
                go_wp2_with (go_at_call 22; refine hN1.mono ?_; rintro e w5 ⟨rfl, hw⟩; replace hw := hw.symm; subst hw)
                go_ret
                exact ⟨ret_str HN.out.symm, hbW⟩
              · have HR2 : Hid (PutRel w ts (k + 1) w3) := ⟨HV1.out, by rw [hL.out]; omega, by rw [HP2.out]; exact hw3.1, hw3.2.1, hw3.2.2.2.2⟩
                clear ca2 cb2 cc2 hTm
                go_wp2_with (go_at_call 22; refine hN1.mono ?_; rintro e w5 ⟨rfl, hw⟩; replace hw := hw.symm; subst hw)
                go_roundw
                case rel => exact ⟨k + 1, by omega, by go_num, HR2⟩
                case measure => simp [intOf]; omega
            · rw [ha] at hTm
              have HP2 : Hid (flatP (ts.take (k + 1)) = l ++ [toB m] ++ [toB (z / 256)] ++ [toB z]) := by
                unfold Hid; rw [HP1.out]; unfold putB; simp only [ha, u8_high, u8_low]; simp
              clear ha HP1
              go_wp2_with fail
              refine wp_loop_rounds 3 ?_
              rw [rounds_succ]
              go_wp2_with fail
              refine (hw2.write (toB (z / 256)) _ (by rw [u8_toNat]) (by simp; omega)).mono ?_
              rintro e w3 ⟨rfl, hw3⟩
              obtain ⟨ca3, cb3, cc3⟩ := hw3.cells
              go_wp2_with fail
              rw [rounds_succ]
              go_wp2_with fail
              refine (hw3.write (toB z) _ (by rw [u8_toNat]) (by simp; omega)).mono ?_
              rintro e w4 ⟨rfl, hw4⟩
              clear ca3 cb3 cc3
              go_wp2_with fail
              rw [rounds_succ]
              go_wp2_with fail
              have hN1 := hw4.len
              obtain ⟨L, hL⟩ : ∃ L, Hid ((flatP (ts.take (k + 1))).length = L) := ⟨_, rfl⟩
              rw [← HP2.out, hL.out] at hN1
              by_cases hbig : 120 < L
              · have HN : Hid (outPut ts = ⟨#[]⟩) := out_no (k := k + 1) (.inr (by rw [hL.out]; exact hbig))
                have hbW := hw4.2.1
                clear ca2 cb2 cc2 hTm
                go_wp2_with (go_at_call 22; refine hN1.mono ?_; rintro e w5 ⟨rfl, hw⟩; replace hw := hw.symm; subst hw)
                go_ret
                exact ⟨ret_str HN.out.symm, hbW⟩
              · have HR2 : Hid (PutRel w ts (k + 1) w4) := ⟨HV1.out, by rw [hL.out]; omega, by rw [HP2.out]; exact hw4.1, hw4.2.1, hw4.2.2.2.2⟩
                clear ca2 cb2 cc2 hTm
                go_wp2_with (go_at_call 22; refine hN1.mono ?_; rintro e w5 ⟨rfl, hw⟩; replace hw := hw.symm; subst hw)
                go_roundw
                case rel => exact ⟨k + 1, by omega, by go_num, HR2⟩
                case measure => simp [intOf]; omega
        · have HN : Hid (outPut ts = ⟨#[]⟩) := HBad'.out (fun h => hop ⟨h.2.1, h.2.2.1⟩)
          have hO : ∀ w, Calls Tryd.prog 15 #[.int .i64 y] w fun e w' => e = .returned (.bool false) ∧ w' = w := fun w => by
            refine (isOp_any _ w).mono ?_
            rintro e w' ⟨rfl, rfl⟩
            refine ⟨ret_bool ?_, rfl⟩
            cases h : decide (0 ≤ y) && decide (y < 35) with
            | false => rfl
            | true => simp at h; exact absurd h hop
          clear hop HBad' hTw hv0 hlen hB hxyz
          go_wp2
          go_quiet (first | (go_at_call 22; exact Calls.quiet_of_same (hLen _)) | (go_at_call 15; exact Calls.quiet_of_same (hO _)))
          go_wp2
          go_ret
          exact ⟨ret_str HN.out.symm, below_drewN (hbel.alloc hbel.size _) _⟩
      · have HN : Hid (outPut ts = ⟨#[]⟩) := HBad'.out (fun h => hx h.1)
        have hx' : (x != (l.length : Int)) = true := by simpa using hx
        clear hx HBad' hTw hv0 hlen hB hxyz
        go_wp2
        go_quiet ((go_at_call 22; exact Calls.quiet_of_same (hLen _)))
        go_wp2
        go_ret
        exact ⟨ret_str HN.out.symm, below_drewN (hbel.alloc hbel.size _) _⟩
    · have hk' : k = ts.length := by omega
      subst hk'
      obtain ⟨hv0, hlen, hB, hbel, hsz⟩ := HR.out
      rw [List.take_length] at hv0 hlen hB
      have HO : Hid (outPut ts = ⟨(flatP ts).toArray⟩) := by
        unfold Hid outPut outGood
        rw [hv0, decide_eq_true hlen]; rfl
      have hS := Tryd.Builder_String_any _ _ (flatP ts) wr hB (Nat.le_of_lt hsz)
      clear HR hv0 hlen hB
      go_wp2_with (go_at_call 25; refine hS.mono ?_; rintro e w1 ⟨rfl, hb1⟩)
      go_ret
      exact ⟨ret_str HO.out.symm, hbel.trans hb1⟩

end Go.Proofs.YtnimkkchpmlddaaDoor
