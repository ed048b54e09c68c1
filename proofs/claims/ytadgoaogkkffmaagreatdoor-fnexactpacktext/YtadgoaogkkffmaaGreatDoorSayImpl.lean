/- Contracts of the program's memberAt, saidAt and PackText, the last over any contract of ClassCheck. -/
import Derived.Test.YtadgoaogkkffmaaGreatDoorSaySpec
import Derived.Test.YtadgoaogkkffmaaGreatDoorSayMember
import Derived.Test.YtadgoaogkkffmaaGreatDoorShelf
import Derived.Deep.RegionHeld
namespace Go.Proofs.YtadgoaogkkffmaaGreatDoor
open Mx Go.RowKit
set_option maxHeartbeats 2000000
set_option maxRecDepth 20000
set_option linter.unusedVariables false

theorem itoaSay_any (n : Int) (w : World) (h : 4 ≤ n ∧ n ≤ 6) :
    Calls Tryz.prog 110 #[.int .i64 n] w fun e w' => e = .returned (.string (sayK n)) ∧ w' = w := by
  obtain ⟨u, rfl⟩ : ∃ u : Nat, n = u := ⟨n.toNat, by omega⟩
  refine (Tryz.strconv_Itoa_small u (by omega) w).mono ?_
  rintro e w' ⟨rfl, rfl⟩
  refine ⟨ret_str ?_, rfl⟩
  rcases (show u = 4 ∨ u = 5 ∨ u = 6 by omega) with rfl | rfl | rfl
  · rw [Lib.decDigits_one (by omega)]; rfl
  · rw [Lib.decDigits_one (by omega)]; rfl
  · rw [Lib.decDigits_one (by omega)]; rfl

theorem sayClone_any (s : ByteArray) (w : World) (hs : s.size ≤ 281474976710656) :
    Calls Tryz.prog 56 #[.string s] w fun e w' => e = .returned (.string s) ∧ Below w.heap.size w w' := by
  have hA := Tryz.stringslite_Clone s w hs
  go_enter Tryz.func56, Tryz.ntmps56
  go_wp2_with fail
  refine hA.mono ?_
  rintro e w1 ⟨rfl, hb⟩
  go_wp2
  go_ret
  exact ⟨rfl, hb⟩

theorem saidAt_any (v : Value) (ts : List C4) (i : Int) (w : World) (hl : ts.length ≤ 1048576) (hs : ∀ t ∈ ts, t.text.size ≤ 1048576) (h : PoolW w v ts) :
    Calls Tryz.prog 57 #[v, .int .i64 i] w fun e w' => e = .returned (.string (sayI ts i)) ∧ Below w.heap.size w w' := by
  have hA := constAt_any v ts i w hl h
  have HC := hid (fun W (hW : Below w.heap.size w W) => classTextAt_any v ts i W hl (h.keep hW))
  have HM := hid (fun W (hW : Below w.heap.size w W) => memberAt_any v ts i W hl (h.keep hW))
  have HT := hid (fun (g : Nat) (t : C4) (x : Int) W (hW : SayE w W v ts g t) => show Calls Tryz.prog 108 #[v, .int .i64 x] W (fun e w' => e = .returned (.string (rawT ts x)) ∧ SayE w w' v ts g t) from
    (nameTextAt_any v ts x W hl hW.p).mono (by rintro e w' ⟨rfl, hb⟩; exact ⟨rfl, hW.keep hb⟩))
  have HN := hid (fun W hb hs' => SayE.new (w := w) (W := W) (v := v) (ts := ts) (t := atC ts i) hb hs' h)
  have hz1 := sayC_small hs i
  have hz2 := sayC_small hs (atC ts i).a
  have hz3 : ∀ x, (rawT ts x).size ≤ 1048576 := fun x => sayT_small hs x
  have HS : Hid (sayI ts i = if (atC ts i).kind = 2 then sayC ++ rawC ts i else if (atC ts i).kind = 3 then sayP ++ rawT ts (atC ts i).a ++ sayB ++ rawT ts (atC ts i).b else if 4 ≤ (atC ts i).kind ∧ (atC ts i).kind ≤ 6 then sayK (atC ts i).kind ++ sayB ++ rawC ts (atC ts i).a ++ sayB ++ rawT ts (atC ts (atC ts i).b).a ++ sayB ++ rawT ts (atC ts (atC ts i).b).b else (atC ts i).text) := hid rfl
  generalize sayI ts i = R at HS ⊢
  generalize atC ts (atC ts i).b = u at HM HS
  generalize rawC ts i = s1 at HC HS hz1
  generalize rawC ts (atC ts i).a = s2 at HM HS hz2
  generalize atC ts i = t at hA HM HS HN
  obtain ⟨ao, cap, rfl⟩ := h.len
  clear h hs hl
  by_cases h2 : t.kind = 2
  · have HS1 := hid (show sayC ++ s1 = R by rw [HS.out, if_pos h2])
    unfold sayC at HS1
    clear hz2 hz3 HS HM HT
    have hfit : ¬ 9223372036854775807 < 6 + s1.size := by omega
    obtain ⟨tk, tt, a, b⟩ := t
    dsimp only at h2 hA HN
    subst h2
    go_enter Tryz.func57, Tryz.ntmps57
    go_wp2_with fail
    refine hA.mono ?_
    rintro e w1 ⟨rfl, hb1⟩
    have E := HN.out w1 hb1 hb1.size
    have hC := HC.out _ E.b
    have c0 := E.c0
    dsimp only at c0
    have HB := hid E.b
    clear hA HC HN E hb1
    go_wp2_with fail
    refine hC.mono ?_
    rintro e w2 ⟨rfl, hb2⟩
    have HB2 := hid (HB.out.trans (hb2.mono HB.out.size))
    clear hC hb2 c0 HB
    go_wp2
    go_ret
    exact ⟨ret_str HS1.out, HB2.out⟩
  by_cases h3 : t.kind = 3
  · have HS1 := hid (show sayP ++ rawT ts t.a ++ sayB ++ rawT ts t.b = R by rw [HS.out, if_neg h2, if_pos h3])
    unfold sayP sayB at HS1
    have hza := hz3 t.a
    have hzb := hz3 t.b
    clear hz1 hz2 hz3 HS HC HM
    generalize rawT ts = F at HT HS1 hza hzb
    have hf1 : ¬ 9223372036854775807 < 5 + (F t.a).size := by omega
    have hf2 : ¬ 9223372036854775807 < 5 + (F t.a).size + 1 := by omega
    have hf3 : ¬ 9223372036854775807 < 5 + (F t.a).size + 1 + (F t.b).size := by omega
    clear h2 hza hzb
    obtain ⟨tk, tt, a, b⟩ := t
    dsimp only at h3 hA HN HS1 hf1 hf2 hf3
    subst h3
    go_enter Tryz.func57, Tryz.ntmps57
    go_wp2_with fail
    refine hA.mono ?_
    rintro e w1 ⟨rfl, hb1⟩
    have E := HN.out w1 hb1 hb1.size
    have HT1 := fun x W hW => HT.out w1.heap.size ⟨3, tt, a, b⟩ x W hW
    have f0 := E.c0
    have f2 := E.c2
    have f3 := E.c3
    dsimp only at f0 f2 f3
    have HE := hid E
    clear hA HN E hb1 HT
    go_upto_region 6 with fail
    generalize w1.alloc (.cells #[.int .i64 3, .string tt, .int .i64 a, .int .i64 b] 50) = X at HE f0 f2 f3 ⊢
    generalize w1.heap.size = g at *
    go_region_with (go_at_call 108; refine (HT1 _ _ (by first | (with_reducible exact HE.out) | exact HE.out.drawn 1)).mono ?_; clear f0 f2 f3 HE; rintro e w5 ⟨rfl, hR⟩; have f0 := hR.c0; have f2 := hR.c2; have f3 := hR.c3; dsimp only at f0 f2 f3; have HE := hid hR; clear hR)
    all_goals go_wp2
    all_goals go_ret
    all_goals exact ⟨ret_str HS1.out, HE.out.b⟩
  by_cases h4 : 4 ≤ t.kind ∧ t.kind ≤ 6
  · have HS1 := hid (show sayK t.kind ++ sayB ++ s2 ++ sayB ++ rawT ts u.a ++ sayB ++ rawT ts u.b = R by rw [HS.out, if_neg h2, if_neg h3, if_pos h4])
    unfold sayB at HS1
    have hza := hz3 u.a
    have hzb := hz3 u.b
    have hkz := sayK_size t.kind
    have hD := fun W => itoaSay_any t.kind W h4
    clear hz1 hz3 HS HC HT
    generalize rawT ts u.a = ta at HM HS1 hza
    generalize rawT ts u.b = tb at HM HS1 hzb
    generalize sayK t.kind = K at HS1 hkz hD
    have hf1 : ¬ 9223372036854775807 < K.size + 1 := by omega
    have hf2 : ¬ 9223372036854775807 < K.size + 1 + s2.size := by omega
    have hf3 : ¬ 9223372036854775807 < K.size + 1 + s2.size + 1 := by omega
    have hf4 : ¬ 9223372036854775807 < K.size + 1 + s2.size + 1 + ta.size := by omega
    have hf5 : ¬ 9223372036854775807 < K.size + 1 + s2.size + 1 + ta.size + 1 := by omega
    have hf6 : ¬ 9223372036854775807 < K.size + 1 + s2.size + 1 + ta.size + 1 + tb.size := by omega
    clear hkz h2 h3
    obtain ⟨tk, tt, a, b⟩ := t
    simp only at h4 hA HN hD
    rcases (show tk = 4 ∨ tk = 5 ∨ tk = 6 by omega) with rfl | rfl | rfl
    · clear h4
      go_enter Tryz.func57, Tryz.ntmps57
      go_wp2_with fail
      refine hA.mono ?_
      rintro e w1 ⟨rfl, hb1⟩
      have E := HN.out w1 hb1 hb1.size
      have hC := HM.out _ E.b
      have f0 := E.c0
      dsimp only at f0
      have HE := hid E
      clear hA HM HN E hb1
      go_wp2_with fail
      refine hC.mono ?_
      rintro e w2 ⟨rfl, hb2⟩
      have E2 := (HE.out.keep hb2).keep (W' := w2.alloc (.cells #[.string s2, .string ta, .string tb] 133)) ((Below.refl _ _).alloc (Nat.le_refl _) _)
      have f0 := E2.c0
      dsimp only at f0
      have HB2 := hid E2.b
      clear hC hb2 HE E2
      go_upto_region 11 with fail
      go_quiet (first | (go_at_call 110; exact Calls.quiet_of_same (hD _)))
      go_wp2
      go_ret
      exact ⟨ret_str HS1.out, below_drewN HB2.out _⟩
    · clear h4
      go_enter Tryz.func57, Tryz.ntmps57
      go_wp2_with fail
      refine hA.mono ?_
      rintro e w1 ⟨rfl, hb1⟩
      have E := HN.out w1 hb1 hb1.size
      have hC := HM.out _ E.b
      have f0 := E.c0
      dsimp only at f0
      have HE := hid E
      clear hA HM HN E hb1
      go_wp2_with fail
      refine hC.mono ?_
      rintro e w2 ⟨rfl, hb2⟩
      have E2 := (HE.out.keep hb2).keep (W' := w2.alloc (.cells #[.string s2, .string ta, .string tb] 133)) ((Below.refl _ _).alloc (Nat.le_refl _) _)
      have f0 := E2.c0
      dsimp only at f0
      have HB2 := hid E2.b
      clear hC hb2 HE E2
      go_upto_region 11 with fail
      go_quiet (first | (go_at_call 110; exact Calls.quiet_of_same (hD _)))
      go_wp2
      go_ret
      exact ⟨ret_str HS1.out, below_drewN HB2.out _⟩
    · clear h4
      go_enter Tryz.func57, Tryz.ntmps57
      go_wp2_with fail
      refine hA.mono ?_
      rintro e w1 ⟨rfl, hb1⟩
      have E := HN.out w1 hb1 hb1.size
      have hC := HM.out _ E.b
      have f0 := E.c0
      dsimp only at f0
      have HE := hid E
      clear hA HM HN E hb1
      go_wp2_with fail
      refine hC.mono ?_
      rintro e w2 ⟨rfl, hb2⟩
      have E2 := (HE.out.keep hb2).keep (W' := w2.alloc (.cells #[.string s2, .string ta, .string tb] 133)) ((Below.refl _ _).alloc (Nat.le_refl _) _)
      have f0 := E2.c0
      dsimp only at f0
      have HB2 := hid E2.b
      clear hC hb2 HE E2
      go_upto_region 11 with fail
      go_quiet (first | (go_at_call 110; exact Calls.quiet_of_same (hD _)))
      go_wp2
      go_ret
      exact ⟨ret_str HS1.out, below_drewN HB2.out _⟩
  · have HS1 := hid (show t.text = R by rw [HS.out, if_neg h2, if_neg h3, if_neg h4])
    have n4 : ¬ t.kind = 4 := by omega
    have n5 : ¬ t.kind = 5 := by omega
    have n6 : ¬ t.kind = 6 := by omega
    clear hz1 hz2 hz3 h4
    go_enter Tryz.func57, Tryz.ntmps57
    go_wp2_with (go_at_call 106; refine hA.mono ?_; rintro e w1 ⟨rfl, hb1⟩; have hs1 := hb1.size)
    go_ret
    exact ⟨ret_str HS1.out, by go_grown⟩

theorem implText_any (c : MClass) (ix : Int) (vp vi vf vm : Value) (B : Nat) (w : World) (Q : Int → Prop) (hc : c.few) (h : ClassW w B vp vi vf vm c)
    (hI : ∀ W, Below w.heap.size w W → Calls Tryz.prog 12 #[.agg #[vp, .int .i64 c.flags, .int .i64 c.name, .int .i64 c.super, vi, vf, vm]] W fun e w' => ∃ n : Int, e = .returned (.int .i64 n) ∧ Q n ∧ Below W.heap.size W w') :
    Calls Tryz.prog 21 #[.agg #[vp, .int .i64 c.flags, .int .i64 c.name, .int .i64 c.super, vi, vf, vm], .int .i64 ix] w fun e w' => ∃ s : ByteArray, e = .returned (.string s) ∧ (∃ n, Q n ∧ s = textI c ix n) ∧ Below w.heap.size w w' := by
  obtain ⟨o1, j1, hv1⟩ := own_len h.p
  obtain ⟨o2, j2, hv2⟩ := own_len h.i
  obtain ⟨o3, j3, hv3⟩ := own_len h.f
  obtain ⟨o4, j4, hv4⟩ := h.m.len
  subst hv1 hv2 hv3 hv4
  have P0 := HB.one w (arrK (.slice o1 c.pool.length j1) c.flags c.name c.super (.slice o2 c.faces.length j2) (.slice o3 c.fields.length j3) (.slice o4 c.methods.length j4)) 34
  have hX := hI _ P0.b
  have HP := hid (fun W (hW : Below w.heap.size w W) => (show PoolW W (.slice o1 c.pool.length j1) c.pool from ⟨B, own_below h.p hW⟩))
  have hp := hc.pool
  have HT := hid hc.texts
  clear h hc hI
  go_enter Tryz.func21, Tryz.ntmps21
  go_wp2_with fail
  refine hX.mono ?_
  rintro e w1 ⟨n, rfl, hn, hb1⟩
  have P1 := P0.keep hb1
  have HN := hid hn
  clear P0 hb1 hX hn
  by_cases h0 : n = 0
  · subst h0
    obtain ⟨c0, c1, c2, c3, c4, c5, c6⟩ := P1.hd.k7
    have hS := saidAt_any (.slice o1 c.pool.length j1) c.pool ix w1 hp HT.out (HP.out _ P1.b)
    have hz := sayI_small HT.out ix
    have HZ := hid (show sayI c.pool ix = textI c ix 0 by unfold textI; rw [if_pos rfl])
    generalize sayI c.pool ix = r at hS HZ hz
    have HB1 := hid P1.b
    clear P1 HP HT
    go_wp2_with fail
    refine hS.mono ?_
    rintro e w3 ⟨rfl, hb3⟩
    have HB3 := hid (HB1.out.trans (hb3.mono HB1.out.size))
    clear hS hb3 c0 c1 c2 c3 c4 c5 c6
    go_wp2_with fail
    refine (sayClone_any r _ (by omega)).mono ?_
    rintro e w4 ⟨rfl, hb4⟩
    have HB4 := hid (HB3.out.trans (hb4.mono HB3.out.size))
    clear hb4
    go_wp2
    go_ret
    exact ⟨r, rfl, ⟨0, HN.out, HZ.out⟩, HB4.out⟩
  · have HZ := hid (show (⟨#[]⟩ : ByteArray) = textI c ix n by unfold textI; rw [if_neg h0])
    have HB1 := hid P1.b
    clear P1 HP HT
    go_wp2
    go_ret
    exact ⟨_, rfl, ⟨n, HN.out, HZ.out⟩, HB1.out⟩

end Go.Proofs.YtadgoaogkkffmaaGreatDoor
