/- Contracts of the specification's l28Says and PackText, the latter over any contract of ClassCheck. -/
import Derived.Test.YtadgoaogkkffmaaGreatDoorSayMath
import Derived.Test.YtadgoaogkkffmaaGreatDoorG03
import Derived.Test.YtadgoaogkkffmaaGreatDoorK01
import Derived.Test.YtadgoaogkkffmaaGreatDoorH11
import Derived.Laws.IdiomStrings
namespace Go.Proofs.YtadgoaogkkffmaaGreatDoor
open Mx Go.RowKit
set_option maxHeartbeats 2000000
set_option maxRecDepth 20000
set_option linter.unusedVariables false

theorem sayConv (W : World) (n : Int) (c : UInt8) (hn : n = (c.toNat : Int)) :
    (convert 210 9 (.slice (some ⟨W.heap.size, 0, none⟩) 1 1)).run Tryz.prog (W.alloc (.cells #[.int .u8 n] 5)) = .ok (.string (bytesOf [c])) (W.alloc (.cells #[.int .u8 n] 5)) := by
  refine run_convert_bytes_back (P := Tryz.prog) _ 210 9 5 ⟨W.heap.size, 0, none⟩ 1 [c] Tryz.underlying210 Tryz.underlying5 Tryz.underlying9 ?_
  intro j hj
  simp at hj
  subst hj
  have := cells_new W #[.int .u8 n] 5 0 _ rfl
  rw [addr_add] at this ⊢
  simp [hn]
theorem decSay_any (n : Int) (w : World) (h : 4 ≤ n ∧ n ≤ 6) :
    Calls Tryz.prog 104 #[.int .i64 n] w fun e w' => e = .returned (.string (sayK n)) ∧ Below w.heap.size w w' := by
  have hlo : ¬ n < -9223372036854775807 := by omega
  have hneg : ¬ n < 0 := by omega
  have h10 : n < 10 := by omega
  obtain ⟨c, hc, hk⟩ : ∃ c : UInt8, 48 + n = (c.toNat : Int) ∧ bytesOf [c] = sayK n := by
    rcases (show n = 4 ∨ n = 5 ∨ n = 6 by omega) with rfl | rfl | rfl
    · exact ⟨52, rfl, rfl⟩
    · exact ⟨53, rfl, rfl⟩
    · exact ⟨54, rfl, rfl⟩
  have hcv := fun W => sayConv W (48 + n) c hc
  have HK := hid hk
  clear hc hk
  go_enter Tryz.func104, Tryz.ntmps104
  go_wp2
  go_ret
  exact ⟨ret_str HK.out, by go_grown⟩

theorem clsT_small {ts : List C4} {n : Nat} (h : ∀ t ∈ ts, t.text.size ≤ n) (i : Int) : (clsT ts i).size ≤ n := by
  unfold clsT
  split
  · exact atC_small h _
  · exact Nat.zero_le _

/-- an entry's row of its own, with what is asked of the pool -/
structure SayE (w W : World) (v : Value) (ts : List C4) (g : Nat) (t : C4) : Prop where
  b : Below w.heap.size w W
  p : PoolW W v ts
  l : g < W.heap.size
  c0 : W.cell? ⟨g, 0, none⟩ = some (.int .i64 t.kind)
  c1 : W.cell? ⟨g, 1, none⟩ = some (.string t.text)
  c2 : W.cell? ⟨g, 2, none⟩ = some (.int .i64 t.a)
  c3 : W.cell? ⟨g, 3, none⟩ = some (.int .i64 t.b)
theorem SayE.keep {w W W' : World} {v : Value} {ts : List C4} {g : Nat} {t : C4} (h : SayE w W v ts g t) (hb : Below W.heap.size W W') : SayE w W' v ts g t :=
  ⟨h.b.trans (hb.mono h.b.size), h.p.keep hb, Nat.lt_of_lt_of_le h.l hb.size, (hb.cell (p := ⟨g, 0, none⟩) h.l).trans h.c0, (hb.cell (p := ⟨g, 1, none⟩) h.l).trans h.c1, (hb.cell (p := ⟨g, 2, none⟩) h.l).trans h.c2, (hb.cell (p := ⟨g, 3, none⟩) h.l).trans h.c3⟩
theorem SayE.drawn {w W : World} {v : Value} {ts : List C4} {g : Nat} {t : C4} (h : SayE w W v ts g t) (n : Nat) : SayE w (W.drewN n) v ts g t := h.keep (below_drewN (Below.refl _ _) n)
theorem SayE.new {w W : World} {v : Value} {ts : List C4} {t : C4} (hb : Below w.heap.size w W) (hs : w.heap.size ≤ W.heap.size) (hp : PoolW w v ts) : SayE w (W.alloc (.cells #[.int .i64 t.kind, .string t.text, .int .i64 t.a, .int .i64 t.b] 50)) v ts W.heap.size t := by
  obtain ⟨d0, d1, d2, d3, hl, hB⟩ := new4 (w1 := W) (t := t) (Below.refl _ _)
  have h2 := hB _ _ hb hs
  exact ⟨h2, hp.keep h2, hl, d0, d1, d2, d3⟩

theorem l28Says_any (v : Value) (ts : List C4) (i : Int) (w : World) (hl : ts.length ≤ 1048576) (hs : ∀ t ∈ ts, t.text.size ≤ 1048576) (hk : 1 ≤ (atC ts i).kind ∧ (atC ts i).kind ≤ 6) (h : PoolW w v ts) :
    Calls Tryz.prog 55 #[v, .int .i64 i] w fun e w' => e = .returned (.string (sayS ts i)) ∧ Below w.heap.size w w' := by
  have hA := l2At_any v ts i w hl h
  have HC := hid (fun W (hW : Below w.heap.size w W) => l2Class_any v ts i W hl hs (h.keep hW))
  have HR := hid (fun W (hW : Below w.heap.size w W) => l2RefX_any v ts i W hl hs (h.keep hW))
  have HT := hid (fun (g : Nat) (t : C4) (x : Int) W (hW : SayE w W v ts g t) => show Calls Tryz.prog 102 #[v, .int .i64 x] W (fun e w' => e = .returned (.string (txtC ts x)) ∧ SayE w w' v ts g t) from
    (l2Text_any v ts x W hl hW.p).mono (by rintro e w' ⟨rfl, hb⟩; exact ⟨rfl, hW.keep hb⟩))
  have HN := hid (fun W hb hs' => SayE.new (w := w) (W := W) (v := v) (ts := ts) (t := atC ts i) hb hs' h)
  have hz0 := atC_small hs i
  have hz1 := clsT_small hs i
  have hz2 := clsT_small hs (atC ts i).a
  have hz3 : ∀ x, (txtC ts x).size ≤ 1048576 := fun x => txtC_small hs x
  have HS : Hid (sayS ts i = if (atC ts i).kind = 1 then (atC ts i).text else if (atC ts i).kind = 2 then sayC ++ clsT ts i else if (atC ts i).kind = 3 then sayP ++ txtC ts (atC ts i).a ++ sayB ++ txtC ts (atC ts i).b else sayK (atC ts i).kind ++ sayB ++ clsT ts (atC ts i).a ++ sayB ++ txtC ts (atC ts (atC ts i).b).a ++ sayB ++ txtC ts (atC ts (atC ts i).b).b) := hid rfl
  generalize sayS ts i = R at HS ⊢
  generalize atC ts (atC ts i).b = u at HR HS
  generalize clsT ts i = s1 at HC HS hz1
  generalize clsT ts (atC ts i).a = s2 at HR HS hz2
  generalize atC ts i = t at hA HR HS HN hz0 hk
  obtain ⟨ao, cap, rfl⟩ := h.len
  clear h hs hl
  by_cases h1 : t.kind = 1
  · have HS1 := hid (show t.text = R by rw [HS.out, if_pos h1])
    clear hk hz1 hz2 hz3
    go_enter Tryz.func55, Tryz.ntmps55
    go_wp2_with (go_at_call 100; refine hA.mono ?_; rintro e w1 ⟨rfl, hb1⟩; have hs1 := hb1.size)
    go_ret
    exact ⟨ret_str HS1.out, by go_grown⟩
  by_cases h2 : t.kind = 2
  · have HS1 := hid (show sayC ++ s1 = R by rw [HS.out, if_neg h1, if_pos h2])
    unfold sayC at HS1
    clear hk hz2 hz3 HS HR HT h1
    have hfit : ¬ 9223372036854775807 < 6 + s1.size := by omega
    obtain ⟨tk, tt, a, b⟩ := t
    dsimp only at h2 hA HN
    subst h2
    go_enter Tryz.func55, Tryz.ntmps55
    go_wp2_with fail
    refine hA.mono ?_
    rintro e w1 ⟨rfl, hb1⟩
    have hs1 := hb1.size
    have E := HN.out w1 hb1 hs1
    have hC := HC.out _ E.b
    have c0 := E.c0
    dsimp only at c0
    have HB := hid E.b
    clear hA HC HN E hb1 hs1
    go_wp2_with fail
    refine hC.mono ?_
    rintro e w2 ⟨rfl, hb2⟩
    have HB2 := hid (HB.out.trans (hb2.mono HB.out.size))
    clear hC hb2 c0 HB
    go_wp2
    go_ret
    exact ⟨ret_str HS1.out, HB2.out⟩
  by_cases h3 : t.kind = 3
  · have HS1 := hid (show sayP ++ txtC ts t.a ++ sayB ++ txtC ts t.b = R by rw [HS.out, if_neg h1, if_neg h2, if_pos h3])
    unfold sayP sayB at HS1
    have hza := hz3 t.a
    have hzb := hz3 t.b
    clear hk hz1 hz2 hz3 HS HC HR
    generalize txtC ts = F at HT HS1 hza hzb
    have hf1 : ¬ 9223372036854775807 < 5 + (F t.a).size := by omega
    have hf2 : ¬ 9223372036854775807 < 5 + (F t.a).size + 1 := by omega
    have hf3 : ¬ 9223372036854775807 < 5 + (F t.a).size + 1 + (F t.b).size := by omega
    clear h1 h2 hza hzb
    obtain ⟨tk, tt, a, b⟩ := t
    dsimp only at h3 hA HN HS1 hf1 hf2 hf3
    subst h3
    go_enter Tryz.func55, Tryz.ntmps55
    go_wp2_with fail
    refine hA.mono ?_
    rintro e w1 ⟨rfl, hb1⟩
    have hs1 := hb1.size
    have E := HN.out w1 hb1 hs1
    have HT1 := fun x W hW => HT.out w1.heap.size ⟨3, tt, a, b⟩ x W hW
    have f0 := E.c0
    have f2 := E.c2
    have f3 := E.c3
    dsimp only at f0 f2 f3
    have HE := hid E
    clear hA HN E hb1 hs1 HT
    go_upto_region 8 with fail
    generalize w1.alloc (.cells #[.int .i64 3, .string tt, .int .i64 a, .int .i64 b] 50) = X at HE f0 f2 f3 ⊢
    generalize w1.heap.size = g at *
    go_region_with (go_at_call 102; refine (HT1 _ _ (by first | (with_reducible exact HE.out) | exact HE.out.drawn 1)).mono ?_; clear f0 f2 f3 HE; rintro e w5 ⟨rfl, hR⟩; have f0 := hR.c0; have f2 := hR.c2; have f3 := hR.c3; dsimp only at f0 f2 f3; have HE := hid hR; clear hR)
    all_goals go_wp2
    all_goals go_ret
    all_goals exact ⟨ret_str HS1.out, HE.out.b⟩
  have h4 : 4 ≤ t.kind ∧ t.kind ≤ 6 := by omega
  have HS1 := hid (show sayK t.kind ++ sayB ++ s2 ++ sayB ++ txtC ts u.a ++ sayB ++ txtC ts u.b = R by rw [HS.out, if_neg h1, if_neg h2, if_neg h3])
  unfold sayB at HS1
  have hza := hz3 u.a
  have hzb := hz3 u.b
  have hkz := sayK_size t.kind
  have hD := fun W => decSay_any t.kind W h4
  clear hk hz1 hz3 HS HC HT hz0
  generalize txtC ts u.a = ta at HR HS1 hza
  generalize txtC ts u.b = tb at HR HS1 hzb
  generalize sayK t.kind = K at HS1 hkz hD
  have hf1 : ¬ 9223372036854775807 < K.size + 1 := by omega
  have hf2 : ¬ 9223372036854775807 < K.size + 1 + s2.size := by omega
  have hf3 : ¬ 9223372036854775807 < K.size + 1 + s2.size + 1 := by omega
  have hf4 : ¬ 9223372036854775807 < K.size + 1 + s2.size + 1 + ta.size := by omega
  have hf5 : ¬ 9223372036854775807 < K.size + 1 + s2.size + 1 + ta.size + 1 := by omega
  have hf6 : ¬ 9223372036854775807 < K.size + 1 + s2.size + 1 + ta.size + 1 + tb.size := by omega
  clear hkz h4
  go_enter Tryz.func55, Tryz.ntmps55
  go_wp2_with fail
  refine hA.mono ?_
  rintro e w1 ⟨rfl, hb1⟩
  have E := HN.out w1 hb1 hb1.size
  have hC := HR.out _ E.b
  have f0 := E.c0
  have HE := hid E
  clear hA HR HN E hb1
  go_wp2_with fail
  refine hC.mono ?_
  rintro e w2 ⟨rfl, hb2⟩
  have E2 := HE.out.keep hb2
  have f0 := E2.c0
  have HB2 := hid E2.b
  clear hC hb2 HE E2
  go_wp2_with fail
  refine (hD _).mono ?_
  rintro e w3 ⟨rfl, hb3⟩
  have HB3 := hid (HB2.out.trans (hb3.mono HB2.out.size))
  clear hD hb3 HB2 f0
  go_wp2
  go_ret
  exact ⟨ret_str HS1.out, HB3.out⟩

theorem specText_any (c : MClass) (ix : Int) (vp vi vf vm : Value) (B : Nat) (w : World) (Q : Int → Prop) (hc : c.few) (h : ClassW w B vp vi vf vm c)
    (hQ : Q 0 → poolC c.pool = 0)
    (hI : ∀ W, Below w.heap.size w W → Calls Tryz.prog 10 #[.agg #[vp, .int .i64 c.flags, .int .i64 c.name, .int .i64 c.super, vi, vf, vm]] W fun e w' => ∃ n : Int, e = .returned (.int .i64 n) ∧ Q n ∧ Below W.heap.size W w') :
    Calls Tryz.prog 20 #[.agg #[vp, .int .i64 c.flags, .int .i64 c.name, .int .i64 c.super, vi, vf, vm], .int .i64 ix] w fun e w' => ∃ s : ByteArray, e = .returned (.string s) ∧ (∃ n, Q n ∧ s = textS c ix n) ∧ Below w.heap.size w w' := by
  obtain ⟨o1, j1, hv1⟩ := own_len h.p
  obtain ⟨o2, j2, hv2⟩ := own_len h.i
  obtain ⟨o3, j3, hv3⟩ := own_len h.f
  obtain ⟨o4, j4, hv4⟩ := h.m.len
  subst hv1 hv2 hv3 hv4
  have P0 := HB.one w (arrK (.slice o1 c.pool.length j1) c.flags c.name c.super (.slice o2 c.faces.length j2) (.slice o3 c.fields.length j3) (.slice o4 c.methods.length j4)) 34
  have hX := hI _ P0.b
  have HP := hid (fun W (hW : Below w.heap.size w W) => (show PoolW W (.slice o1 c.pool.length j1) c.pool from ⟨B, own_below h.p hW⟩))
  have hp := hc.pool
  have HT := hid hc.texts
  have HQ := hid hQ
  clear h hc hI hQ
  go_enter Tryz.func20, Tryz.ntmps20
  go_wp2_with fail
  refine hX.mono ?_
  rintro e w1 ⟨n, rfl, hn, hb1⟩
  have P1 := P0.keep hb1
  have HN := hid hn
  clear P0 hb1 hX hn
  by_cases h0 : n = 0
  · subst h0
    obtain ⟨c0, c1, c2, c3, c4, c5, c6⟩ := P1.hd.k7
    have hIn := fun W => l1InI_any ix 1 c.pool.length W
    by_cases hi : 1 ≤ ix ∧ ix ≤ (c.pool.length : Int)
    · rw [show inI ix 1 c.pool.length = true by unfold inI; simp; omega] at hIn
      have hS := l28Says_any (.slice o1 c.pool.length j1) c.pool ix w1 hp HT.out (kind_in (HQ.out HN.out) hi) (HP.out _ P1.b)
      have HZ := hid (show sayS c.pool ix = textS c ix 0 by unfold textS; rw [if_pos ⟨rfl, hi⟩])
      generalize sayS c.pool ix = r at hS HZ
      have HB1 := hid P1.b
      clear P1 HP HT hi
      go_wp2_with fail
      refine (hIn _).mono ?_
      rintro e w2 ⟨rfl, hw⟩
      replace hw := hw.symm
      subst hw
      clear hIn
      go_wp2_with fail
      refine hS.mono ?_
      rintro e w3 ⟨rfl, hb3⟩
      have HB3 := hid (HB1.out.trans (hb3.mono HB1.out.size))
      clear hS hb3 c0 c1 c2 c3 c4 c5 c6
      go_wp2
      go_ret
      exact ⟨r, rfl, ⟨0, HN.out, HZ.out⟩, HB3.out⟩
    · rw [show inI ix 1 c.pool.length = false by unfold inI; simp; omega] at hIn
      have HZ := hid (show (⟨#[]⟩ : ByteArray) = textS c ix 0 by unfold textS; rw [if_neg (fun h => hi h.2)])
      have HB1 := hid P1.b
      clear P1 HP HT hi
      go_wp2_with fail
      refine (hIn _).mono ?_
      rintro e w2 ⟨rfl, hw⟩
      replace hw := hw.symm
      subst hw
      clear hIn
      go_wp2
      go_ret
      exact ⟨_, rfl, ⟨0, HN.out, HZ.out⟩, HB1.out⟩
  · have HZ := hid (show (⟨#[]⟩ : ByteArray) = textS c ix n by unfold textS; rw [if_neg (fun h => h0 h.1)])
    have HB1 := hid P1.b
    clear P1 HP HT
    go_wp2
    go_ret
    exact ⟨_, rfl, ⟨n, HN.out, HZ.out⟩, HB1.out⟩

end Go.Proofs.YtadgoaogkkffmaaGreatDoor
