/- Contracts of the law's own helpers on a start: szStart, toStart, eqStart. -/
import Derived.Test.YtckloemgjeagmaaStBase
namespace Go.Proofs.Ytckloemgjeagmaa
open Go.RowKit
set_option maxHeartbeats 2000000
set_option maxRecDepth 20000
set_option linter.unusedVariables false

theorem szStart_any (s : MStart) (al : Option Addr) (ll cl : Nat) (ap : Option Addr) (lp cp : Nat) (w : World) (hA : ArgS w al ll ap lp s) :
    Calls Try.prog 4 #[.agg #[.slice al ll cl, .int .i64 s.loader, .string s.name, .int .i64 s.fuel, .int .i64 s.room, .bool s.prove, .slice ap lp cp], .int .i64 1048576] w fun e w' => ∃ m, e = .returned (.int .i64 m) ∧ (m < 0 ∨ s.few) ∧ Below w.heap.size w w' := by
  have hbo := (Below.refl w.heap.size w).alloc (Nat.le_refl _) (.cells #[.slice al ll cl, .int .i64 s.loader, .string s.name, .int .i64 s.fuel, .int .i64 s.room, .bool s.prove, .slice ap lp cp] 25)
  have hL := szLoaderS_any al ll cl s.loaders 1048576 _ hA.ml (by omega) (by omega) (hA.l.keep hbo)
  have K0 := Lk.new w #[.slice al ll cl, .int .i64 s.loader, .string s.name, .int .i64 s.fuel, .int .i64 s.room, .bool s.prove, .slice ap lp cp] 25
  have HA := hid hA
  have HO := hid hbo
  have hmn := hA.mn
  unfold maxLen at hmn
  clear hA hbo
  go_enter Try.func4, Try.ntmps4
  go_wp2_with fail
  refine hL.mono ?_
  rintro e w1 ⟨m, rfl, hm, hb1⟩
  have HB := hid (HO.out.trans (hb1.mono HO.out.size))
  have K1 : Lk w1 w.heap.size (arrS (.slice al ll cl) s.loader s.name s.fuel s.room s.prove (.slice ap lp cp)) 25 := K0.keep hb1
  clear hb1 K0 HO hL
  by_cases hneg : m < 0
  · clear hm K1
    go_wp2
    go_ret
    exact ⟨_, rfl, .inl (by omega), HB.out⟩
  · have hm' := hm.resolve_left hneg
    have q1 := hm'.1
    have q2 := hm'.2.1
    have HM := hid hm'
    obtain ⟨⟨c0, c1, c2, c3, c4, c5, c6⟩, _⟩ := K1.c7s
    clear hm hm'
    by_cases hneg2 : m - (s.name.size : Int) < 0
    · clear K1
      go_wp2
      go_ret
      exact ⟨_, rfl, .inl (by omega), HB.out⟩
    · have hP := szPickS_any ap lp cp s.picks (m - s.name.size) w1 HA.out.mp (by omega) (by omega) (HA.out.p.keep HB.out)
      have e1 : IntKind.i64.wrap (m - (s.name.size : Int)) = m - (s.name.size : Int) := by rw [IntKind.wrap_i64]; omega
      clear K1
      go_wp2_with fail
      refine hP.mono ?_
      rintro e w2 ⟨m2, rfl, hm2, hb2⟩
      have HB2 := hid (HB.out.trans (hb2.mono HB.out.size))
      clear hb2 hP
      by_cases hneg3 : m2 < 0
      · clear hm2
        go_wp2
        go_ret
        exact ⟨_, rfl, .inl (by omega), HB2.out⟩
      · have HS := hid (show s.few from ⟨by have := HM.out.2.2.1; have := HA.out.l.1; omega, HM.out.2.2.2, by omega, (hm2.resolve_left hneg3).2.2⟩)
        clear hm2
        go_wp2
        go_ret
        exact ⟨_, rfl, .inr HS.out, HB2.out⟩

/-- the argument, the result and the start that is put together, each in its block -/
structure TS (w : World) (a b c : Array Value) (W : World) : Prop where
  bl : Below w.heap.size w W
  ka : Lk W w.heap.size a 25
  kb : Lk W (w.heap.size + 1) b 31
  kc : Lk W (w.heap.size + 1 + 1) c 31
theorem TS.keep {w W W' : World} {a b c : Array Value} (h : TS w a b c W) (hb : Below W.heap.size W W') : TS w a b c W' := ⟨h.bl.trans (hb.mono h.bl.size), h.ka.keep hb, h.kb.keep hb, h.kc.keep hb⟩
theorem TS.set {w W : World} {a b c c' : Array Value} (h : TS w a b c W) (j : Nat) (u : Value) (hu : c.setIfInBounds j u = c') : TS w a b c' (W.setCell ⟨w.heap.size + 1 + 1, j, none⟩ u) :=
  ⟨h.bl.setCell (by simp; omega) _, h.ka.other _ (by simp; omega), h.kb.other _ (by simp), h.kc.set j u hu⟩

theorem TS.setb {w W : World} {a b c : Array Value} (h : TS w a b c W) (j : Nat) (u : Value) : TS w a (b.setIfInBounds j u) c (W.setCell ⟨w.heap.size + 1, j, none⟩ u) :=
  ⟨h.bl.setCell (by simp) _, h.ka.other _ (by simp), h.kb.set j u rfl, h.kc.other _ (by simp)⟩
theorem LoadersW.set {w : World} {B : Nat} {v : Value} {fs : List MLoader} (h : LoadersW w B v fs) {a : Addr} (ha : a.block < B) (u : Value) : LoadersW (w.setCell a u) B v fs := by
  obtain ⟨xs, h1, h2, h3⟩ := h
  exact ⟨xs, h1, ownsRow_setCell_below h2 ha u, fun k hk hk' => (h3 k hk hk').set ha u⟩
theorem StartW.set {w : World} {B : Nat} {vl vp : Value} {s : MStart} (h : StartW w B vl vp s) {a : Addr} (ha : a.block < B) (u : Value) : StartW (w.setCell a u) B vl vp s := ⟨h.l.set ha u, ownsRow_setCell_below h.p ha u⟩

theorem toStart_any (s : MStart) (al : Option Addr) (ll cl : Nat) (ap : Option Addr) (lp cp : Nat) (w : World) (hA : ArgS w al ll ap lp s) (hf : s.few) :
    Calls Try.prog 6 #[.agg #[.slice al ll cl, .int .i64 s.loader, .string s.name, .int .i64 s.fuel, .int .i64 s.room, .bool s.prove, .slice ap lp cp]] w fun e w' => ∃ vl vp, e = .returned (.agg #[vl, .int .i64 s.loader, .string s.name, .int .i64 s.fuel, .int .i64 s.room, .bool s.prove, vp]) ∧ StartW w' w.heap.size vl vp s ∧ Below w.heap.size w w' := by
  have T0 : TS w (arrS (.slice al ll cl) s.loader s.name s.fuel s.room s.prove (.slice ap lp cp)) (arrS (.slice none 0 0) 0 ⟨#[]⟩ 0 0 false (.slice none 0 0)) (arrS (.slice none 0 0) 0 ⟨#[]⟩ 0 0 false (.slice none 0 0)) (((w.alloc (.cells (arrS (.slice al ll cl) s.loader s.name s.fuel s.room s.prove (.slice ap lp cp)) 25)).alloc (.cells (arrS (.slice none 0 0) 0 ⟨#[]⟩ 0 0 false (.slice none 0 0)) 31)).alloc (.cells (arrS (.slice none 0 0) 0 ⟨#[]⟩ 0 0 false (.slice none 0 0)) 31)) := by
    refine ⟨(((Below.refl _ _).alloc (Nat.le_refl _) _).alloc (by simp) _).alloc (by simp; omega) _, ((Lk.new _ _ _).alloc _).alloc _, ?_, ?_⟩
    · have := (Lk.new (w.alloc (.cells (arrS (.slice al ll cl) s.loader s.name s.fuel s.room s.prove (.slice ap lp cp)) 25)) (arrS (.slice none 0 0) 0 ⟨#[]⟩ 0 0 false (.slice none 0 0)) 31).alloc (.cells (arrS (.slice none 0 0) 0 ⟨#[]⟩ 0 0 false (.slice none 0 0)) 31)
      simpa using this
    · have := Lk.new ((w.alloc (.cells (arrS (.slice al ll cl) s.loader s.name s.fuel s.room s.prove (.slice ap lp cp)) 25)).alloc (.cells (arrS (.slice none 0 0) 0 ⟨#[]⟩ 0 0 false (.slice none 0 0)) 31)) (arrS (.slice none 0 0) 0 ⟨#[]⟩ 0 0 false (.slice none 0 0)) 31
      simpa using this
  have hsz := T0.kc.lt
  have hl := hf.nl
  have hle := hA.l.1
  have hpe := hA.p.1
  have hp := hf.p.1
  have hL := toLoaderS_any al ll cl s.loaders _ (by omega) (hA.l.keep T0.bl) hf.l
  have HA := hid hA
  clear hA hf
  go_enter Try.func6, Try.ntmps6
  go_wp2_with fail
  refine hL.mono ?_
  rintro e w1 ⟨v1, rfl, ho1, hb1⟩
  have T1 := T0.keep hb1
  have z1 := hb1.size
  obtain ⟨a1, k1, rfl⟩ := ho1.len
  have HL := hid (ho1.mono (show w.heap.size + 1 + 1 + 1 ≤ _ from hsz))
  clear T0 hb1 hL ho1 z1 hsz
  have hz1 := T1.kc.lt
  obtain ⟨⟨c0, c1, c2, c3, c4, c5, c6⟩, _⟩ := T1.ka.c7s
  obtain ⟨⟨d0, d1, d2, d3, d4, d5, d6⟩, f0, f1, f2, f3, f4, f5, f6⟩ := T1.kc.c7s
  have T2 := (((((T1.set 0 (.slice a1 s.loaders.length k1) rfl).set 1 (.int .i64 s.loader) rfl).set 2 (.string s.name) rfl).set 3 (.int .i64 s.fuel) rfl).set 4 (.int .i64 s.room) rfl).set 5 (.bool s.prove) rfl
  have hP := toPickS_any ap lp cp s.picks _ (by omega) (HA.out.p.keep T2.bl)
  have HL2 := hid ((((((HL.out.set (a := ⟨w.heap.size + 1 + 1, 0, none⟩) (by simp) (.slice a1 s.loaders.length k1)).set (a := ⟨w.heap.size + 1 + 1, 1, none⟩) (by simp) (.int .i64 s.loader)).set (a := ⟨w.heap.size + 1 + 1, 2, none⟩) (by simp) (.string s.name)).set (a := ⟨w.heap.size + 1 + 1, 3, none⟩) (by simp) (.int .i64 s.fuel)).set (a := ⟨w.heap.size + 1 + 1, 4, none⟩) (by simp) (.int .i64 s.room)).set (a := ⟨w.heap.size + 1 + 1, 5, none⟩) (by simp) (.bool s.prove))
  have HT := hid T2
  have HP := hid hP
  clear T1 HL T2 hP hle hpe hl hp hz1
  go_wp2_with fail
  refine HP.out.mono ?_
  rintro e w2 ⟨v2, rfl, ho2, hb2⟩
  have T3 := HT.out.keep hb2
  have hz2 := HT.out.kc.lt
  obtain ⟨a2, k2, rfl⟩ := own_len ho2
  have HS := hid (StartW.mk (B := w.heap.size + 1 + 1 + 1) (HL2.out.keep hb2) (Joins.ownsRow_le ho2 hz2))
  clear HL2 ho2 hb2 HP HT c0 c1 c2 c3 c4 c5 c6 d0 d1 d2 d3 d4 d5 d6 f0 f1 f2 f3 f4 f5 f6 hz2
  obtain ⟨⟨b0, b1, b2, b3, b4, b5, b6⟩, g0, g1, g2, g3, g4, g5, g6⟩ := T3.kb.c7s
  obtain ⟨⟨d0, d1, d2, d3, d4, d5, d6⟩, f0, f1, f2, f3, f4, f5, f6⟩ := Lk.c7s (vl := .slice a1 s.loaders.length k1) (ld := s.loader) (nm := s.name) (fu := s.fuel) (ro := s.room) (pr := s.prove) (vp := .slice none 0 0) T3.kc
  have HB := hid T3.bl
  clear T3
  go_wp2
  refine bodyPost_ret (v := .agg #[.slice a1 s.loaders.length k1, .int .i64 s.loader, .string s.name, .int .i64 s.fuel, .int .i64 s.room, .bool s.prove, .slice a2 s.picks.length k2]) (by simp [results, Try.results6, go_sem, *]) rfl ⟨.slice a1 s.loaders.length k1, .slice a2 s.picks.length k2, rfl, ?_, ?_⟩
  · exact StartW.mono ((((((((HS.out.set (by simp) _).set (by simp) _).set (by simp) _).set (by simp) _).set (by simp) _).set (by simp) _).set (by simp) _).set (by simp) _) (by omega)
  · exact (((((((HB.out.setCell (by simp; omega) _).setCell (by simp) _).setCell (by simp) _).setCell (by simp) _).setCell (by simp) _).setCell (by simp) _).setCell (by simp) _).setCell (by simp) _

theorem eqStart_same (s : MStart) (vl vp ul up : Value) (B1 B2 : Nat) (w : World) (hf : s.few) (hx : StartW w B1 vl vp s) (hy : StartW w B2 ul up s) :
    Calls Try.prog 8 #[.agg #[vl, .int .i64 s.loader, .string s.name, .int .i64 s.fuel, .int .i64 s.room, .bool s.prove, vp], .agg #[ul, .int .i64 s.loader, .string s.name, .int .i64 s.fuel, .int .i64 s.room, .bool s.prove, up]] w fun e w' => e = .returned (.bool true) ∧ Below w.heap.size w w' := by
  obtain ⟨a1, k1, e1⟩ := hx.l.len
  obtain ⟨a2, k2, e2⟩ := own_len hx.p
  obtain ⟨a3, k3, e3⟩ := hy.l.len
  obtain ⟨a4, k4, e4⟩ := own_len hy.p
  subst e1 e2 e3 e4
  have HX := hid hx
  have HY := hid hy
  have HF := hid hf
  have hb0 : Below w.heap.size w ((w.alloc (.cells (arrS (.slice a1 s.loaders.length k1) s.loader s.name s.fuel s.room s.prove (.slice a2 s.picks.length k2)) 31)).alloc (.cells (arrS (.slice a3 s.loaders.length k3) s.loader s.name s.fuel s.room s.prove (.slice a4 s.picks.length k4)) 31)) := ((Below.refl _ _).alloc (Nat.le_refl _) _).alloc (by simp) _
  have K1 : Lk ((w.alloc (.cells (arrS (.slice a1 s.loaders.length k1) s.loader s.name s.fuel s.room s.prove (.slice a2 s.picks.length k2)) 31)).alloc (.cells (arrS (.slice a3 s.loaders.length k3) s.loader s.name s.fuel s.room s.prove (.slice a4 s.picks.length k4)) 31)) w.heap.size _ _ := (Lk.new _ _ _).alloc _
  have K2 : Lk ((w.alloc (.cells (arrS (.slice a1 s.loaders.length k1) s.loader s.name s.fuel s.room s.prove (.slice a2 s.picks.length k2)) 31)).alloc (.cells (arrS (.slice a3 s.loaders.length k3) s.loader s.name s.fuel s.room s.prove (.slice a4 s.picks.length k4)) 31)) (w.heap.size + 1) (arrS (.slice a3 s.loaders.length k3) s.loader s.name s.fuel s.room s.prove (.slice a4 s.picks.length k4)) 31 := by
    have := Lk.new (w.alloc (.cells (arrS (.slice a1 s.loaders.length k1) s.loader s.name s.fuel s.room s.prove (.slice a2 s.picks.length k2)) 31)) (arrS (.slice a3 s.loaders.length k3) s.loader s.name s.fuel s.room s.prove (.slice a4 s.picks.length k4)) 31
    simpa using this
  have hL := eqLoaderS_same _ _ s.loaders B1 B2 _ hf.nl hf.l (hx.l.keep hb0) (hy.l.keep hb0)
  have HL := hid hL
  have H0 := hid hb0
  have HK1 := hid K1
  have HK2 := hid K2
  clear hx hy hf hb0 K1 K2 hL
  go_enter Try.func8, Try.ntmps8
  go_wp2_with fail
  refine HL.out.mono ?_
  rintro e w1 ⟨rfl, hb1⟩
  have HB := hid (H0.out.trans (hb1.mono H0.out.size))
  obtain ⟨⟨c0, c1, c2, c3, c4, c5, c6⟩, _⟩ := (HK1.out.keep hb1).c7s
  obtain ⟨⟨d0, d1, d2, d3, d4, d5, d6⟩, _⟩ := (HK2.out.keep hb1).c7s
  have hP := eqPickS_same _ _ s.picks B1 B2 w1 HF.out.p.1 (own_below HX.out.p HB.out) (own_below HY.out.p HB.out)
  clear hb1 HL H0 HK1 HK2
  go_wp2_with fail
  refine hP.mono ?_
  rintro e w2 ⟨rfl, hb2⟩
  have HB2 := hid (HB.out.trans (hb2.mono HB.out.size))
  clear hb2 hP c0 c1 c2 c3 c4 c5 c6 d0 d1 d2 d3 d4 d5 d6
  go_wp2
  go_ret
  exact ⟨rfl, HB2.out⟩

end Go.Proofs.Ytckloemgjeagmaa
