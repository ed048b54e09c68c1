/- Contract of the program's StartOk. -/
import Derived.Test.YtckloemgjeagmaaLoList
import Derived.Test.YtckloemgjeagmaaStTo
import Derived.Test.YtckloemgjeagmaaAnyPick
namespace Go.Proofs.Ytckloemgjeagmaa
open Go.RowKit
set_option maxHeartbeats 2000000
set_option maxRecDepth 20000
set_option linter.unusedVariables false

def pickQ (n : Nat) (ps : List MPick) (k : Nat) : Bool := (ps[k]?.map (pickB n)).getD true
/-- a start that is ok -/
structure fineS (s : MStart) : Prop where
  l : fineLS s.loaders
  ld : inB s.loader 0 ((s.loaders.length : Int) - 1) = true
  nm : nmB s.name = true
  fu : inB s.fuel 0 300 = true
  ro : inB s.room 0 20 = true
  np : s.picks.length ≤ 6
  p : ∀ k, k < s.picks.length → pickQ s.loaders.length s.picks k = true

theorem startFn_any (p : MPick) (ao : Option Addr) (len cap c : Nat) (w : World) (hs : p.name.size ≤ maxLen) (hl : len ≤ 1048576) (hc : w.cell? ⟨c, 0, none⟩ = some (.slice ao len cap)) (hlt : c < w.heap.size) :
    Calls Try.prog 19 #[.agg #[.int .i64 p.at_, .int .i64 p.kind, .int .i64 p.loader, .string p.name], .pointer (some ⟨c, 0, none⟩)] w fun e w' => e = .returned (.bool (pickB len p)) ∧ Below w.heap.size w w' := by
  have hbo := (Below.refl w.heap.size w).alloc (Nat.le_refl _) (.cells #[.int .i64 p.at_, .int .i64 p.kind, .int .i64 p.loader, .string p.name] 49)
  have hC := fun W => pickFine_any p ao len cap W hs (by omega)
  have hne : ¬ c = w.heap.size := by omega
  have HO := hid hbo
  generalize pickB len p = q at hC ⊢
  clear hbo
  go_enter Try.func19, Try.ntmps19
  go_wp2_with fail
  refine (hC _).mono ?_
  rintro e w1 ⟨rfl, hb1⟩
  have HB := hid (HO.out.trans (hb1.mono HO.out.size))
  clear hb1 hC HO
  go_wp2
  go_ret
  exact ⟨rfl, HB.out⟩

/-- the argument in its block -/
structure SF (w : World) (a : Array Value) (W : World) : Prop where
  b : Below w.heap.size w W
  k : Lk W w.heap.size a 31
theorem SF.keep {w W W' : World} {a : Array Value} (h : SF w a W) (hb : Below W.heap.size W W') : SF w a W' := ⟨h.b.trans (hb.mono h.b.size), h.k.keep hb⟩
theorem SF.start (w : World) (a : Array Value) : SF w a (w.alloc (.cells a 31)) := ⟨(Below.refl _ _).alloc (Nat.le_refl _) _, Lk.new _ _ _⟩

theorem implStartOk_any (s : MStart) (vl vp : Value) (B : Nat) (w : World) (hf : s.few) (h : StartW w B vl vp s) :
    Calls Try.prog 7 #[.agg #[vl, .int .i64 s.loader, .string s.name, .int .i64 s.fuel, .int .i64 s.room, .bool s.prove, vp]] w fun e w' => ∃ b : Bool, e = .returned (.bool b) ∧ (b = true ↔ fineS s) ∧ Below w.heap.size w w' := by
  obtain ⟨a1, k1, e1⟩ := h.l.len
  obtain ⟨a2, k2, e2⟩ := own_len h.p
  subst e1 e2
  have P0 := SF.start w (arrS (.slice a1 s.loaders.length k1) s.loader s.name s.fuel s.room s.prove (.slice a2 s.picks.length k2))
  have hnl := hf.nl
  have hpn := hf.p.1
  have hL := loadersOk_any (.slice a1 s.loaders.length k1) s.loaders B _ hf.nl hf.l (h.l.keep P0.b)
  have hI := fun W => isAtLoader_any a1 s.loaders.length k1 s.loader W (by omega)
  have hN := fun W => NameOk_any s.name W (by have := hf.n; unfold maxLen; omega)
  have hW1 := fun W => within_any s.fuel 300 W
  have hW2 := fun W => within_any s.room 20 W
  have hP := fun W (hW : SF w (arrS (.slice a1 s.loaders.length k1) s.loader s.name s.fuel s.room s.prove (.slice a2 s.picks.length k2)) W) => allPick_any (.pointer (some ⟨w.heap.size, 0, none⟩)) (.slice a2 s.picks.length k2) s.picks B (pickQ s.loaders.length s.picks) W (by omega) (own_below h.p hW.b) (fun k hk W' hW' => by
    have P := hW.keep hW'
    refine (startFn_any s.picks[k] a1 s.loaders.length k1 w.heap.size W' (by have := hf.p.2 _ (List.getElem_mem hk); unfold maxLen; omega) hnl P.k.c7s.1.1 P.k.lt).mono ?_
    rintro e w1 ⟨rfl, hb⟩
    exact ⟨ret_bool (by unfold pickQ; rw [List.getElem?_eq_getElem hk]; rfl), hb⟩)
  have hmf : ∀ (fn : Fn) (first cap : Array Value) (w : World), (Instr.makeFunc fn first cap).run Try.prog w = .ok (.func fn first cap) w := fun _ _ _ _ => rfl
  clear h hf
  go_enter Try.func7, Try.ntmps7
  go_wp2_with fail
  refine hL.mono ?_
  rintro e w1 ⟨b1, rfl, r1, hb1⟩
  have P1 := P0.keep hb1
  have R1 := hid r1
  clear P0 hb1 hL r1
  obtain ⟨⟨c0, c1, c2, c3, c4, c5, c6⟩, _⟩ := P1.k.c7s
  have HB := hid P1.b
  cases b1 with
  | false =>
    have HN := hid (show ¬ fineS s from fun h => by have := R1.out.2 h.l; cases this)
    clear P1 R1
    go_wp2
    go_ret
    first | exact ⟨false, rfl, ⟨fun h => (by cases h), fun h => absurd h HN.out⟩, HB.out⟩ | exact .inl ⟨rfl, HN.out, HB.out⟩
  | true =>
  replace R1 := hid (R1.out.1 rfl)
  obtain ⟨q1, hq1⟩ : ∃ q, Hid (inB s.loader 0 ((s.loaders.length : Int) - 1) = q) := ⟨_, hid rfl⟩
  obtain ⟨q2, hq2⟩ : ∃ q, Hid (nmB s.name = q) := ⟨_, hid rfl⟩
  obtain ⟨q3, hq3⟩ : ∃ q, Hid (inB s.fuel 0 300 = q) := ⟨_, hid rfl⟩
  obtain ⟨q4, hq4⟩ : ∃ q, Hid (inB s.room 0 20 = q) := ⟨_, hid rfl⟩
  rw [hq1.out] at hI
  rw [show Mx.nameB s.name.data.toList = q2 from hq2.out] at hN
  rw [hq3.out] at hW1
  rw [hq4.out] at hW2
  by_cases hall : q1 = true ∧ q2 = true ∧ q3 = true ∧ q4 = true ∧ s.picks.length ≤ 6
  case neg =>
    have HN := hid (show ¬ fineS s from fun h => hall ⟨by rw [← hq1.out]; exact h.ld, by rw [← hq2.out]; exact h.nm, by rw [← hq3.out]; exact h.fu, by rw [← hq4.out]; exact h.ro, h.np⟩)
    clear P1 R1 hP
    by_cases h6 : s.picks.length ≤ 6
    all_goals cases q1 <;> cases q2 <;> cases q3 <;> cases q4
    all_goals first
      | (exfalso; simp_all; done)
      | (go_wp2_with (first | (go_at_call 15; refine (hI _).mono ?_; rintro e w2 ⟨rfl, hw⟩; replace hw := hw.symm; subst hw) | (go_at_call 16; refine (hN _).mono ?_; rintro e w3 ⟨rfl, hw⟩; replace hw := hw.symm; subst hw) | (go_at_call_of 17 s.fuel; refine (hW1 _).mono ?_; rintro e w4 ⟨rfl, hw⟩; replace hw := hw.symm; subst hw) | (go_at_call 17; refine (hW2 _).mono ?_; rintro e w5 ⟨rfl, hw⟩; replace hw := hw.symm; subst hw))
         go_ret
         first | exact ⟨false, rfl, ⟨fun h => (by cases h), fun h => absurd h HN.out⟩, HB.out⟩ | exact .inl ⟨rfl, HN.out, HB.out⟩)
  case pos =>
    obtain ⟨rfl, rfl, rfl, rfl, h6⟩ := hall
    have HPK := hid (hP _ P1)
    clear hP
    have HY := hid (fun (hp : ∀ k, k < s.picks.length → pickQ s.loaders.length s.picks k = true) => (show fineS s from ⟨R1.out, hq1.out, hq2.out, hq3.out, hq4.out, h6, hp⟩))
    clear R1 hq1 hq2 hq3 hq4 P1
    go_wp2_with (first | (go_at_call 15; refine (hI _).mono ?_; rintro e w2 ⟨rfl, hw⟩; replace hw := hw.symm; subst hw) | (go_at_call 16; refine (hN _).mono ?_; rintro e w3 ⟨rfl, hw⟩; replace hw := hw.symm; subst hw) | (go_at_call_of 17 s.fuel; refine (hW1 _).mono ?_; rintro e w4 ⟨rfl, hw⟩; replace hw := hw.symm; subst hw) | (go_at_call 17; refine (hW2 _).mono ?_; rintro e w5 ⟨rfl, hw⟩; replace hw := hw.symm; subst hw) | (go_at_call 18; refine HPK.out.mono ?_; rintro e w6 ⟨b, rfl, hb, hb6⟩; have HB6 := hid (HB.out.trans (hb6.mono HB.out.size)); have HR := hid hb; clear hb hb6))
    go_ret
    exact ⟨b, rfl, ⟨fun h => HY.out (HR.out.1 h), fun h => HR.out.2 h.p⟩, HB6.out⟩

end Go.Proofs.Ytckloemgjeagmaa
