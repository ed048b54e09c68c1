/- Paths: PathOf, PathMaker and PathSame of the program and of the specification. -/
import Derived.Test.YtjhmjjechagbjaaPaSpec
import Derived.Test.YtjhmjjechagbjaaStSpec
namespace Go.Proofs.Ytjhmjjechagbjaa
open Go.RowKit
set_option maxHeartbeats 2000000
set_option maxRecDepth 20000
set_option linter.unusedVariables false

/-- one can be asked -/
structure askP (ls : List MLoader) (n : Int) (nm : ByteArray) : Prop where
  ok : fineLS ls
  at_ : inB n 0 ((ls.length : Int) - 1) = true
  nam : nmB nm = true
  no : firstB nm = false
theorem inB_nat {n : Int} {m : Nat} (h : inB n 0 ((m : Int) - 1) = true) : ∃ k : Nat, n = (k : Int) ∧ k < m := by
  unfold inB at h
  simp at h
  exact ⟨n.toNat, by omega, by omega⟩

theorem canAsk_any (v : Value) (ls : List MLoader) (n : Int) (nm : ByteArray) (B : Nat) (w : World) (hl : ls.length ≤ 1048576) (hs : nm.size ≤ maxLen) (hf : ∀ f ∈ ls, f.few) (h : LoadersW w B v ls) :
    Calls Try.prog 23 #[v, .int .i64 n, .string nm] w fun e w' => ∃ b : Bool, e = .returned (.bool b) ∧ (b = true ↔ askP ls n nm) ∧ Below w.heap.size w w' := by
  have hL := loadersOk_any v ls B w hl hf h
  obtain ⟨ao, cap, hv⟩ := loadersW_len h
  subst hv
  have hA := fun W => isAtLoader_any ao ls.length cap n W (by omega)
  have hN := fun W => NameOk_any nm W hs
  have hI := fun W => isFirst_any nm W
  clear h hf
  go_enter Try.func23, Try.ntmps23
  go_wp2_with fail
  refine hL.mono ?_
  rintro e w1 ⟨b, rfl, hb, hb1⟩
  have HB := hid hb1
  have HQ := hid hb
  clear hb1 hb hL
  obtain ⟨q1, hq1⟩ : ∃ q, Hid (inB n 0 ((ls.length : Int) - 1) = q) := ⟨_, hid rfl⟩
  obtain ⟨q2, hq2⟩ : ∃ q, Hid (nmB nm = q) := ⟨_, hid rfl⟩
  obtain ⟨q3, hq3⟩ : ∃ q, Hid (firstB nm = q) := ⟨_, hid rfl⟩
  have hN' : ∀ W, Calls Try.prog 41 #[.string nm] W fun e w' => e = .returned (.bool q2) ∧ w' = W := fun W => by rw [← hq2.out]; exact hN W
  rw [hq1.out] at hA
  rw [hq3.out] at hI
  have HR := hid (show (b && (q1 && (q2 && !q3))) = true ↔ askP ls n nm from by
    rw [← hq1.out, ← hq2.out, ← hq3.out]
    simp only [Bool.and_eq_true, Bool.not_eq_true']
    exact ⟨fun ⟨a1, a2, a3, a4⟩ => ⟨HQ.out.1 a1, a2, a3, a4⟩, fun a => ⟨HQ.out.2 a.ok, a.at_, a.nam, a.no⟩⟩)
  clear HQ hq1 hq2 hq3 hN
  cases b <;> cases q1 <;> cases q2 <;> cases q3
  all_goals
    go_wp2_with (first | (go_at_call 41; refine (hN' _).mono ?_; rintro e w2 ⟨rfl, hw⟩; replace hw := hw.symm; subst hw) | (go_at_call 40; refine (hA _).mono ?_; rintro e w3 ⟨rfl, hw⟩; replace hw := hw.symm; subst hw) | (go_at_call 42; refine (hI _).mono ?_; rintro e w4 ⟨rfl, hw⟩; replace hw := hw.symm; subst hw))
  all_goals go_ret
  all_goals first | exact ⟨_, rfl, HR.out, HB.out⟩ | exact .inl ⟨rfl, fun h => by (have := HR.out.2 h; cases this), HB.out⟩ | exact .inr ⟨rfl, HR.out.1 rfl, HB.out⟩

theorem l22Ok_any (v : Value) (ls : List MLoader) (n : Int) (nm : ByteArray) (B : Nat) (w : World) (hl : ls.length ≤ 1048576) (hs : nm.size ≤ maxLen) (hf : ∀ f ∈ ls, f.few) (h : LoadersW w B v ls) :
    Calls Try.prog 20 #[v, .int .i64 n, .string nm] w fun e w' => ∃ b : Bool, e = .returned (.bool b) ∧ (b = true ↔ askP ls n nm) ∧ Below w.heap.size w w' := by
  have hL := l5LoadersOk_any v ls B w hl hf h
  obtain ⟨ao, cap, hv⟩ := loadersW_len h
  subst hv
  have hA := fun W => l1In_any n 0 ((ls.length : Int) - 1) W
  have z4 : IntKind.i64.wrap ((ls.length : Int) - 1) = (ls.length : Int) - 1 := by rw [IntKind.wrap_i64]; omega
  have hN := fun W => l2Name_any nm W hs
  have hI := fun W => l5Built_any nm W
  clear h hf
  go_enter Try.func20, Try.ntmps20
  go_wp2_with fail
  refine hL.mono ?_
  rintro e w1 ⟨b, rfl, hb, hb1⟩
  have HB := hid hb1
  have HQ := hid hb
  clear hb1 hb hL
  obtain ⟨q1, hq1⟩ : ∃ q, Hid (inB n 0 ((ls.length : Int) - 1) = q) := ⟨_, hid rfl⟩
  obtain ⟨q2, hq2⟩ : ∃ q, Hid (nmB nm = q) := ⟨_, hid rfl⟩
  obtain ⟨q3, hq3⟩ : ∃ q, Hid (firstB nm = q) := ⟨_, hid rfl⟩
  have hN' : ∀ W, Calls Try.prog 32 #[.string nm] W fun e w' => e = .returned (.bool q2) ∧ w' = W := fun W => by rw [← hq2.out]; exact hN W
  have hA' : ∀ W, Calls Try.prog 31 #[.int .i64 n, .int .i64 0, .int .i64 ((ls.length : Int) - 1)] W fun e w' => e = .returned (.bool q1) ∧ w' = W := fun W => by rw [← hq1.out]; exact hA W
  rw [hq3.out] at hI
  have HR := hid (show (b && (q1 && (q2 && !q3))) = true ↔ askP ls n nm from by
    rw [← hq1.out, ← hq2.out, ← hq3.out]
    simp only [Bool.and_eq_true, Bool.not_eq_true']
    exact ⟨fun ⟨a1, a2, a3, a4⟩ => ⟨HQ.out.1 a1, a2, a3, a4⟩, fun a => ⟨HQ.out.2 a.ok, a.at_, a.nam, a.no⟩⟩)
  clear HQ hq1 hq2 hq3 hN hA
  cases b <;> cases q1 <;> cases q2 <;> cases q3
  all_goals
    go_wp2_with (first | (go_at_call 32; refine (hN' _).mono ?_; rintro e w2 ⟨rfl, hw⟩; replace hw := hw.symm; subst hw) | (go_at_call 31; refine (hA' _).mono ?_; rintro e w3 ⟨rfl, hw⟩; replace hw := hw.symm; subst hw) | (go_at_call 33; refine (hI _).mono ?_; rintro e w4 ⟨r, rfl, hr, hw⟩; replace hw := hw.symm; subst hw; simp at hr))
  all_goals go_ret
  all_goals first | exact ⟨_, rfl, HR.out, HB.out⟩ | exact .inl ⟨rfl, fun h => by (have := HR.out.2 h; cases this), HB.out⟩ | exact .inr ⟨rfl, HR.out.1 rfl, HB.out⟩ | exact ⟨true, ret_bool (by simp; omega), HR.out, HB.out⟩ | exact ⟨false, ret_bool (by simp; omega), HR.out, HB.out⟩

theorem pathFn_nat {ls : List MLoader} {nm : ByteArray} : ∀ (f : Nat) (path : List Int) (a : Int), (∀ x ∈ path, 0 ≤ x) → (∀ x ∈ (pathFn ls nm f path a).1, 0 ≤ x) ∧ (pathFn ls nm f path a).1.length ≤ path.length + f
  | 0, path, a, h => by simpa [pathFn] using h
  | f + 1, path, a, h => by
    by_cases h1 : a < 0
    · simp [pathFn, h1]; exact h
    · by_cases h2 : a ∈ path
      · simp [pathFn, h1, h2]; exact h
      · have h' : ∀ x ∈ path ++ [a], 0 ≤ x := fun x hx => by
          rcases List.mem_append.1 hx with hx | hx
          · exact h x hx
          · simp at hx; omega
        cases hl : ls[a.toNat]? with
        | none => simp [pathFn, h1, h2, hl]; exact h
        | some l =>
          by_cases hm : makesB l nm = true
          · simp only [pathFn, h1, h2, hl, hm, if_true, if_false, List.contains_eq_mem, decide_false, Bool.false_eq_true]
            have hz : (path ++ [a]).length = path.length + 1 := by simp
            exact ⟨h', by omega⟩
          · have ih := pathFn_nat (ls := ls) (nm := nm) f (path ++ [a]) (nxtLd l nm) h'
            simp only [pathFn, h1, h2, hl, hm, if_false, List.contains_eq_mem, decide_false, Bool.false_eq_true]
            exact ⟨ih.1, by have := ih.2; simp at this; omega⟩

/-- the loaders that are asked, or none -/
def pathL (ls : List MLoader) (n : Int) (nm : ByteArray) : List Int := if (pathR ls nm [] n).2 then (pathR ls nm [] n).1 else []
structure PathOut (ls : List MLoader) (n : Int) (nm : ByteArray) (R : List Int) : Prop where
  y : askP ls n nm → R = pathL ls n nm
  n : ¬ askP ls n nm → R = []
theorem PathOut.one {ls : List MLoader} {n : Int} {nm : ByteArray} {R R' : List Int} (h : PathOut ls n nm R) (h' : PathOut ls n nm R') : R = R' := by
  by_cases ha : askP ls n nm
  · rw [h.y ha, h'.y ha]
  · rw [h.n ha, h'.n ha]
theorem pathL_nat (ls : List MLoader) (n : Int) (nm : ByteArray) : (∀ x ∈ pathL ls n nm, 0 ≤ x) ∧ (pathL ls n nm).length ≤ ls.length + 1 := by
  have h := pathFn_nat (ls := ls) (nm := nm) (ls.length + 1 - ([] : List Int).length) [] n (by simp)
  unfold pathL pathR
  split
  · exact ⟨h.1, by have := h.2; simpa using this⟩
  · simp
theorem PathOut.nat {ls : List MLoader} {n : Int} {nm : ByteArray} {R : List Int} (h : PathOut ls n nm R) : (∀ x ∈ R, 0 ≤ x) ∧ R.length ≤ ls.length + 1 := by
  by_cases ha : askP ls n nm
  · rw [h.y ha]; exact pathL_nat ls n nm
  · rw [h.n ha]; simp

theorem implPathOf_any (v : Value) (ls : List MLoader) (n : Int) (nm : ByteArray) (B : Nat) (w : World) (hl : ls.length ≤ 1048576) (hs : nm.size ≤ maxLen) (hf : ∀ f ∈ ls, f.few) (h : LoadersW w B v ls) :
    Calls Try.prog 9 #[v, .int .i64 n, .string nm] w fun e w' => ∃ u R, e = .returned u ∧ PathOut ls n nm R ∧ w'.ownsRow w.heap.size 3 1 u R.length (ints R) ∧ Below w.heap.size w w' := by
  have hC := canAsk_any v ls n nm B w hl hs hf h
  have hW := fun W (hb : Below w.heap.size w W) k (hk : k < ls.length) (ok : fineLS ls) => walkPath_any v ls nm k B W hl hk hf ok (h.keep hb)
  obtain ⟨ao, cap, hv⟩ := loadersW_len h
  subst hv
  have HF := hid hf
  clear h hf
  go_enter Try.func9, Try.ntmps9
  go_wp2_with fail
  refine hC.mono ?_
  rintro e w1 ⟨b, rfl, hb, hb1⟩
  cases b with
  | false =>
    have HN := hid (show PathOut ls n nm [] from ⟨fun a => (by have := hb.2 a; cases this), fun _ => rfl⟩)
    have HB := hid hb1
    clear hb1 hb hC hW
    go_wp2
    go_ret
    exact ⟨_, [], rfl, HN.out, World.ownsRow_nil _ _ _ _, HB.out⟩
  | true =>
    have ha := hb.1 rfl
    obtain ⟨k, hk, hkl⟩ := inB_nat ha.at_
    subst hk
    have hcall := hW w1 hb1 k hkl ha.ok
    have HA := hid ha
    have HB := hid hb1
    have hs1 := hb1.size
    clear hb1 hb hC hW ha
    go_wp2_with fail
    refine hcall.mono ?_
    rintro e w2 ⟨u, rfl, ho, hb2⟩
    have HB2 := hid (HB.out.trans (hb2.mono hs1))
    obtain ⟨au, cu, hu⟩ := own_len ho
    subst hu
    have HO := hid (Joins.ownsRow_le (base' := w.heap.size) ho hs1)
    clear hcall hb2 ho
    obtain ⟨m, hm⟩ : ∃ m, Hid ((pathR ls nm [] (k : Int)).2 = m) := ⟨_, hid rfl⟩
    obtain ⟨P, hP⟩ : ∃ P, Hid ((pathR ls nm [] (k : Int)).1 = P) := ⟨_, hid rfl⟩
    have HY := hid (show PathOut ls (k : Int) nm (if m = true then P else []) from ⟨fun _ => by unfold pathL; rw [hm.out, hP.out], fun h => absurd HA.out h⟩)
    rw [hm.out]
    rw [hP.out] at HO
    rw [hP.out]
    cases m with
    | false =>
      go_wp2
      go_ret
      exact ⟨_, [], rfl, HY.out, World.ownsRow_nil _ _ _ _, HB2.out⟩
    | true =>
      go_wp2
      go_ret
      exact ⟨_, P, rfl, HY.out, HO.out, HB2.out⟩

theorem specPathOf_any (v : Value) (ls : List MLoader) (n : Int) (nm : ByteArray) (B : Nat) (w : World) (hl : ls.length ≤ 1048576) (hs : nm.size ≤ maxLen) (hf : ∀ f ∈ ls, f.few) (h : LoadersW w B v ls) :
    Calls Try.prog 7 #[v, .int .i64 n, .string nm] w fun e w' => ∃ u R, e = .returned u ∧ PathOut ls n nm R ∧ w'.ownsRow w.heap.size 3 1 u R.length (ints R) ∧ Below w.heap.size w w' := by
  have hC := l22Ok_any v ls n nm B w hl hs hf h
  have hW := fun W (hb : Below w.heap.size w W) k (hk : k < ls.length) (ok : fineLS ls) => l22Path_any v ls nm k B W hl hk hf ok (h.keep hb)
  obtain ⟨ao, cap, hv⟩ := loadersW_len h
  subst hv
  have HF := hid hf
  clear h hf
  go_enter Try.func7, Try.ntmps7
  go_wp2_with fail
  refine hC.mono ?_
  rintro e w1 ⟨b, rfl, hb, hb1⟩
  cases b with
  | false =>
    have HN := hid (show PathOut ls n nm [] from ⟨fun a => (by have := hb.2 a; cases this), fun _ => rfl⟩)
    have HB := hid hb1
    clear hb1 hb hC hW
    go_wp2
    go_ret
    exact ⟨_, [], rfl, HN.out, World.ownsRow_nil _ _ _ _, HB.out⟩
  | true =>
    have ha := hb.1 rfl
    obtain ⟨k, hk, hkl⟩ := inB_nat ha.at_
    subst hk
    have hcall := hW w1 hb1 k hkl ha.ok
    have HA := hid ha
    have HB := hid hb1
    have hs1 := hb1.size
    clear hb1 hb hC hW ha
    go_wp2_with fail
    refine hcall.mono ?_
    rintro e w2 ⟨u, rfl, ho, hb2⟩
    have HB2 := hid (HB.out.trans (hb2.mono hs1))
    obtain ⟨au, cu, hu⟩ := own_len ho
    subst hu
    have HO := hid (Joins.ownsRow_le (base' := w.heap.size) ho hs1)
    clear hcall hb2 ho
    obtain ⟨m, hm⟩ : ∃ m, Hid ((pathR ls nm [] (k : Int)).2 = m) := ⟨_, hid rfl⟩
    obtain ⟨P, hP⟩ : ∃ P, Hid ((pathR ls nm [] (k : Int)).1 = P) := ⟨_, hid rfl⟩
    have HY := hid (show PathOut ls (k : Int) nm (if m = true then P else []) from ⟨fun _ => by unfold pathL; rw [hm.out, hP.out], fun h => absurd HA.out h⟩)
    rw [hm.out]
    rw [hP.out] at HO
    rw [hP.out]
    cases m with
    | false =>
      go_wp2
      go_ret
      exact ⟨_, [], rfl, HY.out, World.ownsRow_nil _ _ _ _, HB2.out⟩
    | true =>
      go_wp2
      go_ret
      exact ⟨_, P, rfl, HY.out, HO.out, HB2.out⟩


def MakerOut (ls : List MLoader) (n : Int) (nm : ByteArray) (m : Int) : Prop := ∃ R, PathOut ls n nm R ∧ m = (R.getLast?).getD (-1)
theorem MakerOut.one {ls : List MLoader} {n : Int} {nm : ByteArray} {m m' : Int} (h : MakerOut ls n nm m) (h' : MakerOut ls n nm m') : m = m' := by
  obtain ⟨R, h1, rfl⟩ := h
  obtain ⟨R', h1', rfl⟩ := h'
  rw [h1.one h1']
theorem MakerOut.ge {ls : List MLoader} {n : Int} {nm : ByteArray} {m : Int} (h : MakerOut ls n nm m) : m = -1 ∨ 0 ≤ m := by
  obtain ⟨R, h1, rfl⟩ := h
  cases hl : R.getLast? with
  | none => exact .inl rfl
  | some x => exact .inr (h1.nat.1 x (List.mem_of_getLast? hl))
def SameOut (ls : List MLoader) (a b : Int) (nm : ByteArray) (q : Bool) : Prop := ∃ m, MakerOut ls a nm m ∧ ∀ m', MakerOut ls b nm m' → q = (decide (m ≠ -1) && decide (m = m'))
theorem MakerOut.some (ls : List MLoader) (n : Int) (nm : ByteArray) : ∃ m, MakerOut ls n nm m := by
  by_cases ha : askP ls n nm
  · exact ⟨_, pathL ls n nm, ⟨fun _ => rfl, fun h => absurd ha h⟩, rfl⟩
  · exact ⟨_, [], ⟨fun h => absurd h ha, fun _ => rfl⟩, rfl⟩
theorem SameOut.one {ls : List MLoader} {a b : Int} {nm : ByteArray} {q q' : Bool} (h : SameOut ls a b nm q) (h' : SameOut ls a b nm q') : q = q' := by
  obtain ⟨m, h1, h2⟩ := h
  obtain ⟨m', h1', h2'⟩ := h'
  obtain ⟨k, hk⟩ := MakerOut.some ls b nm
  rw [h2 k hk, h2' k hk, h1.one h1']

theorem implPathMaker_any (v : Value) (ls : List MLoader) (n : Int) (nm : ByteArray) (B : Nat) (w : World) (hl : ls.length ≤ 1048576) (hs : nm.size ≤ maxLen) (hf : ∀ f ∈ ls, f.few) (h : LoadersW w B v ls) :
    Calls Try.prog 16 #[v, .int .i64 n, .string nm] w fun e w' => ∃ m, e = .returned (.int .i64 m) ∧ MakerOut ls n nm m ∧ Below w.heap.size w w' := by
  have hC := implPathOf_any v ls n nm B w hl hs hf h
  obtain ⟨ao, cap, hv⟩ := loadersW_len h
  subst hv
  clear h hf
  go_enter Try.func16, Try.ntmps16
  go_wp2_with fail
  refine hC.mono ?_
  rintro e w1 ⟨u, R, rfl, hr, ho, hb⟩
  have HB := hid hb
  have HP := hid hr
  have hlen := hr.nat.2
  obtain ⟨au, cu, hu⟩ := own_len ho
  subst hu
  clear hb hr hC
  by_cases h0 : R.length = 0
  · have HM := hid (show MakerOut ls n nm (-1) from ⟨R, HP.out, by rw [List.length_eq_zero_iff.1 h0]; rfl⟩)
    clear ho
    go_wp2
    go_ret
    exact ⟨_, rfl, HM.out, HB.out⟩
  · obtain ⟨g, hg⟩ := own_some ho (by omega)
    subst hg
    have c0 := ho.cellAt (R.length - 1) (by omega)
    have hk : R.length - 1 < R.length := by omega
    rw [show (ints R)[R.length - 1]? = some (.int .i64 (R[R.length - 1])) from by simp [ints, hk]] at c0
    have HM := hid (show MakerOut ls n nm (R[R.length - 1]) from ⟨R, HP.out, by rw [List.getLast?_eq_getElem?, List.getElem?_eq_getElem hk]; rfl⟩)
    generalize R[R.length - 1] = t at c0 HM
    obtain ⟨z, hz⟩ : ∃ z, R.length = z + 1 := ⟨R.length - 1, by omega⟩
    rw [hz] at c0 ⊢
    rw [show z + 1 - 1 = z by omega] at c0
    have hzz : z ≤ 1048576 := by omega
    clear ho hk h0 hlen hz
    go_wp2
    go_ret
    exact ⟨_, rfl, HM.out, HB.out⟩

theorem specPathMaker_any (v : Value) (ls : List MLoader) (n : Int) (nm : ByteArray) (B : Nat) (w : World) (hl : ls.length ≤ 1048576) (hs : nm.size ≤ maxLen) (hf : ∀ f ∈ ls, f.few) (h : LoadersW w B v ls) :
    Calls Try.prog 15 #[v, .int .i64 n, .string nm] w fun e w' => ∃ m, e = .returned (.int .i64 m) ∧ MakerOut ls n nm m ∧ Below w.heap.size w w' := by
  have hC := specPathOf_any v ls n nm B w hl hs hf h
  obtain ⟨ao, cap, hv⟩ := loadersW_len h
  subst hv
  clear h hf
  go_enter Try.func15, Try.ntmps15
  go_wp2_with fail
  refine hC.mono ?_
  rintro e w1 ⟨u, R, rfl, hr, ho, hb⟩
  have HB := hid hb
  have HP := hid hr
  have hlen := hr.nat.2
  obtain ⟨au, cu, hu⟩ := own_len ho
  subst hu
  clear hb hr hC
  by_cases h0 : R.length = 0
  · have HM := hid (show MakerOut ls n nm (-1) from ⟨R, HP.out, by rw [List.length_eq_zero_iff.1 h0]; rfl⟩)
    clear ho
    go_wp2
    go_ret
    exact ⟨_, rfl, HM.out, HB.out⟩
  · obtain ⟨g, hg⟩ := own_some ho (by omega)
    subst hg
    have c0 := ho.cellAt (R.length - 1) (by omega)
    have hk : R.length - 1 < R.length := by omega
    rw [show (ints R)[R.length - 1]? = some (.int .i64 (R[R.length - 1])) from by simp [ints, hk]] at c0
    have HM := hid (show MakerOut ls n nm (R[R.length - 1]) from ⟨R, HP.out, by rw [List.getLast?_eq_getElem?, List.getElem?_eq_getElem hk]; rfl⟩)
    generalize R[R.length - 1] = t at c0 HM
    obtain ⟨z, hz⟩ : ∃ z, R.length = z + 1 := ⟨R.length - 1, by omega⟩
    rw [hz] at c0 ⊢
    rw [show z + 1 - 1 = z by omega] at c0
    have hzz : z ≤ 1048576 := by omega
    clear ho hk h0 hlen hz
    go_wp2
    go_ret
    exact ⟨_, rfl, HM.out, HB.out⟩

theorem implPathSame_any (v : Value) (ls : List MLoader) (a b : Int) (nm : ByteArray) (B : Nat) (w : World) (hl : ls.length ≤ 1048576) (hs : nm.size ≤ maxLen) (hf : ∀ f ∈ ls, f.few) (h : LoadersW w B v ls) :
    Calls Try.prog 18 #[v, .int .i64 a, .int .i64 b, .string nm] w fun e w' => ∃ q, e = .returned (.bool q) ∧ SameOut ls a b nm q ∧ Below w.heap.size w w' := by
  have hC := implPathMaker_any v ls a nm B w hl hs hf h
  have hD := fun W (hb : Below w.heap.size w W) => implPathMaker_any v ls b nm B W hl hs hf (h.keep hb)
  obtain ⟨ao, cap, hv⟩ := loadersW_len h
  subst hv
  clear h hf
  go_enter Try.func18, Try.ntmps18
  go_wp2_with fail
  refine hC.mono ?_
  rintro e w1 ⟨m, rfl, hm, hb⟩
  have HB := hid hb
  have HM := hid hm
  have hge := hm.ge
  have hcall := hD w1 hb
  clear hb hm hC hD
  by_cases hn : m = -1
  · subst hn
    have HS := hid (show SameOut ls a b nm false from ⟨-1, HM.out, fun m' _ => rfl⟩)
    clear hcall HM
    go_wp2_with fail
    go_ret
    exact ⟨_, rfl, HS.out, HB.out⟩
  · go_wp2_with fail
    refine hcall.mono ?_
    rintro e w2 ⟨m', rfl, hm', hb'⟩
    have HB2 := hid (HB.out.trans (hb'.mono HB.out.size))
    have HS := hid (show SameOut ls a b nm (decide (m = m')) from ⟨m, HM.out, fun m2 h2 => by
      rw [hm'.one h2]
      simp [hn]⟩)
    clear hb' hm' hcall HM
    go_wp2_with fail
    go_ret
    refine ⟨_, ret_bool ?_, HS.out, HB2.out⟩
    rw [Bool.eq_iff_iff]
    simp only [Bool.and_eq_true, bne_iff_ne, beq_iff_eq, decide_eq_true_iff]
    exact ⟨fun h => h.2, fun h => ⟨hn, h⟩⟩

theorem specPathSame_any (v : Value) (ls : List MLoader) (a b : Int) (nm : ByteArray) (B : Nat) (w : World) (hl : ls.length ≤ 1048576) (hs : nm.size ≤ maxLen) (hf : ∀ f ∈ ls, f.few) (h : LoadersW w B v ls) :
    Calls Try.prog 17 #[v, .int .i64 a, .int .i64 b, .string nm] w fun e w' => ∃ q, e = .returned (.bool q) ∧ SameOut ls a b nm q ∧ Below w.heap.size w w' := by
  have hC := specPathMaker_any v ls a nm B w hl hs hf h
  have hD := fun W (hb : Below w.heap.size w W) => specPathMaker_any v ls b nm B W hl hs hf (h.keep hb)
  obtain ⟨ao, cap, hv⟩ := loadersW_len h
  subst hv
  clear h hf
  go_enter Try.func17, Try.ntmps17
  go_wp2_with fail
  refine hC.mono ?_
  rintro e w1 ⟨m, rfl, hm, hb⟩
  have HB := hid hb
  have HM := hid hm
  have hge := hm.ge
  have hcall := hD w1 hb
  clear hb hm hC hD
  by_cases hn : m = -1
  · subst hn
    have HS := hid (show SameOut ls a b nm false from ⟨-1, HM.out, fun m' _ => rfl⟩)
    clear hcall HM
    go_wp2_with fail
    go_ret
    exact ⟨_, rfl, HS.out, HB.out⟩
  · go_wp2_with fail
    refine hcall.mono ?_
    rintro e w2 ⟨m', rfl, hm', hb'⟩
    have HB2 := hid (HB.out.trans (hb'.mono HB.out.size))
    have HS := hid (show SameOut ls a b nm (decide (m = m')) from ⟨m, HM.out, fun m2 h2 => by
      rw [hm'.one h2]
      simp [hn]⟩)
    clear hb' hm' hcall HM
    go_wp2_with fail
    go_ret
    refine ⟨_, ret_bool ?_, HS.out, HB2.out⟩
    rw [Bool.eq_iff_iff]
    simp only [beq_iff_eq, decide_eq_true_iff]

end Go.Proofs.Ytjhmjjechagbjaa
