/- Contracts of TraceMost, the program's and the specification's: the walks. -/
import Derived.Test.YtpjpbilcmnfgpaaTrMost
import Derived.Test.YtpjpbilcmnfgpaaLkBase
namespace Go.Proofs.Ytpjpbilcmnfgpaa
open Go.RowKit
set_option maxHeartbeats 2000000
set_option maxRecDepth 20000
set_option linter.unusedVariables false

theorem isOpT_any (n : Int) (w : World) :
    Calls Try.prog 17 #[.int .i64 n] w fun e w' => e = .returned (.bool (isOpI n)) ∧ w' = w := by
  unfold isOpI
  go_enter Try.func17, Try.ntmps17
  go_wp2
  all_goals go_ret
  all_goals refine ⟨ret_bool ?_, rfl⟩
  all_goals (rw [Bool.eq_iff_iff]; simp; omega)
theorem l1InT_any (n : Int) (w : World) :
    Calls Try.prog 15 #[.int .i64 n, .int .i64 0, .int .i64 34] w fun e w' => e = .returned (.bool (isOpI n)) ∧ w' = w := by
  unfold isOpI
  go_enter Try.func15, Try.ntmps15
  go_wp2
  all_goals go_ret
  all_goals refine ⟨ret_bool ?_, rfl⟩
  all_goals (rw [Bool.eq_iff_iff]; simp; omega)
theorem wordsT_any (w : World) : Calls Try.prog 14 #[] w fun e w' => e = .returned (.slice (some ⟨w.heap.size, 0, none⟩) 35 35) ∧ Below w.heap.size w w' := by
  go_enter Try.func14, Try.ntmps14
  go_wp2
  go_ret
  exact ⟨rfl, (Below.refl _ _).alloc (Nat.le_refl _) _⟩
theorem isOpI_nat {n : Int} (h : isOpI n = true) : ∃ m : Nat, n = (m : Int) ∧ m < 35 := by
  unfold isOpI at h
  simp at h
  exact ⟨n.toNat, by omega, by omega⟩
/-- what is known of the counts at the place of an op -/
theorem most_at {W : World} {B g k m : Nat} {us : List Int} (h : W.ownsRow B 3 1 (.slice (some ⟨g, 0, none⟩) 35 35) 35 (rowI us)) (hu : upto us k) (hm : m < 35) (hk : k ≤ 1048576) :
    ∃ u : Int, W.cell? ⟨g, m, none⟩ = some (.int .i64 u) ∧ W.frozen? ⟨g, m, none⟩ = false ∧ Hid (us.getD m 0 = u) ∧ IntKind.i64.wrap (u + 1) = u + 1 := by
  have hl := hu.1
  refine ⟨us[m]'(by omega), ownI_at h hl (by omega), h.frozenAt m, getD_get (by omega), ?_⟩
  have := hu.2 m (by omega)
  rw [IntKind.wrap_i64]
  omega

theorem implTraceMost_any (v : Value) (ts : List MLine) (B : Nat) (w : World) (hl : ts.length ≤ 1048576) (h : w.ownsRow B 39 6 v ts.length (rowLine ts)) :
    Calls Try.prog 7 #[v] w fun e w' => ∃ u, e = .returned u ∧ w'.ownsRow w.heap.size 3 1 u 35 (rowI (mostL ts)) ∧ Below w.heap.size w w' := by
  obtain ⟨ao, cap, rfl⟩ := own_len h
  have H1 := hid h
  have hmk := most_make
  have HO := hid (most_made w)
  clear h
  generalize hM : madeCells (Value.int .i64 0).cells 35 = M at hmk HO
  clear hM
  go_enter Try.func7, Try.ntmps7
  go_wp2_with fail
  go_loopw [9] (fun i wr => ∃ (k : Nat), k ≤ ts.length ∧ i = .int .i64 k ∧ Hid (wr.ownsRow w.heap.size 3 1 (.slice (some ⟨w.heap.size, 0, none⟩) 35 35) 35 (rowI (mostL (ts.take k)))) ∧ Hid (Below w.heap.size w wr)) (fun i _ => ts.length - (intOf i).toNat)
  case atStart => exact ⟨0, by omega, rfl, HO, (Below.refl _ _).alloc (Nat.le_refl _) _⟩
  case round =>
    obtain ⟨k, hk, rfl, HW, HB⟩ := hrel
    by_cases hlt : k < ts.length
    · obtain ⟨g, hg⟩ := own_some H1.out (by omega)
      subst hg
      have hgw : g < w.heap.size := (H1.out.lt g rfl).2
      have hbel := HB.out
      have hsz := (HW.out.lt w.heap.size rfl).2
      obtain ⟨c0, c1, c2, c3, c4, c5⟩ := ownLine_at (own_below H1.out hbel) hlt
      have HN := hid (mostL_next ts k hlt)
      have hup := mostL_upto ts k hk
      obtain ⟨us, HU⟩ : ∃ us, Hid (mostL (ts.take k) = us) := ⟨_, rfl⟩
      obtain ⟨t, HX⟩ : ∃ t, Hid (ts[k] = t) := ⟨ts[k], hid rfl⟩
      rw [HU.out] at hup HW HN
      rw [HX.out] at c0 c1 c2 c3 c4 c5 HN
      have hI := fun w => isOpT_any t.op w
      cases ho : isOpI t.op
      · rw [ho] at hI
        have HZ : Hid (mostL (ts.take (k + 1)) = us) := by
          rw [HN.out]; unfold bump; rw [ho]; rfl
        have HW2 := fun o => hid (own_below HW.out ((Below.refl wr.heap.size wr).alloc (Nat.le_refl _) o))
        have HB2 := fun o => hid (hbel.alloc hbel.size o)
        clear ho hup HN HW HB hbel hmk
        go_wp2_with (go_at_call 17; refine (hI _).mono ?_; rintro e w1 ⟨rfl, hw⟩; replace hw := hw.symm; subst hw)
        go_roundw
        case rel => exact ⟨k + 1, by omega, by go_num, by rw [HZ.out]; exact HW2 _, HB2 _⟩
        case measure => simp [intOf]; omega
      · rw [ho] at hI
        obtain ⟨m, hm, hm35⟩ := isOpI_nat ho
        obtain ⟨u, pc, fz, HG, hwr⟩ := most_at HW.out hup hm35 (by omega)
        have hA : ∀ o, (wr.alloc o).cell? ⟨w.heap.size, m, none⟩ = some (.int .i64 u) ∧ (wr.alloc o).frozen? ⟨w.heap.size, m, none⟩ = false := fun o => by
          have hb := (Below.refl wr.heap.size wr).alloc (Nat.le_refl _) o
          exact ⟨(hb_cell hb hsz).trans pc, (hb.frozen (p := ⟨w.heap.size, m, none⟩) hsz).trans fz⟩
        have HS0 := bump_store HW.out ho (u := u) (by rw [hm]; exact HG.out) (k := m) (by rw [hm]; rfl)
        have HS := fun o => hid (own_below HS0 ((Below.refl _ _).alloc (Nat.le_refl _) o))
        have HB2 := fun o => hid ((hbel.setCell (p := ⟨w.heap.size, m, none⟩) (Nat.le_refl _) (.int .i64 (u + 1))).alloc (by simpa [World.setCell] using hbel.size) o)
        have HZ := HN
        rw [hm] at hI c4
        obtain ⟨a0, a1, a2, a3, a4, a5⟩ := t
        simp only at c0 c1 c2 c3 c4 c5 hm
        subst hm
        have hA1 := fun o => (hA o).1
        have hA2 := fun o => (hA o).2
        clear ho hup HN HW HB hbel hmk hA pc fz HG HS0
        go_wp2_with (go_at_call 17; refine (hI _).mono ?_; rintro e w1 ⟨rfl, hw⟩; replace hw := hw.symm; subst hw)
        go_roundw
        case rel => exact ⟨k + 1, by omega, by go_num, by rw [HZ.out]; exact HS _, HB2 _⟩
        case measure => simp [intOf]; omega
    · have HE := hid (show mostL (ts.take k) = mostL ts by rw [List.take_of_length_le (by omega)])
      rw [HE.out] at HW
      clear hmk
      go_wp2_with fail
      go_ret
      exact ⟨_, rfl, HW.out, HB.out⟩

theorem specTraceMost_any (v : Value) (ts : List MLine) (B : Nat) (w : World) (hl : ts.length ≤ 1048576) (h : w.ownsRow B 39 6 v ts.length (rowLine ts)) :
    Calls Try.prog 5 #[v] w fun e w' => ∃ u, e = .returned u ∧ w'.ownsRow w.heap.size 3 1 u 35 (rowI (mostL ts)) ∧ Below w.heap.size w w' := by
  obtain ⟨ao, cap, rfl⟩ := own_len h
  have H1 := hid h
  have hmk := most_make
  clear h
  have hW0 := fun w => wordsT_any w
  go_enter Try.func5, Try.ntmps5
  go_wp2_with fail
  refine (hW0 _).mono ?_
  rintro e w0 ⟨rfl, hb0⟩
  have HO := hid (most_made w0)
  have HB0 := hid (hb0.alloc hb0.size (.cells (madeCells (Value.int .i64 0).cells 35) 3))
  have hs0 := hb0.size
  generalize hM : madeCells (Value.int .i64 0).cells 35 = M at hmk HO HB0
  clear hM hb0 hW0
  go_wp2_with fail
  go_loopw [4] (fun i wr => ∃ (k : Nat), k ≤ ts.length ∧ i = .int .i64 k ∧ Hid (wr.ownsRow w0.heap.size 3 1 (.slice (some ⟨w0.heap.size, 0, none⟩) 35 35) 35 (rowI (mostL (ts.take k)))) ∧ Hid (Below w.heap.size w wr)) (fun i _ => ts.length - (intOf i).toNat)
  case atStart => exact ⟨0, by omega, rfl, HO, HB0⟩
  case round =>
    obtain ⟨k, hk, rfl, HW, HB⟩ := hrel
    by_cases hlt : k < ts.length
    · obtain ⟨g, hg⟩ := own_some H1.out (by omega)
      subst hg
      have hgw : g < w.heap.size := (H1.out.lt g rfl).2
      have hbel := HB.out
      obtain ⟨_, _, _, _, c4, _⟩ := ownLine_at (own_below H1.out hbel) hlt
      have HN := hid (mostL_next ts k hlt)
      have hup := mostL_upto ts k hk
      obtain ⟨us, HU⟩ : ∃ us, Hid (mostL (ts.take k) = us) := ⟨_, rfl⟩
      obtain ⟨t, HX⟩ : ∃ t, Hid (ts[k].op = t) := ⟨ts[k].op, hid rfl⟩
      rw [HU.out] at hup HW HN
      rw [HX.out] at c4 HN
      have hI := fun w => l1InT_any t w
      cases ho : isOpI t
      · rw [ho] at hI
        have HZ : Hid (mostL (ts.take (k + 1)) = us) := by
          rw [HN.out]; unfold bump; rw [ho]; rfl
        clear ho hup HN hbel hmk
        go_wp2_with (go_at_call 15; refine (hI _).mono ?_; rintro e w1 ⟨rfl, hw⟩; replace hw := hw.symm; subst hw)
        go_roundw
        case rel => exact ⟨k + 1, by omega, by go_num, by rw [HZ.out]; exact HW, HB⟩
        case measure => simp [intOf]; omega
      · rw [ho] at hI
        obtain ⟨m, hm, hm35⟩ := isOpI_nat ho
        obtain ⟨u, pc, fz, HG, hwr⟩ := most_at HW.out hup hm35 (by omega)
        have HS := hid (bump_store HW.out ho (u := u) (by rw [hm]; exact HG.out) (k := m) (by rw [hm]; rfl))
        have HB2 := hid (hbel.setCell (p := ⟨w0.heap.size, m, none⟩) hs0 (.int .i64 (u + 1)))
        have HZ := HN
        subst hm
        clear ho hup HN HW HB hbel hmk HG
        go_wp2_with (go_at_call 15; refine (hI _).mono ?_; rintro e w1 ⟨rfl, hw⟩; replace hw := hw.symm; subst hw)
        go_region
        go_wp2
        go_roundw
        case rel => exact ⟨k + 1, by omega, by go_num, by rw [HZ.out]; exact own_below HS.out (Below.refl _ _).drew, HB2.out.drew⟩
        case measure => simp [intOf]; omega
    · have HE := hid (show mostL (ts.take k) = mostL ts by rw [List.take_of_length_le (by omega)])
      rw [HE.out] at HW
      clear hmk
      go_wp2_with fail
      go_ret
      exact ⟨_, rfl, Joins.ownsRow_le HW.out hs0, HB.out⟩
end Go.Proofs.Ytpjpbilcmnfgpaa
