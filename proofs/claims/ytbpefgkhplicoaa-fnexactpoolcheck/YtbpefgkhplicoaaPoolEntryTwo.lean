/- The specification's l2Entry at fields, methods, faces and what is no entry; its PoolCheck. -/
import Derived.Test.YtbpefgkhplicoaaPoolEntry
import Derived.Test.YtbpefgkhplicoaaPoolRef
namespace Go.Proofs.Ytbpefgkhplicoaa
open Mx Go.RowKit
set_option maxHeartbeats 1000000
set_option maxRecDepth 20000
set_option linter.unusedVariables false

theorem l2Entry_4 (v : Value) (ts : List C4) (k : Nat) (hk : k < ts.length) (w : World) (hl : ts.length ≤ 1048576) (hs : ∀ t ∈ ts, t.text.size ≤ 1048576) (h : PoolW w v ts) (h1 : ts[k].kind ≠ 1) (h2 : ts[k].kind ≠ 2) (h3 : ts[k].kind ≠ 3) :
    Calls Try.prog 10 #[v, .int .i64 k] w fun e w' => e = .returned (.bool (okC ts ts[k])) ∧ Below w.heap.size w w' := by
  have HP : Hid (PoolW w v ts) := h
  have hF := fun W hW => l2Ref_any v ts ((k : Int) + 1) W hl hs hW
  rw [atC_in hk] at hF
  have HR : Hid (okC ts ts[k] = (decide (4 ≤ ts[k].kind) && decide (ts[k].kind ≤ 6) && ts[k].text.toList.isEmpty && !(clsT ts ts[k].a).toList.isEmpty && decide ((atC ts ts[k].b).kind = 3) && (if ts[k].kind = 4 then typeB (txtC ts (atC ts ts[k].b).b).data.toList else dOk (txtC ts (atC ts ts[k].b).b)))) := by
    unfold Hid okC
    rw [if_neg h1, if_neg h2, if_neg h3, clsT_iff, type_txt, desc_txt]
    by_cases h4 : ts[k].kind = 4
    · simp [h4]
    · rw [if_neg h4, if_neg h4]
      by_cases h5 : ts[k].kind = 5 ∨ ts[k].kind = 6
      · rw [if_pos h5]
        have e1 : decide (4 ≤ ts[k].kind) = true := by simp; omega
        have e2 : decide (ts[k].kind ≤ 6) = true := by simp; omega
        rw [e1, e2]; simp
      · rw [if_neg h5]
        have e1 : (decide (4 ≤ ts[k].kind) && decide (ts[k].kind ≤ 6)) = false := by simp; omega
        rw [e1]; simp
  obtain ⟨g, cap, rfl, hg, c1, c2, c3, c4⟩ := entry_cells h hk
  generalize okC ts ts[k] = R at HR ⊢
  generalize ts[k] = t at c1 c2 c3 c4 h1 h2 h3 HR hF
  obtain ⟨kd, tx, a, b⟩ := t
  simp only at c1 c2 c3 c4 h1 h2 h3 HR hF
  have hne : ¬ g = w.heap.size := by omega
  have hI := fun w => l1In_any kd 4 6 w
  have hC : ∀ g' W, Ent w W (.slice (some ⟨g, 0, none⟩) ts.length cap) ts g' kd tx a b → Calls Try.prog 17 #[.slice (some ⟨g, 0, none⟩) ts.length cap, .int .i64 a] W fun e w' => e = .returned (.string (clsT ts a)) ∧ Ent w w' (.slice (some ⟨g, 0, none⟩) ts.length cap) ts g' kd tx a b := by
    intro g' W hE
    refine (l2Class_any _ ts a W hl hs hE.pool).mono ?_
    rintro e w' ⟨rfl, hb⟩
    exact ⟨rfl, hE.keep hb⟩
  have hK : ∀ g' W, Ent w W (.slice (some ⟨g, 0, none⟩) ts.length cap) ts g' kd tx a b → Calls Try.prog 21 #[.slice (some ⟨g, 0, none⟩) ts.length cap, .int .i64 b, .int .i64 3] W fun e w' => e = .returned (.bool (decide ((atC ts b).kind = 3))) ∧ Ent w w' (.slice (some ⟨g, 0, none⟩) ts.length cap) ts g' kd tx a b := by
    intro g' W hE
    refine (l2Is_any _ ts b 3 W hl hE.pool).mono ?_
    rintro e w' ⟨rfl, hb⟩
    exact ⟨rfl, hE.keep hb⟩
  have z := txtC_small hs (atC ts b).b
  generalize txtC ts (atC ts b).b = sc at hF HR z
  generalize clsT ts a = ct at hC HR
  generalize decide ((atC ts b).kind = 3) = k3 at hK HR
  have hY := fun w => l2Type_any sc w (by omega)
  have hD : ∀ g' W, Ent w W (.slice (some ⟨g, 0, none⟩) ts.length cap) ts g' kd tx a b → Calls Try.prog 16 #[.string sc] W fun e w' => e = .returned (.bool (dOk sc)) ∧ Ent w w' (.slice (some ⟨g, 0, none⟩) ts.length cap) ts g' kd tx a b := by
    intro g' W hE
    refine (l2DescOk_any sc W z).mono ?_
    rintro e w' ⟨rfl, hb⟩
    exact ⟨rfl, hE.keep hb⟩
  generalize typeB sc.data.toList = ty at hY HR
  generalize dOk sc = dc at hD HR
  clear h hs
  have e1 : (kd == 1) = false := by simpa using h1
  have e2 : (kd == 2) = false := by simpa using h2
  have e3 : (kd == 3) = false := by simpa using h3
  obtain ⟨q4, e4⟩ : ∃ q4, (kd == 4) = q4 := ⟨_, rfl⟩
  have HQ : Hid ((kd = 4) ↔ q4 = true) := by unfold Hid; rw [← e4]; simp
  generalize (decide (4 ≤ kd) && decide (kd ≤ 6)) = inn at hI HR
  clear h1 h2 h3
  go_enter Try.func10, Try.ntmps10
  go_wp2_with fail
  refine (hF _ (ent_new HP.out).pool).mono ?_
  rintro e w5 ⟨rx, ry, rfl, hb5⟩
  have hE := (ent_new (kd := kd) (tx := tx) (a := a) (b := b) HP.out).keep hb5
  have f0 := hE.c0; have f1 := hE.c1; have f2 := hE.c2; have f3 := hE.c3; have HE := hid hE; clear hE
  clear c1 c2 c3 c4 hF hb5
  generalize w.heap.size = gw at f0 f1 f2 f3 HE hne hg ⊢
  go_wp2_with (first
    | (go_at_call 20; refine (hI _).mono ?_; rintro e w1 ⟨rfl, hw⟩; replace hw := hw.symm; subst hw)
    | (go_at_call 17; refine (hC _ _ HE.out).mono ?_; clear f0 f1 f2 f3 HE; rintro e w6 ⟨rfl, hE⟩; have f0 := hE.c0; have f1 := hE.c1; have f2 := hE.c2; have f3 := hE.c3; have HE := hid hE; clear hE)
    | (go_at_call 21; refine (hK _ _ HE.out).mono ?_; clear f0 f1 f2 f3 HE; rintro e w6 ⟨rfl, hE⟩; have f0 := hE.c0; have f1 := hE.c1; have f2 := hE.c2; have f3 := hE.c3; have HE := hid hE; clear hE)
    | (go_at_call 15; refine (hY _).mono ?_; rintro e w1 ⟨rfl, hw⟩; replace hw := hw.symm; subst hw)
    | (go_at_call 16; refine (hD _ _ HE.out).mono ?_; clear f0 f1 f2 f3 HE; rintro e w6 ⟨rfl, hE⟩; have HE := hid hE; clear hE))
  all_goals go_ret
  all_goals refine ⟨ret_bool ?_, ?_⟩
  all_goals first
    | (with_reducible exact HE.out.bel)
    | (rw [HR.out]; clear hI hC hK hY hD HE HP; have hq := HQ.out; simp_all; done)
    | trace_state

end Go.Proofs.Ytbpefgkhplicoaa
