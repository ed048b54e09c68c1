/- The fine methods of the code's entries. -/
import Derived.Test.YtbpefgkhplicoaaPoolFine
namespace Go.Proofs.Ytbpefgkhplicoaa
open Mx Go.RowKit
set_option maxHeartbeats 1000000
set_option maxRecDepth 20000
set_option linter.unusedVariables false

theorem fineName_any (v : Value) (tx : ByteArray) (x : Bool) (w : World) (hz : tx.size ≤ 1048576) (hv : ∃ ao n cap, v = .slice ao n cap) :
    Calls Try.prog 42 #[.agg #[.string tx, .bool x], v] w fun e w' => e = .returned (.bool (x && (nameB tx.data.toList || typeB tx.data.toList || dOk tx))) ∧ Below w.heap.size w w' := by
  have hN := fun w => NameOk_any tx w (by unfold maxLen; omega)
  have hT := fun w => TypeOk_any tx w (by omega)
  have hD := fun w => isDesc_any tx w hz
  generalize nameB tx.data.toList = nm at hN ⊢
  generalize typeB tx.data.toList = ty at hT ⊢
  generalize dOk tx = dc at hD ⊢
  obtain ⟨R, HR⟩ : ∃ R, Hid ((x && (nm || ty || dc)) = R) := ⟨_, rfl⟩
  rw [HR.out]
  obtain ⟨ao, n, cap, rfl⟩ := hv
  go_enter Try.func42, Try.ntmps42
  go_wp2_with (first
    | (go_at_call 43; refine (hN _).mono ?_; rintro e w1 ⟨rfl, hw⟩; replace hw := hw.symm; subst hw)
    | (go_at_call 44; refine (hT _).mono ?_; rintro e w1 ⟨rfl, hw⟩; replace hw := hw.symm; subst hw)
    | (go_at_call 45; refine (hD _).mono ?_; rintro e w1 ⟨rfl, hb0⟩; have hb1 := below_made hb0; clear hb0))
  all_goals go_ret
  all_goals exact ⟨ret_bool (by rw [← HR.out]; simp_all), by first | assumption | go_grown⟩

theorem fineClass_any (v : Value) (ts : List C4) (a : Int) (x : Bool) (w : World) (hl : ts.length ≤ 1048576) (hs : ∀ t ∈ ts, t.text.size ≤ 1048576) (h : ListW w v ts) :
    Calls Try.prog 57 #[.agg #[.int .i64 a, .bool x], v] w fun e w' => e = .returned (.bool (x && nameC ts a)) ∧ Below w.heap.size w w' := by
  have hN := fun W hW => named_any v ts a x W hl hs hW
  generalize nameC ts a = nm at hN ⊢
  obtain ⟨R, HR⟩ : ∃ R, Hid ((x && nm) = R) := ⟨_, rfl⟩
  rw [HR.out]
  have HL := hid h
  obtain ⟨ao, cap, rfl⟩ := h.len
  clear h hs
  cases x
  · go_enter Try.func57, Try.ntmps57
    go_wp2
    go_ret
    exact ⟨ret_bool (by rw [← HR.out]; simp), by go_grown⟩
  · go_enter Try.func57, Try.ntmps57
    go_wp2_with (go_at_call 58; refine (hN _ (HL.out.keep (by go_grown))).mono ?_; rintro e w1 ⟨rfl, hb0⟩; have hb1 := below_made hb0; clear hb0)
    go_ret
    exact ⟨ret_bool (by rw [← HR.out]; simp), hb1⟩

theorem finePair_any (v : Value) (ts : List C4) (a b : Int) (x : Bool) (w : World) (hl : ts.length ≤ 1048576) (hs : ∀ t ∈ ts, t.text.size ≤ 1048576) (h : ListW w v ts) :
    Calls Try.prog 63 #[.agg #[.int .i64 a, .int .i64 b, .bool x], v] w fun e w' => e = .returned (.bool (x && nameC ts a && (typeC ts b || descC ts b))) ∧ Below w.heap.size w w' := by
  have hN := fun W hW => nameAt_any v ts a W hl hs hW
  have hT := fun W hW => typed_any v ts a b x W hl hs hW
  have hD := fun W hW => called_any v ts a b x W hl hs hW
  generalize nameC ts a = nm at hN ⊢
  generalize typeC ts b = ty at hT ⊢
  generalize descC ts b = dc at hD ⊢
  obtain ⟨R, HR⟩ : ∃ R, Hid ((x && nm && (ty || dc)) = R) := ⟨_, rfl⟩
  rw [HR.out]
  have HL := hid h
  obtain ⟨ao, cap, rfl⟩ := h.len
  clear h hs
  cases x
  · go_enter Try.func63, Try.ntmps63
    go_wp2
    go_ret
    exact ⟨ret_bool (by rw [← HR.out]; simp), by go_grown⟩
  · go_enter Try.func63, Try.ntmps63
    go_wp2_with fail
    refine (hN _ (HL.out.keep (by go_grown))).mono ?_
    rintro e w1 ⟨rfl, hb0⟩
    obtain ⟨hc, hlt, hb1⟩ := newN hb0
    have f0 := hc 0 _ rfl
    have f1 := hc 1 _ rfl
    have f2 := hc 2 _ rfl
    clear hb0 hc
    cases nm
    · go_wp2
      go_ret
      exact ⟨ret_bool (by rw [← HR.out]; simp), hb1⟩
    · go_wp2_with fail
      refine (hT _ (HL.out.keep hb1)).mono ?_
      rintro e w2 ⟨rfl, hb2⟩
      have g0 := (hb2.cell (p := ⟨w.heap.size, 0, none⟩) hlt).trans f0
      have g1 := (hb2.cell (p := ⟨w.heap.size, 1, none⟩) hlt).trans f1
      have g2 := (hb2.cell (p := ⟨w.heap.size, 2, none⟩) hlt).trans f2
      have hb3 := hb1.trans (hb2.mono hb1.size)
      clear hb2 hb1 f0 f1 f2
      cases ty
      · go_wp2_with fail
        refine (hD _ (HL.out.keep hb3)).mono ?_
        rintro e w3 ⟨rfl, hb4⟩
        go_wp2
        go_ret
        exact ⟨ret_bool (by rw [← HR.out]; simp), hb3.trans (hb4.mono hb3.size)⟩
      · go_wp2
        go_ret
        exact ⟨ret_bool (by rw [← HR.out]; simp), hb3⟩

theorem fineField_any (v : Value) (ts : List C4) (a b : Int) (x : Bool) (w : World) (hl : ts.length ≤ 1048576) (hs : ∀ t ∈ ts, t.text.size ≤ 1048576) (h : ListW w v ts) :
    Calls Try.prog 65 #[.agg #[.int .i64 a, .int .i64 b, .bool x], v] w fun e w' => e = .returned (.bool (x && clsC ts a && decide ((atC ts b).kind = 3) && typeC ts (atC ts b).b)) ∧ Below w.heap.size w w' := by
  have hP := fun W hW => pairAt_any v ts b W hl hW
  have hN := fun W hW => classAt_any v ts a W hl hs hW
  have hT := fun pa px W hW => typed_any v ts pa (if (atC ts b).kind = 3 then (atC ts b).b else 0) px W hl hs hW
  have HR0 : Hid (∀ y : Bool, (y && decide ((atC ts b).kind = 3) && typeC ts (atC ts b).b) = (y && decide ((atC ts b).kind = 3) && typeC ts (if (atC ts b).kind = 3 then (atC ts b).b else 0))) := by
    intro y; split <;> simp_all
  rw [HR0.out]
  clear HR0
  generalize (if (atC ts b).kind = 3 then (atC ts b).b else 0 : Int) = bx at hP hT ⊢
  generalize decide ((atC ts b).kind = 3) = ok at hP ⊢
  generalize clsC ts a = nm at hN ⊢
  generalize typeC ts bx = ty at hT ⊢
  obtain ⟨R, HR⟩ : ∃ R, Hid ((x && nm && ok && ty) = R) := ⟨_, rfl⟩
  rw [HR.out]
  have HL := hid h
  obtain ⟨ao, cap, rfl⟩ := h.len
  clear h hs
  go_enter Try.func65, Try.ntmps65
  go_wp2_with fail
  refine (hP _ (HL.out.keep (by go_grown))).mono ?_
  rintro e w1 ⟨pa, px, rfl, hb0⟩
  obtain ⟨hc, hlt, hb1⟩ := newN hb0
  have f0 := hc 0 _ rfl
  have f1 := hc 1 _ rfl
  have f2 := hc 2 _ rfl
  have hne : ¬ w.heap.size = w1.heap.size := by omega
  have hT' := hT pa px
  clear hb0 hc hT
  cases x
  · go_wp2
    go_ret
    exact ⟨ret_bool (by rw [← HR.out]; simp), by have := hb1.size; go_grown⟩
  · go_wp2_with fail
    refine (hN _ (HL.out.keep (by have := hb1.size; go_grown))).mono ?_
    rintro e w2 ⟨rfl, hb2⟩
    obtain ⟨hc, hlt2, hb3⟩ := newN hb2
    have g0 := hc 0 _ rfl
    have g1 := hc 1 _ rfl
    have g2 := hc 2 _ rfl
    have hb4 := hb1.trans (hb3.mono hb1.size)
    clear hb2 hb3 hb1 hc f0 f1 f2
    cases nm
    · go_wp2
      go_ret
      exact ⟨ret_bool (by rw [← HR.out]; simp), hb4⟩
    · cases ok
      · go_wp2
        go_ret
        exact ⟨ret_bool (by rw [← HR.out]; simp), hb4⟩
      · go_wp2_with fail
        refine (hT' _ (HL.out.keep hb4)).mono ?_
        rintro e w3 ⟨rfl, hb5⟩
        go_wp2
        go_ret
        exact ⟨ret_bool (by rw [← HR.out]; simp), hb4.trans (hb5.mono hb4.size)⟩

theorem fineMethod_any (v : Value) (ts : List C4) (a b : Int) (x : Bool) (w : World) (hl : ts.length ≤ 1048576) (hs : ∀ t ∈ ts, t.text.size ≤ 1048576) (h : ListW w v ts) :
    Calls Try.prog 68 #[.agg #[.int .i64 a, .int .i64 b, .bool x], v] w fun e w' => e = .returned (.bool (x && clsC ts a && decide ((atC ts b).kind = 3) && descC ts (atC ts b).b)) ∧ Below w.heap.size w w' := by
  have hP := fun W hW => pairAt_any v ts b W hl hW
  have hN := fun W hW => classAt_any v ts a W hl hs hW
  have hT := fun pa px W hW => called_any v ts pa (if (atC ts b).kind = 3 then (atC ts b).b else 0) px W hl hs hW
  have HR0 : Hid (∀ y : Bool, (y && decide ((atC ts b).kind = 3) && descC ts (atC ts b).b) = (y && decide ((atC ts b).kind = 3) && descC ts (if (atC ts b).kind = 3 then (atC ts b).b else 0))) := by
    intro y; split <;> simp_all
  rw [HR0.out]
  clear HR0
  generalize (if (atC ts b).kind = 3 then (atC ts b).b else 0 : Int) = bx at hP hT ⊢
  generalize decide ((atC ts b).kind = 3) = ok at hP ⊢
  generalize clsC ts a = nm at hN ⊢
  generalize descC ts bx = ty at hT ⊢
  obtain ⟨R, HR⟩ : ∃ R, Hid ((x && nm && ok && ty) = R) := ⟨_, rfl⟩
  rw [HR.out]
  have HL := hid h
  obtain ⟨ao, cap, rfl⟩ := h.len
  clear h hs
  go_enter Try.func68, Try.ntmps68
  go_wp2_with fail
  refine (hP _ (HL.out.keep (by go_grown))).mono ?_
  rintro e w1 ⟨pa, px, rfl, hb0⟩
  obtain ⟨hc, hlt, hb1⟩ := newN hb0
  have f0 := hc 0 _ rfl
  have f1 := hc 1 _ rfl
  have f2 := hc 2 _ rfl
  have hne : ¬ w.heap.size = w1.heap.size := by omega
  have hT' := hT pa px
  clear hb0 hc hT
  cases x
  · go_wp2
    go_ret
    exact ⟨ret_bool (by rw [← HR.out]; simp), by have := hb1.size; go_grown⟩
  · go_wp2_with fail
    refine (hN _ (HL.out.keep (by have := hb1.size; go_grown))).mono ?_
    rintro e w2 ⟨rfl, hb2⟩
    obtain ⟨hc, hlt2, hb3⟩ := newN hb2
    have g0 := hc 0 _ rfl
    have g1 := hc 1 _ rfl
    have g2 := hc 2 _ rfl
    have hb4 := hb1.trans (hb3.mono hb1.size)
    clear hb2 hb3 hb1 hc f0 f1 f2
    cases nm
    · go_wp2
      go_ret
      exact ⟨ret_bool (by rw [← HR.out]; simp), hb4⟩
    · cases ok
      · go_wp2
        go_ret
        exact ⟨ret_bool (by rw [← HR.out]; simp), hb4⟩
      · go_wp2_with fail
        refine (hT' _ (HL.out.keep hb4)).mono ?_
        rintro e w3 ⟨rfl, hb5⟩
        go_wp2
        go_ret
        exact ⟨ret_bool (by rw [← HR.out]; simp), hb4.trans (hb5.mono hb4.size)⟩

theorem fineStray_any (v : Value) (w : World) (hv : ∃ ao n cap, v = .slice ao n cap) :
    Calls Try.prog 69 #[.agg #[], v] w fun e w' => e = .returned (.bool false) ∧ Below w.heap.size w w' := by
  obtain ⟨ao, n, cap, rfl⟩ := hv
  go_enter Try.func69, Try.ntmps69
  go_wp2
  go_ret
  exact ⟨rfl, by go_grown⟩

end Go.Proofs.Ytbpefgkhplicoaa
