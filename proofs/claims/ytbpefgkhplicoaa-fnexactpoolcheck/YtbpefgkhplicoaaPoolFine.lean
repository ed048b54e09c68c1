/- What the code asks of an entry: nameAt, classAt, pairAt, typed, called, and the fine methods. -/
import Derived.Test.YtbpefgkhplicoaaPoolList
namespace Go.Proofs.Ytbpefgkhplicoaa
open Mx Go.RowKit
set_option maxHeartbeats 1000000
set_option maxRecDepth 20000
set_option linter.unusedVariables false

/-- what lies in a new block, behind another call -/
theorem newN {w1 w2 : World} {cs : Array Value} {t : TypeId} (hb : Below (w1.alloc (.cells cs t)).heap.size (w1.alloc (.cells cs t)) w2) :
    (∀ j u, cs.toList[j]? = some u → w2.cell? ⟨w1.heap.size, j, none⟩ = some u) ∧ w1.heap.size < w2.heap.size ∧ Below w1.heap.size w1 w2 := by
  have hz : w1.heap.size < (w1.alloc (.cells cs t)).heap.size := by simp
  refine ⟨fun j u hu => ?_, Nat.lt_of_lt_of_le hz hb.size, below_made hb⟩
  have h1 := cells_new w1 cs t j u hu
  rw [addr_add] at h1
  exact (hb.cell (p := ⟨w1.heap.size, j, none⟩) hz).trans h1

theorem nameAt_any (v : Value) (ts : List C4) (i : Int) (w : World) (hl : ts.length ≤ 1048576) (hs : ∀ t ∈ ts, t.text.size ≤ 1048576) (h : ListW w v ts) :
    Calls Try.prog 59 #[v, .int .i64 i] w fun e w' => e = .returned (.bool (nameC ts i)) ∧ Below w.heap.size w w' := by
  have hA := textAt_any v ts i w hl h
  have HR : Hid (nameC ts i = (decide ((atC ts i).kind = 1) && nameB (txtC ts i).data.toList)) := by
    unfold Hid; rw [name_txt]; unfold nameC; simp
  have hz := txtC_small hs i
  generalize nameC ts i = R at HR ⊢
  generalize txtC ts i = sx at hA HR hz
  generalize decide ((atC ts i).kind = 1) = ok at hA HR
  have hN := fun w => NameOk_any sx w (by unfold maxLen; omega)
  generalize nameB sx.data.toList = nm at hN HR
  obtain ⟨ao, cap, rfl⟩ := h.len
  clear h hs
  go_enter Try.func59, Try.ntmps59
  go_wp2_with (first | (go_at_call 60; refine hA.mono ?_; rintro e w1 ⟨rfl, hb1⟩) | (go_at_call 43; refine (hN _).mono ?_; rintro e w2 ⟨rfl, hw⟩; replace hw := hw.symm; subst hw))
  all_goals go_ret
  all_goals exact ⟨ret_bool (by rw [HR.out]; simp_all), by assumption⟩

theorem typed_any (v : Value) (ts : List C4) (a b : Int) (x : Bool) (w : World) (hl : ts.length ≤ 1048576) (hs : ∀ t ∈ ts, t.text.size ≤ 1048576) (h : ListW w v ts) :
    Calls Try.prog 64 #[.agg #[.int .i64 a, .int .i64 b, .bool x], v] w fun e w' => e = .returned (.bool (typeC ts b)) ∧ Below w.heap.size w w' := by
  have hA := fun W hW => textAt_any v ts b W hl hW
  have HR : Hid (typeC ts b = (decide ((atC ts b).kind = 1) && typeB (txtC ts b).data.toList)) := by
    unfold Hid; rw [type_txt]; unfold typeC; simp
  have hz := txtC_small hs b
  generalize typeC ts b = R at HR ⊢
  generalize txtC ts b = sx at hA HR hz
  generalize decide ((atC ts b).kind = 1) = ok at hA HR
  have hN := fun w => TypeOk_any sx w (by omega)
  generalize typeB sx.data.toList = nm at hN HR
  have HL := hid h
  obtain ⟨ao, cap, rfl⟩ := h.len
  clear h hs
  go_enter Try.func64, Try.ntmps64
  go_wp2_with (first | (go_at_call 60; refine (hA _ (HL.out.keep (by go_grown))).mono ?_; rintro e w1 ⟨rfl, hb0⟩; have hb1 := below_made hb0; clear hb0) | (go_at_call 44; refine (hN _).mono ?_; rintro e w2 ⟨rfl, hw⟩; replace hw := hw.symm; subst hw))
  all_goals go_ret
  all_goals exact ⟨ret_bool (by rw [HR.out]; simp_all), by assumption⟩

theorem called_any (v : Value) (ts : List C4) (a b : Int) (x : Bool) (w : World) (hl : ts.length ≤ 1048576) (hs : ∀ t ∈ ts, t.text.size ≤ 1048576) (h : ListW w v ts) :
    Calls Try.prog 62 #[.agg #[.int .i64 a, .int .i64 b, .bool x], v] w fun e w' => e = .returned (.bool (descC ts b)) ∧ Below w.heap.size w w' := by
  have hA := fun W hW => textAt_any v ts b W hl hW
  have HR : Hid (descC ts b = (decide ((atC ts b).kind = 1) && dOk (txtC ts b))) := by
    unfold Hid; rw [desc_txt]; unfold descC; simp
  have hz := txtC_small hs b
  generalize descC ts b = R at HR ⊢
  generalize txtC ts b = sx at hA HR hz
  generalize decide ((atC ts b).kind = 1) = ok at hA HR
  have hN := fun w => isDesc_any sx w hz
  generalize dOk sx = nm at hN HR
  have HL := hid h
  obtain ⟨ao, cap, rfl⟩ := h.len
  clear h hs
  go_enter Try.func62, Try.ntmps62
  go_wp2_with (first | (go_at_call 60; refine (hA _ (HL.out.keep (by go_grown))).mono ?_; rintro e w1 ⟨rfl, hb0⟩; have hb1 := below_made hb0; clear hb0) | (go_at_call 45; refine (hN _).mono ?_; rintro e w2 ⟨rfl, hb2⟩; replace hb1 := hb1.trans (hb2.mono hb1.size); clear hb2))
  all_goals go_ret
  all_goals exact ⟨ret_bool (by rw [HR.out]; simp_all), by assumption⟩

theorem named_any (v : Value) (ts : List C4) (a : Int) (x : Bool) (w : World) (hl : ts.length ≤ 1048576) (hs : ∀ t ∈ ts, t.text.size ≤ 1048576) (h : ListW w v ts) :
    Calls Try.prog 58 #[.agg #[.int .i64 a, .bool x], v] w fun e w' => e = .returned (.bool (nameC ts a)) ∧ Below w.heap.size w w' := by
  have hA := fun W hW => nameAt_any v ts a W hl hs hW
  generalize nameC ts a = R at hA ⊢
  have HL := hid h
  obtain ⟨ao, cap, rfl⟩ := h.len
  clear h hs
  go_enter Try.func58, Try.ntmps58
  go_wp2_with (go_at_call 59; refine (hA _ (HL.out.keep (by go_grown))).mono ?_; rintro e w1 ⟨rfl, hb0⟩; have hb1 := below_made hb0; clear hb0)
  go_ret
  exact ⟨rfl, hb1⟩

theorem classAt_any (v : Value) (ts : List C4) (i : Int) (w : World) (hl : ts.length ≤ 1048576) (hs : ∀ t ∈ ts, t.text.size ≤ 1048576) (h : ListW w v ts) :
    Calls Try.prog 67 #[v, .int .i64 i] w fun e w' => e = .returned (.bool (clsC ts i)) ∧ Below w.heap.size w w' := by
  have hA := entryAt_any v ts i w hl h
  have hT := as_class (atC ts i)
  have HR : Hid (clsC ts i = (decide ((atC ts i).kind = 2) && nameC ts (if (atC ts i).kind = 2 then (atC ts i).a else 0))) := by
    unfold Hid clsC; split <;> simp_all
  generalize (if (atC ts i).kind = 2 then (atC ts i).a else 0 : Int) = ax at hT HR
  generalize (decide ((atC ts i).kind = 2)) = ok at hT HR
  generalize (if (atC ts i).kind = 2 then ((atC ts i).text.toList.isEmpty && decide ((atC ts i).b = 0)) else false : Bool) = bx at hT
  generalize ifc (atC ts i) = x at hA hT
  generalize clsC ts i = R at HR ⊢
  have hN := fun W hW => named_any v ts ax bx W hl hs hW
  generalize nameC ts ax = nm at hN HR
  have HL := hid h
  obtain ⟨ao, cap, rfl⟩ := h.len
  clear h hs
  go_enter Try.func67, Try.ntmps67
  go_wp2_with (first | (go_at_call 61; refine hA.mono ?_; rintro e w1 ⟨rfl, hw⟩; replace hw := hw.symm; subst hw) | (go_at_call 58; refine (hN _ (HL.out.keep (by go_grown))).mono ?_; rintro e w2 ⟨rfl, hb0⟩; have hb1 := below_made hb0; clear hb0))
  all_goals go_ret
  all_goals exact ⟨ret_bool (by rw [HR.out]; simp_all), by first | assumption | go_grown⟩

theorem pairAt_any (v : Value) (ts : List C4) (i : Int) (w : World) (hl : ts.length ≤ 1048576) (h : ListW w v ts) :
    Calls Try.prog 66 #[v, .int .i64 i] w fun e w' => ∃ a x, e = .returned (.tuple #[.agg #[.int .i64 a, .int .i64 (if (atC ts i).kind = 3 then (atC ts i).b else 0), .bool x], .bool (decide ((atC ts i).kind = 3))]) ∧ Below w.heap.size w w' := by
  have hA := fun W hW => entryAt_any v ts i W hl hW
  have hT := as_pair (atC ts i)
  generalize (if (atC ts i).kind = 3 then (atC ts i).a else 0 : Int) = ax at hT
  generalize (if (atC ts i).kind = 3 then (atC ts i).b else 0 : Int) = bx at hT ⊢
  generalize (if (atC ts i).kind = 3 then (atC ts i).text.toList.isEmpty else false : Bool) = cx at hT
  generalize (decide ((atC ts i).kind = 3)) = ok at hT ⊢
  generalize ifc (atC ts i) = x at hA hT
  have HL := hid h
  obtain ⟨ao, cap, rfl⟩ := h.len
  clear h
  go_enter Try.func66, Try.ntmps66
  go_wp2_with (go_at_call 61; refine (hA _ (HL.out.keep (by go_grown))).mono ?_; rintro e w1 ⟨rfl, hw⟩; replace hw := hw.symm; subst hw)
  refine bodyPost_ret (v := .tuple #[.agg #[.int .i64 ax, .int .i64 bx, .bool cx], .bool ok]) (by simp [results, Try.results66, go_sem]) rfl ⟨ax, cx, rfl, ?_⟩
  go_grown

end Go.Proofs.Ytbpefgkhplicoaa
