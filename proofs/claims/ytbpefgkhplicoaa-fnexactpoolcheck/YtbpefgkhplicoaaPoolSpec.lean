/- Contracts of the specification's functions on a pool, entry by entry. -/
import Derived.Test.YtbpefgkhplicoaaPoolMath
namespace Go.Proofs.Ytbpefgkhplicoaa
open Mx Go.RowKit
set_option maxHeartbeats 400000
set_option maxRecDepth 20000

theorem l2DescOk_any (s : ByteArray) (w : World) (hs : s.size ≤ 1048576) :
    Calls Try.prog 16 #[.string s] w fun e w' => e = .returned (.bool (dOk s)) ∧ Below w.heap.size w w' := by
  go_enter Try.func16, Try.ntmps16
  go_wp2_with (go_at_call 25; refine (l2Desc_any _ _ hs).mono ?_; rintro e w1 ⟨v, rfl, h1, h2⟩)
  go_ret
  exact ⟨rfl, h2⟩

theorem isDesc_any (s : ByteArray) (w : World) (hs : s.size ≤ 1048576) :
    Calls Try.prog 45 #[.string s] w fun e w' => e = .returned (.bool (dOk s)) ∧ Below w.heap.size w w' := by
  go_enter Try.func45, Try.ntmps45
  go_wp2_with (go_at_call 49; refine (DescOf_any _ _ hs).mono ?_; rintro e w1 ⟨v, rfl, h1, h2⟩)
  go_ret
  exact ⟨rfl, h2⟩

/-- the pool as an owned row -/
def PoolW (w : World) (v : Value) (ts : List C4) : Prop := ∃ B, w.ownsRow B 33 4 v ts.length (cellsC ts)
theorem PoolW.keep {w w' : World} {v : Value} {ts : List C4} (h : PoolW w v ts) (hb : Below w.heap.size w w') : PoolW w' v ts := by
  obtain ⟨B, h⟩ := h
  exact ⟨B, own_below h hb⟩
theorem PoolW.len {w : World} {v : Value} {ts : List C4} (h : PoolW w v ts) : ∃ ao cap, v = .slice ao ts.length cap := by
  obtain ⟨B, h⟩ := h
  exact own_len h

theorem l2At_any (v : Value) (ts : List C4) (i : Int) (w : World) (hl : ts.length ≤ 1048576) (h : PoolW w v ts) :
    Calls Try.prog 26 #[v, .int .i64 i] w fun e w' => e = .returned (.agg #[.int .i64 (atC ts i).kind, .string (atC ts i).text, .int .i64 (atC ts i).a, .int .i64 (atC ts i).b]) ∧ Below w.heap.size w w' := by
  by_cases hi : 1 ≤ i ∧ i ≤ ts.length
  · obtain ⟨k, hk⟩ : ∃ k : Nat, i = (k : Int) + 1 := ⟨(i - 1).toNat, by omega⟩
    subst hk
    have hlt : k < ts.length := by omega
    rw [atC_in hlt]
    obtain ⟨B, h⟩ := h
    obtain ⟨g, c, rfl⟩ := Joins.ownsRow_form h (by omega)
    obtain ⟨c1, c2, c3, c4⟩ := cells4_at h hlt
    have hg := (h.lt g rfl).2
    generalize ts[k] = t at c1 c2 c3 c4 ⊢
    have hI := fun w => l1In_any ((k : Int) + 1) 1 ts.length w
    have e1 : (decide ((1 : Int) ≤ (k : Int) + 1) && decide ((k : Int) + 1 ≤ (ts.length : Int))) = true := by simp; omega
    simp only [e1] at hI
    have hne : ¬ g = w.heap.size := by omega
    clear h e1
    go_enter Try.func26, Try.ntmps26
    go_wp2_with (go_at_call 20; refine (hI _).mono ?_; rintro e w1 ⟨rfl, hw⟩; replace hw := hw.symm; subst hw)
    refine bodyPost_ret (v := .agg #[.int .i64 t.kind, .string t.text, .int .i64 t.a, .int .i64 t.b]) (by simp [results, Try.results26, go_sem]) rfl ⟨rfl, ?_⟩
    go_grown
  · rw [atC_out hi]
    obtain ⟨ao, cap, rfl⟩ := h.len
    have hI := fun w => l1In_any i 1 ts.length w
    have e1 : (decide ((1 : Int) ≤ i) && decide (i ≤ (ts.length : Int))) = false := by simp; omega
    simp only [e1] at hI
    clear h e1
    go_enter Try.func26, Try.ntmps26
    go_wp2_with (go_at_call 20; refine (hI _).mono ?_; rintro e w1 ⟨rfl, hw⟩; replace hw := hw.symm; subst hw)
    refine bodyPost_ret (v := .agg #[.int .i64 zero4.kind, .string zero4.text, .int .i64 zero4.a, .int .i64 zero4.b]) (by simp [results, Try.results26, go_sem, zero4]) rfl ⟨rfl, ?_⟩
    go_grown

theorem field_kind (t : C4) (w : World) : (Instr.field 33 (.agg #[.int .i64 t.kind, .string t.text, .int .i64 t.a, .int .i64 t.b]) 0).run Try.prog w = .ok (.int .i64 t.kind) w := by kernel_rfl

theorem l2Is_any (v : Value) (ts : List C4) (i n : Int) (w : World) (hl : ts.length ≤ 1048576) (h : PoolW w v ts) :
    Calls Try.prog 21 #[v, .int .i64 i, .int .i64 n] w fun e w' => e = .returned (.bool (decide ((atC ts i).kind = n))) ∧ Below w.heap.size w w' := by
  have hA := l2At_any v ts i w hl h
  generalize atC ts i = t at hA ⊢
  obtain ⟨ao, cap, rfl⟩ := h.len
  clear h
  have hf := field_kind t
  go_enter Try.func21, Try.ntmps21
  go_wp2_with (go_at_call 26; refine hA.mono ?_; rintro e w1 ⟨rfl, hb1⟩)
  go_ret
  exact ⟨ret_bool (by rw [Bool.eq_iff_iff]; simp), hb1⟩

theorem l2Text_any (v : Value) (ts : List C4) (i : Int) (w : World) (hl : ts.length ≤ 1048576) (h : PoolW w v ts) :
    Calls Try.prog 18 #[v, .int .i64 i] w fun e w' => e = .returned (.string (txtC ts i)) ∧ Below w.heap.size w w' := by
  have hA := l2At_any v ts i w hl h
  unfold txtC
  generalize atC ts i = t at hA ⊢
  obtain ⟨ao, cap, rfl⟩ := h.len
  clear h
  by_cases hk : t.kind = 1
  · rw [if_pos hk]
    go_enter Try.func18, Try.ntmps18
    go_wp2_with (go_at_call 26; refine hA.mono ?_; rintro e w1 ⟨rfl, hb1⟩; have hs1 := hb1.size)
    go_ret
    exact ⟨rfl, by go_grown⟩
  · rw [if_neg hk]
    go_enter Try.func18, Try.ntmps18
    go_wp2_with (go_at_call 26; refine hA.mono ?_; rintro e w1 ⟨rfl, hb1⟩; have hs1 := hb1.size)
    go_ret
    exact ⟨rfl, by go_grown⟩

/-- an entry that lies in a new block, behind another call -/
theorem new4 {w1 w2 : World} {t : C4} (hb : Below (w1.alloc (.cells #[.int .i64 t.kind, .string t.text, .int .i64 t.a, .int .i64 t.b] 33)).heap.size (w1.alloc (.cells #[.int .i64 t.kind, .string t.text, .int .i64 t.a, .int .i64 t.b] 33)) w2) :
    w2.cell? ⟨w1.heap.size, 0, none⟩ = some (.int .i64 t.kind) ∧ w2.cell? ⟨w1.heap.size, 1, none⟩ = some (.string t.text) ∧ w2.cell? ⟨w1.heap.size, 2, none⟩ = some (.int .i64 t.a) ∧ w2.cell? ⟨w1.heap.size, 3, none⟩ = some (.int .i64 t.b) ∧ w1.heap.size < w2.heap.size ∧ (∀ B W, Below B W w1 → B ≤ w1.heap.size → Below B W w2) := by
  have hz : w1.heap.size < (w1.alloc (.cells #[.int .i64 t.kind, .string t.text, .int .i64 t.a, .int .i64 t.b] 33)).heap.size := by simp
  have hc : ∀ j u, (#[Value.int .i64 t.kind, .string t.text, .int .i64 t.a, .int .i64 t.b] : Array Value).toList[j]? = some u → w2.cell? ⟨w1.heap.size, j, none⟩ = some u := by
    intro j u hu
    have h1 := cells_new w1 #[Value.int .i64 t.kind, .string t.text, .int .i64 t.a, .int .i64 t.b] 33 j u hu
    rw [addr_add] at h1
    exact (hb.cell (p := ⟨w1.heap.size, j, none⟩) hz).trans h1
  refine ⟨hc 0 _ rfl, hc 1 _ rfl, hc 2 _ rfl, hc 3 _ rfl, Nat.lt_of_lt_of_le hz hb.size, fun B W h hB => ?_⟩
  exact (h.alloc hB _).trans (hb.mono (Nat.le_trans hB (Nat.le_of_lt hz)))

theorem l2Class_any (v : Value) (ts : List C4) (i : Int) (w : World) (hl : ts.length ≤ 1048576) (hs : ∀ t ∈ ts, t.text.size ≤ 1048576) (h : PoolW w v ts) :
    Calls Try.prog 17 #[v, .int .i64 i] w fun e w' => e = .returned (.string (clsT ts i)) ∧ Below w.heap.size w w' := by
  have hA := l2At_any v ts i w hl h
  have hB := fun W hW => l2At_any v ts (atC ts i).a W hl hW
  have hsz := atC_small hs (atC ts i).a
  have HR : Hid (clsT ts i = if (atC ts i).kind = 2 then (if (atC ts (atC ts i).a).kind = 1 then (if nameB (atC ts (atC ts i).a).text.data.toList = true then (atC ts (atC ts i).a).text else ⟨#[]⟩) else ⟨#[]⟩) else ⟨#[]⟩) := by
    unfold Hid clsT clsC nameC
    by_cases h1 : (atC ts i).kind = 2 <;> by_cases h2 : (atC ts (atC ts i).a).kind = 1 <;> simp [h1, h2]
  generalize clsT ts i = R at HR ⊢
  generalize atC ts (atC ts i).a = u at hB HR hsz
  generalize atC ts i = t at hA hB HR
  have HP : Hid (PoolW w v ts) := h
  obtain ⟨ao, cap, rfl⟩ := h.len
  clear h hs
  have hN := fun w => l2Name_any u.text w (by unfold maxLen; omega)
  generalize nameB u.text.data.toList = nm at hN HR
  go_enter Try.func17, Try.ntmps17
  go_wp2_with fail
  refine hA.mono ?_
  rintro e w1 ⟨rfl, hb1⟩
  have hs1 := hb1.size
  go_wp2_with fail
  refine (hB _ (HP.out.keep (by go_grown))).mono ?_
  rintro e w2 ⟨rfl, hb2⟩
  obtain ⟨c0, c1, c2, c3, hlt, hB2⟩ := new4 hb2
  have hbw := hB2 _ _ hb1 hs1
  have hne : ¬ w1.heap.size = w2.heap.size := by omega
  have hs2 := hbw.size
  clear hb2 hb1 hs1 hB2 hB hA
  go_wp2_with (go_at_call 14; refine (hN _).mono ?_; rintro e w3 ⟨rfl, hw⟩; replace hw := hw.symm; subst hw)
  all_goals go_ret
  all_goals refine ⟨ret_str ?_, by go_grown⟩
  all_goals (rw [HR.out]; simp_all)

end Go.Proofs.Ytbpefgkhplicoaa
