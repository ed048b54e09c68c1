/- The code's list of entries: entriesOf, entryAt, textAt, nameAt, classAt, pairAt. -/
import Derived.Test.YtbpefgkhplicoaaPoolCode
import Derived.Test.YtbpefgkhplicoaaPoolSpec
namespace Go.Proofs.Ytbpefgkhplicoaa
open Mx Go.RowKit
set_option maxHeartbeats 1000000
set_option maxRecDepth 20000
set_option linter.unusedVariables false

theorem below_made {w w1 : World} {o : Obj} (hb : Below (w.alloc o).heap.size (w.alloc o) w1) : Below w.heap.size w w1 :=
  ((Below.refl w.heap.size w).alloc (Nat.le_refl _) o).trans (hb.mono (by simp))
theorem infoIfc : (Try.prog.info? 38).map (fun i => (i.zero, i.size, i.bytes)) = some (some .nilIface, 1, 16) := by kernel_rfl

theorem ifc_form (t : C4) : ∃ T y, ifc t = .iface T y := by
  unfold ifc
  repeat' split
  all_goals exact ⟨_, _, rfl⟩

def ListW (w : World) (v : Value) (ts : List C4) : Prop := ∃ B, w.ownsRow B 38 1 v ts.length (ts.map ifc)
theorem ListW.keep {w w' : World} {v : Value} {ts : List C4} (h : ListW w v ts) (hb : Below w.heap.size w w') : ListW w' v ts := by
  obtain ⟨B, h⟩ := h
  exact ⟨B, own_below h hb⟩
theorem ListW.len {w : World} {v : Value} {ts : List C4} (h : ListW w v ts) : ∃ ao cap, v = .slice ao ts.length cap := by
  obtain ⟨B, h⟩ := h
  exact own_len h
theorem ListW.at {w : World} {v : Value} {ts : List C4} (h : ListW w v ts) {k : Nat} (hk : k < ts.length) : ∃ g cap, v = .slice (some ⟨g, 0, none⟩) ts.length cap ∧ w.cell? ⟨g, k, none⟩ = some (ifc ts[k]) := by
  obtain ⟨B, h⟩ := h
  obtain ⟨g, c, rfl⟩ := Joins.ownsRow_form h (by omega)
  refine ⟨g, c, rfl, ?_⟩
  rw [h.cellAt k (by omega)]
  simp [hk]

theorem entriesOf_any (v : Value) (ts : List C4) (w : World) (hl : ts.length ≤ 1048576) (h : PoolW w v ts) :
    Calls Try.prog 12 #[v] w fun e w' => ∃ u, e = .returned u ∧ ListW w' u ts ∧ Below w.heap.size w w' := by
  obtain ⟨i0, hi, hz0, hz1, hz2⟩ := info_parts infoIfc
  have HP : Hid (PoolW w v ts) := h
  obtain ⟨ao, cap, rfl⟩ := h.len
  clear h
  go_enter Try.func12, Try.ntmps12
  go_wp2
  go_loopw [3, 8] (fun u0 i wr => ∃ (k : Nat), k ≤ ts.length ∧ i = .int .i64 k ∧ wr.ownsRow w.heap.size 38 1 u0 k ((ts.map ifc).take k) ∧ Below w.heap.size w wr) (fun _ i _ => ts.length - (intOf i).toNat)
  case atStart => exact ⟨0, by omega, rfl, World.ownsRow_nil _ _ _ _, Below.refl _ _⟩
  case round =>
    obtain ⟨k, hk, rfl, hown, hbel⟩ := hrel
    by_cases hlt : k < ts.length
    · obtain ⟨B, hP⟩ := HP.out.keep hbel
      obtain ⟨g, c, hv⟩ := Joins.ownsRow_form hP (by omega)
      rw [hv] at hP
      obtain ⟨rfl, _, rfl⟩ : ao = some ⟨g, 0, none⟩ ∧ True ∧ cap = c := by simp at hv; exact ⟨hv.1, trivial, hv.2⟩
      obtain ⟨c1, c2, c3, c4⟩ := cells4_at hP hlt
      have hg := (hP.lt g rfl).2
      have HN : Hid ((ts.map ifc).take k ++ [ifc ts[k]] = (ts.map ifc).take (k + 1)) := by
        unfold Hid; rw [List.take_succ_eq_append_getElem (by simpa using hlt)]; simp
      have hE := fun W => entryOf_any ts[k] W
      obtain ⟨T, y, hx⟩ := ifc_form ts[k]
      rw [hx] at hE HN
      clear hx
      generalize ts[k] = t at c1 c2 c3 c4 hE
      have hne : ¬ g = wr.heap.size := by omega
      obtain ⟨ao', cap', hv'⟩ := own_len hown
      subst hv'
      clear hP hv
      go_wp2_with (first | (go_at_call 22; refine (hE _).mono ?_; rintro e w1 ⟨rfl, hb0⟩; have hb1 := below_made hb0; clear hb0; have ho1 := own_below hown hb1) | (at_builtin; refine wpList_append_own _ rfl _ _ 35 rfl w.heap.size 38 i0 .nilIface 1 16 Try.underlying35 hi hz0 hz1 hz2 rfl (by decide) _ _ _ rfl (ho1.alloc _) ⟨w1.heap.size, 0, none⟩ 1 1 [.iface T y] rfl rfl ?c1 ?c2 ?c3 ?c4 ?c5 ?_))
      case c1 => exact cell_one_new _ _ _
      case c2 => intro u hu; simp at hu; subst hu; rfl
      case c3 => unfold maxLen; omega
      case c4 => omega
      case c5 => have := hb1.size; have := hbel.size; simp; omega
      · intro v' w2 hown' hgrow _
        have R := own_next hown hb1 hbel hbel.size hown' hgrow
        obtain ⟨R1, R2⟩ := R
        rw [HN.out] at R1
        clear hown' hgrow hown ho1 hb1 hbel
        go_wp2
        go_roundw
        case rel => exact ⟨k + 1, by omega, by go_num, R1, R2⟩
        case measure => simp [intOf]; omega
    · have hk' : k = ts.length := by omega
      subst hk'
      rw [List.take_of_length_le (by simp)] at hown
      have HL := hid (p := ListW wr _ ts) ⟨_, hown⟩
      clear hown
      go_wp2
      go_ret
      exact ⟨_, rfl, HL.out, hbel⟩

theorem entryAt_any (v : Value) (ts : List C4) (i : Int) (w : World) (hl : ts.length ≤ 1048576) (h : ListW w v ts) :
    Calls Try.prog 61 #[v, .int .i64 i] w fun e w' => e = .returned (ifc (atC ts i)) ∧ w' = w := by
  by_cases hi : 1 ≤ i ∧ i ≤ ts.length
  · obtain ⟨k, hk⟩ : ∃ k : Nat, i = (k : Int) + 1 := ⟨(i - 1).toNat, by omega⟩
    subst hk
    have hlt : k < ts.length := by omega
    rw [atC_in hlt]
    obtain ⟨g, c, rfl, hc⟩ := h.at hlt
    obtain ⟨T, y, hx⟩ := ifc_form ts[k]
    rw [hx] at hc ⊢
    clear h hx
    go_enter Try.func61, Try.ntmps61
    go_wp2
    go_ret
    exact ⟨rfl, rfl⟩
  · rw [atC_out hi]
    obtain ⟨ao, cap, rfl⟩ := h.len
    have e1 : ifc zero4 = .iface 66 (.agg #[]) := by rfl
    rw [e1]
    clear h e1
    by_cases h1 : i < 1
    · go_enter Try.func61, Try.ntmps61
      go_wp2
      go_ret
      exact ⟨rfl, rfl⟩
    · have h2 : (ts.length : Int) < i := by omega
      go_enter Try.func61, Try.ntmps61
      go_wp2
      go_ret
      exact ⟨rfl, rfl⟩

theorem as_name (t : C4) (w : World) : (Instr.typeAssert (ifc t) 38 57 true).run Try.prog w = .ok (.tuple #[.agg #[.string (if t.kind = 1 then t.text else ⟨#[]⟩), .bool (if t.kind = 1 then (decide (t.a = 0) && decide (t.b = 0)) else false)], .bool (decide (t.kind = 1))]) w := by
  unfold ifc
  by_cases h1 : t.kind = 1
  · simp only [h1, if_true, decide_true]; kernel_rfl
  · simp only [h1, if_false, decide_false]
    repeat' split
    all_goals kernel_rfl
theorem as_class (t : C4) (w : World) : (Instr.typeAssert (ifc t) 38 59 true).run Try.prog w = .ok (.tuple #[.agg #[.int .i64 (if t.kind = 2 then t.a else 0), .bool (if t.kind = 2 then (t.text.toList.isEmpty && decide (t.b = 0)) else false)], .bool (decide (t.kind = 2))]) w := by
  unfold ifc
  by_cases h1 : t.kind = 2
  · simp only [h1, if_true, decide_true]; kernel_rfl
  · simp only [h1, if_false, decide_false]
    repeat' split
    all_goals kernel_rfl
theorem as_pair (t : C4) (w : World) : (Instr.typeAssert (ifc t) 38 61 true).run Try.prog w = .ok (.tuple #[.agg #[.int .i64 (if t.kind = 3 then t.a else 0), .int .i64 (if t.kind = 3 then t.b else 0), .bool (if t.kind = 3 then t.text.toList.isEmpty else false)], .bool (decide (t.kind = 3))]) w := by
  unfold ifc
  by_cases h1 : t.kind = 3
  · simp only [h1, if_true, decide_true]; kernel_rfl
  · simp only [h1, if_false, decide_false]
    repeat' split
    all_goals kernel_rfl

theorem textAt_any (v : Value) (ts : List C4) (i : Int) (w : World) (hl : ts.length ≤ 1048576) (h : ListW w v ts) :
    Calls Try.prog 60 #[v, .int .i64 i] w fun e w' => e = .returned (.tuple #[.string (txtC ts i), .bool (decide ((atC ts i).kind = 1))]) ∧ Below w.heap.size w w' := by
  have hA := entryAt_any v ts i w hl h
  have hT := as_name (atC ts i)
  unfold txtC
  generalize (if (atC ts i).kind = 1 then (atC ts i).text else ⟨#[]⟩ : ByteArray) = sx at hT ⊢
  generalize (decide ((atC ts i).kind = 1)) = ok at hT ⊢
  generalize (if (atC ts i).kind = 1 then (decide ((atC ts i).a = 0) && decide ((atC ts i).b = 0)) else false : Bool) = bx at hT
  generalize ifc (atC ts i) = x at hA hT
  obtain ⟨ao, cap, rfl⟩ := h.len
  clear h
  go_enter Try.func60, Try.ntmps60
  go_wp2_with (go_at_call 61; refine hA.mono ?_; rintro e w1 ⟨rfl, hw⟩; replace hw := hw.symm; subst hw)
  go_ret2
  exact ⟨rfl, by go_grown⟩

end Go.Proofs.Ytbpefgkhplicoaa
