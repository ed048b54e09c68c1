/- Paths: who has a way, or a file, for a name: the program's and the specification's small functions. -/
import Derived.Test.YtjhmjjechagbjaaLoSpec
namespace Go.Proofs.Ytjhmjjechagbjaa
open Go.RowKit
set_option maxHeartbeats 1000000
set_option maxRecDepth 20000
set_option linter.unusedVariables false

theorem sameT (a b : ByteArray) : (a.toList == b.toList) = decide (a = b) := by
  rw [Bool.eq_iff_iff, beq_iff_eq, decide_eq_true_iff, ByteArray.toList_eq, ByteArray.toList_eq]
  exact ⟨fun h => ByteArray.ext (Array.toList_inj.1 h), fun h => by rw [h]⟩
/-- the way of a loader for a name -/
def wayTo (ys : List MWay) (nm : ByteArray) : Option Int := (ys.find? (fun y => decide (y.name = nm))).map (·.to_)
def hasF (fs : List MFile) (nm : ByteArray) : Bool := fs.any (fun f => decide (f.name = nm))
def wayP (ys : List MWay) (nm : ByteArray) (k : Nat) : Bool := (ys[k]?.map (fun y => decide (y.name = nm))).getD false
def fileP' (fs : List MFile) (nm : ByteArray) (k : Nat) : Bool := (fs[k]?.map (fun y => decide (y.name = nm))).getD false
theorem wayTo_none {ys : List MWay} {nm : ByteArray} (h : ∀ j, j < ys.length → wayP ys nm j = false) : wayTo ys nm = none := by
  unfold wayTo
  rw [List.find?_eq_none.2, Option.map_none]
  intro y hy
  obtain ⟨k, hk, rfl⟩ := List.getElem_of_mem hy
  have := h k hk
  unfold wayP at this
  rw [List.getElem?_eq_getElem hk] at this
  simpa using this
theorem wayTo_some {ys : List MWay} {nm : ByteArray} {k : Nat} (hk : k < ys.length) (h : wayP ys nm k = true) (hb : ∀ j, j < k → wayP ys nm j = false) : wayTo ys nm = some ys[k].to_ := by
  unfold wayTo
  have : ys.find? (fun y => decide (y.name = nm)) = some ys[k] := by
    rw [List.find?_eq_some_iff_getElem]
    refine ⟨?_, k, hk, rfl, ?_⟩
    · unfold wayP at h
      rw [List.getElem?_eq_getElem hk] at h
      simpa using h
    · intro j hj
      have := hb j hj
      unfold wayP at this
      rw [List.getElem?_eq_getElem (by omega)] at this
      simpa using this
  rw [this]
  rfl
theorem hasF_false {fs : List MFile} {nm : ByteArray} (h : ∀ j, j < fs.length → fileP' fs nm j = false) : hasF fs nm = false := by
  unfold hasF
  rw [List.any_eq_false]
  intro y hy
  obtain ⟨k, hk, rfl⟩ := List.getElem_of_mem hy
  have := h k hk
  unfold fileP' at this
  rw [List.getElem?_eq_getElem hk] at this
  simpa using this
theorem hasF_true {fs : List MFile} {nm : ByteArray} {k : Nat} (hk : k < fs.length) (h : fileP' fs nm k = true) : hasF fs nm = true := by
  unfold hasF
  rw [List.any_eq_true]
  refine ⟨fs[k], List.getElem_mem _, ?_⟩
  unfold fileP' at h
  rw [List.getElem?_eq_getElem hk] at h
  simpa using h

theorem wayFn_any (t : MWay) (nm : ByteArray) (c : Nat) (w : World) (hc : w.cell? ⟨c, 0, none⟩ = some (.string nm)) (hlt : c < w.heap.size) :
    Calls Try.prog 74 #[.agg #[.string t.name, .int .i64 t.to_], .pointer (some ⟨c, 0, none⟩)] w fun e w' => e = .returned (.bool (decide (t.name = nm))) ∧ Below w.heap.size w w' := by
  have hne : ¬ c = w.heap.size := by omega
  go_enter Try.func74, Try.ntmps74
  go_wp2
  go_ret
  exact ⟨ret_bool (sameT _ _), by go_grown⟩
theorem fileFn_any (t : MFile) (nm : ByteArray) (c : Nat) (w : World) (hc : w.cell? ⟨c, 0, none⟩ = some (.string nm)) (hlt : c < w.heap.size) :
    Calls Try.prog 76 #[.agg #[.string t.name, .string t.text], .pointer (some ⟨c, 0, none⟩)] w fun e w' => e = .returned (.bool (decide (t.name = nm))) ∧ Below w.heap.size w w' := by
  have hne : ¬ c = w.heap.size := by omega
  go_enter Try.func76, Try.ntmps76
  go_wp2
  go_ret
  exact ⟨ret_bool (sameT _ _), by go_grown⟩

theorem idxWay_any (u0 : Value) (v : Value) (ts : List MWay) (B : Nat) (p : Nat → Bool) (w : World) (hl : ts.length ≤ 1048576) (ho : w.ownsRow B 73 2 v ts.length (rowWay ts))
    (hF : ∀ k (h : k < ts.length) W, Below w.heap.size w W → Calls Try.prog 74 #[.agg #[.string ts[k].name, .int .i64 ts[k].to_], u0] W fun e w' => e = .returned (.bool (p k)) ∧ Below W.heap.size W w') :
    Calls Try.prog 73 #[v, .func (.func 74) #[] #[u0]] w fun e w' => ∃ r : Int, e = .returned (.int .i64 r) ∧ ((r = -1 ∧ ∀ j, j < ts.length → p j = false) ∨ ∃ k : Nat, r = (k : Int) ∧ k < ts.length ∧ p k = true ∧ ∀ j, j < k → p j = false) ∧ Below w.heap.size w w' := by
  obtain ⟨ao, cap, hv⟩ := own_len ho
  subst hv
  have HO := hid ho
  have HF := hid hF
  clear ho hF
  go_enter Try.func73, Try.ntmps73
  go_wp2_with fail
  go_loopw [8] (fun i wr => ∃ (k : Nat), k ≤ ts.length ∧ i = .int .i64 k ∧ Hid (∀ j, j < k → p j = false) ∧ Hid (Below w.heap.size w wr)) (fun i _ => ts.length - (intOf i).toNat)
  case atStart => exact ⟨0, by omega, rfl, fun j hj => by omega, Below.refl _ _⟩
  case round =>
    obtain ⟨k, hk, rfl, HE, HB⟩ := hrel
    by_cases hlt : k < ts.length
    · obtain ⟨g, hg⟩ := own_some HO.out (by omega)
      subst hg
      obtain ⟨c0, c1⟩ := ownWay_at (own_below HO.out HB.out) hlt
      have hC := HF.out k hlt
      generalize ts[k] = t at c0 c1 hC
      obtain ⟨q, hq⟩ : ∃ q, Hid (p k = q) := ⟨_, hid rfl⟩
      rw [hq.out] at hC
      go_wp2_with fail
      refine (hC _ HB.out).mono ?_
      rintro e w1 ⟨rfl, hb1⟩
      have HB1 := hid (HB.out.trans (hb1.mono HB.out.size))
      clear hb1 hC c0 c1
      cases q with
      | true =>
        go_wp2
        go_ret
        exact ⟨_, rfl, .inr ⟨k, rfl, hlt, hq.out, HE.out⟩, HB1.out⟩
      | false =>
        have HN := hid (show ∀ j, j < k + 1 → p j = false from fun j hj => by
          by_cases e : j = k
          · rw [e]; exact hq.out
          · exact HE.out j (by omega))
        go_wp2
        go_roundw
        case rel => exact ⟨k + 1, by omega, by go_num, HN, HB1⟩
        case measure => simp [intOf]; omega
    · have HN := hid (show ∀ j, j < ts.length → p j = false from fun j hj => HE.out j (by omega))
      go_wp2
      go_ret
      exact ⟨-1, rfl, .inl ⟨rfl, HN.out⟩, HB.out⟩

theorem idxFile_any (u0 : Value) (v : Value) (ts : List MFile) (B : Nat) (p : Nat → Bool) (w : World) (hl : ts.length ≤ 1048576) (ho : w.ownsRow B 71 2 v ts.length (rowFile ts))
    (hF : ∀ k (h : k < ts.length) W, Below w.heap.size w W → Calls Try.prog 76 #[.agg #[.string ts[k].name, .string ts[k].text], u0] W fun e w' => e = .returned (.bool (p k)) ∧ Below W.heap.size W w') :
    Calls Try.prog 75 #[v, .func (.func 76) #[] #[u0]] w fun e w' => ∃ r : Int, e = .returned (.int .i64 r) ∧ ((r = -1 ∧ ∀ j, j < ts.length → p j = false) ∨ ∃ k : Nat, r = (k : Int) ∧ k < ts.length ∧ p k = true ∧ ∀ j, j < k → p j = false) ∧ Below w.heap.size w w' := by
  obtain ⟨ao, cap, hv⟩ := own_len ho
  subst hv
  have HO := hid ho
  have HF := hid hF
  clear ho hF
  go_enter Try.func75, Try.ntmps75
  go_wp2_with fail
  go_loopw [8] (fun i wr => ∃ (k : Nat), k ≤ ts.length ∧ i = .int .i64 k ∧ Hid (∀ j, j < k → p j = false) ∧ Hid (Below w.heap.size w wr)) (fun i _ => ts.length - (intOf i).toNat)
  case atStart => exact ⟨0, by omega, rfl, fun j hj => by omega, Below.refl _ _⟩
  case round =>
    obtain ⟨k, hk, rfl, HE, HB⟩ := hrel
    by_cases hlt : k < ts.length
    · obtain ⟨g, hg⟩ := own_some HO.out (by omega)
      subst hg
      obtain ⟨c0, c1⟩ := ownFile_at (own_below HO.out HB.out) hlt
      have hC := HF.out k hlt
      generalize ts[k] = t at c0 c1 hC
      obtain ⟨q, hq⟩ : ∃ q, Hid (p k = q) := ⟨_, hid rfl⟩
      rw [hq.out] at hC
      go_wp2_with fail
      refine (hC _ HB.out).mono ?_
      rintro e w1 ⟨rfl, hb1⟩
      have HB1 := hid (HB.out.trans (hb1.mono HB.out.size))
      clear hb1 hC c0 c1
      cases q with
      | true =>
        go_wp2
        go_ret
        exact ⟨_, rfl, .inr ⟨k, rfl, hlt, hq.out, HE.out⟩, HB1.out⟩
      | false =>
        have HN := hid (show ∀ j, j < k + 1 → p j = false from fun j hj => by
          by_cases e : j = k
          · rw [e]; exact hq.out
          · exact HE.out j (by omega))
        go_wp2
        go_roundw
        case rel => exact ⟨k + 1, by omega, by go_num, HN, HB1⟩
        case measure => simp [intOf]; omega
    · have HN := hid (show ∀ j, j < ts.length → p j = false from fun j hj => HE.out j (by omega))
      go_wp2
      go_ret
      exact ⟨-1, rfl, .inl ⟨rfl, HN.out⟩, HB.out⟩

end Go.Proofs.Ytjhmjjechagbjaa
