/- Proved: the law FnDesc returns true at every slice of bytes and leaves it as it was: of the drawn text DescOf answers as the specification's, and what it reads puts together again to the text. No condition. -/
import Derived.Test.YtdlgifpiblcaeaaRows
import Derived.Test.YtdlgifpiblcaeaaDrawDesc
import Derived.Test.YtdlgifpiblcaeaaDescWhole
import Derived.WalkKit
import Derived.ProofKit
import Derived.OpenShut
import Derived.ShutString
import Derived.ChangeOld
import Derived.Below
namespace Go.Proofs.Ytdlgifpiblcaeaa.fnDesc
open Go.ChangeShapes Go.WideShapes Go.ChangeAt Go.RowKit
open Go.ChangeMaps (open_string shut_string)
set_option linter.unusedVariables false
open Mx Go.RowKit

theorem own : ownKnob Try.prog.godebug = none := by kernel_rfl
theorem laidOut : laidOutB Try.prog = true := by kernel_rfl

/-- WHAT THE WALK IS TOLD OF A SLICE OF INTEGERS THAT CAME IN: it is nil; or it leads to a row of 'cap' cells, the numbers 'zs' (the first 'len' are its elements, the rest its spare room), each fitting its kind. -/
def IsRow (k : IntKind) (w : World) (a : Option Addr) (len cap : Nat) (zs : List Int) : Prop :=
  (a = none ∧ len = 0 ∧ cap = 0 ∧ zs = []) ∨
  ∃ x, a = some x ∧ len ≤ cap ∧ cap ≤ maxLen ∧ zs.length = cap ∧ (∀ i, i < zs.length → w.cell? (x.add i) = some (.int k (zs.getD i 0))) ∧ ∀ n ∈ zs, (Lit.int k n).wf = true

theorem code_of {w : World} {a : Option Addr} {len cap : Nat} {zs : List Int} (h : IsRow .u8 w a len cap zs) : Code8 w a len cap := by
  rcases h with ⟨rfl, rfl, rfl, rfl⟩ | ⟨x, rfl, hl, hm, hz, hcell, hwz⟩
  · exact ⟨Nat.le_refl _, by unfold maxLen; omega, .inl rfl⟩
  · refine ⟨hl, hm, ?_⟩
    by_cases h0 : len = 0
    · exact .inl h0
    · obtain ⟨b, off, spot⟩ := x
      have hc := hcell 0 (by omega)
      have hspot : spot = none := by simpa [Addr.add] using World.cell?_spot hc
      subst hspot
      refine .inr ⟨b, off, rfl, ?_, fun i hi => ?_⟩
      · have := World.block_lt_of_cell? w _ hc
        simpa [Addr.add] using this
      · have hci := hcell i (by omega)
        have hwi := hwz (zs.getD i 0) (by rw [List.getD_eq_getElem?_getD, List.getElem?_eq_getElem (by omega)]; exact List.getElem_mem _)
        have hb : 0 ≤ zs.getD i 0 ∧ zs.getD i 0 ≤ 255 := by simpa [Lit.wf, IntKind.min, IntKind.max, IntKind.signed, IntKind.bits] using hwi
        have hplain : (⟨b, off, none⟩ : Addr).add i = ⟨b, off + i, none⟩ := by unfold Addr.add; split <;> simp_all
        rw [hplain] at hci
        exact ⟨zs.getD i 0, hb.1, hb.2, hci⟩


theorem flat_take (ts : List ByteArray) (k : Nat) : (flat (ts.take k)).length ≤ (flat ts).length := by
  have h : flat ts = flat (ts.take k) ++ flat (ts.drop k) := by unfold flat; rw [← List.flatten_append, ← List.map_append, List.take_append_drop]
  rw [h, List.length_append]; omega
theorem size_take {s X bk : ByteArray} {ts : List ByteArray} {k : Nat} (hX : X.data.toList = 40 :: flat (ts.take k)) (h : 40 :: (flat ts ++ 41 :: bk.data.toList) = s.data.toList) (hs : s.size ≤ 100) : X.size ≤ 100 := by
  have h1 := len_of X
  have h2 := len_of s
  have h3 := flat_take ts k
  rw [hX] at h1
  rw [← h] at h2
  simp at h1 h2
  omega
theorem size_back {s bk : ByteArray} {ts : List ByteArray} (h : 40 :: (flat ts ++ 41 :: bk.data.toList) = s.data.toList) (hs : s.size ≤ 100) : bk.size ≤ 100 := by
  have h2 := len_of s
  rw [← h] at h2
  simp at h2
  omega
theorem size_at {s bk : ByteArray} {ts : List ByteArray} {k : Nat} (hk : k < ts.length) (h : 40 :: (flat ts ++ 41 :: bk.data.toList) = s.data.toList) (hs : s.size ≤ 100) : ts[k].size ≤ 100 := by
  have h2 := len_of s
  have h3 := flat_take ts (k + 1)
  rw [List.take_succ_eq_append_getElem hk, flat_snoc] at h3
  have h4 := len_of ts[k]
  rw [← h] at h2
  simp at h2 h3
  omega
theorem back_type {bk : ByteArray} (h : backB bk = true) (hV : ¬ bk.toList = [86]) : typeB bk.data.toList = true := by
  unfold backB at h
  rw [Lib.toList_data] at hV
  have : (bk.data.toList == [86]) = false := by simpa using hV
  rw [this] at h
  simpa using h

theorem walk (a0 : Option Addr) (len0 cap0 : Nat) (z0 : List Int) (w : World) (w0 : IsRow .u8 w a0 len0 cap0 z0) :
    Calls Try.prog 4 #[.slice a0 len0 cap0] w fun e w' => e = .returned (.bool true) ∧ Below w.heap.size w w' := by
  have c0 := code_of w0
  clear w0
  by_cases g0 : 1048576 < len0
  · go_enter Try.func4, Try.ntmps4
    go_wp2
    go_ret
    exact ⟨rfl, Below.refl _ _⟩
  go_enter Try.func4, Try.ntmps4
  go_wp2_with fail
  refine (DrawDescOf_any a0 len0 cap0 w c0).mono ?_
  rintro e w2 ⟨s, hs, rfl, hb2⟩
  have hW := fun h => desc_whole (s := s) h
  have hT := dTs_len s
  have hS : ∀ w, Calls Try.prog 16 #[.string s] w fun e w' => ∃ v, e = .returned (.tuple #[v, .string (dBack s), .bool (dOk s)]) ∧ w'.ownsRow w.heap.size 9 1 v (dTs s).length ((dTs s).map Value.string) ∧ Below w.heap.size w w' := fun w => specDescOf_any s w (by omega)
  have hI : ∀ w, Calls Try.prog 14 #[.string s] w fun e w' => ∃ v, e = .returned (.tuple #[v, .string (dBack s), .bool (dOk s)]) ∧ w'.ownsRow w.heap.size 9 1 v (dTs s).length ((dTs s).map Value.string) ∧ Below w.heap.size w w' := fun w => DescOf_any s w (by omega)
  generalize dTs s = ts at *
  generalize dBack s = bk at *
  generalize dOk s = ok at *
  have HW : Hid (ok = true → (∀ t ∈ ts, typeB t.data.toList = true) ∧ 40 :: (flat ts ++ 41 :: bk.data.toList) = s.data.toList ∧ backB bk = true) := hW
  clear hW c0
  go_wp2_with fail
  refine (hI _).mono ?_
  rintro e w3 ⟨v3, rfl, ho3, hb3⟩
  go_wp2_with fail
  refine (hS _).mono ?_
  rintro e w4 ⟨v4, rfl, ho4, hb4⟩
  have ho3' := own_below ho3 hb4
  have HB : Hid (Below w.heap.size w w4) := hb2.trans ((hb3.mono hb2.size).trans (hb4.mono (Nat.le_trans hb2.size hb3.size)))
  clear hb2 hb3 hb4 ho3 hI hS
  obtain ⟨ao3, c3, hv3⟩ := own_len ho3'
  obtain ⟨ao4, c4, hv4⟩ := own_len ho4
  subst hv3 hv4
  cases ok
  · clear ho3' ho4 HW
    go_wp2
    go_ret
    exact ⟨rfl, HB.out⟩
  · obtain ⟨F1, F2, F3⟩ := HW.out rfl
    clear HW
    have H3 : Hid (w4.ownsRow w2.heap.size 9 1 (.slice ao3 ts.length c3) ts.length (ts.map Value.string)) := ho3'
    have H4 : Hid (w4.ownsRow w3.heap.size 9 1 (.slice ao4 ts.length c4) ts.length (ts.map Value.string)) := ho4
    have HF1 : Hid (∀ t ∈ ts, typeB t.data.toList = true) := F1
    have HF2 : Hid (40 :: (flat ts ++ 41 :: bk.data.toList) = s.data.toList) := F2
    have HF3 : Hid (backB bk = true) := F3
    clear ho3' ho4 F1 F2 F3
    go_wp2_with fail
    go_loopw [10, 11] (fun tv iv wr => ∃ (k : Nat) (X : ByteArray), k ≤ ts.length ∧ iv = .int .i64 k ∧ tv = .string X ∧ Hid (∃ q, wr = w4.drewN q) ∧ Hid (X.data.toList = 40 :: flat (ts.take k))) (fun _ iv _ => ts.length - (intOf iv).toNat)
    case atStart => exact ⟨0, _, by omega, rfl, rfl, ⟨0, rfl⟩, rfl⟩
    case round =>
      obtain ⟨k, X, hk, rfl, rfl, HQ, HX⟩ := hrel
      have hXs : X.size ≤ 100 := size_take HX.out HF2.out hs
      by_cases hlt : k < ts.length
      · obtain ⟨g3, hg3⟩ := own_some H3.out (by omega)
        obtain ⟨g4, hg4⟩ := own_some H4.out (by omega)
        subst hg3 hg4
        have hy1 : typeB ts[k].data.toList = true := HF1.out _ (List.getElem_mem _)
        have hys : ts[k].size ≤ 100 := size_at hlt HF2.out hs
        have HN : Hid ((X ++ ts[k]).data.toList = 40 :: flat (ts.take (k + 1))) := by
          unfold Hid
          rw [List.take_succ_eq_append_getElem hlt, flat_snoc, ByteArray.data_append, Array.toList_append, HX.out]; simp
        obtain ⟨y, hy0⟩ : ∃ y, ts[k] = y := ⟨_, rfl⟩
        have HY : Hid (ts[k] = y) := hy0
        clear hy0
        have hc3 : wr.cell? ⟨g3, k, none⟩ = some (.string y) := by obtain ⟨q, hq⟩ := HQ.out; rw [← HY.out, hq]; exact own_at H3.out hlt
        have hc4 : wr.cell? ⟨g4, k, none⟩ = some (.string y) := by obtain ⟨q, hq⟩ := HQ.out; rw [← HY.out, hq]; exact own_at H4.out hlt
        have hTy : ∀ w, Calls Try.prog 12 #[.string y] w fun e w' => e = .returned (.bool true) ∧ w' = w := fun w => by
          rw [← HY.out, ← hy1]; exact TypeOk_any _ w (by omega)
        rw [HY.out] at HN hys
        clear hy1 HY
        go_wp2_with fail
        go_quiet ((go_at_call 12; exact Calls.quiet_of_same (hTy _)))
        go_wp2
        go_roundw
        case rel => exact ⟨k + 1, _, by omega, by go_num, rfl, drew_more HQ.out _, HN⟩
        case measure => simp [intOf]; omega
      · have hk' : k = ts.length := by omega
        subst hk'
        have hbk : bk.size ≤ 100 := size_back HF2.out hs
        have hE : (X ++ ({ data := #[41] } : ByteArray) ++ bk).toList = s.toList := by
          rw [Lib.toList_data, Lib.toList_data, ByteArray.data_append, ByteArray.data_append, Array.toList_append, Array.toList_append, HX.out, ← HF2.out, List.take_length]
          simp
        have hEb : ((X ++ ({ data := #[41] } : ByteArray) ++ bk).toList == s.toList) = true := by rw [hE]; simp
        have hT4 : (ts.length : Int) ≤ 4 := by omega
        clear hE
        by_cases hV : bk.toList = [86]
        · go_wp2
          go_ret
          exact ⟨rfl, by obtain ⟨q, hq⟩ := HQ.out; rw [hq]; exact below_drewN HB.out q⟩
        · have hTy : ∀ w, Calls Try.prog 12 #[.string bk] w fun e w' => e = .returned (.bool true) ∧ w' = w := fun w => by
            rw [← back_type HF3.out hV]; exact TypeOk_any _ w (by omega)
          go_wp2_with (go_at_call 12; refine (hTy _).mono ?_; rintro e w5 ⟨rfl, hw⟩; replace hw := hw.symm; subst hw)
          go_ret
          exact ⟨rfl, by obtain ⟨q, hq⟩ := HQ.out; rw [hq]; exact below_drewN HB.out q⟩

/-! ### THE ROW's STEP: WRITTEN OUT: LEAVE IT -/
set_option maxRecDepth 100000 in
theorem lifted (os : Os) (started : os.Started) (H : Type) (enc : TypeId × Value → H) :
    ReturnsInHanded {} Try.checked os 4 .any (Rows.fnDescSpec.pre6 enc Try.prog Try.f4 Rows.fnDescRow.domain false) (Rows.fnDescSpec.post enc Try.prog Try.f4 false true false false) := by
  refine returnsInHanded_of_change (C := Try.checked) own started (by kernel_rfl) Try.func4
    (ChangeSpec.witness6 (enc := enc) (C := Try.checked) false ⟨#[], #[.slice none 0 0], []⟩ 8 (by kernel_rfl) (by kernel_rfl) (by kernel_rfl) (by kernel_rfl)) ?_
  intro W base args ds gs before hval0 hW hcnd _
  have hval : ∀ (j : Nat) t v, Try.f4.params[j]? = some t → args[j]? = some v → Value.okWide Try.prog W .any base t v := hval0
  have hW' := hW
  obtain ⟨p, q, hA0, hV, rfl, hfz, hnd⟩ := hW
  have hA : DataW.TrodAll enc Try.prog W 0 (fun _ => true) true Try.f4.params.toList args.toList ds p := hA0
  rw [Try.params4] at hA hval
  obtain ⟨v0, vs0, d0, ds0, p0, q0, hargs, rfl, rfl, h0, r0⟩ := trodAll_cons hA
  obtain ⟨rfl, rfl, rfl⟩ := trodAll_nil r0
  obtain rfl : args = #[v0] := by cases args; simp_all
  obtain ⟨rfl, rfl⟩ := trodVars_none hV
  obtain ⟨a0, len0, cap0, rfl⟩ := okWide_slice Try.underlying22 (hval 0 22 v0 rfl rfl)
  have k0 := h0
  have lt0 : ∀ x ∈ p0, x.block < W.heap.size := by obtain ⟨m, hm⟩ := k0; exact DataW.trod_lt m _ _ _ hm
  obtain ⟨z0, w0⟩ : ∃ zs, IsRow .u8 W a0 len0 cap0 zs := by
    obtain ⟨fuel, hf⟩ := h0
    rcases open_ints Try.underlying22 Try.underlying5 (by kernel_rfl) hf with ⟨hcs, _⟩ | ⟨x, l, c, zs, hcs, _, hl, hm, hz, _, hcell, hwz⟩
    · simp [Value.cells] at hcs
      obtain ⟨rfl, rfl, rfl⟩ := hcs
      exact ⟨[], .inl ⟨rfl, rfl, rfl, rfl⟩⟩
    · simp [Value.cells] at hcs
      obtain ⟨rfl, rfl, rfl⟩ := hcs
      exact ⟨zs, .inr ⟨_, rfl, hl, hm, by simpa using hz, hcell, hwz⟩⟩
  clear hA0 hval0
  refine (walk a0 len0 cap0 z0 W w0).mono fun e W' ⟨he, bel⟩ => ?_
  subst he
  exact ⟨_, rfl, _, _, _, [], _, [], hW', trodAll_mk1 (shut_bool Try.underlying4 _), (trodAll_cons_mk (Below.trod laidOut (by kernel_rfl) (of_decide_eq_true (by kernel_rfl)) k0 bel lt0) trodAll_mk0), rfl, bel.frame _, fun h => by cases h⟩

theorem over : Rows.fnDescRow.holds Try.pinned (OpenSpec.ofChange Rows.fnDescSpec) :=
  OpenClaim.holds_of_wide 4 Try.f4 rfl rfl rfl rfl rfl rfl rfl ⟨rfl, rfl, rfl, rfl, rfl⟩ rfl rfl rfl rfl rfl (by kernel_rfl) Try.func4 (by kernel_rfl)
    (of_decide_eq_true (by kernel_rfl)) (by unfold Func.isWrapper; first | (rw [if_pos (by decide +kernel)]; kernel_rfl) | (rw [if_neg (by decide +kernel)]; exact ⟨rfl, rfl⟩))
    (fun os started H enc _ => lifted os started H enc)

end Go.Proofs.Ytdlgifpiblcaeaa.fnDesc
namespace Go.Proofs.Ytdlgifpiblcaeaa
theorem fnDescHolds : Rows.FnDescSaid := fnDesc.over
end Go.Proofs.Ytdlgifpiblcaeaa
