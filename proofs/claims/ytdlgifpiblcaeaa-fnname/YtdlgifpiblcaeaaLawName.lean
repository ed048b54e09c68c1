/- Proved: the law FnName returns true at every two slices of bytes and leaves them as they were: of the drawn texts NameOk and TypeOk answer as the specification's, a class's type is one just if its name is, and what a method takes and gives back are types. No condition. -/
import Derived.Test.YtdlgifpiblcaeaaRows
import Derived.Test.YtdlgifpiblcaeaaDrawNames
import Derived.WalkKit
import Derived.ProofKit
import Derived.OpenShut
import Derived.ShutString
import Derived.ChangeOld
import Derived.Below
namespace Go.Proofs.Ytdlgifpiblcaeaa.fnName
open Go.ChangeShapes Go.WideShapes Go.ChangeAt Go.RowKit
open Go.ChangeMaps (open_string shut_string)
set_option linter.unusedVariables false
open Mx Go.RowKit

theorem own : ownKnob Try.prog.godebug = none := by kernel_rfl
theorem laidOut : laidOutB Try.prog = true := by kernel_rfl

/-- WHAT THE WALK IS TOLD OF A SLICE OF INTEGERS THAT CAME IN: it is nil; or it leads to a row of 'cap' cells, the numbers 'zs' (the first 'len' are its elements, the rest its spare room), each fitting its kind. -/
def IsRow (k : IntKind) (w : World) (a : Option Addr) (len cap : Nat) (zs : List Int) : Prop :=
  (a = none ∧ len = 0 ∧ cap = 0 ∧ zs = []) ∨
  ∃ x, a = some x ∧ len ≤ cap ∧ cap ≤ maxLen ∧ zs.length = cap ∧ (∀ i, i < zs.length → w.cell? (x.add i) = some (.int k (zs.getD i 0))) ∧ ∀ n ∈ zs, (Lit.int k n).wf = true

theorem code_of {w : World} {a : Option Addr} {len cap : Nat} {zs : List Int} (h : IsRow .u8 w a len cap zs) : Code8 w a len cap := by
  rcases h with ⟨rfl, rfl, rfl, rfl⟩ | ⟨x, rfl, hl, hm, hz, hcell, hwz⟩
  · exact ⟨Nat.le_refl _, by unfold maxLen; omega, .inl rfl⟩
  · refine ⟨hl, hm, ?_⟩
    by_cases h0 : len = 0
    · exact .inl h0
    · obtain ⟨b, off, spot⟩ := x
      have hc := hcell 0 (by omega)
      have hspot : spot = none := by simpa [Addr.add] using World.cell?_spot hc
      subst hspot
      refine .inr ⟨b, off, rfl, ?_, fun i hi => ?_⟩
      · have := World.block_lt_of_cell? w _ hc
        simpa [Addr.add] using this
      · have hci := hcell i (by omega)
        have hwi := hwz (zs.getD i 0) (by rw [List.getD_eq_getElem?_getD, List.getElem?_eq_getElem (by omega)]; exact List.getElem_mem _)
        have hb : 0 ≤ zs.getD i 0 ∧ zs.getD i 0 ≤ 255 := by simpa [Lit.wf, IntKind.min, IntKind.max, IntKind.signed, IntKind.bits] using hwi
        have hplain : (⟨b, off, none⟩ : Addr).add i = ⟨b, off + i, none⟩ := by unfold Addr.add; split <;> simp_all
        rw [hplain] at hci
        exact ⟨zs.getD i 0, hb.1, hb.2, hci⟩

theorem Code8.keep {w w' : World} {a : Option Addr} {len cap : Nat} (h : Code8 w a len cap) (hb : Below w.heap.size w w') : Code8 w' a len cap := by
  obtain ⟨h1, h2, h3⟩ := h
  refine ⟨h1, h2, ?_⟩
  rcases h3.keep (w' := w') (fun k hk => hb.block k hk) with hz | ⟨bz, off, rfl, hbz, hcell⟩
  · exact .inl hz
  · exact .inr ⟨bz, off, rfl, Nat.lt_of_lt_of_le hbz hb.size, hcell⟩

def par (t : ByteArray) : ByteArray := ({ data := #[40] } : ByteArray) ++ t ++ { data := #[41] } ++ t
theorem name_facts : ∀ s ∈ nameList, s.size ≤ 9 ∧ (({ data := #[76] } : ByteArray) ++ s ++ { data := #[59] }).size ≤ 11 ∧ typeB ((({ data := #[76] } : ByteArray) ++ s ++ { data := #[59] }).data.toList) = nameB s.data.toList := by decide +kernel
theorem type_facts : ∀ t ∈ typeList, t.size ≤ 11 ∧ (par t).size ≤ 24 ∧ dOk (par t) = typeB t.data.toList ∧ (dOk (par t) = true → (dTs (par t)).map (fun x => x.data.toList) = [t.data.toList] ∧ (dBack (par t)).data.toList = t.data.toList) := by decide +kernel

theorem desc_false {t : ByteArray} (w : World) (hs : (par t).size ≤ 24) (hok : dOk (par t) = false) :
    Calls Try.prog 14 #[.string (({ data := #[40] } : ByteArray) ++ t ++ { data := #[41] } ++ t)] w fun e w' => ∃ v bk, e = .returned (.tuple #[v, .string bk, .bool false]) ∧ Below w.heap.size w w' := by
  refine (DescOf_any (par t) w (by omega)).mono ?_
  rintro e w' ⟨v, rfl, _, hb⟩
  exact ⟨v, dBack (par t), by rw [hok], hb⟩

theorem desc_true {t : ByteArray} (w : World) (hs : (par t).size ≤ 24) (hok : dOk (par t) = true) (h1 : (dTs (par t)).map (fun x => x.data.toList) = [t.data.toList]) (h2 : (dBack (par t)).data.toList = t.data.toList) :
    Calls Try.prog 14 #[.string (({ data := #[40] } : ByteArray) ++ t ++ { data := #[41] } ++ t)] w fun e w' => ∃ g cap, e = .returned (.tuple #[.slice (some ⟨g, 0, none⟩) 1 cap, .string t, .bool true]) ∧ w'.cell? ⟨g, 0, none⟩ = some (.string t) ∧ Below w.heap.size w w' := by
  have e1 : ∀ x : ByteArray, x.data.toList = t.data.toList → x = t := fun x hx => by
    apply ByteArray.ext; exact Array.toList_inj.1 hx
  have hts : dTs (par t) = [t] := by
    obtain ⟨x, hx, hfx⟩ := List.map_eq_singleton_iff.1 h1
    rw [hx, e1 x hfx]
  refine (DescOf_any (par t) w (by omega)).mono ?_
  rintro e w' ⟨v, rfl, ho, hb⟩
  rw [hts] at ho
  obtain ⟨g, cap, rfl⟩ := Joins.ownsRow_form ho (by simp)
  exact ⟨g, cap, by rw [hok, e1 _ h2]; rfl, own_at ho (k := 0) (by simp), hb⟩

theorem walk (a0 : Option Addr) (len0 cap0 : Nat) (z0 : List Int) (a1 : Option Addr) (len1 cap1 : Nat) (z1 : List Int) (w : World) (w0 : IsRow .u8 w a0 len0 cap0 z0) (w1 : IsRow .u8 w a1 len1 cap1 z1) :
    Calls Try.prog 3 #[.slice a0 len0 cap0, .slice a1 len1 cap1] w fun e w' => e = .returned (.bool true) ∧ Below w.heap.size w w' := by
  have c0 := code_of w0
  have c1 := code_of w1
  clear w0 w1
  by_cases g0 : 1048576 < len0
  · go_enter Try.func3, Try.ntmps3
    go_wp2
    go_ret
    exact ⟨rfl, Below.refl _ _⟩
  by_cases g1 : 1048576 < len1
  · go_enter Try.func3, Try.ntmps3
    go_wp2
    go_ret
    exact ⟨rfl, Below.refl _ _⟩
  go_enter Try.func3, Try.ntmps3
  go_wp2_with fail
  refine (DrawNameOk_any a0 len0 cap0 w c0).mono ?_
  rintro e w2 ⟨s, hs, rfl, hb2⟩
  go_wp2_with fail
  refine (DrawTypeOk_any a1 len1 cap1 w2 (Code8.keep c1 hb2)).mono ?_
  rintro e w3 ⟨t, ht, rfl, hb3⟩
  obtain ⟨fs1, fs3, fs2⟩ := name_facts s hs
  obtain ⟨ft1, ft2, ft3, ft4⟩ := type_facts t ht
  have hN : ∀ w, Calls Try.prog 10 #[.string s] w fun e w' => e = .returned (.bool (nameB s.data.toList)) ∧ w' = w := fun w => NameOk_any s w (by unfold maxLen; omega)
  have hN' : ∀ w, Calls Try.prog 11 #[.string s] w fun e w' => e = .returned (.bool (nameB s.data.toList)) ∧ w' = w := fun w => specNameOk_any s w (by unfold maxLen; omega)
  have hT : ∀ w, Calls Try.prog 12 #[.string t] w fun e w' => e = .returned (.bool (typeB t.data.toList)) ∧ w' = w := fun w => TypeOk_any t w (by omega)
  have hT' : ∀ w, Calls Try.prog 13 #[.string t] w fun e w' => e = .returned (.bool (typeB t.data.toList)) ∧ w' = w := fun w => specTypeOk_any t w (by omega)
  have hL : ∀ w, Calls Try.prog 12 #[.string (({ data := #[76] } : ByteArray) ++ s ++ { data := #[59] })] w fun e w' => e = .returned (.bool (nameB s.data.toList)) ∧ w' = w := fun w => by
    rw [← fs2]; exact TypeOk_any _ w (by omega)
  have HB : Hid (Below w.heap.size w w3) := hb2.trans (hb3.mono hb2.size)
  have FT2 : Hid ((par t).size ≤ 24) := ft2
  have FT3 : Hid (dOk (par t) = typeB t.data.toList) := ft3
  have FT4 : Hid (dOk (par t) = true → (dTs (par t)).map (fun x => x.data.toList) = [t.data.toList] ∧ (dBack (par t)).data.toList = t.data.toList) := ft4
  clear fs2 fs3 ft3 ft4 hb2 hb3 c0 c1 hs ht ft2
  generalize nameB s.data.toList = nb at *
  cases hok : dOk (par t)
  · have hD := fun w => desc_false (t := t) w FT2.out hok
    rw [← FT3.out, hok] at hT hT'
    clear FT2 FT3 FT4 hok
    go_wp2_with fail
    refine (hN _).mono ?_
    rintro e w4 ⟨rfl, hw⟩
    replace hw := hw.symm
    subst hw
    go_wp2_with fail
    refine (hN' _).mono ?_
    rintro e w4 ⟨rfl, hw⟩
    replace hw := hw.symm
    subst hw
    go_wp2_with fail
    refine (hT _).mono ?_
    rintro e w4 ⟨rfl, hw⟩
    replace hw := hw.symm
    subst hw
    go_wp2_with fail
    refine (hT' _).mono ?_
    rintro e w4 ⟨rfl, hw⟩
    replace hw := hw.symm
    subst hw
    go_wp2_with fail
    refine (hL _).mono ?_
    rintro e w4 ⟨rfl, hw⟩
    replace hw := hw.symm
    subst hw
    go_wp2_with fail
    refine (hN _).mono ?_
    rintro e w4 ⟨rfl, hw⟩
    replace hw := hw.symm
    subst hw
    go_wp2_with fail
    refine (hD _).mono ?_
    rintro e w5 ⟨v, bk, rfl, hb5⟩
    have HB5 : Hid (Below w.heap.size w w5) := HB.out.trans (hb5.mono HB.out.size)
    clear hb5
    go_wp2_with fail
    refine (hT _).mono ?_
    rintro e w6 ⟨rfl, hw⟩
    replace hw := hw.symm
    subst hw
    go_wp2
    go_ret
    exact ⟨rfl, HB5.out⟩
  · have hD := fun w => desc_true (t := t) w FT2.out hok (FT4.out hok).1 (FT4.out hok).2
    rw [← FT3.out, hok] at hT hT'
    clear FT2 FT3 FT4 hok
    go_wp2_with fail
    refine (hN _).mono ?_
    rintro e w4 ⟨rfl, hw⟩
    replace hw := hw.symm
    subst hw
    go_wp2_with fail
    refine (hN' _).mono ?_
    rintro e w4 ⟨rfl, hw⟩
    replace hw := hw.symm
    subst hw
    go_wp2_with fail
    refine (hT _).mono ?_
    rintro e w4 ⟨rfl, hw⟩
    replace hw := hw.symm
    subst hw
    go_wp2_with fail
    refine (hT' _).mono ?_
    rintro e w4 ⟨rfl, hw⟩
    replace hw := hw.symm
    subst hw
    go_wp2_with fail
    refine (hL _).mono ?_
    rintro e w4 ⟨rfl, hw⟩
    replace hw := hw.symm
    subst hw
    go_wp2_with fail
    refine (hN _).mono ?_
    rintro e w4 ⟨rfl, hw⟩
    replace hw := hw.symm
    subst hw
    go_wp2_with fail
    refine (hD _).mono ?_
    rintro e w5 ⟨g, cap, rfl, hc5, hb5⟩
    have HB5 : Hid (Below w.heap.size w w5) := HB.out.trans (hb5.mono HB.out.size)
    clear hb5
    go_wp2_with fail
    refine (hT _).mono ?_
    rintro e w6 ⟨rfl, hw⟩
    replace hw := hw.symm
    subst hw
    go_wp2
    go_ret
    exact ⟨rfl, HB5.out⟩

/-! ### THE ROW's STEP: WRITTEN OUT: LEAVE IT -/
set_option maxRecDepth 100000 in
theorem lifted (os : Os) (started : os.Started) (H : Type) (enc : TypeId × Value → H) :
    ReturnsInHanded {} Try.checked os 3 .any (Rows.fnNameSpec.pre6 enc Try.prog Try.f3 Rows.fnNameRow.domain false) (Rows.fnNameSpec.post enc Try.prog Try.f3 false true false false) := by
  refine returnsInHanded_of_change (C := Try.checked) own started (by kernel_rfl) Try.func3
    (ChangeSpec.witness6 (enc := enc) (C := Try.checked) false ⟨#[], #[.slice none 0 0, .slice none 0 0], []⟩ 8 (by kernel_rfl) (by kernel_rfl) (by kernel_rfl) (by kernel_rfl)) ?_
  intro W base args ds gs before hval0 hW hcnd _
  have hval : ∀ (j : Nat) t v, Try.f3.params[j]? = some t → args[j]? = some v → Value.okWide Try.prog W .any base t v := hval0
  have hW' := hW
  obtain ⟨p, q, hA0, hV, rfl, hfz, hnd⟩ := hW
  have hA : DataW.TrodAll enc Try.prog W 0 (fun _ => true) true Try.f3.params.toList args.toList ds p := hA0
  rw [Try.params3] at hA hval
  obtain ⟨v0, vs0, d0, ds0, p0, q0, hargs, rfl, rfl, h0, r0⟩ := trodAll_cons hA
  obtain ⟨v1, vs1, d1, ds1, p1, q1, rfl, rfl, rfl, h1, r1⟩ := trodAll_cons r0
  obtain ⟨rfl, rfl, rfl⟩ := trodAll_nil r1
  obtain rfl : args = #[v0, v1] := by cases args; simp_all
  obtain ⟨rfl, rfl⟩ := trodVars_none hV
  obtain ⟨a0, len0, cap0, rfl⟩ := okWide_slice Try.underlying22 (hval 0 22 v0 rfl rfl)
  have k0 := h0
  have lt0 : ∀ x ∈ p0, x.block < W.heap.size := by obtain ⟨m, hm⟩ := k0; exact DataW.trod_lt m _ _ _ hm
  obtain ⟨z0, w0⟩ : ∃ zs, IsRow .u8 W a0 len0 cap0 zs := by
    obtain ⟨fuel, hf⟩ := h0
    rcases open_ints Try.underlying22 Try.underlying5 (by kernel_rfl) hf with ⟨hcs, _⟩ | ⟨x, l, c, zs, hcs, _, hl, hm, hz, _, hcell, hwz⟩
    · simp [Value.cells] at hcs
      obtain ⟨rfl, rfl, rfl⟩ := hcs
      exact ⟨[], .inl ⟨rfl, rfl, rfl, rfl⟩⟩
    · simp [Value.cells] at hcs
      obtain ⟨rfl, rfl, rfl⟩ := hcs
      exact ⟨zs, .inr ⟨_, rfl, hl, hm, by simpa using hz, hcell, hwz⟩⟩
  obtain ⟨a1, len1, cap1, rfl⟩ := okWide_slice Try.underlying22 (hval 1 22 v1 rfl rfl)
  have k1 := h1
  have lt1 : ∀ x ∈ p1, x.block < W.heap.size := by obtain ⟨m, hm⟩ := k1; exact DataW.trod_lt m _ _ _ hm
  obtain ⟨z1, w1⟩ : ∃ zs, IsRow .u8 W a1 len1 cap1 zs := by
    obtain ⟨fuel, hf⟩ := h1
    rcases open_ints Try.underlying22 Try.underlying5 (by kernel_rfl) hf with ⟨hcs, _⟩ | ⟨x, l, c, zs, hcs, _, hl, hm, hz, _, hcell, hwz⟩
    · simp [Value.cells] at hcs
      obtain ⟨rfl, rfl, rfl⟩ := hcs
      exact ⟨[], .inl ⟨rfl, rfl, rfl, rfl⟩⟩
    · simp [Value.cells] at hcs
      obtain ⟨rfl, rfl, rfl⟩ := hcs
      exact ⟨zs, .inr ⟨_, rfl, hl, hm, by simpa using hz, hcell, hwz⟩⟩
  clear hA0 hval0
  refine (walk a0 len0 cap0 z0 a1 len1 cap1 z1 W w0 w1).mono fun e W' ⟨he, bel⟩ => ?_
  subst he
  exact ⟨_, rfl, _, _, _, [], _, [], hW', trodAll_mk1 (shut_bool Try.underlying4 _), (trodAll_cons_mk (Below.trod laidOut (by kernel_rfl) (of_decide_eq_true (by kernel_rfl)) k0 bel lt0) (trodAll_cons_mk (Below.trod laidOut (by kernel_rfl) (of_decide_eq_true (by kernel_rfl)) k1 bel lt1) trodAll_mk0)), rfl, bel.frame _, fun h => by cases h⟩

theorem over : Rows.fnNameRow.holds Try.pinned (OpenSpec.ofChange Rows.fnNameSpec) :=
  OpenClaim.holds_of_wide 3 Try.f3 rfl rfl rfl rfl rfl rfl rfl ⟨rfl, rfl, rfl, rfl, rfl⟩ rfl rfl rfl rfl rfl (by kernel_rfl) Try.func3 (by kernel_rfl)
    (of_decide_eq_true (by kernel_rfl)) (by unfold Func.isWrapper; first | (rw [if_pos (by decide +kernel)]; kernel_rfl) | (rw [if_neg (by decide +kernel)]; exact ⟨rfl, rfl⟩))
    (fun os started H enc _ => lifted os started H enc)

end Go.Proofs.Ytdlgifpiblcaeaa.fnName
namespace Go.Proofs.Ytdlgifpiblcaeaa
theorem fnNameHolds : Rows.FnNameSaid := fnName.over
end Go.Proofs.Ytdlgifpiblcaeaa
