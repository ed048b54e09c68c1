/- Paths: the program's walkPath. -/
import Derived.Test.YtjhmjjechagbjaaPaMath
import Derived.Maps.OwnSet
import Derived.Maps.AppendAt
namespace Go.Proofs.Ytjhmjjechagbjaa
open Go.RowKit Go.Maps
set_option maxHeartbeats 4000000
set_option maxRecDepth 20000
set_option linter.unusedVariables false

theorem lawInt : Keyed Try.prog 3 := int_keyed Try.underlying3
theorem zeroUnit (w : World) : (zeroValue 64).run Try.prog w = .ok (.agg #[]) w := by kernel_rfl
theorem infoInt3 : (Try.prog.info? 3).map (fun i => (i.zero, i.size, i.bytes)) = some (some (.int .i64 0), 1, 8) := by kernel_rfl
/-- the set that holds these -/
def setI (path : List Int) : DataW Unit := setOf (.agg []) (path.map (Lit.int .i64))
theorem setI_nil : setI [] = .map [] := rfl
theorem setI_snoc (path : List Int) (a : Int) : setI (path ++ [a]) = (setI path).put (.int .i64 a) (.agg []) := by
  unfold setI
  rw [List.map_append, List.map_cons, List.map_nil, setOf_snoc]
theorem anyI (x : Int) : ∀ l : List Int, l.any ((fun y : Lit => y.sameKey (.int .i64 x)) ∘ Lit.int .i64) = l.contains x
  | [] => rfl
  | a :: r => by
    rw [List.any_cons, List.contains_cons, anyI x r]
    congr 1
    show decide (IntKind.i64 = IntKind.i64 ∧ a = x) = (x == a)
    by_cases e : a = x
    · subst e
      simp
    · have e' : ¬ x = a := fun h => e h.symm
      simp [e, e']
theorem has_setI (path : List Int) (x : Int) : Maps.has (setI path) (.int .i64 x) = path.contains x := by
  unfold setI
  rw [has_setOf _ _ _ (fun y hy => by obtain ⟨_, _, rfl⟩ := List.mem_map.1 hy; trivial), List.any_map]
  exact anyI x _
def slenV : Value → Nat
  | .slice _ n _ => n
  | _ => 0
theorem ints_snoc (l : List Int) (a : Int) : ints (l ++ [a]) = ints l ++ [Value.int .i64 a] := by simp [ints]

/-- what is known of loader k, in any later world -/
structure LdAt (W : World) (B g k : Nat) (x : SLoader) (l : MLoader) : Prop where
  c : W.cell? ⟨g, k * 3, none⟩ = some x.files ∧ W.cell? ⟨g, k * 3 + 1, none⟩ = some x.ways ∧ W.cell? ⟨g, k * 3 + 2, none⟩ = some (.int .i64 x.parent)
  l : LoaderW W B x l
theorem ldAt {w : World} {B g cap : Nat} {ls : List MLoader} (h : LoadersW w B (.slice (some ⟨g, 0, none⟩) ls.length cap) ls) {k : Nat} (hk : k < ls.length) : ∃ x : SLoader, ∀ W, Below w.heap.size w W → LdAt W B g k x ls[k] := by
  obtain ⟨xs, h1, h2, h3⟩ := h
  exact ⟨xs[k]'(by omega), fun W hW => ⟨ownLoader_at (own_below h2 hW) h1 (by omega), (h3 k hk (by omega)).keep hW⟩⟩

theorem rowNe {w : World} {base : Nat} {e : TypeId} {size : Nat} {v : Value} {n : Nat} {xs : List Value} (h : w.ownsRow base e size v n xs) {b : Nat} (hb : b < base) : some b ≠ v.ownBlock := fun e1 => by
  have := (h.lt b e1.symm).1
  omega
theorem loadersW_len {w : World} {B : Nat} {v : Value} {fs : List MLoader} (h : LoadersW w B v fs) : ∃ ao cap, v = .slice ao fs.length cap := by
  obtain ⟨xs, h1, h2, h3⟩ := h
  exact own_len h2
theorem walkPath_any (v : Value) (ls : List MLoader) (nm : ByteArray) (n0 : Nat) (B : Nat) (w : World) (hl : ls.length ≤ 1048576) (hn0 : n0 < ls.length) (hf : ∀ f ∈ ls, f.few) (hg : fineLS ls) (h : LoadersW w B v ls) :
    Calls Try.prog 24 #[v, .int .i64 (n0 : Int), .string nm] w fun e w' => ∃ u, e = .returned (.tuple #[u, .bool (pathR ls nm [] n0).2]) ∧ w'.ownsRow w.heap.size 3 1 u (pathR ls nm [] n0).1.length (ints (pathR ls nm [] n0).1) ∧ Below w.heap.size w w' := by
  obtain ⟨ao, cap, hv⟩ := loadersW_len h
  subst hv
  obtain ⟨g, rfl⟩ : ∃ g, ao = some ⟨g, 0, none⟩ := by
    obtain ⟨xs, h1, h2, h3⟩ := h
    exact own_some h2 (by omega)
  have hM := fun W k x (hk : k < ls.length) (hW : LoaderW W B x ls[k]) => makes_any x ls[k] nm B W (hf _ (List.getElem_mem _)) hW
  have hN := fun W k x (hk : k < ls.length) (hW : LoaderW W B x ls[k]) => nextAsked_any x ls[k] nm B W (hf _ (List.getElem_mem _)) hW
  have HA := hid (fun k (hk : k < ls.length) => ldAt h hk)
  have HG := hid (fun k (hk : k < ls.length) => nxtLd_fine (hg.all k hk) nm)
  have hl3 := hg.hi
  have hmm := @run_makeMap Try.prog
  obtain ⟨i0, hi, hz0, hz1, hz2⟩ := info_parts infoInt3
  obtain ⟨R, hR⟩ : ∃ R, Hid (pathR ls nm [] n0 = R) := ⟨_, hid rfl⟩
  rw [hR.out]
  clear hg h hf
  go_enter Try.func24, Try.ntmps24
  go_wp2_with fail
  go_loopw [8, 10] (fun u i wr => ∃ (path : List Int) (a : Int), i = .int .i64 a ∧ (a = -1 ∨ (0 ≤ a ∧ a < (ls.length : Int))) ∧ Hid (wr.ownsMap Try.prog 3 unitElem w.heap.size path.length (setI path)) ∧ Hid (wr.ownsRow (w.heap.size + 1) 3 1 u path.length (ints path)) ∧ Hid (Apart ls.length path) ∧ Hid (pathR ls nm path a = R) ∧ Hid (Below w.heap.size w wr) ∧ w.heap.size + 1 ≤ wr.heap.size) (fun u _ _ => ls.length + 1 - slenV u)
  case atStart => exact ⟨[], n0, rfl, .inr ⟨by omega, by omega⟩, by rw [setI_nil]; exact World.ownsMap_made _ _ _ _, World.ownsRow_nil _ _ _ _, Apart.nil _, hR, (Below.refl _ _).alloc (Nat.le_refl _) _, by simp⟩
  case round =>
    obtain ⟨path, a, rfl, ha, HM, HO, HP, HR, HB, hws⟩ := hrel
    obtain ⟨au, cu, hu⟩ := own_len HO.out
    subst hu
    by_cases hneg : a = -1
    · subst hneg
      have HQ := hid (show R = (path, false) from by rw [← HR.out]; exact pathR_neg (by omega))
      have HZ := hid (Joins.ownsRow_le (base' := w.heap.size) HO.out (by omega))
      go_wp2_with fail
      refine bodyPost_ret (v := .tuple #[.slice au path.length cu, .bool false]) (by simp [results, Try.results24, go_sem]) rfl ⟨.slice au path.length cu, by rw [HQ.out], by rw [HQ.out]; exact HZ.out, HB.out⟩
    · obtain ⟨k, rfl⟩ : ∃ k : Nat, a = (k : Int) := ⟨a.toNat, by omega⟩
      have hk : k < ls.length := by omega
      clear ha
      have hkey : keyOf Try.prog 3 (.int .i64 (k : Int)) = some (.int .i64 (k : Int)) := keyOf_int_mk Try.underlying3 (WalkArith.wf_i64 (by omega))
      have hhas := has_setI path (k : Int)
      obtain ⟨q, hq⟩ : ∃ q, Hid (path.contains (k : Int) = q) := ⟨_, hid rfl⟩
      rw [hq.out] at hhas
      cases q with
      | true =>
        have HQ := hid (show R = (path, false) from by rw [← HR.out]; exact pathR_again hq.out)
        have HZ := hid (Joins.ownsRow_le (base' := w.heap.size) (HO.out.alloc (.cells #[] 64)) (by omega))
        go_wp2_with (at_lookup; refine wpList_lookup_own_unit _ rfl _ _ 63 rfl 3 64 lawInt Try.underlying63 (zeroUnit _) w.heap.size path.length _ rfl HM.out _ _ rfl hkey ?_; rw [hhas])
        refine bodyPost_ret (v := .tuple #[.slice au path.length cu, .bool false]) (by simp [results, Try.results24, go_sem]) rfl ⟨.slice au path.length cu, by rw [HQ.out], by rw [HQ.out]; exact HZ.out, HB.out.alloc (by omega) _⟩
      | false =>
        have HQ := hid (show R = if makesB ls[k] nm then (path ++ [(k : Int)], true) else pathR ls nm (path ++ [(k : Int)]) (nxtLd ls[k] nm) from by rw [← HR.out]; exact pathR_step HP.out hk hq.out)
        have HP' := hid (HP.out.snoc (by omega) (by omega) hq.out)
        have hlt := HP.out.lt (by omega) (by omega) hq.out
        obtain ⟨x, hx⟩ := HA.out k hk
        have hx0 := (hx w (Below.refl _ _)).l
        obtain ⟨a1, k1, e1⟩ := own_len hx0.f
        obtain ⟨a2, k2, e2⟩ := own_len hx0.y
        obtain ⟨xf, xw, xp⟩ := x
        simp only at e1 e2
        subst e1 e2
        have HX := hid hx
        have hM1 := fun W => hM W k ⟨.slice a1 ls[k].files.length k1, .slice a2 ls[k].ways.length k2, xp⟩ hk
        have hN1 := fun W => hN W k ⟨.slice a1 ls[k].files.length k1, .slice a2 ls[k].ways.length k2, xp⟩ hk
        have hr0 := rowNe HO.out (Nat.lt_succ_self _)
        have HG1 := hid (HG.out k hk)
        clear hx hx0 hM hN HA HG
        generalize ls[k] = l at hM1 hN1 HX HG1 HQ
        generalize l.files.length = n1 at hM1 hN1 HX
        generalize l.ways.length = n2 at hM1 hN1 HX
        simp only at hM1 hN1
        go_wp2_with (first
          | (at_lookup; refine wpList_lookup_own_unit _ rfl _ _ 63 rfl 3 64 lawInt Try.underlying63 (zeroUnit _) w.heap.size path.length _ rfl HM.out _ _ rfl hkey ?_; rw [hhas])
          | (at_mapUpdate; refine wpList_mapUpdate_own _ rfl _ _ _ 63 rfl 3 64 lawInt Try.underlying63 (unitElem (H := Unit)) w.heap.size path.length _ rfl (HM.out.alloc _) (by unfold maxLen; omega) _ _ _ rfl rfl hkey _ [] unitElem_mk ?_; intro w1 hown1 hgrow1)
          | (at_builtin; refine wpList_append_own _ rfl _ _ 24 rfl (w.heap.size + 1) 3 i0 (.int .i64 0) 1 8 Try.underlying24 hi hz0 hz1 hz2 rfl (by decide) _ _ _ rfl (((HO.out.alloc _).kept hgrow1 (Or.inr hr0.symm)).alloc _) ⟨w1.heap.size, 0, none⟩ 1 1 [.int .i64 (k : Int)] rfl rfl (cell_one_new _ _ _) (ints_oneCell .i64 [(k : Int)]) (by unfold maxLen; omega) (by omega) (by have := hgrow1.size; simp at this ⊢; omega) ?_; intro v' w2 hown' hgrow2 hnil2; have hr1 := (HO.out.alloc (.cells #[] 64)).kept hgrow1 (Or.inr hr0.symm); have s1 := hgrow1.size; have s2 := hgrow2.size; simp at s1 s2; have hB2 := ((((HB.out.alloc (by omega) _).grown hgrow1 (by simp; omega) (fun j hj => by cases hj; exact Nat.le_refl _)).alloc (by omega) _).grown hgrow2 (by simp; omega) (fun j hj => Nat.le_trans (Nat.le_succ _) (hr1.lt j hj).1)); have HM2 := hid ((hown1.alloc _).kept hgrow2 (rowNe hr1 (Nat.lt_succ_self _))); clear hr1 hown1 hgrow1 hgrow2; have hL2 := HX.out w2 hB2; obtain ⟨c0, c1, c2⟩ := hL2.c))
        have hcall := hM1 w2 hL2.l
        have HB2 := hid hB2
        have HO2 := hid hown'
        clear hB2 hown' hnil2 hM1 hL2 c0 c1 c2
        refine hcall.mono ?_
        rintro e w3 ⟨rfl, hb3⟩
        have HB3 := hid (HB2.out.trans (hb3.mono HB2.out.size))
        have HO3 := hid (own_below HO2.out hb3)
        have HM3 := hid (HM2.out.kept (below_grow hb3) (by simp) (row := none))
        have s3 := hb3.size
        clear hb3 hcall HO2 HM2 HB2
        have hlen : (path ++ [(k : Int)]).length = path.length + 1 := by simp
        obtain ⟨m, hm⟩ : ∃ m, Hid (makesB l nm = m) := ⟨_, hid rfl⟩
        rw [hm.out]
        obtain ⟨av, cv, hv⟩ := own_len HO3.out
        subst hv
        cases m with
        | true =>
          have HQ' := hid (show R = (path ++ [(k : Int)], true) from by rw [HQ.out, hm.out]; rfl)
          have HZ := hid (Joins.ownsRow_le (base' := w.heap.size) HO3.out (by omega))
          go_wp2_with fail
          refine bodyPost_ret (v := .tuple #[.slice av (path.length + 1) cv, .bool true]) (by simp [results, Try.results24, go_sem]) rfl ⟨.slice av (path.length + 1) cv, by rw [HQ'.out], by rw [HQ'.out]; simp only [hlen, ints_snoc]; exact HZ.out, HB3.out⟩
        | false =>
          have HQ' := hid (show pathR ls nm (path ++ [(k : Int)]) (nxtLd l nm) = R from by rw [HQ.out, hm.out]; rfl)
          have hL3 := HX.out w3 HB3.out
          obtain ⟨c0, c1, c2⟩ := hL3.c
          have hcall := hN1 w3 hL3.l
          clear hL3 hN1
          go_wp2_with fail
          refine hcall.mono ?_
          rintro e w4 ⟨rfl, hb4⟩
          have HB4 := hid (HB3.out.trans (hb4.mono HB3.out.size))
          have HO4 := hid (own_below HO3.out hb4)
          have HM4 := hid (HM3.out.kept (below_grow hb4) (by simp) (row := none))
          have s4 := hb4.size
          clear hb4 hcall HO3 HM3 HB3 c0 c1 c2
          go_wp2_with fail
          go_roundw
          case rel => exact ⟨path ++ [(k : Int)], nxtLd l nm, rfl, HG1.out, by rw [setI_snoc, hlen]; exact HM4.out, by rw [ints_snoc, hlen]; exact HO4.out, HP', HQ', HB4, by omega⟩
          case measure => simp [slenV]; omega

end Go.Proofs.Ytjhmjjechagbjaa
