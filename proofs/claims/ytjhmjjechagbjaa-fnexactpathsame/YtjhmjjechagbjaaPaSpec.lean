/- Paths: the specification's l22Path. -/
import Derived.Test.YtjhmjjechagbjaaPaWalk
import Derived.Test.YtjhmjjechagbjaaLoSpec
namespace Go.Proofs.Ytjhmjjechagbjaa
open Go.RowKit Go.Maps
set_option maxHeartbeats 4000000
set_option maxRecDepth 20000
set_option linter.unusedVariables false

theorem l22Path_any (v : Value) (ls : List MLoader) (nm : ByteArray) (n0 : Nat) (B : Nat) (w : World) (hl : ls.length ≤ 1048576) (hn0 : n0 < ls.length) (hf : ∀ f ∈ ls, f.few) (hg : fineLS ls) (h : LoadersW w B v ls) :
    Calls Try.prog 21 #[v, .int .i64 (n0 : Int), .string nm] w fun e w' => ∃ u, e = .returned (.tuple #[u, .bool (pathR ls nm [] n0).2]) ∧ w'.ownsRow w.heap.size 3 1 u (pathR ls nm [] n0).1.length (ints (pathR ls nm [] n0).1) ∧ Below w.heap.size w w' := by
  obtain ⟨ao, cap, hv⟩ := loadersW_len h
  subst hv
  obtain ⟨g, rfl⟩ : ∃ g, ao = some ⟨g, 0, none⟩ := by
    obtain ⟨xs, h1, h2, h3⟩ := h
    exact own_some h2 (by omega)
  have hM := fun W k x (hk : k < ls.length) (hW : LoaderW W B x ls[k]) => l5Way_any x ls[k] nm B W (hf _ (List.getElem_mem _)) hW
  have hN := fun W k x (hk : k < ls.length) (hW : LoaderW W B x ls[k]) => l5File_any x ls[k] nm B W (hf _ (List.getElem_mem _)) hW
  have HA := hid (fun k (hk : k < ls.length) => ldAt h hk)
  have HG := hid (fun k (hk : k < ls.length) => nxtLd_fine (hg.all k hk) nm)
  have HW := hid (fun k (hk : k < ls.length) t (ht : wayTo ls[k].ways nm = some t) => wayTo_fine (hg.all k hk) ht)
  have hl3 := hg.hi
  obtain ⟨i0, hi, hz0, hz1, hz2⟩ := info_parts infoInt3
  obtain ⟨R, hR⟩ : ∃ R, Hid (pathR ls nm [] n0 = R) := ⟨_, hid rfl⟩
  rw [hR.out]
  clear hg h hf
  go_enter Try.func21, Try.ntmps21
  go_wp2_with fail
  go_loopw [1, 8] (fun i u wr => ∃ (path : List Int) (k : Nat), i = .int .i64 (k : Int) ∧ k < ls.length ∧ Hid (wr.ownsRow w.heap.size 3 1 u path.length (ints path)) ∧ Hid (Apart ls.length path) ∧ Hid (pathR ls nm path k = R) ∧ Hid (Below w.heap.size w wr)) (fun _ u _ => ls.length + 1 - slenV u)
  case atStart => exact ⟨[], n0, rfl, hn0, World.ownsRow_lit (base := w.heap.size) (e := 3) (size := 1) w #[] 0 (Nat.le_refl _) (by unfold maxLen; omega) rfl, Apart.nil _, hR, (Below.refl _ _).alloc (Nat.le_refl _) _⟩
  case round =>
    obtain ⟨path, k, rfl, hk, HO, HP, HR, HB⟩ := hrel
    obtain ⟨au, cu, hu⟩ := own_len HO.out
    subst hu
    have hple := HP.out.le
    have hAsk := fun W (hW : Below wr.heap.size wr W) => l5Asked_any (.slice au path.length cu) path w.heap.size (k : Int) W (by omega) (own_below HO.out hW)
    have hws := HB.out.size
    obtain ⟨q, hq⟩ : ∃ q, Hid (path.contains (k : Int) = q) := ⟨_, hid rfl⟩
    rw [hq.out] at hAsk
    go_wp2_with fail
    refine (hAsk wr (Below.refl _ _)).mono ?_
    rintro e w0 ⟨rfl, hw⟩
    replace hw := hw.symm
    subst hw
    clear hAsk
    cases q with
    | true =>
      have HQ := hid (show R = (path, false) from by rw [← HR.out]; exact pathR_again hq.out)
      go_wp2_with fail
      refine bodyPost_ret (v := .tuple #[.slice au path.length cu, .bool false]) (by simp [results, Try.results21, go_sem]) rfl ⟨.slice au path.length cu, by rw [HQ.out], by rw [HQ.out]; exact HO.out, HB.out⟩
    | false =>
      have HQ := hid (show R = if makesB ls[k] nm then (path ++ [(k : Int)], true) else pathR ls nm (path ++ [(k : Int)]) (nxtLd ls[k] nm) from by rw [← HR.out]; exact pathR_step HP.out hk hq.out)
      have HP' := hid (HP.out.snoc (by omega) (by omega) hq.out)
      have hlt := HP.out.lt (by omega) (by omega) hq.out
      obtain ⟨x, hx⟩ := HA.out k hk
      have hx0 := (hx w (Below.refl _ _)).l
      obtain ⟨a1, k1, e1⟩ := own_len hx0.f
      obtain ⟨a2, k2, e2⟩ := own_len hx0.y
      have hpar := hx0.p
      obtain ⟨xf, xw, xp⟩ := x
      simp only at e1 e2 hpar
      subst e1 e2
      have HX := hid hx
      have hM1 := fun W => hM W k ⟨.slice a1 ls[k].files.length k1, .slice a2 ls[k].ways.length k2, xp⟩ hk
      have hN1 := fun W => hN W k ⟨.slice a1 ls[k].files.length k1, .slice a2 ls[k].ways.length k2, xp⟩ hk
      have HG1 := hid (HG.out k hk)
      have HW1 := hid (HW.out k hk)
      clear hx hx0 hM hN HA HG HW
      generalize ls[k] = l at hM1 hN1 HX HG1 HQ HW1 hpar
      subst hpar
      generalize l.files.length = n1 at hM1 hN1 HX
      generalize l.ways.length = n2 at hM1 hN1 HX
      simp only at hM1 hN1
      have hr0 := fun j (h : Value.ownBlock (.slice au path.length cu) = some j) => (HO.out.lt j h).1
      have hlen : (path ++ [(k : Int)]).length = path.length + 1 := by simp
      go_wp2_with (at_builtin; refine wpList_append_own _ rfl _ _ 24 rfl w.heap.size 3 i0 (.int .i64 0) 1 8 Try.underlying24 hi hz0 hz1 hz2 rfl (by decide) _ _ _ rfl (HO.out.alloc _) ⟨wr.heap.size, 0, none⟩ 1 1 [.int .i64 (k : Int)] rfl rfl (cell_one_new _ _ _) (ints_oneCell .i64 [(k : Int)]) (by unfold maxLen; omega) (by omega) (by simp; omega) ?_; intro v' w2 hown' hgrow2 hnil2; have s2 := hgrow2.size; simp at s2; have hB2 := (HB.out.alloc hws _).grown hgrow2 (by simp; omega) hr0; clear hgrow2; have hL2 := HX.out w2 hB2; obtain ⟨c0, c1, c2⟩ := hL2.c)
      have L2 := Lk.new w2 #[.slice a1 n1 k1, .slice a2 n2 k2, .int .i64 l.parent] 47
      have hbo := (Below.refl w2.heap.size w2).alloc (Nat.le_refl _) (.cells #[.slice a1 n1 k1, .slice a2 n2 k2, .int .i64 l.parent] 47)
      have hcall := hM1 _ (hL2.l.keep hbo)
      have hB2' := hB2.trans (hbo.mono hB2.size)
      have HO2 := own_below hown' hbo
      clear hnil2 hown' c0 c1 c2 hL2 hM1 hB2 hbo
      refine hcall.mono ?_
      rintro e w3 ⟨rfl, hb3⟩
      have HB3 := hid (hB2'.trans (hb3.mono hB2'.size))
      have HO3 := hid (own_below HO2 hb3)
      have HL3 := hid (L2.keep hb3)
      clear hb3 hcall HO2 L2 hB2'
      obtain ⟨av, cv, hv⟩ := own_len HO3.out
      subst hv
      have goOn : ∀ a : Int, nxtLd l nm = a → (0 ≤ a) → makesB l nm = false → ∃ k' : Nat, a = (k' : Int) ∧ k' < ls.length ∧ Hid (pathR ls nm (path ++ [(k : Int)]) k' = R) := by
        intro a ha h0 hm
        have := HG1.out
        refine ⟨a.toNat, by omega, by omega, ?_⟩
        have e : ((a.toNat : Nat) : Int) = nxtLd l nm := by omega
        rw [e]
        rw [HQ.out, hm]
        rfl
      cases hto : wayTo l.ways nm with
      | some t =>
        have h0 := (HW1.out t hto).1
        obtain ⟨k', rfl, hk', HR'⟩ := goOn t (by unfold nxtLd; rw [hto]; rfl) h0 (by unfold makesB; rw [hto]; simp)
        clear goOn hN1
        simp only [Option.getD]
        go_wp2_with fail
        go_roundw
        case rel => exact ⟨path ++ [(k : Int)], k', rfl, hk', by rw [ints_snoc, hlen]; exact HO3.out, HP', HR', HB3⟩
        case measure => simp [slenV]; omega
      | none =>
        simp only [Option.getD]
        have hL3 := (HX.out w3 HB3.out).l
        have hcall := hN1 w3 hL3
        clear hN1 hL3
        obtain ⟨d0, d1, d2, _⟩ := HL3.out.d3
        go_wp2_with fail
        refine hcall.mono ?_
        rintro e w4 ⟨r, rfl, hr, hb4⟩
        have HB4 := hid (HB3.out.trans (hb4.mono HB3.out.size))
        have HO4 := hid (own_below HO3.out hb4)
        have HL4 := hid (HL3.out.keep hb4)
        clear hb4 hcall HO3 HL3 HB3 d0 d1 d2
        obtain ⟨d0, d1, d2, _⟩ := HL4.out.d3
        by_cases hr0 : 0 ≤ r
        · have hm : makesB l nm = true := by unfold makesB; rw [hto, ← hr]; simp [hr0]
          have HQ' := hid (show R = (path ++ [(k : Int)], true) from by rw [HQ.out, hm]; rfl)
          clear hr hm
          go_wp2_with fail
          refine bodyPost_ret (v := .tuple #[.slice av (path.length + 1) cv, .bool true]) (by simp [results, Try.results21, go_sem]) rfl ⟨.slice av (path.length + 1) cv, by rw [HQ'.out], by rw [HQ'.out]; simp only [hlen, ints_snoc]; exact HO4.out, HB4.out⟩
        · have hm : makesB l nm = false := by unfold makesB; rw [hto, ← hr]; simp [hr0]
          have hnx : nxtLd l nm = l.parent := by unfold nxtLd; rw [hto]; rfl
          by_cases hp0 : l.parent < 0
          · have HQ' := hid (show R = (path ++ [(k : Int)], false) from by rw [HQ.out, hm, hnx]; exact pathR_neg hp0)
            clear hr hm hnx
            go_wp2_with fail
            refine bodyPost_ret (v := .tuple #[.slice av (path.length + 1) cv, .bool false]) (by simp [results, Try.results21, go_sem]) rfl ⟨.slice av (path.length + 1) cv, by rw [HQ'.out], by rw [HQ'.out]; simp only [hlen, ints_snoc]; exact HO4.out, HB4.out⟩
          · obtain ⟨k', hk0, hk', HR'⟩ := goOn l.parent hnx (by omega) hm
            rw [hk0] at d2
            clear goOn hr hm hnx hk0 hp0
            go_wp2_with fail
            go_roundw
            case rel => exact ⟨path ++ [(k : Int)], k', rfl, hk', by rw [ints_snoc, hlen]; exact HO4.out, HP', HR', HB4⟩
            case measure => simp [slenV]; omega

end Go.Proofs.Ytjhmjjechagbjaa
