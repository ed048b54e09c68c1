/- Contracts of the program's unlike over files. The first two are printed by tools/anyof.py's index. -/
import Derived.Test.YtjhmjjechagbjaaLoSmall
import Derived.Test.YtjhmjjechagbjaaAnyFile
import Derived.Test.YtjhmjjechagbjaaAnyWay
import Derived.Deep.RegionHeld
import Derived.Test.YtjhmjjechagbjaaLkBase
namespace Go.Proofs.Ytjhmjjechagbjaa
open Go.RowKit
set_option maxHeartbeats 1000000
set_option maxRecDepth 20000
set_option linter.unusedVariables false

theorem rowFile_take (ts : List MFile) (i : Nat) (hi : i ≤ ts.length) : rowFile (ts.take i) = (rowFile ts).take (i * 2) := by
  have h : rowFile ts = rowFile (ts.take i) ++ rowFile (ts.drop i) := by
    unfold rowFile
    rw [← List.flatMap_append, List.take_append_drop]
  rw [h, List.take_append_of_le_length (by rw [rowFile_len, List.length_take]; omega)]
  exact (List.take_of_length_le (by rw [rowFile_len, List.length_take]; omega)).symm
theorem ownFile_take {w : World} {B g cap : Nat} {ts : List MFile} (h : w.ownsRow B 71 2 (.slice (some ⟨g, 0, none⟩) ts.length cap) ts.length (rowFile ts)) (i : Nat) (hi : i ≤ ts.length) :
    w.ownsRow B 71 2 (.slice (some ⟨g, 0, none⟩) i cap) (ts.take i).length (rowFile (ts.take i)) := by
  obtain ⟨h1, h2 | ⟨g', c', cur, he, hb, hh, hn, hm, hs, ht⟩⟩ := h
  · exact absurd h2.1 (by simp)
  · obtain ⟨he1, he2⟩ : some (⟨g, 0, none⟩ : Addr) = some ⟨g', 0, none⟩ ∧ cap = c' := by simpa using he
    have hg : g = g' := by simpa using he1
    subst hg he2
    have hl : (ts.take i).length = i := by rw [List.length_take]; omega
    refine ⟨by rw [rowFile_len], .inr ⟨g, cap, cur, by rw [hl], hb, hh, by omega, hm, hs, ?_⟩⟩
    rw [hl, rowFile_take ts i hi, ← ht, List.take_take, Nat.min_eq_left (by omega)]

theorem fileName_any (a b : ByteArray) (w : World) :
    Calls Try.prog 72 #[.agg #[.string a, .string b]] w fun e w' => e = .returned (.string a) ∧ Below w.heap.size w w' := by
  go_enter Try.func72, Try.ntmps72
  go_wp2
  go_ret
  exact ⟨rfl, by go_grown⟩
theorem wayName_any (a : ByteArray) (b : Int) (w : World) :
    Calls Try.prog 68 #[.agg #[.string a, .int .i64 b]] w fun e w' => e = .returned (.string a) ∧ Below w.heap.size w w' := by
  go_enter Try.func68, Try.ntmps68
  go_wp2
  go_ret
  exact ⟨rfl, by go_grown⟩

theorem indexFileK_any (u0 : Value) (u1 : Value) (v : Value) (ts : List MFile) (B : Nat) (p : Nat → Bool) (w : World) (hl : ts.length ≤ 1048576) (ho : w.ownsRow B 71 2 v ts.length (rowFile ts))
    (hF : ∀ k (h : k < ts.length) W, Below w.heap.size w W → Calls Try.prog 82 #[.agg #[.string ts[k].name, .string ts[k].text], u0, u1] W fun e w' => e = .returned (.bool (p k)) ∧ Below W.heap.size W w') :
    Calls Try.prog 75 #[v, .func (.func 82) #[] #[u0, u1]] w fun e w' => ∃ r : Int, e = .returned (.int .i64 r) ∧ (0 ≤ r ↔ ∃ k, k < ts.length ∧ p k = true) ∧ Below w.heap.size w w' := by
  obtain ⟨ao, cap, hv⟩ := own_len ho
  subst hv
  have HO := hid ho
  have HF := hid hF
  clear ho hF
  go_enter Try.func75, Try.ntmps75
  go_wp2_with fail
  go_loopw [8] (fun i wr => ∃ (k : Nat), k ≤ ts.length ∧ i = .int .i64 k ∧ Hid (∀ j, j < k → p j = false) ∧ Hid (Below w.heap.size w wr)) (fun i _ => ts.length - (intOf i).toNat)
  case atStart => exact ⟨0, by omega, rfl, fun j hj => by omega, Below.refl _ _⟩
  case round =>
    obtain ⟨k, hk, rfl, HE, HB⟩ := hrel
    by_cases hlt : k < ts.length
    · obtain ⟨g, hg⟩ := own_some HO.out (by omega)
      subst hg
      obtain ⟨c0, c1⟩ := ownFile_at (own_below HO.out HB.out) hlt
      have hC := HF.out k hlt
      generalize ts[k] = t at c0 c1 hC
      obtain ⟨q, hq⟩ : ∃ q, Hid (p k = q) := ⟨_, hid rfl⟩
      rw [hq.out] at hC
      go_wp2_with fail
      refine (hC _ HB.out).mono ?_
      rintro e w1 ⟨rfl, hb1⟩
      have HB1 := hid (HB.out.trans (hb1.mono HB.out.size))
      clear hb1 hC c0 c1
      cases q with
      | true =>
        have HR := hid (show ∃ j, j < ts.length ∧ p j = true from ⟨k, hlt, hq.out⟩)
        go_wp2
        go_ret
        exact ⟨_, rfl, ⟨fun _ => HR.out, fun _ => by omega⟩, HB1.out⟩
      | false =>
        have HN := hid (show ∀ j, j < k + 1 → p j = false from fun j hj => by
          by_cases e : j = k
          · rw [e]; exact hq.out
          · exact HE.out j (by omega))
        go_wp2
        go_roundw
        case rel => exact ⟨k + 1, by omega, by go_num, HN, HB1⟩
        case measure => simp [intOf]; omega
    · have HN := hid (show ¬ ∃ j, j < ts.length ∧ p j = true from by
        rintro ⟨j, hj, hp⟩
        have := HE.out j (by omega)
        rw [this] at hp
        cases hp)
      go_wp2
      go_ret
      exact ⟨-1, rfl, ⟨fun h => absurd h (by omega), fun h => absurd h HN.out⟩, HB.out⟩
theorem containsFileK_any (u0 : Value) (u1 : Value) (v : Value) (ts : List MFile) (B : Nat) (p : Nat → Bool) (w : World) (hl : ts.length ≤ 1048576) (ho : w.ownsRow B 71 2 v ts.length (rowFile ts))
    (hF : ∀ k (h : k < ts.length) W, Below w.heap.size w W → Calls Try.prog 82 #[.agg #[.string ts[k].name, .string ts[k].text], u0, u1] W fun e w' => e = .returned (.bool (p k)) ∧ Below W.heap.size W w') :
    Calls Try.prog 80 #[v, .func (.func 82) #[] #[u0, u1]] w fun e w' => ∃ b : Bool, e = .returned (.bool b) ∧ (b = true ↔ ∃ k, k < ts.length ∧ p k = true) ∧ Below w.heap.size w w' := by
  have hI := indexFileK_any u0 u1 v ts B p w hl ho hF
  clear hF ho
  go_enter Try.func80, Try.ntmps80
  go_wp2_with fail
  refine hI.mono ?_
  rintro e w1 ⟨r, rfl, hr, hb⟩
  have HR := hid hr
  have HB := hid hb
  clear hr hb hI
  go_wp2
  go_ret
  refine ⟨_, rfl, ?_, HB.out⟩
  rw [← HR.out]
  simp

/-- two files that lie in memory, and the function that names them -/
structure UF (w0 : World) (a1 a2 b1 b2 : ByteArray) (g c1 c2 : Nat) (W : World) : Prop where
  b : Below w0.heap.size w0 W
  k0 : W.cell? ⟨g, 0, none⟩ = some (.string a1)
  k1 : W.cell? ⟨g, 1, none⟩ = some (.string a2)
  k2 : W.cell? ⟨c1, 0, none⟩ = some (.func (.func 72) #[] #[])
  k3 : W.cell? ⟨c2, 0, none⟩ = some (.string b1)
  k4 : W.cell? ⟨c2, 1, none⟩ = some (.string b2)
  l0 : g < W.heap.size
  l1 : c1 < W.heap.size
  l2 : c2 < W.heap.size
theorem UF.keep {w0 W W' : World} {a1 a2 b1 b2 : ByteArray} {g c1 c2 : Nat} (h : UF w0 a1 a2 b1 b2 g c1 c2 W) (hb : Below W.heap.size W W') : UF w0 a1 a2 b1 b2 g c1 c2 W' :=
  ⟨h.b.trans (hb.mono h.b.size), (hb_cell hb h.l0).trans h.k0, (hb_cell hb h.l0).trans h.k1, (hb_cell hb h.l1).trans h.k2, (hb_cell hb h.l2).trans h.k3, (hb_cell hb h.l2).trans h.k4, Nat.lt_of_lt_of_le h.l0 hb.size, Nat.lt_of_lt_of_le h.l1 hb.size, Nat.lt_of_lt_of_le h.l2 hb.size⟩
theorem UF.drew {w0 W : World} {a1 a2 b1 b2 : ByteArray} {g c1 c2 : Nat} (h : UF w0 a1 a2 b1 b2 g c1 c2 W) : UF w0 a1 a2 b1 b2 g c1 c2 W.drew := h.keep (Below.refl _ _).drew

/-- whether another one has the same name -/
theorem likeFile_any (t u : MFile) (c1 c2 : Nat) (w : World) (hc : w.cell? ⟨c1, 0, none⟩ = some (.func (.func 72) #[] #[])) (h0 : w.cell? ⟨c2, 0, none⟩ = some (.string u.name)) (h1 : w.cell? ⟨c2, 1, none⟩ = some (.string u.text)) (hl1 : c1 < w.heap.size) (hl2 : c2 < w.heap.size) :
    Calls Try.prog 82 #[.agg #[.string t.name, .string t.text], .pointer (some ⟨c1, 0, none⟩), .pointer (some ⟨c2, 0, none⟩)] w fun e w' => ∃ b : Bool, e = .returned (.bool b) ∧ (b = true ↔ t.name = u.name) ∧ Below w.heap.size w w' := by
  obtain ⟨a1, a2⟩ := t
  obtain ⟨b1, b2⟩ := u
  simp only at h0 h1
  have hbo := (Below.refl w.heap.size w).alloc (Nat.le_refl _) (.cells #[.string a1, .string a2] 71)
  have P : UF w a1 a2 b1 b2 w.heap.size c1 c2 (w.alloc (.cells #[.string a1, .string a2] 71)) :=
    ⟨hbo, by simp [go_sem], by simp [go_sem], (hb_cell hbo hl1).trans hc, (hb_cell hbo hl2).trans h0, (hb_cell hbo hl2).trans h1, by simp, by simp; omega, by simp; omega⟩
  clear hbo h0 h1 hc hl1 hl2
  go_enter Try.func82, Try.ntmps82
  go_wp2_with fail
  generalize w.alloc (.cells #[.string a1, .string a2] 71) = X at P ⊢
  generalize w.heap.size = g at P ⊢
  have PD := P.drew
  clear P
  have d0 := PD.k0
  have d1 := PD.k1
  have d2 := PD.k2
  have d3 := PD.k3
  have d4 := PD.k4
  refine wp_region_held_drew (S := (fun w' : World => w'.cell? ⟨g, 0, none⟩ = some (.string a1) ∧ w'.cell? ⟨g, 1, none⟩ = some (.string a2) ∧ w'.cell? ⟨c1, 0, none⟩ = some (.func (.func 72) #[] #[]) ∧ w'.cell? ⟨c2, 0, none⟩ = some (.string b1) ∧ w'.cell? ⟨c2, 1, none⟩ = some (.string b2))) (by kernel_rfl) ⟨d0, d1, d2, d3, d4⟩ (fun hHeld => ?_)
  refine wpAnyH_take (i := 0) (oi := { dst := some 5, op := Op.load 104 (Operand.tmp 1), type := 104, pos := "l4_check.go:254", after := #[], guard := none }) (v := ?_) rfl (by kernel_rfl) (by kernel_rfl) (by kernel_rfl) (fun _ _ _ h => h) (Or.inl ⟨by rfl, ?_⟩) (by assumption) ?_
  rotate_left
  · intro w hSw
    (try dsimp only at hSw); go_simp; with_reducible rfl
  (try simp only [Act.put, List.setIfInBounds_toArray, List.set_cons_zero, List.set_cons_succ])
  refine wpAnyH_take (i := 1) (oi := { dst := some 6, op := Op.load 71 (Operand.tmp 3), type := 71, pos := "l4_check.go:254", after := #[], guard := none }) (v := ?_) rfl (by kernel_rfl) (by kernel_rfl) (by kernel_rfl) (fun _ _ _ h => h) (Or.inl ⟨by rfl, ?_⟩) (by assumption) ?_
  rotate_left
  · intro w hSw
    (try dsimp only at hSw); go_simp; with_reducible rfl
  (try simp only [Act.put, List.setIfInBounds_toArray, List.set_cons_zero, List.set_cons_succ])
  refine wpAnyH_take (i := 3) (oi := { dst := some 8, op := Op.load 104 (Operand.tmp 1), type := 104, pos := "l4_check.go:254", after := #[], guard := none }) (v := ?_) rfl (by kernel_rfl) (by kernel_rfl) (by kernel_rfl) (fun _ _ _ h => h) (Or.inl ⟨by rfl, ?_⟩) (by assumption) ?_
  rotate_left
  · intro w hSw
    (try dsimp only at hSw); go_simp; with_reducible rfl
  (try simp only [Act.put, List.setIfInBounds_toArray, List.set_cons_zero, List.set_cons_succ])
  refine wpAnyH_take (i := 4) (oi := { dst := some 9, op := Op.load 71 (Operand.tmp 2), type := 71, pos := "l4_check.go:254", after := #[], guard := none }) (v := ?_) rfl (by kernel_rfl) (by kernel_rfl) (by kernel_rfl) (fun _ _ _ h => h) (Or.inl ⟨by rfl, ?_⟩) (by assumption) ?_
  rotate_left
  · intro w hSw
    (try dsimp only at hSw); go_simp; with_reducible rfl
  (try simp only [Act.put, List.setIfInBounds_toArray, List.set_cons_zero, List.set_cons_succ])
  refine wpAnyH_ready (rs := [2]) (by kernel_rfl) (by simp) ?_
  refine AllReadyH.cons rfl (fun K hK => ?_) ?_
  · go_simp
    refine (fileName_any _ _ _).mono ?_
    rintro e w8 ⟨rfl, hb8⟩
    have P8 := PD.keep hb8
    refine hK.out _ _ ⟨P8.k0, P8.k1, P8.k2, P8.k3, P8.k4⟩ (fun hHeld => ?_)
    clear hK K d0 d1 d2 d3 d4 hb8 PD
    refine wpAnyH_ready (rs := [5]) (by kernel_rfl) (by simp) ?_
    refine AllReadyH.cons rfl (fun K hK => ?_) AllReadyH.nil
    go_simp
    refine (fileName_any _ _ _).mono ?_
    rintro e w9 ⟨rfl, hb9⟩
    have P9 := P8.keep hb9
    refine hK.out _ _ ⟨P9.k0, P9.k1, P9.k2, P9.k3, P9.k4⟩ (fun hHeld => ?_)
    clear hK K hb9 P8
    refine wpAnyH_ready (rs := [6]) (by kernel_rfl) (by simp) ?_
    refine AllReadyH.cons rfl (fun K hK => ?_) AllReadyH.nil
    go_simp
    refine hK.out _ _ ⟨P9.k0, P9.k1, P9.k2, P9.k3, P9.k4⟩ (fun hHeld => ?_)
    clear hK K
    refine wpAnyH_ready (rs := [7]) (by kernel_rfl) (by simp) ?_
    refine AllReadyH.cons rfl (fun K hK => ?_) AllReadyH.nil
    go_simp
    refine hK.out _ _ ⟨P9.k0, P9.k1, P9.k2, P9.k3, P9.k4⟩ (fun hHeld => ?_)
    clear hK K
    refine wpAnyH_done (by kernel_rfl) ?_ _
    have HB := hid P9.b
    clear P9
    go_wp2
    go_ret
    refine ⟨_, rfl, ?_, HB.out⟩
    rw [beq_iff_eq, ByteArray.toList_eq, ByteArray.toList_eq]
    exact ⟨fun h => by cases a1; cases b1; simp only [Array.toList_inj] at h; rw [h], fun h => by rw [h]⟩
  exact AllReadyH.nil

/-- no two files of one name -/
def UnlikeP (ts : List MFile) : Prop := ∀ i (hi : i < ts.length) j (hj : j < i), ¬ (ts[j]'(by omega)).name = ts[i].name
theorem unlikeFile_any (v : Value) (ts : List MFile) (B : Nat) (w : World) (hl : ts.length ≤ 1048576) (ho : w.ownsRow B 71 2 v ts.length (rowFile ts)) :
    Calls Try.prog 71 #[v, .func (.func 72) #[] #[]] w fun e w' => ∃ b : Bool, e = .returned (.bool b) ∧ (b = true ↔ UnlikeP ts) ∧ Below w.heap.size w w' := by
  obtain ⟨ao, cap, hv⟩ := own_len ho
  subst hv
  have hbo := (Below.refl w.heap.size w).alloc (Nat.le_refl _) (.cells #[.func (.func 72) #[] #[]] 104)
  have HO := hid (own_below ho hbo)
  have HS := hid hbo
  have HC := hid (show (w.alloc (.cells #[.func (.func 72) #[] #[]] 104)).cell? ⟨w.heap.size, 0, none⟩ = some (.func (.func 72) #[] #[]) by simp [go_sem])
  have hmf : ∀ (fn : Fn) (first cap : Array Value) (w : World), (Instr.makeFunc fn first cap).run Try.prog w = .ok (.func fn first cap) w := fun _ _ _ _ => rfl
  clear ho hbo
  go_enter Try.func71, Try.ntmps71
  go_wp2_with fail
  generalize hX : w.alloc (.cells #[.func (.func 72) #[] #[]] 104) = X at HO HS HC ⊢
  have HX := hid (show w.heap.size < X.heap.size by rw [← hX]; simp)
  clear hX
  go_loopw [9] (fun i wr => ∃ (k : Nat), k ≤ ts.length ∧ i = .int .i64 k ∧ Hid (∀ i (hi : i < ts.length) j (hj : j < i), i < k → ¬ (ts[j]'(by omega)).name = ts[i].name) ∧ Hid (Below X.heap.size X wr)) (fun i _ => ts.length - (intOf i).toNat)
  case atStart => exact ⟨0, by omega, rfl, fun i hi j hj h => by omega, Below.refl _ _⟩
  case round =>
    obtain ⟨k, hk, rfl, HE, HB⟩ := hrel
    by_cases hlt : k < ts.length
    · obtain ⟨g, hg⟩ := own_some HO.out (by omega)
      subst hg
      obtain ⟨c0, c1⟩ := ownFile_at (own_below HO.out HB.out) hlt
      have hcap : ts.length ≤ cap ∧ cap ≤ maxLen := by
        obtain ⟨_, h2 | ⟨g', c', cur, he, hb, hh, hn, hm, hs, ht⟩⟩ := HO.out
        · exact absurd h2.1 (by simp)
        · have : cap = c' := by simp at he; exact he.2
          omega
      unfold maxLen at hcap
      have hgl := ((own_below HO.out HB.out).lt g rfl).2
      generalize hT : ts[k] = t at c0 c1
      have hY := (Below.refl wr.heap.size wr).alloc (Nat.le_refl _) (.cells #[.string t.name, .string t.text] 71)
      have hlen : (ts.take k).length = k := by rw [List.length_take]; omega
      have hC := containsFileK_any (.pointer (some ⟨w.heap.size, 0, none⟩)) (.pointer (some ⟨wr.heap.size, 0, none⟩)) (.slice (some ⟨g, 0, none⟩) k cap) (ts.take k) B (fun j => decide (ts[j]?.map MFile.name = some t.name)) _ (by omega) (ownFile_take (own_below (own_below HO.out HB.out) hY) k (by omega)) (fun j h W hW => by
        have hz := hW.size
        simp at hz
        have hx := HX.out
        have hy := HB.out.size
        refine (likeFile_any (ts.take k)[j] t w.heap.size wr.heap.size W ((hb_cell hW (by simp; omega)).trans ((hb_cell hY (by omega)).trans ((hb_cell HB.out hx).trans HC.out))) ((hb_cell hW (by simp)).trans (by simp [go_sem])) ((hb_cell hW (by simp)).trans (by simp [go_sem])) (by omega) (by omega)).mono ?_
        rintro e w' ⟨b, rfl, hb, hw'⟩
        refine ⟨ret_bool ?_, hw'⟩
        have hj : j < ts.length := by omega
        rw [Bool.eq_iff_iff, hb, decide_eq_true_iff, List.getElem?_eq_getElem hj]
        simp)
      have HY := hid hY
      clear hY
      go_wp2_with fail
      refine hC.mono ?_
      rintro e w1 ⟨b, rfl, hb, hb1⟩
      have HB1 := hid (HB.out.trans ((HY.out.trans (hb1.mono (by simp))).mono HB.out.size))
      have HR := hid hb
      have HT := hid hT
      clear hb hb1 hC HB hT
      cases b with
      | true =>
        have HN := hid (show ¬ UnlikeP ts from by
          obtain ⟨j, hj, hp⟩ := HR.out.1 rfl
          intro hu
          have hj' : j < ts.length := by omega
          rw [decide_eq_true_iff, List.getElem?_eq_getElem hj'] at hp
          refine hu k hlt j (by omega) ?_
          rw [HT.out]
          simpa using hp)
        have HZ := hid (HS.out.trans (HB1.out.mono HS.out.size))
        clear HB1 HR
        go_wp2
        go_ret
        exact ⟨false, rfl, ⟨fun h => (by cases h), fun h => absurd h HN.out⟩, HZ.out⟩
      | false =>
        have HN := hid (show ∀ i (hi : i < ts.length) j (hj : j < i), i < k + 1 → ¬ (ts[j]'(by omega)).name = ts[i].name from fun i hi j hj h => by
          by_cases e : i = k
          · subst e
            intro hh
            have hj' : j < ts.length := by omega
            have := HR.out.2 ⟨j, by omega, by rw [decide_eq_true_iff, List.getElem?_eq_getElem hj', ← HT.out]; simpa using hh⟩
            cases this
          · exact HE.out i hi j hj (by omega))
        clear HR
        go_wp2
        go_roundw
        case rel => exact ⟨k + 1, by omega, by go_num, HN, HB1⟩
        case measure => simp [intOf]; omega
    · have HN := hid (show UnlikeP ts from fun i hi j hj => HE.out i hi j hj (by omega))
      have HZ := hid (HS.out.trans (HB.out.mono HS.out.size))
      go_wp2
      go_ret
      exact ⟨true, rfl, ⟨fun _ => HN.out, fun _ => rfl⟩, HZ.out⟩

end Go.Proofs.Ytjhmjjechagbjaa
