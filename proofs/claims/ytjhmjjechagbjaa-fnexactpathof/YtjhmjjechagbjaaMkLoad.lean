/- Marks in a list of loaders: each cell is turned into one of its kind, in blocks of the list's own alone. -/
import Derived.Test.YtjhmjjechagbjaaMkLike
import Derived.Test.YtjhmjjechagbjaaMkText
import Derived.Test.YtjhmjjechagbjaaRowLoaders
namespace Go.Proofs.Ytjhmjjechagbjaa
open Go.RowKit
set_option maxHeartbeats 2000000
set_option maxRecDepth 20000
set_option linter.unusedVariables false

theorem markFileS_weak (v : Value) (n k0 B H : Nat) (w : World) (hn : n ≤ 1048576) (h0 : 0 < k0) (hk : k0 ≤ 1000000000000000) (hB : B ≤ H) (h : RowTwo w B H v n isS isS) :
    Calls Try.prog 26 #[v, .int .i64 (k0 : Int)] w fun e w' => ∃ k : Nat, e = .returned (.int .i64 (k : Int)) ∧ k0 ≤ k ∧ k ≤ k0 + 2 * n ∧ Chg B H w w' := by
  obtain ⟨ao, cc, rfl, hrow⟩ := id h
  have HR := hid h
  clear h
  go_enter Try.func26, Try.ntmps26
  go_wp2_with fail
  go_loopw [1, 5] (fun kv i wr => ∃ (j a : Nat), j ≤ n ∧ i = .int .i64 j ∧ kv = .int .i64 (a : Int) ∧ k0 ≤ a ∧ a ≤ k0 + 2 * j ∧ Hid (Chg B H w wr)) (fun _ i _ => n - (intOf i).toNat)
  case atStart => exact ⟨0, k0, by omega, rfl, rfl, by omega, by omega, Chg.refl _ _ _⟩
  case round =>
    obtain ⟨j, a, hj, rfl, rfl, ha0, ha1, HC⟩ := hrel
    by_cases hlt : j < n
    · rcases hrow with h0' | ⟨g, rfl, hg1, hg2, hcells⟩
      · omega
      · have c0 := ((hcells j hlt).1.chg HC.out isS_like)
        have c1 := ((hcells j hlt).2.chg HC.out isS_like)
        clear hcells
        have hT := fun (k : Nat) (W : World) (hk : 0 < k) (hk2 : k ≤ 4611686018427387904) => markText_any k W hk hk2
        go_wp2_with fail
        refine (hT a _ (by omega) (by omega)).mono ?_
        rintro e w1 ⟨rfl, hb1⟩
        have d0 := c0.chg (Chg.below (B := B) (H := H) hb1) isS_like
        have d1 := c1.chg (Chg.below (B := B) (H := H) hb1) isS_like
        have C1 := HC.out.trans (Chg.below hb1)
        have S1 := d0.set (B := B) (H := H) (.string (mt a)) (fun v hv => isS_to v hv) hg1 hg2
        obtain ⟨u0, _, p0, f0⟩ := d0.get
        have e1 := d1.chg S1 isS_like
        have HC1 := hid (C1.trans S1)
        have HE := hid e1
        clear c0 c1 d0 d1 C1 S1 e1 hb1
        go_wp2_with fail
        refine (hT (a + 1) _ (by omega) (by omega)).mono ?_
        rintro e w2 ⟨rfl, hb2⟩
        have q1 := HE.out.chg (Chg.below (B := B) (H := H) hb2) isS_like
        obtain ⟨u1, _, p1, f1⟩ := q1.get
        have HC2 := hid ((HC1.out.trans (Chg.below hb2)).trans (q1.set (B := B) (H := H) (.string (mt (a + 1))) (fun v hv => isS_to v hv) hg1 hg2))
        clear q1 HE HC1 hb2 p0 f0 hT
        go_wp2_with fail
        go_roundw
        case rel => exact ⟨j + 1, a + 1 + 1, by omega, by go_num, by go_num, by omega, by omega, HC2⟩
        case measure => simp [intOf]; omega
    · go_wp2_with fail
      go_ret
      exact ⟨a, rfl, by omega, by omega, HC.out⟩

theorem markWayS_weak (v : Value) (n k0 B H : Nat) (w : World) (hn : n ≤ 1048576) (h0 : 0 < k0) (hk : k0 ≤ 1000000000000000) (hB : B ≤ H) (h : RowTwo w B H v n isS isI) :
    Calls Try.prog 27 #[v, .int .i64 (k0 : Int)] w fun e w' => ∃ k : Nat, e = .returned (.int .i64 (k : Int)) ∧ k0 ≤ k ∧ k ≤ k0 + 2 * n ∧ Chg B H w w' := by
  obtain ⟨ao, cc, rfl, hrow⟩ := id h
  have HR := hid h
  clear h
  go_enter Try.func27, Try.ntmps27
  go_wp2_with fail
  go_loopw [1, 5] (fun kv i wr => ∃ (j a : Nat), j ≤ n ∧ i = .int .i64 j ∧ kv = .int .i64 (a : Int) ∧ k0 ≤ a ∧ a ≤ k0 + 2 * j ∧ Hid (Chg B H w wr)) (fun _ i _ => n - (intOf i).toNat)
  case atStart => exact ⟨0, k0, by omega, rfl, rfl, by omega, by omega, Chg.refl _ _ _⟩
  case round =>
    obtain ⟨j, a, hj, rfl, rfl, ha0, ha1, HC⟩ := hrel
    by_cases hlt : j < n
    · rcases hrow with h0' | ⟨g, rfl, hg1, hg2, hcells⟩
      · omega
      · have c0 := ((hcells j hlt).1.chg HC.out isS_like)
        have c1 := ((hcells j hlt).2.chg HC.out isI_like)
        clear hcells
        have hT := fun (k : Nat) (W : World) (hk : 0 < k) (hk2 : k ≤ 4611686018427387904) => markText_any k W hk hk2
        go_wp2_with fail
        refine (hT a _ (by omega) (by omega)).mono ?_
        rintro e w1 ⟨rfl, hb1⟩
        have d0 := c0.chg (Chg.below (B := B) (H := H) hb1) isS_like
        have d1 := c1.chg (Chg.below (B := B) (H := H) hb1) isI_like
        have C1 := HC.out.trans (Chg.below hb1)
        have S1 := d0.set (B := B) (H := H) (.string (mt a)) (fun v hv => isS_to v hv) hg1 hg2
        obtain ⟨u0, _, p0, f0⟩ := d0.get
        have e1 := d1.chg S1 isI_like
        have HC1 := hid (C1.trans S1)
        have HE := hid e1
        clear c0 c1 d0 d1 C1 S1 e1 hb1
        obtain ⟨u1, _, p1, f1⟩ := HE.out.get
        have HC2 := hid (HC1.out.trans (HE.out.set (B := B) (H := H) (.int .i64 ((a + 1 : Nat) : Int)) (fun v hv => isI_to v hv) hg1 hg2))
        clear HE HC1 hT
        go_wp2_with fail
        go_roundw
        case rel => exact ⟨j + 1, a + 1 + 1, by omega, by go_num, by go_num, by omega, by omega, HC2⟩
        case measure => simp [intOf]; omega
    · go_wp2_with fail
      go_ret
      exact ⟨a, rfl, by omega, by omega, HC.out⟩

/-- a list of loaders as far as its cells are of their kinds -/
structure LdRow (W : World) (B H g i : Nat) : Prop where
  f : ∃ vf nf, CellIs W g (i * 3) (fun v => v = vf) ∧ nf ≤ 1048576 ∧ RowTwo W B H vf nf isS isS
  y : ∃ vy ny, CellIs W g (i * 3 + 1) (fun v => v = vy) ∧ ny ≤ 1048576 ∧ RowTwo W B H vy ny isS isI
  p : CellIs W g (i * 3 + 2) isI
theorem LdRow.chg {B H : Nat} {W W' : World} {g i : Nat} (h : LdRow W B H g i) {b k : Nat} (c : Chg b k W W') : LdRow W' B H g i := by
  obtain ⟨⟨vf, nf, h1, h2, h3⟩, ⟨vy, ny, h4, h5, h6⟩, h7⟩ := h
  have e1 := h3
  have e2 := h6
  obtain ⟨a1, c1, rfl, _⟩ := e1
  obtain ⟨a2, c2, rfl, _⟩ := e2
  exact ⟨⟨_, nf, h1.chg c (slice_like _ _ _), h2, h3.chg c isS_like isS_like⟩, ⟨_, ny, h4.chg c (slice_like _ _ _), h5, h6.chg c isS_like isI_like⟩, h7.chg c isI_like⟩
def LdRows (W : World) (B H : Nat) (v : Value) (n : Nat) : Prop := ∃ ao c, v = .slice ao n c ∧ (n = 0 ∨ ∃ g, ao = some ⟨g, 0, none⟩ ∧ B ≤ g ∧ g < H ∧ ∀ i, i < n → LdRow W B H g i)

theorem markLoaderS_weak (v : Value) (n k0 B H : Nat) (w : World) (hn : n ≤ 1048576) (h0 : 0 < k0) (hk : k0 ≤ 1000) (hB : B ≤ H) (h : LdRows w B H v n) :
    Calls Try.prog 12 #[v, .int .i64 (k0 : Int)] w fun e w' => ∃ k : Nat, e = .returned (.int .i64 (k : Int)) ∧ Chg B H w w' := by
  obtain ⟨ao, cc, rfl, hrow⟩ := id h
  clear h
  go_enter Try.func12, Try.ntmps12
  go_wp2_with fail
  go_loopw [1, 5] (fun kv i wr => ∃ (j a : Nat), j ≤ n ∧ i = .int .i64 j ∧ kv = .int .i64 (a : Int) ∧ k0 ≤ a ∧ a ≤ k0 + 4194305 * j ∧ Hid (Chg B H w wr)) (fun _ i _ => n - (intOf i).toNat)
  case atStart => exact ⟨0, k0, by omega, rfl, rfl, by omega, by omega, Chg.refl _ _ _⟩
  case round =>
    obtain ⟨j, a, hj, rfl, rfl, ha0, ha1, HC⟩ := hrel
    by_cases hlt : j < n
    · rcases hrow with h0' | ⟨g, rfl, hg1, hg2, hcells⟩
      · omega
      · have r0 := (hcells j hlt).chg HC.out
        clear hcells
        have HR0 := hid r0
        obtain ⟨⟨vf, nf, q1, q2, q3⟩, _, _⟩ := r0
        obtain ⟨u1, e1, p1, _⟩ := q1.get
        obtain ⟨a1, c1, hvf, _⟩ := id q3
        subst e1
        have hcall := markFileS_weak u1 nf a B H wr q2 (by omega) (by omega) hB q3
        subst hvf
        clear q1 q3
        go_wp2_with fail
        refine hcall.mono ?_
        rintro e w1 ⟨b, rfl, hb0, hb1, hc1⟩
        have HC1 := hid (HC.out.trans hc1)
        have r1 := HR0.out.chg hc1
        have HR1 := hid r1
        clear hcall hc1 HR0 p1
        obtain ⟨_, ⟨vy, ny, q4, q5, q6⟩, _⟩ := r1
        obtain ⟨u2, e2, p2, _⟩ := q4.get
        obtain ⟨a2, c2, hvy, _⟩ := id q6
        subst e2
        have hcall := markWayS_weak u2 ny b B H w1 q5 (by omega) (by omega) hB q6
        subst hvy
        clear q4 q6
        go_wp2_with fail
        refine hcall.mono ?_
        rintro e w2 ⟨d, rfl, hd0, hd1, hc2⟩
        have r2 := HR1.out.chg hc2
        obtain ⟨u3, _, p3, f3⟩ := r2.p.get
        have HC2 := hid ((HC1.out.trans hc2).trans (r2.p.set (B := B) (H := H) (.int .i64 (d : Int)) (fun v hv => isI_to v hv) hg1 hg2))
        clear hcall hc2 HR1 p2 r2 HC1
        go_wp2_with fail
        go_roundw
        case rel => exact ⟨j + 1, d + 1, by omega, by go_num, by go_num, by omega, by omega, HC2⟩
        case measure => simp [intOf]; omega
    · go_wp2_with fail
      go_ret
      exact ⟨a, rfl, HC.out⟩

theorem isS_file (ts : List MFile) (i : Nat) (hi : i < ts.length) : (∃ v, (rowFile ts)[i * 2]? = some v ∧ isS v) ∧ (∃ v, (rowFile ts)[i * 2 + 1]? = some v ∧ isS v) := by
  have hx : ∀ j, j < 2 → (rowFile ts)[i * 2 + j]? = (cellsFile ts[i])[j]? := by
    intro j hj
    rw [rowFile_at ts i hi, List.getElem?_append_right (by rw [rowFile_len, List.length_take]; omega), rowFile_len, List.length_take, show i * 2 + j - min i ts.length * 2 = j by omega, List.getElem?_append_left (by simp [cellsFile]; omega)]
  exact ⟨⟨_, hx 0 (by omega), _, rfl⟩, ⟨_, hx 1 (by omega), _, rfl⟩⟩
theorem isSI_way (ts : List MWay) (i : Nat) (hi : i < ts.length) : (∃ v, (rowWay ts)[i * 2]? = some v ∧ isS v) ∧ (∃ v, (rowWay ts)[i * 2 + 1]? = some v ∧ isI v) := by
  have hx : ∀ j, j < 2 → (rowWay ts)[i * 2 + j]? = (cellsWay ts[i])[j]? := by
    intro j hj
    rw [rowWay_at ts i hi, List.getElem?_append_right (by rw [rowWay_len, List.length_take]; omega), rowWay_len, List.length_take, show i * 2 + j - min i ts.length * 2 = j by omega, List.getElem?_append_left (by simp [cellsWay]; omega)]
  exact ⟨⟨_, hx 0 (by omega), _, rfl⟩, ⟨_, hx 1 (by omega), _, rfl⟩⟩
theorem rowTwo_own {W : World} {B z : Nat} {T : TypeId} {v : Value} {n : Nat} {xs : List Value} {P Q : Value → Prop} (h : W.ownsRow B T z v n xs) (hc : ∀ i, i < n → (∃ v, xs[i * 2]? = some v ∧ P v) ∧ (∃ v, xs[i * 2 + 1]? = some v ∧ Q v)) : RowTwo W B W.heap.size v n P Q := by
  obtain ⟨ao, cc, rfl⟩ := own_len h
  refine ⟨ao, cc, rfl, ?_⟩
  by_cases hz : n = 0
  · exact .inl hz
  · obtain ⟨g, rfl⟩ := own_some h (by omega)
    refine .inr ⟨g, rfl, (h.lt g rfl).1, (h.lt g rfl).2, fun i hi => ?_⟩
    obtain ⟨⟨x, hx, px⟩, ⟨y, hy, py⟩⟩ := hc i hi
    exact ⟨CellIs.own h hx px, CellIs.own h hy py⟩
theorem ldRows_of {W : World} {B : Nat} {v : Value} {fs : List MLoader} (h : LoadersW W B v fs) (hf : ∀ f ∈ fs, f.few) : LdRows W B W.heap.size v fs.length := by
  obtain ⟨xs, h1, h2, h3⟩ := h
  obtain ⟨ao, cc, rfl⟩ := own_len h2
  refine ⟨ao, cc, rfl, ?_⟩
  by_cases hz : fs.length = 0
  · exact .inl hz
  · obtain ⟨g, rfl⟩ := own_some h2 (by omega)
    refine .inr ⟨g, rfl, (h2.lt g rfl).1, (h2.lt g rfl).2, fun i hi => ?_⟩
    have hx : ∀ j, j < 3 → (rowLoader xs)[i * 3 + j]? = (cellsLoader (xs[i]'(by omega)))[j]? := by
      intro j hj
      rw [rowLoader_at xs i (by omega), List.getElem?_append_right (by rw [rowLoader_len, List.length_take]; omega), rowLoader_len, List.length_take, show i * 3 + j - min i xs.length * 3 = j by omega, List.getElem?_append_left (by simp [cellsLoader]; omega)]
    have hl := h3 i hi (by omega)
    have hfew := hf fs[i] (List.getElem_mem _)
    exact ⟨⟨_, _, CellIs.own h2 (hx 0 (by omega)) rfl, hfew.1.1, rowTwo_own hl.f (fun k hk => isS_file _ k hk)⟩, ⟨_, _, CellIs.own h2 (hx 1 (by omega)) rfl, hfew.2.1, rowTwo_own hl.y (fun k hk => isSI_way _ k hk)⟩, CellIs.own h2 (hx 2 (by omega)) ⟨_, rfl⟩⟩

end Go.Proofs.Ytjhmjjechagbjaa
