/- Marks in methods: what stands while they are made. -/
import Derived.Test.YtnjfaikhiimdjaaMkFrameW
import Derived.Test.YtnjfaikhiimdjaaRfClassA
namespace Go.Proofs.Ytnjfaikhiimdjaa
open Go.RowKit
set_option maxHeartbeats 2000000
set_option maxRecDepth 20000
set_option linter.unusedVariables false

theorem setMethod6 (us : List SMethod) (k : Nat) (a0 a1 a2 a3 a4 : Int) (x : ByteArray) (h : k < us.length) :
    ((((((rowMethod us).set (k * 8) (.int .i64 a0)).set (k * 8 + 1) (.int .i64 a1)).set (k * 8 + 2) (.int .i64 a2)).set (k * 8 + 3) (.int .i64 a3)).set (k * 8 + 4) (.int .i64 a4)).set (k * 8 + 5) (.string x) = rowMethod (us.set k ⟨a0, a1, a2, a3, a4, x, us[k].traps, us[k].frames⟩) := by
  have e2 : us.set k ⟨a0, a1, a2, a3, a4, x, us[k].traps, us[k].frames⟩ = us.take k ++ ⟨a0, a1, a2, a3, a4, x, us[k].traps, us[k].frames⟩ :: us.drop (k + 1) := by rw [List.set_eq_take_append_cons_drop, if_pos h]
  have hl : (rowMethod (us.take k)).length = k * 8 := by rw [rowMethod_len, List.length_take]; omega
  have e1 : rowMethod us = rowMethod (us.take k) ++ (.int .i64 us[k].flags :: .int .i64 us[k].name :: .int .i64 us[k].desc :: .int .i64 us[k].deep :: .int .i64 us[k].locals :: .string us[k].code :: us[k].traps :: us[k].frames :: rowMethod (us.drop (k + 1))) := rowMethod_at us k h
  rw [e2, e1, List.set_append_right _ _ (by omega), hl, Nat.sub_self, List.set_cons_zero, List.set_append_right _ _ (by omega), hl, show k * 8 + 1 - k * 8 = 1 by omega, List.set_cons_succ, List.set_cons_zero, List.set_append_right _ _ (by omega), hl, show k * 8 + 2 - k * 8 = 2 by omega, List.set_cons_succ, List.set_cons_succ, List.set_cons_zero, List.set_append_right _ _ (by omega), hl, show k * 8 + 3 - k * 8 = 3 by omega, List.set_cons_succ, List.set_cons_succ, List.set_cons_succ, List.set_cons_zero, List.set_append_right _ _ (by omega), hl, show k * 8 + 4 - k * 8 = 4 by omega, List.set_cons_succ, List.set_cons_succ, List.set_cons_succ, List.set_cons_succ, List.set_cons_zero, List.set_append_right _ _ (by omega), hl, show k * 8 + 5 - k * 8 = 5 by omega, List.set_cons_succ, List.set_cons_succ, List.set_cons_succ, List.set_cons_succ, List.set_cons_succ, List.set_cons_zero]
  unfold rowMethod
  rw [List.flatMap_append, List.flatMap_cons]; rfl

def nF (fs : List MFrame) : Nat := (fs.map cF).sum
theorem kF_all (k : Nat) (fs : List MFrame) : kF k fs fs.length = k + nF fs := by unfold kF nF; rw [List.take_length]
def cM (m : MMethod) : Nat := 6 + m.traps.length * 4 + nF m.frames
def kM (k : Nat) (ms : List MMethod) (j : Nat) : Nat := k + ((ms.take j).map cM).sum
theorem kM_zero (k : Nat) (ms : List MMethod) : kM k ms 0 = k := by simp [kM]
theorem kM_succ (k : Nat) (ms : List MMethod) (j : Nat) (h : j < ms.length) : kM k ms (j + 1) = kM k ms j + cM ms[j] := by
  unfold kM
  have e : ms.take (j + 1) = ms.take j ++ [ms[j]] := by rw [List.take_add_one, List.getElem?_eq_getElem h]; rfl
  rw [e, List.map_append, List.sum_append]
  simp only [List.map_cons, List.map_nil, List.sum_cons, List.sum_nil]
  omega
def shortM (m : MMethod) : Prop := m.traps.length ≤ 3 ∧ m.frames.length ≤ 8 ∧ ∀ f ∈ m.frames, shortF f
theorem nF_le (fs : List MFrame) (hn : fs.length ≤ 8) (hs : ∀ f ∈ fs, shortF f) : nF fs ≤ 264 := by
  have := kF_le 0 fs hs fs.length (Nat.le_refl _)
  rw [kF_all] at this
  omega
theorem kM_le (k : Nat) (ms : List MMethod) (hs : ∀ m ∈ ms, shortM m) (j : Nat) (h : j ≤ ms.length) : kM k ms j ≤ k + 282 * j := by
  induction j with
  | zero => rw [kM_zero]; omega
  | succ j ih =>
    rw [kM_succ k ms j (by omega)]
    have := ih (by omega)
    obtain ⟨h1, h2, h3⟩ := hs ms[j] (List.getElem_mem _)
    have := nF_le _ h2 h3
    unfold cM
    omega

theorem FM.kind {W : World} {B : Nat} {v : Value} {fs : List MFrame} {us : List SFrame} {k i : Nat} (h : FM W B v fs us k i) : ∀ x ∈ kb us, ∃ n xs, W.ownsRow B 144 2 x n xs := by
  intro x hx
  obtain ⟨y, hy, hm⟩ := List.mem_flatMap.1 hx
  obtain ⟨j, hj, rfl⟩ := List.getElem_of_mem hy
  have hl := h.len
  simp at hm
  rcases hm with rfl | rfl
  · obtain ⟨xs, q, _⟩ := h.l j hj (by omega)
    exact ⟨_, xs, q⟩
  · obtain ⟨xs, q, _⟩ := h.s j hj (by omega)
    exact ⟨_, xs, q⟩
/-- frames are kept where only a row of another type turns -/
theorem FM.other {W W' : World} {B B' : Nat} {v u : Value} {fs : List MFrame} {us : List SFrame} {k i : Nat} {e : TypeId} {z n : Nat} {xs : List Value} (h : FM W B v fs us k i) (hm : Mod [u] W W') (hu : W.ownsRow B' e z u n xs) (h1 : 123 ≠ e) (h2 : 144 ≠ e) : FM W' B v fs us k i :=
  h.mod hm (fun a ha q hq => by simp at ha; subst ha; exact own_types h.row hu h1 q hq) (fun x hx a ha q hq => by
    simp at ha; subst ha
    obtain ⟨n', xs', ho⟩ := h.kind x hx
    exact own_types ho hu h2 q hq)
theorem Mod.other {W W' : World} {B B' : Nat} {v u : Value} {e e' : TypeId} {z n z' n' : Nat} {xs xs' : List Value} (hm : Mod [u] W W') (h : W.ownsRow B e z v n xs) (hu : W.ownsRow B' e' z' u n' xs') (hne : e ≠ e') : W'.ownsRow B e z v n xs := hm.own h (fun a ha q hq => by simp at ha; subst ha; exact own_types h hu hne q hq)
/-- a row of another type is kept where frames are marked -/
theorem Mod.frames {W W' : World} {B B' : Nat} {v vf : Value} {e : TypeId} {z n : Nat} {xs : List Value} {fs : List MFrame} {us : List SFrame} {k i : Nat} (hm : Mod (vf :: kb us) W W') (h : W.ownsRow B e z v n xs) (hf : FM W B' vf fs us k i) (h1 : e ≠ 123) (h2 : e ≠ 144) : W'.ownsRow B e z v n xs := hm.own h (fun a ha q hq => by
  rcases List.mem_cons.1 ha with rfl | ha
  · exact own_types h hf.row h1 q hq
  · obtain ⟨n', xs', ho⟩ := hf.kind a ha
    exact own_types h ho h2 q hq)
theorem ak_ne {ys : List (List SFrame)} (h : Apart (ys.flatMap kb)) {i j : Nat} (hi : i < ys.length) (hj : j < ys.length) (hij : i ≠ j) : ∀ x ∈ kb ys[j], ∀ u ∈ kb ys[i], ∀ q, x.ownBlock = some q → u.ownBlock ≠ some q := by
  intro x hx u hu q h1 h2
  have hp := (List.pairwise_flatMap.1 h).2
  rcases Nat.lt_or_gt_of_ne hij with hl | hl
  · have := List.pairwise_iff_getElem.1 hp i j hi hj hl u hu x hx q q h2 h1
    omega
  · have := List.pairwise_iff_getElem.1 hp j i hj hi hl x hx u hu q q h1 h2
    omega

/-- methods of which the first i are marked, from k on -/
structure MK (W : World) (B : Nat) (v : Value) (ms : List MMethod) (us : List SMethod) (ys : List (List SFrame)) (k i : Nat) : Prop where
  len : us.length = ms.length
  len2 : ys.length = ms.length
  row : W.ownsRow B 83 8 v ms.length (rowMethod us)
  hd : ∀ j (h : j < us.length), j < i → us[j] = ⟨kM k ms j, kM k ms j + 1, kM k ms j + 2, kM k ms j + 3, kM k ms j + 4, mt (kM k ms j + 5), us[j].traps, us[j].frames⟩
  tr : ∀ j (h : j < us.length) (h' : j < ms.length), ∃ xs, W.ownsRow B 120 4 us[j].traps ms[j].traps.length xs ∧ (j < i → xs = cnt (kM k ms j + 6) (ms[j].traps.length * 4))
  fm : ∀ j (h : j < us.length) (h' : j < ms.length) (h'' : j < ys.length), ∃ p, FM W B us[j].frames ms[j].frames ys[j] (kM k ms j + 6 + ms[j].traps.length * 4) p ∧ (j < i → p = ms[j].frames.length) ∧ (¬ j < i → p = 0)
  at_ : Apart (us.map SMethod.traps)
  af : Apart (us.map SMethod.frames)
  ak : Apart (ys.flatMap kb)
theorem MA.mk0 {W : World} {B : Nat} {v : Value} {ms : List MMethod} {us : List SMethod} {ys : List (List SFrame)} (h : MA W B v ms us ys) (k : Nat) : MK W B v ms us ys k 0 :=
  ⟨h.len, h.len2, h.row, fun j _ hj => absurd hj (by omega), fun j h1 h2 => ⟨_, h.tr j h2 h1, fun hj => absurd hj (by omega)⟩, fun j h1 h2 h3 => ⟨0, (h.fx j h2 h1 h3).fm ((List.pairwise_flatMap.1 h.ak).1 _ (List.getElem_mem h3)) _, fun hj => absurd hj (by omega), fun _ => rfl⟩, h.at_, h.af, h.ak⟩
theorem map_set_same {α β : Type} (f : α → β) (us : List α) (i : Nat) (x : α) (hi : i < us.length) (hx : f x = f us[i]) : (us.set i x).map f = us.map f := by
  rw [List.map_set, hx]
  apply List.ext_getElem
  · simp
  · intro j h1 h2
    rw [List.getElem_set]
    split
    · rename_i e; subst e; simp
    · rfl
theorem flat_set_same (ys : List (List SFrame)) (i : Nat) (y : List SFrame) (hi : i < ys.length) (hy : kb y = kb ys[i]) : (ys.set i y).flatMap kb = ys.flatMap kb := by
  rw [List.flatMap_def, List.flatMap_def, map_set_same kb ys i y hi hy]
/-- behind the marks of one method more -/
theorem MK.next {W W1 W2 W3 : World} {B : Nat} {v : Value} {ms : List MMethod} {us : List SMethod} {ys : List (List SFrame)} {k i : Nat} {y : List SFrame} {x : SMethod} (h : MK W B v ms us ys k i) (hi : i < us.length) (hi' : i < ms.length) (hi2 : i < ys.length)
    (hx : x = ⟨kM k ms i, kM k ms i + 1, kM k ms i + 2, kM k ms i + 3, kM k ms i + 4, mt (kM k ms i + 5), us[i].traps, us[i].frames⟩)
    (r1 : W1.ownsRow B 83 8 v ms.length (rowMethod (us.set i x))) (g1 : Mod [v] W W1)
    (o2 : W2.ownsRow B 120 4 us[i].traps ms[i].traps.length (cnt (kM k ms i + 6) (ms[i].traps.length * 4))) (g2 : Mod [us[i].traps] W1 W2)
    (f3 : FM W3 B us[i].frames ms[i].frames y (kM k ms i + 6 + ms[i].traps.length * 4) ms[i].frames.length) (hy : kb y = kb ys[i]) (g3 : Mod (us[i].frames :: kb ys[i]) W2 W3) :
    MK W3 B v ms (us.set i x) (ys.set i y) k (i + 1) ∧ Mod (v :: (us.map SMethod.traps ++ (us.map SMethod.frames ++ ys.flatMap kb))) W W3 := by
  have hl := h.len
  have hl2 := h.len2
  obtain ⟨tz, ht, _⟩ := h.tr i hi hi'
  have ht1 := g1.other ht h.row (by decide)
  obtain ⟨p0, hf, _, _⟩ := h.fm i hi hi' hi2
  have hf1 := hf.other g1 h.row (by decide) (by decide)
  have hf2 := hf1.other g2 ht1 (by decide) (by decide)
  have r2 := g2.other r1 ht1 (by decide)
  have r3 := Mod.frames g3 r2 hf2 (by decide) (by decide)
  have o3 := Mod.frames g3 o2 hf2 (by decide) (by decide)
  have ex1 : x.traps = us[i].traps := by rw [hx]
  have ex2 : x.frames = us[i].frames := by rw [hx]
  refine ⟨⟨by simp [hl], by simp [hl2], r3, fun j hj hji => ?_, fun j hj hj' => ?_, fun j hj hj' hj'' => ?_, by rw [map_set_same _ us i x hi ex1]; exact h.at_, by rw [map_set_same _ us i x hi ex2]; exact h.af, by rw [flat_set_same ys i y hi2 hy]; exact h.ak⟩, ?_⟩
  · have hj2 : j < us.length := by simpa using hj
    rw [List.getElem_set]
    split
    · rename_i e; subst e
      rw [hx]
    · exact h.hd j hj2 (by omega)
  · have hj2 : j < us.length := by simpa using hj
    by_cases e : i = j
    · subst e
      exact ⟨_, by simpa [List.getElem_set, ex1] using o3, fun _ => rfl⟩
    · obtain ⟨xs, q1, q2⟩ := h.tr j hj2 hj'
      refine ⟨xs, ?_, fun hji => q2 (by omega)⟩
      have a1 := g1.other q1 h.row (by decide)
      have a2 := g2.own a1 (fun u hu q hq => by
        simp at hu; subst hu
        have := h.at_.ne (i := j) (j := i) (by simpa using hj2) (by simpa using hi) (fun e2 => e e2.symm) q (by simpa using hq)
        simpa using this)
      have a3 := Mod.frames g3 a2 hf2 (by decide) (by decide)
      simpa [List.getElem_set, e] using a3
  · have hj2 : j < us.length := by simpa using hj
    have hj3 : j < ys.length := by simpa using hj''
    by_cases e : i = j
    · subst e
      exact ⟨_, by simpa [List.getElem_set, ex2] using f3, fun _ => rfl, fun hn => absurd (by omega) hn⟩
    · obtain ⟨p, q1, q2, q3⟩ := h.fm j hj2 hj' hj3
      refine ⟨p, ?_, fun hji => q2 (by omega), fun hji => q3 (by omega)⟩
      have a1 := q1.other g1 h.row (by decide) (by decide)
      have a2 := a1.other g2 ht1 (by decide) (by decide)
      have a3 := a2.mod g3 (fun u hu q hq => by
        rcases List.mem_cons.1 hu with rfl | hu
        · have := h.af.ne (i := j) (j := i) (by simpa using hj2) (by simpa using hi) (fun e2 => e e2.symm) q (by simpa using hq)
          simpa using this
        · obtain ⟨n', xs', ho⟩ := hf2.kind u hu
          exact own_types a2.row ho (by decide) q hq) (fun z hz u hu q hq => by
        rcases List.mem_cons.1 hu with rfl | hu
        · obtain ⟨n', xs', ho⟩ := a2.kind z hz
          exact own_types ho hf2.row (by decide) q hq
        · exact ak_ne h.ak hi2 hj3 e z hz u hu q hq)
      simpa [List.getElem_set, e] using a3
  · refine ((g1.mono ?_).trans (g2.mono ?_)).trans (g3.mono ?_)
    · intro u hu; simp at hu; subst hu; simp
    · intro u hu; simp at hu; subst hu
      exact List.mem_cons_of_mem _ (List.mem_append_left _ (List.mem_map.2 ⟨us[i], List.getElem_mem _, rfl⟩))
    · intro u hu
      refine List.mem_cons_of_mem _ (List.mem_append_right _ ?_)
      rcases List.mem_cons.1 hu with rfl | hu
      · exact List.mem_append_left _ (List.mem_map.2 ⟨us[i], List.getElem_mem _, rfl⟩)
      · exact List.mem_append_right _ (List.mem_flatMap.2 ⟨ys[i], List.getElem_mem _, hu⟩)

end Go.Proofs.Ytnjfaikhiimdjaa
