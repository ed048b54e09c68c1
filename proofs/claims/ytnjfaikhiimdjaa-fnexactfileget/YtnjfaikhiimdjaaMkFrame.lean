/- Contracts of the law's own helpers: marks in frames, and that they are held. -/
import Derived.Test.YtnjfaikhiimdjaaMkConst
import Derived.Test.YtnjfaikhiimdjaaRfMethod
namespace Go.Proofs.Ytnjfaikhiimdjaa
open Go.RowKit
set_option maxHeartbeats 2000000
set_option maxRecDepth 20000
set_option linter.unusedVariables false

/-- only rows of the list, and what is new, may have turned -/
structure Mod (S : List Value) (w w' : World) : Prop where
  os : w'.os = w.os
  tape : w'.tape = w.tape
  output : w'.output = w.output
  size : w.heap.size ≤ w'.heap.size
  block : ∀ k, k < w.heap.size → (∀ u ∈ S, u.ownBlock ≠ some k) → w'.heap[k]? = w.heap[k]?
theorem Mod.refl (S : List Value) (w : World) : Mod S w w := ⟨rfl, rfl, rfl, Nat.le_refl _, fun _ _ _ => rfl⟩
theorem Mod.grown {S : List Value} {w w' : World} {v : Value} (h : w.grownBy w' v.ownBlock) (hv : v ∈ S) : Mod S w w' := ⟨h.os, h.tape, h.output, h.size, fun k hk hn => h.block k hk (fun e => hn v hv e.symm)⟩
theorem Mod.below {S : List Value} {w w' : World} (h : Below w.heap.size w w') : Mod S w w' := ⟨h.os, h.tape, h.output, h.size, fun k hk _ => h.block k hk⟩
theorem Mod.trans {S : List Value} {w w1 w2 : World} (h : Mod S w w1) (k : Mod S w1 w2) : Mod S w w2 := ⟨k.os.trans h.os, k.tape.trans h.tape, k.output.trans h.output, Nat.le_trans h.size k.size, fun j hj hn => (k.block j (Nat.lt_of_lt_of_le hj h.size) hn).trans (h.block j hj hn)⟩
theorem Mod.mono {S S' : List Value} {w w' : World} (h : Mod S w w') (hs : ∀ u ∈ S, u ∈ S') : Mod S' w w' := ⟨h.os, h.tape, h.output, h.size, fun j hj hn => h.block j hj (fun u hu => hn u (hs u hu))⟩
theorem Mod.own {S : List Value} {w w' : World} {B : Nat} {e : TypeId} {z n : Nat} {v : Value} {xs : List Value} (h : Mod S w w') (ho : w.ownsRow B e z v n xs) (hn : ∀ u ∈ S, ∀ k, v.ownBlock = some k → u.ownBlock ≠ some k) : w'.ownsRow B e z v n xs := by
  refine ⟨ho.1, ?_⟩
  rcases ho.2 with hh | ⟨g, cap, cur, rfl, hg0, hgg, rest⟩
  · exact .inl hh
  · refine .inr ⟨g, cap, cur, rfl, hg0, ?_, rest⟩
    rw [h.block g (Array.getElem?_eq_some_iff.1 hgg).1 (fun u hu => hn u hu g rfl)]
    exact hgg
/-- rows of two types never share a block -/
theorem own_types {w : World} {B B' : Nat} {e e' : TypeId} {z z' n n' : Nat} {v v' : Value} {xs xs' : List Value} (h : w.ownsRow B e z v n xs) (h' : w.ownsRow B' e' z' v' n' xs') (hne : e ≠ e') : ∀ k, v.ownBlock = some k → v'.ownBlock ≠ some k := by
  intro k hk hk'
  rcases h.2 with ⟨rfl, _⟩ | ⟨g, cap, cur, rfl, _, hg1, _⟩
  · simp [Value.ownBlock] at hk
  · rcases h'.2 with ⟨rfl, _⟩ | ⟨g', cap', cur', rfl, _, hg2, _⟩
    · simp [Value.ownBlock] at hk'
    · simp only [Value.ownBlock, Option.some.injEq] at hk hk'
      subst hk
      subst hk'
      rw [hg1] at hg2
      simp only [Option.some.injEq, Obj.cells.injEq] at hg2
      exact hne hg2.2.1
theorem Apart.ne {vs : List Value} (h : Apart vs) {i j : Nat} (hi : i < vs.length) (hj : j < vs.length) (hij : i ≠ j) : ∀ k, vs[i].ownBlock = some k → vs[j].ownBlock ≠ some k := by
  intro k h1 h2
  rcases Nat.lt_or_gt_of_ne hij with hl | hl
  · have := List.pairwise_iff_getElem.1 h i j hi hj hl k k h1 h2
    omega
  · have := List.pairwise_iff_getElem.1 h j i hj hi hl k k h2 h1
    omega
theorem kb_len (us : List SFrame) : (kb us).length = us.length * 2 := by
  induction us with
  | nil => rfl
  | cons u us ih => simp [kb] at ih ⊢; omega
theorem kb_l (us : List SFrame) (j : Nat) (h : j < us.length) (h' : j * 2 < (kb us).length) : (kb us)[j * 2] = us[j].l := by
  induction us generalizing j with
  | nil => simp at h
  | cons u us ih =>
    cases j with
    | zero => simp [kb]
    | succ j =>
      have e : (j + 1) * 2 = j * 2 + 1 + 1 := by omega
      have := ih j (by simpa using h) (by rw [kb_len]; simp at h; omega)
      simp only [e, kb, List.flatMap_cons, List.cons_append, List.nil_append, List.getElem_cons_succ] at this ⊢
      exact this
theorem kb_s (us : List SFrame) (j : Nat) (h : j < us.length) (h' : j * 2 + 1 < (kb us).length) : (kb us)[j * 2 + 1] = us[j].s := by
  induction us generalizing j with
  | nil => simp at h
  | cons u us ih =>
    cases j with
    | zero => simp [kb]
    | succ j =>
      have e : (j + 1) * 2 + 1 = j * 2 + 1 + 1 + 1 := by omega
      have := ih j (by simpa using h) (by rw [kb_len]; simp at h; omega)
      simp only [e, kb, List.flatMap_cons, List.cons_append, List.nil_append, List.getElem_cons_succ] at this ⊢
      exact this
theorem kb_set (us : List SFrame) (j : Nat) (a : Int) (h : j < us.length) : kb (us.set j ⟨a, us[j].l, us[j].s⟩) = kb us := by
  induction us generalizing j with
  | nil => simp at h
  | cons u us ih =>
    cases j with
    | zero => simp [kb]
    | succ j =>
      have := ih j (by simpa using h)
      simp only [kb, List.set_cons_succ, List.flatMap_cons, List.getElem_cons_succ] at this ⊢
      rw [this]
theorem setFrame1 (us : List SFrame) (k : Nat) (a : Int) (h : k < us.length) : (rowFrame us).set (k * 3) (.int .i64 a) = rowFrame (us.set k ⟨a, us[k].l, us[k].s⟩) := by
  have e2 : us.set k ⟨a, us[k].l, us[k].s⟩ = us.take k ++ ⟨a, us[k].l, us[k].s⟩ :: us.drop (k + 1) := by rw [List.set_eq_take_append_cons_drop, if_pos h]
  have hl : (rowFrame (us.take k)).length = k * 3 := by rw [rowFrame_len, List.length_take]; omega
  have e1 : rowFrame us = rowFrame (us.take k) ++ (.int .i64 us[k].at_ :: us[k].l :: us[k].s :: rowFrame (us.drop (k + 1))) := rowFrame_at us k h
  rw [e2, e1, List.set_append_right _ _ (by omega), hl, Nat.sub_self, List.set_cons_zero]
  unfold rowFrame
  rw [List.flatMap_append, List.flatMap_cons]; rfl

/-- how many marks a frame takes, and where those of a place begin -/
def cF (f : MFrame) : Nat := 1 + f.locals.length * 2 + f.stack.length * 2
def kF (k : Nat) (fs : List MFrame) (j : Nat) : Nat := k + ((fs.take j).map cF).sum
theorem kF_zero (k : Nat) (fs : List MFrame) : kF k fs 0 = k := by simp [kF]
theorem kF_succ (k : Nat) (fs : List MFrame) (j : Nat) (h : j < fs.length) : kF k fs (j + 1) = kF k fs j + cF fs[j] := by
  unfold kF
  have e : fs.take (j + 1) = fs.take j ++ [fs[j]] := by rw [List.take_add_one, List.getElem?_eq_getElem h]; rfl
  rw [e, List.map_append, List.sum_append]
  simp only [List.map_cons, List.map_nil, List.sum_cons, List.sum_nil]
  omega
def shortF (f : MFrame) : Prop := f.locals.length ≤ 8 ∧ f.stack.length ≤ 8
theorem kF_le (k : Nat) (fs : List MFrame) (hs : ∀ f ∈ fs, shortF f) (j : Nat) (h : j ≤ fs.length) : kF k fs j ≤ k + 33 * j := by
  induction j with
  | zero => rw [kF_zero]; omega
  | succ j ih =>
    rw [kF_succ k fs j (by omega)]
    have := ih (by omega)
    have h1 := hs fs[j] (List.getElem_mem _)
    unfold shortF at h1
    unfold cF
    omega

/-- frames of which the first i are marked, from k on -/
structure FM (W : World) (B : Nat) (v : Value) (fs : List MFrame) (us : List SFrame) (k i : Nat) : Prop where
  len : us.length = fs.length
  row : W.ownsRow B 123 3 v fs.length (rowFrame us)
  at_ : ∀ j (h : j < us.length), j < i → us[j].at_ = kF k fs j
  l : ∀ j (h : j < us.length) (h' : j < fs.length), ∃ xs, W.ownsRow B 144 2 us[j].l fs[j].locals.length xs ∧ (j < i → xs = cnt (kF k fs j + 1) (fs[j].locals.length * 2))
  s : ∀ j (h : j < us.length) (h' : j < fs.length), ∃ xs, W.ownsRow B 144 2 us[j].s fs[j].stack.length xs ∧ (j < i → xs = cnt (kF k fs j + 1 + fs[j].locals.length * 2) (fs[j].stack.length * 2))
  ap : Apart (kb us)
theorem FX.fm {W : World} {B : Nat} {v : Value} {fs : List MFrame} {us : List SFrame} (h : FX W B v fs us) (ha : Apart (kb us)) (k : Nat) : FM W B v fs us k 0 :=
  ⟨h.len, h.row, fun j _ hj => absurd hj (by omega), fun j h1 h2 => ⟨_, (h.each j h2 h1).l, fun hj => absurd hj (by omega)⟩, fun j h1 h2 => ⟨_, (h.each j h2 h1).s, fun hj => absurd hj (by omega)⟩, ha⟩
theorem FM.mod {S : List Value} {W W' : World} {B : Nat} {v : Value} {fs : List MFrame} {us : List SFrame} {k i : Nat} (h : FM W B v fs us k i) (hm : Mod S W W') (h1 : ∀ u ∈ S, ∀ q, v.ownBlock = some q → u.ownBlock ≠ some q) (h2 : ∀ x ∈ kb us, ∀ u ∈ S, ∀ q, x.ownBlock = some q → u.ownBlock ≠ some q) : FM W' B v fs us k i :=
  ⟨h.len, hm.own h.row h1, h.at_, fun j a b => by
    obtain ⟨xs, q1, q2⟩ := h.l j a b
    exact ⟨xs, hm.own q1 (h2 _ (by rw [← kb_l us j a (by rw [kb_len]; omega)]; exact List.getElem_mem _)), q2⟩, fun j a b => by
    obtain ⟨xs, q1, q2⟩ := h.s j a b
    exact ⟨xs, hm.own q1 (h2 _ (by rw [← kb_s us j a (by rw [kb_len]; omega)]; exact List.getElem_mem _)), q2⟩, h.ap⟩
/-- a mark in the place of a frame -/
theorem FM.at1 {W : World} {B g n c : Nat} {fs : List MFrame} {us : List SFrame} {k i : Nat} (h : FM W B (.slice (some ⟨g, 0, none⟩) n c) fs us k i) (hn : n = fs.length) (hi : i < us.length) (a : Int) (ha : a = kF k fs i) :
    let W1 := W.setCell ⟨g, i * 3, none⟩ (.int .i64 a)
    W1.ownsRow B 123 3 (.slice (some ⟨g, 0, none⟩) n c) fs.length (rowFrame (us.set i ⟨a, us[i].l, us[i].s⟩)) ∧ W.grownBy W1 (some g) := by
  have h0 := h.row
  rw [← hn] at h0 ⊢
  have := h0.stored (i * 3) (.int .i64 a)
  rw [setFrame1 us i a hi] at this
  exact this
/-- behind the marks of one frame more -/
theorem FM.next {W W1 W2 W3 : World} {B g n c : Nat} {fs : List MFrame} {us : List SFrame} {k i : Nat} {a : Int} (h : FM W B (.slice (some ⟨g, 0, none⟩) n c) fs us k i) (hi : i < us.length) (hi' : i < fs.length) (ha : a = kF k fs i)
    (r1 : W1.ownsRow B 123 3 (.slice (some ⟨g, 0, none⟩) n c) fs.length (rowFrame (us.set i ⟨a, us[i].l, us[i].s⟩))) (g1 : W.grownBy W1 (some g))
    (o2 : W2.ownsRow B 144 2 us[i].l fs[i].locals.length (cnt (kF k fs i + 1) (fs[i].locals.length * 2))) (g2 : W1.grownBy W2 us[i].l.ownBlock)
    (o3 : W3.ownsRow B 144 2 us[i].s fs[i].stack.length (cnt (kF k fs i + 1 + fs[i].locals.length * 2) (fs[i].stack.length * 2))) (g3 : W2.grownBy W3 us[i].s.ownBlock) :
    FM W3 B (.slice (some ⟨g, 0, none⟩) n c) fs (us.set i ⟨a, us[i].l, us[i].s⟩) k (i + 1) ∧ Mod (.slice (some ⟨g, 0, none⟩) n c :: kb us) W W3 := by
  have hl := h.len
  have m1 : Mod [.slice (some ⟨g, 0, none⟩) n c] W W1 := Mod.grown (v := .slice (some ⟨g, 0, none⟩) n c) g1 (by simp)
  have m2 : Mod [us[i].l] W1 W2 := Mod.grown g2 (by simp)
  have m3 : Mod [us[i].s] W2 W3 := Mod.grown g3 (by simp)
  have tl : ∀ j (hj : j < us.length), ∃ xs, W.ownsRow B 144 2 us[j].l fs[j].locals.length xs := fun j hj => (h.l j hj (by omega)).imp fun _ q => q.1
  have ts : ∀ j (hj : j < us.length), ∃ xs, W.ownsRow B 144 2 us[j].s fs[j].stack.length xs := fun j hj => (h.s j hj (by omega)).imp fun _ q => q.1
  -- a row of kinds other than the two is kept; by its place in kb
  have keep : ∀ p (hp : p < (kb us).length) {nn : Nat} {xs : List Value}, p ≠ i * 2 → p ≠ i * 2 + 1 → W.ownsRow B 144 2 (kb us)[p] nn xs → W3.ownsRow B 144 2 (kb us)[p] nn xs := fun p hp {nn xs} hp1 hp2 ho => by
    have q1 := m1.own ho (fun u hu q hq => by simp at hu; subst hu; exact own_types ho h.row (by decide) q hq)
    have q2 := m2.own q1 (fun u hu q hq => by
      simp at hu; subst hu
      rw [← kb_l us i hi (by rw [kb_len]; omega)]
      exact h.ap.ne hp _ hp1 q hq)
    exact m3.own q2 (fun u hu q hq => by
      simp at hu; subst hu
      rw [← kb_s us i hi (by rw [kb_len]; omega)]
      exact h.ap.ne hp _ hp2 q hq)
  -- the first of the two is kept by the second
  have o2' : W3.ownsRow B 144 2 us[i].l fs[i].locals.length (cnt (kF k fs i + 1) (fs[i].locals.length * 2)) := m3.own o2 (fun u hu q hq => by
    simp at hu; subst hu
    rw [← kb_s us i hi (by rw [kb_len]; omega)]
    rw [← kb_l us i hi (by rw [kb_len]; omega)] at hq
    exact h.ap.ne _ _ (by omega) q hq)
  obtain ⟨ys, hy⟩ := ts i hi
  have hy1 := m1.own hy (fun u hu q hq => by simp at hu; subst hu; exact own_types hy h.row (by decide) q hq)
  obtain ⟨zs, hz⟩ := tl i hi
  have hz1 := m1.own hz (fun u hu q hq => by simp at hu; subst hu; exact own_types hz h.row (by decide) q hq)
  have r2 := m2.own r1 (fun u hu q hq => by simp at hu; subst hu; exact own_types r1 hz1 (by decide) q hq)
  have hy2 := m2.own hy1 (fun u hu q hq => by
    simp at hu; subst hu
    rw [← kb_l us i hi (by rw [kb_len]; omega)]
    rw [← kb_s us i hi (by rw [kb_len]; omega)] at hq
    exact h.ap.ne _ _ (by omega) q hq)
  have r3 := m3.own r2 (fun u hu q hq => by simp at hu; subst hu; exact own_types r2 hy2 (by decide) q hq)
  refine ⟨⟨by simp [hl], r3, fun j hj hji => ?_, fun j hj hj' => ?_, fun j hj hj' => ?_, by rw [kb_set us i a hi]; exact h.ap⟩, ?_⟩
  · rw [List.getElem_set]
    split
    · rename_i e; subst e; exact ha
    · exact h.at_ j (by simpa using hj) (by omega)
  · have hj2 : j < us.length := by simpa using hj
    by_cases e : i = j
    · subst e
      exact ⟨_, by simpa [List.getElem_set] using o2', fun _ => rfl⟩
    · obtain ⟨xs, q1, q2⟩ := h.l j hj2 hj'
      refine ⟨xs, ?_, fun hji => q2 (by omega)⟩
      have := keep (j * 2) (by rw [kb_len]; omega) (nn := fs[j].locals.length) (xs := xs) (by omega) (by omega) (by rw [kb_l us j hj2]; exact q1)
      rw [kb_l us j hj2] at this
      simpa [List.getElem_set, e] using this
  · have hj2 : j < us.length := by simpa using hj
    by_cases e : i = j
    · subst e
      exact ⟨_, by simpa [List.getElem_set] using o3, fun _ => rfl⟩
    · obtain ⟨xs, q1, q2⟩ := h.s j hj2 hj'
      refine ⟨xs, ?_, fun hji => q2 (by omega)⟩
      have := keep (j * 2 + 1) (by rw [kb_len]; omega) (nn := fs[j].stack.length) (xs := xs) (by omega) (by omega) (by rw [kb_s us j hj2]; exact q1)
      rw [kb_s us j hj2] at this
      simpa [List.getElem_set, e] using this
  · refine ((m1.mono ?_).trans (m2.mono ?_)).trans (m3.mono ?_)
    · intro u hu; simp at hu; subst hu; simp
    · intro u hu; simp at hu; subst hu
      rw [← kb_l us i hi (by rw [kb_len]; omega)]
      exact List.mem_cons_of_mem _ (List.getElem_mem _)
    · intro u hu; simp at hu; subst hu
      rw [← kb_s us i hi (by rw [kb_len]; omega)]
      exact List.mem_cons_of_mem _ (List.getElem_mem _)

end Go.Proofs.Ytnjfaikhiimdjaa
