/- Contracts of the program's generic helpers over lists of impl.Loader. Printed by tools/anyof.py. -/
import Derived.Test.YtjhmjjechagbjaaRowLoaders
namespace Go.Proofs.Ytjhmjjechagbjaa
open Go.RowKit
set_option maxHeartbeats 1000000
set_option maxRecDepth 20000
set_option linter.unusedVariables false

/-- each loader's lists are slices -/
def SlicedL (ts : List SLoader) : Prop := ∀ k (h : k < ts.length), ∃ a1 n1 c1 a2 n2 c2, ts[k].files = .slice a1 n1 c1 ∧ ts[k].ways = .slice a2 n2 c2
theorem indexLoader_any (u0 : Value) (v : Value) (ts : List SLoader) (B : Nat) (p : Nat → Bool) (w : World) (hl : ts.length ≤ 1048576) (ho : w.ownsRow B 47 3 v ts.length (rowLoader ts)) (hS : SlicedL ts)
    (hF : ∀ k (h : k < ts.length) W, Below w.heap.size w W → Calls Try.prog 64 #[.agg #[ts[k].files, ts[k].ways, .int .i64 ts[k].parent], u0] W fun e w' => e = .returned (.bool (p k)) ∧ Below W.heap.size W w') :
    Calls Try.prog 77 #[v, .func (.func 64) #[] #[u0]] w fun e w' => ∃ r : Int, e = .returned (.int .i64 r) ∧ (0 ≤ r ↔ ∃ k, k < ts.length ∧ p k = true) ∧ Below w.heap.size w w' := by
  obtain ⟨ao, cap, hv⟩ := own_len ho
  subst hv
  have HO := hid ho
  have HF := hid hF
  have HS := hid hS
  clear ho hF hS
  go_enter Try.func77, Try.ntmps77
  go_wp2_with fail
  go_loopw [8] (fun i wr => ∃ (k : Nat), k ≤ ts.length ∧ i = .int .i64 k ∧ Hid (∀ j, j < k → p j = false) ∧ Hid (Below w.heap.size w wr)) (fun i _ => ts.length - (intOf i).toNat)
  case atStart => exact ⟨0, by omega, rfl, fun j hj => by omega, Below.refl _ _⟩
  case round =>
    obtain ⟨k, hk, rfl, HE, HB⟩ := hrel
    by_cases hlt : k < ts.length
    · obtain ⟨g, hg⟩ := own_some HO.out (by omega)
      subst hg
      obtain ⟨c0, c1, c2⟩ := ownLoader_at (own_below HO.out HB.out) rfl hlt
      have hC := HF.out k hlt
      obtain ⟨a1, n1, k1, a2, n2, k2, s1, s2⟩ := HS.out k hlt
      generalize ts[k] = t at c0 c1 c2 hC s1 s2
      obtain ⟨tf, tw, tp⟩ := t
      simp only at c0 c1 c2 hC s1 s2
      subst s1 s2
      obtain ⟨q, hq⟩ : ∃ q, Hid (p k = q) := ⟨_, hid rfl⟩
      rw [hq.out] at hC
      go_wp2_with fail
      refine (hC _ HB.out).mono ?_
      rintro e w1 ⟨rfl, hb1⟩
      have HB1 := hid (HB.out.trans (hb1.mono HB.out.size))
      clear hb1 hC c0 c1 c2
      cases q with
      | true =>
        have HR := hid (show ∃ j, j < ts.length ∧ p j = true from ⟨k, hlt, hq.out⟩)
        go_wp2
        go_ret
        exact ⟨_, rfl, ⟨fun _ => HR.out, fun _ => by omega⟩, HB1.out⟩
      | false =>
        have HN := hid (show ∀ j, j < k + 1 → p j = false from fun j hj => by
          by_cases e : j = k
          · rw [e]; exact hq.out
          · exact HE.out j (by omega))
        go_wp2
        go_roundw
        case rel => exact ⟨k + 1, by omega, by go_num, HN, HB1⟩
        case measure => simp [intOf]; omega
    · have HN := hid (show ¬ ∃ j, j < ts.length ∧ p j = true from by
        rintro ⟨j, hj, hp⟩
        have := HE.out j (by omega)
        rw [this] at hp
        cases hp)
      go_wp2
      go_ret
      exact ⟨-1, rfl, ⟨fun h => absurd h (by omega), fun h => absurd h HN.out⟩, HB.out⟩
theorem containsLoader_any (u0 : Value) (v : Value) (ts : List SLoader) (B : Nat) (p : Nat → Bool) (w : World) (hl : ts.length ≤ 1048576) (ho : w.ownsRow B 47 3 v ts.length (rowLoader ts)) (hS : SlicedL ts)
    (hF : ∀ k (h : k < ts.length) W, Below w.heap.size w W → Calls Try.prog 64 #[.agg #[ts[k].files, ts[k].ways, .int .i64 ts[k].parent], u0] W fun e w' => e = .returned (.bool (p k)) ∧ Below W.heap.size W w') :
    Calls Try.prog 63 #[v, .func (.func 64) #[] #[u0]] w fun e w' => ∃ b : Bool, e = .returned (.bool b) ∧ (b = true ↔ ∃ k, k < ts.length ∧ p k = true) ∧ Below w.heap.size w w' := by
  have hI := indexLoader_any u0 v ts B p w hl ho hS hF
  clear hF ho hS
  go_enter Try.func63, Try.ntmps63
  go_wp2_with fail
  refine hI.mono ?_
  rintro e w1 ⟨r, rfl, hr, hb⟩
  have HR := hid hr
  have HB := hid hb
  clear hr hb hI
  go_wp2
  go_ret
  refine ⟨_, rfl, ?_, HB.out⟩
  rw [← HR.out]
  simp

/-- the closure that turns what is asked -/
theorem notLoader_any (cv : Value) (t : SLoader) (c : Nat) (q : Bool) (w : World) (hs : ∃ a1 n1 c1 a2 n2 c2, t.files = .slice a1 n1 c1 ∧ t.ways = .slice a2 n2 c2) (hc : w.cell? ⟨c, 0, none⟩ = some (.func (.func 55) #[] #[cv])) (hlt : c < w.heap.size)
    (hG : ∀ W, Below w.heap.size w W → Calls Try.prog 55 #[.agg #[t.files, t.ways, .int .i64 t.parent], cv] W fun e w' => e = .returned (.bool q) ∧ Below W.heap.size W w') :
    Calls Try.prog 64 #[.agg #[t.files, t.ways, .int .i64 t.parent], .pointer (some ⟨c, 0, none⟩)] w fun e w' => e = .returned (.bool (!q)) ∧ Below w.heap.size w w' := by
  have hbo := (Below.refl w.heap.size w).alloc (Nat.le_refl _) (.cells #[t.files, t.ways, .int .i64 t.parent] 47)
  have hC := hG _ hbo
  have hne : ¬ c = w.heap.size := by omega
  have HO := hid hbo
  clear hG hbo
  obtain ⟨a1, n1, k1, a2, n2, k2, s1, s2⟩ := hs
  obtain ⟨tf, tw, tp⟩ := t
  simp only at s1 s2 hC HO
  subst s1 s2
  go_enter Try.func64, Try.ntmps64
  go_wp2_with fail
  refine hC.mono ?_
  rintro e w1 ⟨rfl, hb1⟩
  have HB := hid (HO.out.trans (hb1.mono HO.out.size))
  clear hb1 hC HO
  go_wp2
  go_ret
  exact ⟨rfl, HB.out⟩
theorem allLoader_any (cv : Value) (v : Value) (ts : List SLoader) (B : Nat) (q : Nat → Bool) (w : World) (hl : ts.length ≤ 1048576) (ho : w.ownsRow B 47 3 v ts.length (rowLoader ts)) (hS : SlicedL ts)
    (hG : ∀ k (h : k < ts.length) W, Below w.heap.size w W → Calls Try.prog 55 #[.agg #[ts[k].files, ts[k].ways, .int .i64 ts[k].parent], cv] W fun e w' => e = .returned (.bool (q k)) ∧ Below W.heap.size W w') :
    Calls Try.prog 54 #[v, .func (.func 55) #[] #[cv]] w fun e w' => ∃ b : Bool, e = .returned (.bool b) ∧ (b = true ↔ ∀ k, k < ts.length → q k = true) ∧ Below w.heap.size w w' := by
  obtain ⟨ao, cp, hv⟩ := own_len ho
  subst hv
  have hbo := (Below.refl w.heap.size w).alloc (Nat.le_refl _) (.cells #[.func (.func 55) #[] #[cv]] 89)
  have hC := containsLoader_any (.pointer (some ⟨w.heap.size, 0, none⟩)) (.slice ao ts.length cp) ts B (fun k => !q k) _ hl (own_below ho hbo) hS (fun k h W hW => notLoader_any cv ts[k] w.heap.size (q k) W (hS k h) ((hW.cell (p := ⟨w.heap.size, 0, none⟩) (by simp)).trans (by simp [go_sem])) (by have := hW.size; simp at this; omega) (fun W' hW' => hG k h W' (hbo.trans ((hW.trans (hW'.mono hW.size)).mono (by simp)))))
  have hmf : ∀ (fn : Fn) (first cap : Array Value) (w : World), (Instr.makeFunc fn first cap).run Try.prog w = .ok (.func fn first cap) w := fun _ _ _ _ => rfl
  have HO := hid hbo
  clear hG ho hbo hS
  go_enter Try.func54, Try.ntmps54
  go_wp2_with fail
  refine hC.mono ?_
  rintro e w1 ⟨b, rfl, hb, hb1⟩
  have HB := hid (HO.out.trans (hb1.mono (by simp)))
  have HR := hid hb
  clear hb hb1 hC HO
  go_wp2
  go_ret
  refine ⟨!b, rfl, ?_, HB.out⟩
  have := HR.out
  cases b with
  | true =>
    obtain ⟨k, hk, hq⟩ := this.1 rfl
    constructor
    · intro h; cases h
    · intro h; rw [h k hk] at hq; cases hq
  | false =>
    constructor
    · intro _ k hk
      cases hq : q k with
      | true => rfl
      | false => exact absurd (this.2 ⟨k, hk, by simp [hq]⟩) (by simp)
    · intro _; rfl

end Go.Proofs.Ytjhmjjechagbjaa
