/- Contracts of the program's generic helpers over lists of impl.Way. Printed by tools/anyof.py. -/
import Derived.Test.YtjhmjjechagbjaaRowWay
namespace Go.Proofs.Ytjhmjjechagbjaa
open Go.RowKit
set_option maxHeartbeats 1000000
set_option maxRecDepth 20000
set_option linter.unusedVariables false

theorem indexWay_any (u0 : Value) (v : Value) (ts : List MWay) (B : Nat) (p : Nat → Bool) (w : World) (hl : ts.length ≤ 1048576) (ho : w.ownsRow B 73 2 v ts.length (rowWay ts))
    (hF : ∀ k (h : k < ts.length) W, Below w.heap.size w W → Calls Try.prog 79 #[.agg #[.string ts[k].name, .int .i64 ts[k].to_], u0] W fun e w' => e = .returned (.bool (p k)) ∧ Below W.heap.size W w') :
    Calls Try.prog 73 #[v, .func (.func 79) #[] #[u0]] w fun e w' => ∃ r : Int, e = .returned (.int .i64 r) ∧ (0 ≤ r ↔ ∃ k, k < ts.length ∧ p k = true) ∧ Below w.heap.size w w' := by
  obtain ⟨ao, cap, hv⟩ := own_len ho
  subst hv
  have HO := hid ho
  have HF := hid hF
  clear ho hF
  go_enter Try.func73, Try.ntmps73
  go_wp2_with fail
  go_loopw [8] (fun i wr => ∃ (k : Nat), k ≤ ts.length ∧ i = .int .i64 k ∧ Hid (∀ j, j < k → p j = false) ∧ Hid (Below w.heap.size w wr)) (fun i _ => ts.length - (intOf i).toNat)
  case atStart => exact ⟨0, by omega, rfl, fun j hj => by omega, Below.refl _ _⟩
  case round =>
    obtain ⟨k, hk, rfl, HE, HB⟩ := hrel
    by_cases hlt : k < ts.length
    · obtain ⟨g, hg⟩ := own_some HO.out (by omega)
      subst hg
      obtain ⟨c0, c1⟩ := ownWay_at (own_below HO.out HB.out) hlt
      have hC := HF.out k hlt
      generalize ts[k] = t at c0 c1 hC
      obtain ⟨q, hq⟩ : ∃ q, Hid (p k = q) := ⟨_, hid rfl⟩
      rw [hq.out] at hC
      go_wp2_with fail
      refine (hC _ HB.out).mono ?_
      rintro e w1 ⟨rfl, hb1⟩
      have HB1 := hid (HB.out.trans (hb1.mono HB.out.size))
      clear hb1 hC c0 c1
      cases q with
      | true =>
        have HR := hid (show ∃ j, j < ts.length ∧ p j = true from ⟨k, hlt, hq.out⟩)
        go_wp2
        go_ret
        exact ⟨_, rfl, ⟨fun _ => HR.out, fun _ => by omega⟩, HB1.out⟩
      | false =>
        have HN := hid (show ∀ j, j < k + 1 → p j = false from fun j hj => by
          by_cases e : j = k
          · rw [e]; exact hq.out
          · exact HE.out j (by omega))
        go_wp2
        go_roundw
        case rel => exact ⟨k + 1, by omega, by go_num, HN, HB1⟩
        case measure => simp [intOf]; omega
    · have HN := hid (show ¬ ∃ j, j < ts.length ∧ p j = true from by
        rintro ⟨j, hj, hp⟩
        have := HE.out j (by omega)
        rw [this] at hp
        cases hp)
      go_wp2
      go_ret
      exact ⟨-1, rfl, ⟨fun h => absurd h (by omega), fun h => absurd h HN.out⟩, HB.out⟩
theorem containsWay_any (u0 : Value) (v : Value) (ts : List MWay) (B : Nat) (p : Nat → Bool) (w : World) (hl : ts.length ≤ 1048576) (ho : w.ownsRow B 73 2 v ts.length (rowWay ts))
    (hF : ∀ k (h : k < ts.length) W, Below w.heap.size w W → Calls Try.prog 79 #[.agg #[.string ts[k].name, .int .i64 ts[k].to_], u0] W fun e w' => e = .returned (.bool (p k)) ∧ Below W.heap.size W w') :
    Calls Try.prog 78 #[v, .func (.func 79) #[] #[u0]] w fun e w' => ∃ b : Bool, e = .returned (.bool b) ∧ (b = true ↔ ∃ k, k < ts.length ∧ p k = true) ∧ Below w.heap.size w w' := by
  have hI := indexWay_any u0 v ts B p w hl ho hF
  clear hF ho
  go_enter Try.func78, Try.ntmps78
  go_wp2_with fail
  refine hI.mono ?_
  rintro e w1 ⟨r, rfl, hr, hb⟩
  have HR := hid hr
  have HB := hid hb
  clear hr hb hI
  go_wp2
  go_ret
  refine ⟨_, rfl, ?_, HB.out⟩
  rw [← HR.out]
  simp

/-- the closure that turns what is asked -/
theorem notWay_any (cv : Value) (t : MWay) (c : Nat) (q : Bool) (w : World) (hc : w.cell? ⟨c, 0, none⟩ = some (.func (.func 65) #[] #[cv])) (hlt : c < w.heap.size)
    (hG : ∀ W, Below w.heap.size w W → Calls Try.prog 65 #[.agg #[.string t.name, .int .i64 t.to_], cv] W fun e w' => e = .returned (.bool q) ∧ Below W.heap.size W w') :
    Calls Try.prog 79 #[.agg #[.string t.name, .int .i64 t.to_], .pointer (some ⟨c, 0, none⟩)] w fun e w' => e = .returned (.bool (!q)) ∧ Below w.heap.size w w' := by
  have hbo := (Below.refl w.heap.size w).alloc (Nat.le_refl _) (.cells #[.string t.name, .int .i64 t.to_] 73)
  have hC := hG _ hbo
  have hne : ¬ c = w.heap.size := by omega
  have HO := hid hbo
  clear hG hbo
  go_enter Try.func79, Try.ntmps79
  go_wp2_with fail
  refine hC.mono ?_
  rintro e w1 ⟨rfl, hb1⟩
  have HB := hid (HO.out.trans (hb1.mono HO.out.size))
  clear hb1 hC HO
  go_wp2
  go_ret
  exact ⟨rfl, HB.out⟩
theorem allWay_any (cv : Value) (v : Value) (ts : List MWay) (B : Nat) (q : Nat → Bool) (w : World) (hl : ts.length ≤ 1048576) (ho : w.ownsRow B 73 2 v ts.length (rowWay ts))
    (hG : ∀ k (h : k < ts.length) W, Below w.heap.size w W → Calls Try.prog 65 #[.agg #[.string ts[k].name, .int .i64 ts[k].to_], cv] W fun e w' => e = .returned (.bool (q k)) ∧ Below W.heap.size W w') :
    Calls Try.prog 66 #[v, .func (.func 65) #[] #[cv]] w fun e w' => ∃ b : Bool, e = .returned (.bool b) ∧ (b = true ↔ ∀ k, k < ts.length → q k = true) ∧ Below w.heap.size w w' := by
  obtain ⟨ao, cp, hv⟩ := own_len ho
  subst hv
  have hbo := (Below.refl w.heap.size w).alloc (Nat.le_refl _) (.cells #[.func (.func 65) #[] #[cv]] 97)
  have hC := containsWay_any (.pointer (some ⟨w.heap.size, 0, none⟩)) (.slice ao ts.length cp) ts B (fun k => !q k) _ hl (own_below ho hbo) (fun k h W hW => notWay_any cv ts[k] w.heap.size (q k) W ((hW.cell (p := ⟨w.heap.size, 0, none⟩) (by simp)).trans (by simp [go_sem])) (by have := hW.size; simp at this; omega) (fun W' hW' => hG k h W' (hbo.trans ((hW.trans (hW'.mono hW.size)).mono (by simp)))))
  have hmf : ∀ (fn : Fn) (first cap : Array Value) (w : World), (Instr.makeFunc fn first cap).run Try.prog w = .ok (.func fn first cap) w := fun _ _ _ _ => rfl
  have HO := hid hbo
  clear hG ho hbo
  go_enter Try.func66, Try.ntmps66
  go_wp2_with fail
  refine hC.mono ?_
  rintro e w1 ⟨b, rfl, hb, hb1⟩
  have HB := hid (HO.out.trans (hb1.mono (by simp)))
  have HR := hid hb
  clear hb hb1 hC HO
  go_wp2
  go_ret
  refine ⟨!b, rfl, ?_, HB.out⟩
  have := HR.out
  cases b with
  | true =>
    obtain ⟨k, hk, hq⟩ := this.1 rfl
    constructor
    · intro h; cases h
    · intro h; rw [h k hk] at hq; cases hq
  | false =>
    constructor
    · intro _ k hk
      cases hq : q k with
      | true => rfl
      | false => exact absurd (this.2 ⟨k, hk, by simp [hq]⟩) (by simp)
    · intro _; rfl

end Go.Proofs.Ytjhmjjechagbjaa
