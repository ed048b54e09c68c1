/- Contracts of the specification's l5LoadersOk, l12PickOk, l12StartOk, StartOk. -/
import Derived.Test.YtjhmjjechagbjaaLoSpec
import Derived.Test.YtjhmjjechagbjaaStImpl
namespace Go.Proofs.Ytjhmjjechagbjaa
open Go.RowKit
set_option maxHeartbeats 2000000
set_option maxRecDepth 20000
set_option linter.unusedVariables false

theorem l5LoadersOk_any (v : Value) (fs : List MLoader) (B : Nat) (w : World) (hl : fs.length ≤ 1048576) (hf : ∀ f ∈ fs, f.few) (h : LoadersW w B v fs) :
    Calls Try.prog 30 #[v] w fun e w' => ∃ b : Bool, e = .returned (.bool b) ∧ (b = true ↔ fineLS fs) ∧ Below w.heap.size w w' := by
  obtain ⟨xs, hx, ho, hr⟩ := h
  obtain ⟨ao, cap, hv⟩ := own_len ho
  subst hv
  have HO := hid ho
  have HR := hid hr
  have HF := hid hf
  clear ho hr hf
  go_enter Try.func30, Try.ntmps30
  go_wp2_with fail
  go_loopw [3] (fun i wr => ∃ (k : Nat), k ≤ fs.length ∧ i = .int .i64 k ∧ Hid (∀ a (h : a < fs.length), a < k → fineL fs.length fs[a]) ∧ Hid (Below w.heap.size w wr)) (fun i _ => fs.length - (intOf i).toNat)
  case atStart => exact ⟨0, by omega, rfl, fun a _ h => by omega, Below.refl _ _⟩
  case round =>
    obtain ⟨k, hk, rfl, HE, HB⟩ := hrel
    by_cases hlt : k < fs.length
    · obtain ⟨g, hg⟩ := own_some HO.out (by omega)
      subst hg
      obtain ⟨c0, c1, c2⟩ := ownLoader_at (own_below HO.out HB.out) hx (k := k) (by omega)
      have hW := (HR.out k hlt (by omega)).keep HB.out
      generalize xs[k]'(by omega) = x at c0 c1 c2 hW
      have hC := fun W (hb : Below wr.heap.size wr W) => l5LoaderOk_any x fs[k] (some ⟨g, 0, none⟩) fs.length cap B W hl (HF.out _ (List.getElem_mem _)) (hW.keep hb)
      obtain ⟨a1, k1, e1⟩ := own_len hW.f
      obtain ⟨a2, k2, e2⟩ := own_len hW.y
      generalize fs[k].files.length = n1 at e1
      generalize fs[k].ways.length = n2 at e2
      obtain ⟨xf, xw, xp⟩ := x
      simp only at e1 e2 c0 c1 c2 hC
      subst e1 e2
      clear hW
      go_wp2_with fail
      refine (hC _ (by first | exact Below.refl _ _ | go_grown)).mono ?_
      rintro e w1 ⟨b, rfl, hb, hb1⟩
      have HB1 := hid (HB.out.trans (hb1.mono HB.out.size))
      have HQ := hid hb
      clear hb hb1 hC c0 c1 c2
      cases b with
      | false =>
        have HN := hid (show ¬ fineLS fs from fun h => by have := HQ.out.2 (h.all k hlt); cases this)
        go_wp2
        go_ret
        first | exact ⟨false, rfl, ⟨fun h => (by cases h), fun h => absurd h HN.out⟩, HB1.out⟩ | exact .inl ⟨rfl, HN.out, HB1.out⟩
      | true =>
        have HE' := hid (show ∀ a (h : a < fs.length), a < k + 1 → fineL fs.length fs[a] from fun a h h2 => by
          by_cases e : a = k
          · subst e; exact HQ.out.1 rfl
          · exact HE.out a h (by omega))
        clear HE HQ
        go_wp2
        go_roundw
        case rel => exact ⟨k + 1, by omega, by go_num, HE', HB1⟩
        case measure => simp [intOf]; omega
    · have hI := fun W => l1In_any (fs.length : Int) 1 3 W
      have HY := hid (show (decide ((1 : Int) ≤ (fs.length : Int)) && decide ((fs.length : Int) ≤ 3)) = true ↔ fineLS fs from ⟨fun h => by
          simp at h
          exact ⟨by omega, by omega, fun a ha => HE.out a ha (by omega)⟩, fun h => by
          have h1 := h.lo
          have h2 := h.hi
          simp
          omega⟩)
      generalize (decide ((1 : Int) ≤ (fs.length : Int)) && decide ((fs.length : Int) ≤ 3)) = q at hI HY
      clear HE
      go_wp2_with (first | (go_at_call 31; refine (hI _).mono ?_; rintro e w3 ⟨rfl, hw⟩; replace hw := hw.symm; subst hw))
      go_ret
      exact ⟨q, rfl, HY.out, HB.out⟩

end Go.Proofs.Ytjhmjjechagbjaa
