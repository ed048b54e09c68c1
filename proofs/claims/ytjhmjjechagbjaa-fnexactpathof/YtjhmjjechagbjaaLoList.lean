/- Contract of the program's loadersOk. -/
import Derived.Test.YtjhmjjechagbjaaLoFine
namespace Go.Proofs.Ytjhmjjechagbjaa
open Go.RowKit
set_option maxHeartbeats 2000000
set_option maxRecDepth 20000
set_option linter.unusedVariables false

/-- loaders that are ok -/
structure fineLS (fs : List MLoader) : Prop where
  lo : 1 ≤ fs.length
  hi : fs.length ≤ 3
  all : ∀ k (h : k < fs.length), fineL fs.length fs[k]
theorem fineQ_ex (fs : List MLoader) : ∃ q : Nat → Bool, ∀ k (h : k < fs.length), (q k = true ↔ fineL fs.length fs[k]) :=
  ⟨fun k => @decide (∀ h : k < fs.length, fineL fs.length fs[k]) (Classical.propDecidable _), fun k h => by
    rw [@decide_eq_true_iff _ (Classical.propDecidable _)]
    exact ⟨fun g => g h, fun g _ => g⟩⟩

theorem loadersFn_any (x : SLoader) (l : MLoader) (ao : Option Addr) (len cap B c : Nat) (w : World) (hl : len ≤ 1048576) (hf : l.few) (h : LoaderW w B x l) (hc : w.cell? ⟨c, 0, none⟩ = some (.slice ao len cap)) (hlt : c < w.heap.size) :
    Calls Try.prog 55 #[.agg #[x.files, x.ways, .int .i64 x.parent], .pointer (some ⟨c, 0, none⟩)] w fun e w' => ∃ b : Bool, e = .returned (.bool b) ∧ (b = true ↔ fineL len l) ∧ Below w.heap.size w w' := by
  have hbo := (Below.refl w.heap.size w).alloc (Nat.le_refl _) (.cells #[x.files, x.ways, .int .i64 x.parent] 47)
  have hC := loaderFine_any x l ao len cap B _ hl hf (h.keep hbo)
  obtain ⟨a1, k1, e1⟩ := own_len h.f
  obtain ⟨a2, k2, e2⟩ := own_len h.y
  obtain ⟨xf, xw, xp⟩ := x
  simp only at e1 e2 hC hbo
  subst e1 e2
  have hne : ¬ c = w.heap.size := by omega
  have HO := hid hbo
  clear hbo h
  go_enter Try.func55, Try.ntmps55
  go_wp2_with fail
  refine hC.mono ?_
  rintro e w1 ⟨b, rfl, hb, hb1⟩
  have HB := hid (HO.out.trans (hb1.mono HO.out.size))
  have HR := hid hb
  clear hb1 hC HO hb
  go_wp2
  go_ret
  exact ⟨b, rfl, HR.out, HB.out⟩

theorem loadersOk_any (v : Value) (fs : List MLoader) (B : Nat) (w : World) (hl : fs.length ≤ 1048576) (hf : ∀ f ∈ fs, f.few) (h : LoadersW w B v fs) :
    Calls Try.prog 39 #[v] w fun e w' => ∃ b : Bool, e = .returned (.bool b) ∧ (b = true ↔ fineLS fs) ∧ Below w.heap.size w w' := by
  obtain ⟨xs, hx, ho, hr⟩ := h
  obtain ⟨ao, cap, hv⟩ := own_len ho
  subst hv
  by_cases h1 : 1 ≤ fs.length
  case neg =>
    have HN := hid (show ¬ fineLS fs from fun h => h1 h.lo)
    clear ho hr
    go_enter Try.func39, Try.ntmps39
    go_wp2
    go_ret
    first | exact ⟨false, rfl, ⟨fun h => (by cases h), fun h => absurd h HN.out⟩, by go_grown⟩ | exact .inl ⟨rfl, HN.out, by go_grown⟩
  by_cases h3 : fs.length ≤ 3
  case neg =>
    have HN := hid (show ¬ fineLS fs from fun h => h3 h.hi)
    clear ho hr
    go_enter Try.func39, Try.ntmps39
    go_wp2
    go_ret
    first | exact ⟨false, rfl, ⟨fun h => (by cases h), fun h => absurd h HN.out⟩, by go_grown⟩ | exact .inl ⟨rfl, HN.out, by go_grown⟩
  obtain ⟨q, hq⟩ := fineQ_ex fs
  have hbo := (Below.refl w.heap.size w).alloc (Nat.le_refl _) (.cells #[.slice ao fs.length cap] 26)
  have hS : SlicedL xs := fun k hk => by
    have hh := hr k (by omega) hk
    obtain ⟨a1, k1, e1⟩ := own_len hh.f
    obtain ⟨a2, k2, e2⟩ := own_len hh.y
    exact ⟨a1, _, k1, a2, _, k2, e1, e2⟩
  have hC := allLoader_any (.pointer (some ⟨w.heap.size, 0, none⟩)) (.slice ao fs.length cap) xs B q _ (by omega) (by rw [hx]; exact own_below ho hbo) hS (fun k hk W hW => by
    have hz := hW.size
    simp at hz
    refine (loadersFn_any xs[k] (fs[k]'(by omega)) ao fs.length cap B w.heap.size W hl (hf _ (List.getElem_mem _)) (((hr k (by omega) hk).keep hbo).keep hW) ((hb_cell hW (by simp)).trans (by simp [go_sem])) (by omega)).mono ?_
    rintro e w1 ⟨b, rfl, hb, hb1⟩
    refine ⟨ret_bool ?_, hb1⟩
    rw [Bool.eq_iff_iff, hb, hq k (by omega)])
  rw [hx] at hC
  have HO := hid hbo
  have hmf : ∀ (fn : Fn) (first cap : Array Value) (w : World), (Instr.makeFunc fn first cap).run Try.prog w = .ok (.func fn first cap) w := fun _ _ _ _ => rfl
  clear hbo ho hr hS
  go_enter Try.func39, Try.ntmps39
  go_wp2_with fail
  refine hC.mono ?_
  rintro e w1 ⟨b, rfl, hb, hb1⟩
  have HB := hid (HO.out.trans (hb1.mono HO.out.size))
  have HR := hid (show b = true ↔ fineLS fs from hb.trans ⟨fun h => ⟨h1, h3, fun k hk => (hq k hk).1 (h k hk)⟩, fun h k hk => (hq k hk).2 (h.all k hk)⟩)
  clear hb1 hC HO hb
  go_wp2
  go_ret
  exact ⟨b, rfl, HR.out, HB.out⟩

end Go.Proofs.Ytjhmjjechagbjaa
