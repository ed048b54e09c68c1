/- Contracts of the law's own helpers on a loader: szLoader, toLoader. -/
import Derived.Test.YtjhmjjechagbjaaShLoader
import Derived.Test.YtjhmjjechagbjaaRowFile
import Derived.Test.YtjhmjjechagbjaaRowWay
namespace Go.Proofs.Ytjhmjjechagbjaa
open Go.RowKit
set_option maxHeartbeats 1000000
set_option maxRecDepth 20000
set_option linter.unusedVariables false

structure MLoader where
  files : List MFile
  ways : List MWay
  parent : Int
/-- a loader whose lists lie in blocks of their own, from B on -/
structure LoaderW (w : World) (B : Nat) (x : SLoader) (l : MLoader) : Prop where
  p : x.parent = l.parent
  f : w.ownsRow B 71 2 x.files l.files.length (rowFile l.files)
  y : w.ownsRow B 73 2 x.ways l.ways.length (rowWay l.ways)
theorem LoaderW.keep {w w' : World} {B : Nat} {x : SLoader} {l : MLoader} (h : LoaderW w B x l) (hb : Below w.heap.size w w') : LoaderW w' B x l :=
  ⟨h.p, own_below h.f hb, own_below h.y hb⟩
theorem LoaderW.mono {w : World} {B B' : Nat} {x : SLoader} {l : MLoader} (h : LoaderW w B x l) (hb : B' ≤ B) : LoaderW w B' x l :=
  ⟨h.p, Joins.ownsRow_le h.f hb, Joins.ownsRow_le h.y hb⟩
/-- an argument that reads as this loader -/
structure ArgL (w : World) (x : SLoader) (l : MLoader) : Prop where
  p : x.parent = l.parent
  f : ∃ ao len cap, x.files = .slice ao len cap ∧ ArgFile w ao len l.files
  y : ∃ ao len cap, x.ways = .slice ao len cap ∧ ArgWay w ao len l.ways
  mf : l.files.length ≤ maxLen
  my : l.ways.length ≤ maxLen
theorem ArgL.keep {w w' : World} {x : SLoader} {l : MLoader} (h : ArgL w x l) (hb : Below w.heap.size w w') : ArgL w' x l := by
  obtain ⟨h1, ⟨a, b, c, h2, h3⟩, ⟨a', b', c', h4, h5⟩, m1, m2⟩ := h
  exact ⟨h1, ⟨a, b, c, h2, h3.keep hb⟩, ⟨a', b', c', h4, h5.keep hb⟩, m1, m2⟩
def ArgLS (w : World) (ao : Option Addr) (len : Nat) (ls : List MLoader) : Prop :=
  ls.length = len ∧ (len = 0 ∨ ∃ b off, ao = some ⟨b, off, none⟩ ∧ b < w.heap.size ∧ ∀ k (h : k < ls.length), ∃ x : SLoader, w.cell? ⟨b, off + k * 3, none⟩ = some x.files ∧ w.cell? ⟨b, off + k * 3 + 1, none⟩ = some x.ways ∧ w.cell? ⟨b, off + k * 3 + 2, none⟩ = some (.int .i64 x.parent) ∧ ArgL w x ls[k])
theorem ArgLS.keep {w w' : World} {ao : Option Addr} {len : Nat} {ls : List MLoader} (h : ArgLS w ao len ls) (hb : Below w.heap.size w w') : ArgLS w' ao len ls := by
  obtain ⟨h1, h2⟩ := h
  refine ⟨h1, h2.imp id ?_⟩
  rintro ⟨b, off, rfl, hlt, hc⟩
  refine ⟨b, off, rfl, Nat.lt_of_lt_of_le hlt hb.size, fun k hk => ?_⟩
  obtain ⟨x, c0, c1, c2, hx⟩ := hc k hk
  exact ⟨x, (hb.cell (p := ⟨b, off + k * 3, none⟩) hlt).trans c0, (hb.cell (p := ⟨b, off + k * 3 + 1, none⟩) hlt).trans c1, (hb.cell (p := ⟨b, off + k * 3 + 2, none⟩) hlt).trans c2, hx.keep hb⟩
/-- few enough to be made anew -/
def MLoader.few (l : MLoader) : Prop := fewFile l.files ∧ fewWay l.ways

theorem szLoader_any (x : SLoader) (l : MLoader) (n : Int) (w : World) (hn : 0 ≤ n) (hn2 : n ≤ 1048576) (hA : ArgL w x l) :
    Calls Try.prog 19 #[.agg #[x.files, x.ways, .int .i64 x.parent], .int .i64 n] w fun e w' => ∃ m, e = .returned (.int .i64 m) ∧ (m < 0 ∨ (0 ≤ m ∧ m ≤ n ∧ l.few)) ∧ Below w.heap.size w w' := by
  obtain ⟨h1, ⟨a, b, c, h2, h3⟩, ⟨a', b', c', h4, h5⟩, hm, hm2⟩ := hA
  obtain ⟨xf, xw, xp⟩ := x
  simp only at h1 h2 h4
  subst h1 h2 h4
  have e1 := h3.1
  have e2 := h5.1
  have H1 := hid (fun W (hW : Below w.heap.size w W) => szFileS_any a b c l.files n W (by omega) hn hn2 (h3.keep hW))
  have H2 := hid (fun m hm0 hm1 W (hW : Below w.heap.size w W) => szWayS_any a' b' c' l.ways m W (by omega) hm0 hm1 (h5.keep hW))
  have hbo : Below w.heap.size w (w.alloc (.cells #[.slice a b c, .slice a' b' c', .int .i64 l.parent] 40)) := (Below.refl _ _).alloc (Nat.le_refl _) _
  clear h3 h5
  go_enter Try.func19, Try.ntmps19
  go_wp2_with fail
  refine (H1.out _ hbo).mono ?_
  rintro e w1 ⟨m, rfl, hm1, hb1⟩
  have B1 := hid (hbo.trans (hb1.mono (by simp)))
  have p1 : w1.cell? ⟨w.heap.size, 1, none⟩ = some (.slice a' b' c') := (hb1.cell (p := ⟨w.heap.size, 1, none⟩) (by simp)).trans (by go_cell)
  by_cases hneg : m < 0
  · clear hm1 hb1 hbo
    go_wp2
    go_ret
    exact ⟨_, rfl, .inl (by omega), B1.out⟩
  · have hm1' := hm1.resolve_left hneg
    have q0 := hm1'.1
    have q1 := hm1'.2.1
    have HF := hid hm1'.2.2
    clear hm1 hm1' hb1 hbo
    go_wp2_with fail
    refine (H2.out m q0 (by omega) _ B1.out).mono ?_
    rintro e w2 ⟨m2, rfl, hm2', hb2⟩
    have B2 := hid (B1.out.trans (hb2.mono B1.out.size))
    by_cases hneg2 : m2 < 0
    · clear hm2' hb2
      go_wp2
      go_ret
      exact ⟨_, rfl, .inl (by omega), B2.out⟩
    · have hm2'' := hm2'.resolve_left hneg2
      have r0 := hm2''.1
      have r1 := hm2''.2.1
      have HW := hid hm2''.2.2
      clear hm2' hm2'' hb2
      go_wp2
      go_ret
      exact ⟨_, rfl, .inr ⟨r0, by omega, HF.out, HW.out⟩, B2.out⟩

end Go.Proofs.Ytjhmjjechagbjaa
