/- Contracts of the law's own helpers on frames: toFrame, toFrameS, szFrame, szFrameS. -/
import Derived.Test.YtnjfaikhiimdjaaRowKind
import Derived.Test.YtnjfaikhiimdjaaShFrame
namespace Go.Proofs.Ytnjfaikhiimdjaa
open Go.RowKit
set_option maxHeartbeats 400000
set_option linter.unusedVariables false

structure MFrame where
  at_ : Int
  locals : List MKind
  stack : List MKind
/-- the frame's own lists lie in blocks of their own, from B on -/
structure FrameW (w : World) (B : Nat) (x : SFrame) (f : MFrame) : Prop where
  at_ : x.at_ = f.at_
  l : w.ownsRow B 144 2 x.l f.locals.length (rowKind f.locals)
  s : w.ownsRow B 144 2 x.s f.stack.length (rowKind f.stack)
theorem FrameW.keep {w w' : World} {B : Nat} {x : SFrame} {f : MFrame} (h : FrameW w B x f) (hb : Below w.heap.size w w') : FrameW w' B x f :=
  ⟨h.at_, own_below h.l hb, own_below h.s hb⟩
theorem FrameW.mono {w : World} {B B' : Nat} {x : SFrame} {f : MFrame} (h : FrameW w B x f) (hb : B' ≤ B) : FrameW w B' x f :=
  ⟨h.at_, Joins.ownsRow_le h.l hb, Joins.ownsRow_le h.s hb⟩

/-- an argument that reads as this frame -/
structure ArgF (w : World) (x : SFrame) (f : MFrame) : Prop where
  at_ : x.at_ = f.at_
  l : ∃ ao len cap, x.l = .slice ao len cap ∧ ArgKind w ao len f.locals
  s : ∃ ao len cap, x.s = .slice ao len cap ∧ ArgKind w ao len f.stack
  ml : f.locals.length ≤ maxLen
  ms : f.stack.length ≤ maxLen
theorem ArgF.keep {w w' : World} {x : SFrame} {f : MFrame} (h : ArgF w x f) (hb : Below w.heap.size w w') : ArgF w' x f := by
  obtain ⟨h1, ⟨a, b, c, h2, h3⟩, ⟨a', b', c', h4, h5⟩, m1, m2⟩ := h
  exact ⟨h1, ⟨a, b, c, h2, h3.keep hb⟩, ⟨a', b', c', h4, h5.keep hb⟩, m1, m2⟩
def ArgFS (w : World) (ao : Option Addr) (len : Nat) (fs : List MFrame) : Prop :=
  fs.length = len ∧ (len = 0 ∨ ∃ b off, ao = some ⟨b, off, none⟩ ∧ b < w.heap.size ∧ ∀ k (h : k < fs.length), ∃ x : SFrame, w.cell? ⟨b, off + k * 3, none⟩ = some (.int .i64 x.at_) ∧ w.cell? ⟨b, off + k * 3 + 1, none⟩ = some x.l ∧ w.cell? ⟨b, off + k * 3 + 2, none⟩ = some x.s ∧ ArgF w x fs[k])
theorem ArgFS.keep {w w' : World} {ao : Option Addr} {len : Nat} {fs : List MFrame} (h : ArgFS w ao len fs) (hb : Below w.heap.size w w') : ArgFS w' ao len fs := by
  obtain ⟨h1, h2⟩ := h
  refine ⟨h1, h2.imp id ?_⟩
  rintro ⟨b, off, rfl, hlt, hc⟩
  refine ⟨b, off, rfl, Nat.lt_of_lt_of_le hlt hb.size, fun k hk => ?_⟩
  obtain ⟨x, c0, c1, c2, hx⟩ := hc k hk
  exact ⟨x, (hb.cell (p := ⟨b, off + k * 3, none⟩) hlt).trans c0, (hb.cell (p := ⟨b, off + k * 3 + 1, none⟩) hlt).trans c1, (hb.cell (p := ⟨b, off + k * 3 + 2, none⟩) hlt).trans c2, hx.keep hb⟩

/-- few enough to be made anew -/
def MFrame.few (f : MFrame) : Prop := f.locals.length ≤ 1048576 ∧ f.stack.length ≤ 1048576

theorem szFrame_any (x : SFrame) (f : MFrame) (n : Int) (w : World) (hn : 0 ≤ n) (hn2 : n ≤ 1048576) (hA : ArgF w x f) :
    Calls Try.prog 107 #[.agg #[.int .i64 x.at_, x.l, x.s], .int .i64 n] w fun e w' => ∃ m, e = .returned (.int .i64 m) ∧ (m < 0 ∨ (0 ≤ m ∧ m ≤ n ∧ f.few)) ∧ Below w.heap.size w w' := by
  obtain ⟨h1, ⟨a, b, c, h2, h3⟩, ⟨a', b', c', h4, h5⟩, hm, hm2⟩ := hA
  obtain ⟨xa, xl, xs⟩ := x
  simp only at h1 h2 h4
  subst h2 h4
  unfold maxLen at hm hm2
  have e1 := h3.1
  have e2 := h5.1
  have hK1 := fun w => szKindS_any a b c n w (by omega) hn hn2
  unfold MFrame.few
  rw [e1, e2]
  clear h3 h5
  by_cases hb : (b : Int) ≤ n
  · simp only [hb, if_true] at hK1
    have hK2 := fun w => szKindS_any a' b' c' (n - b) w (by omega) (by omega) (by omega)
    by_cases hb' : (b' : Int) ≤ n - b
    · simp only [hb', if_true] at hK2
      go_enter Try.func107, Try.ntmps107
      go_wp2_with fail
      refine (hK1 _).mono ?_
      rintro e w1 ⟨rfl, hw⟩; replace hw := hw.symm; subst hw
      go_wp2_with fail
      refine (hK2 _).mono ?_
      rintro e w1 ⟨rfl, hw⟩; replace hw := hw.symm; subst hw
      go_wp2
      go_ret
      exact ⟨_, rfl, .inr ⟨by omega, by omega, by omega, by omega⟩, by go_grown⟩
    · simp only [hb', if_false] at hK2
      go_enter Try.func107, Try.ntmps107
      go_wp2_with fail
      refine (hK1 _).mono ?_
      rintro e w1 ⟨rfl, hw⟩; replace hw := hw.symm; subst hw
      go_wp2_with fail
      refine (hK2 _).mono ?_
      rintro e w1 ⟨rfl, hw⟩; replace hw := hw.symm; subst hw
      go_wp2
      go_ret
      exact ⟨_, rfl, .inl (by omega), by go_grown⟩
  · simp only [hb, if_false] at hK1
    go_enter Try.func107, Try.ntmps107
    go_wp2_with fail
    refine (hK1 _).mono ?_
    rintro e w1 ⟨rfl, hw⟩; replace hw := hw.symm; subst hw
    go_wp2
    go_ret
    exact ⟨_, rfl, .inl (by omega), by go_grown⟩

theorem toFrame_any (x : SFrame) (f : MFrame) (w : World) (hA : ArgF w x f) (hf : f.few) :
    Calls Try.prog 110 #[.agg #[.int .i64 x.at_, x.l, x.s]] w fun e w' => ∃ y : SFrame, e = .returned (.agg #[.int .i64 y.at_, y.l, y.s]) ∧ FrameW w' w.heap.size y f ∧ Below w.heap.size w w' := by
  obtain ⟨h1, ⟨a, b, c, h2, h3⟩, ⟨a', b', c', h4, h5⟩, hm, hm2⟩ := hA
  obtain ⟨xa, xl, xs⟩ := x
  simp only at h1 h2 h4
  subst h2 h4
  obtain ⟨f1, f2⟩ := hf
  have e1 := h3.1
  have e2 := h5.1
  have HA1 : Hid (ArgKind w a b f.locals) := h3
  have HA2 : Hid (ArgKind w a' b' f.stack) := h5
  have hK1 := fun W hW => toKindS_any a b c f.locals W (by omega) hW
  have hK2 := fun W hW => toKindS_any a' b' c' f.stack W (by omega) hW
  clear h3 h5
  go_enter Try.func110, Try.ntmps110
  go_wp2_with fail
  refine (hK1 _ (HA1.out.keep (by go_grown))).mono ?_
  rintro e w1 ⟨v1, rfl, ho1, hb1⟩
  have z1 : w.heap.size + 1 + 1 + 1 ≤ w1.heap.size := by have := hb1.size; simpa using this
  have p0 : w1.cell? ⟨w.heap.size, 2, none⟩ = some (Value.slice a' b' c') := (hb1.cell (p := ⟨w.heap.size, 2, none⟩) (by simp; omega)).trans (by go_cell)
  have r0 : w1.cell? ⟨w.heap.size + 1, 0, none⟩ = some (.int .i64 0) := (hb1.cell (p := ⟨w.heap.size + 1, 0, none⟩) (by simp)).trans (by go_cell)
  have s0 : w1.frozen? ⟨w.heap.size + 1, 0, none⟩ = false := (hb1.frozen (p := ⟨w.heap.size + 1, 0, none⟩) (by simp)).trans (by go_cell)
  have r1 : w1.cell? ⟨w.heap.size + 1, 1, none⟩ = some (Value.slice none 0 0) := (hb1.cell (p := ⟨w.heap.size + 1, 1, none⟩) (by simp)).trans (by go_cell)
  have s1 : w1.frozen? ⟨w.heap.size + 1, 1, none⟩ = false := (hb1.frozen (p := ⟨w.heap.size + 1, 1, none⟩) (by simp)).trans (by go_cell)
  have r2 : w1.cell? ⟨w.heap.size + 1, 2, none⟩ = some (Value.slice none 0 0) := (hb1.cell (p := ⟨w.heap.size + 1, 2, none⟩) (by simp)).trans (by go_cell)
  have s2 : w1.frozen? ⟨w.heap.size + 1, 2, none⟩ = false := (hb1.frozen (p := ⟨w.heap.size + 1, 2, none⟩) (by simp)).trans (by go_cell)
  have m0 : w1.cell? ⟨w.heap.size + 1 + 1, 0, none⟩ = some (.int .i64 f.at_) := (hb1.cell (p := ⟨w.heap.size + 1 + 1, 0, none⟩) (by simp)).trans (by go_cell)
  have n0 : w1.frozen? ⟨w.heap.size + 1 + 1, 0, none⟩ = false := (hb1.frozen (p := ⟨w.heap.size + 1 + 1, 0, none⟩) (by simp)).trans (by go_cell)
  have m1 : w1.cell? ⟨w.heap.size + 1 + 1, 1, none⟩ = some (Value.slice none 0 0) := (hb1.cell (p := ⟨w.heap.size + 1 + 1, 1, none⟩) (by simp)).trans (by go_cell)
  have n1 : w1.frozen? ⟨w.heap.size + 1 + 1, 1, none⟩ = false := (hb1.frozen (p := ⟨w.heap.size + 1 + 1, 1, none⟩) (by simp)).trans (by go_cell)
  have m2 : w1.cell? ⟨w.heap.size + 1 + 1, 2, none⟩ = some (Value.slice none 0 0) := (hb1.cell (p := ⟨w.heap.size + 1 + 1, 2, none⟩) (by simp)).trans (by go_cell)
  have n2 : w1.frozen? ⟨w.heap.size + 1 + 1, 2, none⟩ = false := (hb1.frozen (p := ⟨w.heap.size + 1 + 1, 2, none⟩) (by simp)).trans (by go_cell)
  obtain ⟨a1, k1, rfl⟩ := own_len ho1
  have HO1 : Hid (w1.ownsRow (w.heap.size + 1 + 1 + 1) 144 2 (.slice a1 f.locals.length k1) f.locals.length (rowKind f.locals)) := by unfold Hid; simpa using ho1
  have HB1 : Hid (Below w.heap.size w w1) := (by go_grown : Below w.heap.size w _).trans (hb1.mono (by simp; omega))
  clear ho1 hb1
  go_wp2_with fail
  refine (hK2 _ (HA2.out.keep (HB1.out.setCell (by simp; omega) _))).mono ?_
  rintro e w2 ⟨v2, rfl, ho2, hb2⟩
  have z2 : w1.heap.size ≤ w2.heap.size := by have := hb2.size; simpa using this
  have r0' : w2.cell? ⟨w.heap.size + 1, 0, none⟩ = some (.int .i64 0) := (hb2.cell (p := ⟨w.heap.size + 1, 0, none⟩) (by simp; omega)).trans (by go_cell)
  have s0' : w2.frozen? ⟨w.heap.size + 1, 0, none⟩ = false := (hb2.frozen (p := ⟨w.heap.size + 1, 0, none⟩) (by simp; omega)).trans (by go_cell)
  have r1' : w2.cell? ⟨w.heap.size + 1, 1, none⟩ = some (Value.slice none 0 0) := (hb2.cell (p := ⟨w.heap.size + 1, 1, none⟩) (by simp; omega)).trans (by go_cell)
  have s1' : w2.frozen? ⟨w.heap.size + 1, 1, none⟩ = false := (hb2.frozen (p := ⟨w.heap.size + 1, 1, none⟩) (by simp; omega)).trans (by go_cell)
  have r2' : w2.cell? ⟨w.heap.size + 1, 2, none⟩ = some (Value.slice none 0 0) := (hb2.cell (p := ⟨w.heap.size + 1, 2, none⟩) (by simp; omega)).trans (by go_cell)
  have s2' : w2.frozen? ⟨w.heap.size + 1, 2, none⟩ = false := (hb2.frozen (p := ⟨w.heap.size + 1, 2, none⟩) (by simp; omega)).trans (by go_cell)
  have m0' : w2.cell? ⟨w.heap.size + 1 + 1, 0, none⟩ = some (.int .i64 f.at_) := (hb2.cell (p := ⟨w.heap.size + 1 + 1, 0, none⟩) (by simp; omega)).trans (by go_cell)
  have n0' : w2.frozen? ⟨w.heap.size + 1 + 1, 0, none⟩ = false := (hb2.frozen (p := ⟨w.heap.size + 1 + 1, 0, none⟩) (by simp; omega)).trans (by go_cell)
  have m1' : w2.cell? ⟨w.heap.size + 1 + 1, 1, none⟩ = some (Value.slice a1 f.locals.length k1) := (hb2.cell (p := ⟨w.heap.size + 1 + 1, 1, none⟩) (by simp; omega)).trans (by go_cell)
  have n1' : w2.frozen? ⟨w.heap.size + 1 + 1, 1, none⟩ = false := (hb2.frozen (p := ⟨w.heap.size + 1 + 1, 1, none⟩) (by simp; omega)).trans (by go_cell)
  have m2' : w2.cell? ⟨w.heap.size + 1 + 1, 2, none⟩ = some (Value.slice none 0 0) := (hb2.cell (p := ⟨w.heap.size + 1 + 1, 2, none⟩) (by simp; omega)).trans (by go_cell)
  have n2' : w2.frozen? ⟨w.heap.size + 1 + 1, 2, none⟩ = false := (hb2.frozen (p := ⟨w.heap.size + 1 + 1, 2, none⟩) (by simp; omega)).trans (by go_cell)
  obtain ⟨a2, k2, rfl⟩ := own_len ho2
  have HO2 : Hid (w2.ownsRow (w.heap.size + 1 + 1 + 1) 144 2 (.slice a2 f.stack.length k2) f.stack.length (rowKind f.stack)) := Joins.ownsRow_le ho2 (by simpa using z1)
  have HO1' : Hid (w2.ownsRow (w.heap.size + 1 + 1 + 1) 144 2 (.slice a1 f.locals.length k1) f.locals.length (rowKind f.locals)) := own_below (ownsRow_setCell_below HO1.out (by simp) _) hb2
  have HB2 : Hid (Below w.heap.size w w2) := (HB1.out.setCell (by simp; omega) _).trans (hb2.mono (by simp; omega))
  clear ho2 hb2 HO1 HB1 hK1 hK2 HA1 HA2 p0 r0 r1 r2 s0 s1 s2 m0 m1 m2 n0 n1 n2
  go_wp2
  have g1 : w2.ownsRow (w.heap.size + 1 + 1 + 1) 144 2 (.slice a1 b k1) f.locals.length (rowKind f.locals) := by
    have := HO1'.out
    rwa [show (Value.slice a1 f.locals.length k1) = .slice a1 b k1 by rw [e1]] at this
  have g2 : w2.ownsRow (w.heap.size + 1 + 1 + 1) 144 2 (.slice a2 b' k2) f.stack.length (rowKind f.stack) := by
    have := HO2.out
    rwa [show (Value.slice a2 f.stack.length k2) = .slice a2 b' k2 by rw [e2]] at this
  refine bodyPost_ret (v := .agg #[.int .i64 f.at_, .slice a1 b k1, .slice a2 b' k2]) (by simp [results, Try.results110, go_sem, *]) rfl ⟨⟨f.at_, .slice a1 b k1, .slice a2 b' k2⟩, rfl, ⟨rfl, ?_, ?_⟩, ?_⟩
  · exact Joins.ownsRow_le (ownsRow_setCell_below (ownsRow_setCell_below (ownsRow_setCell_below (ownsRow_setCell_below g1 (by simp) _) (by simp) _) (by simp) _) (by simp) _) (by omega)
  · exact Joins.ownsRow_le (ownsRow_setCell_below (ownsRow_setCell_below (ownsRow_setCell_below (ownsRow_setCell_below g2 (by simp) _) (by simp) _) (by simp) _) (by simp) _) (by omega)
  · exact (((HB2.out.setCell (by simp; omega) _).setCell (by simp) _).setCell (by simp) _).setCell (by simp) _

end Go.Proofs.Ytnjfaikhiimdjaa
