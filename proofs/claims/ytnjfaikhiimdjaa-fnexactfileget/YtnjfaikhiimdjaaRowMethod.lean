/- Contracts of the law's own helpers on methods: szMethod, toMethod. -/
import Derived.Test.YtnjfaikhiimdjaaEqFrames
import Derived.Test.YtnjfaikhiimdjaaRowTrap
import Derived.Test.YtnjfaikhiimdjaaShMethod
namespace Go.Proofs.Ytnjfaikhiimdjaa
open Go.RowKit
set_option maxHeartbeats 1000000
set_option linter.unusedVariables false

structure MMethod where
  flags : Int
  name : Int
  desc : Int
  deep : Int
  locals : Int
  code : ByteArray
  traps : List MTrap
  frames : List MFrame
def MMethod.few (m : MMethod) : Prop := m.code.size ≤ 1048576 ∧ m.traps.length ≤ 1048576 ∧ m.frames.length ≤ 1048576 ∧ ∀ f ∈ m.frames, f.few
def shM (m : MMethod) (vt vf : Value) : SMethod := ⟨m.flags, m.name, m.desc, m.deep, m.locals, m.code, vt, vf⟩
theorem FramesW.set {w : World} {B : Nat} {v : Value} {fs : List MFrame} (h : FramesW w B v fs) {a : Addr} (ha : a.block < B) (u : Value) : FramesW (w.setCell a u) B v fs := by
  obtain ⟨xs, h1, h2, h3⟩ := h
  exact ⟨xs, h1, ownsRow_setCell_below h2 ha u, fun k hk hk' => (h3 k hk hk').set ha u⟩
theorem FramesW.len {w : World} {B : Nat} {v : Value} {fs : List MFrame} (h : FramesW w B v fs) : ∃ ao cap, v = .slice ao fs.length cap := by
  obtain ⟨xs, h1, h2, h3⟩ := h
  exact own_len h2
/-- a method's lists in blocks of their own, from B on -/
structure MethodW (w : World) (B : Nat) (vt vf : Value) (m : MMethod) : Prop where
  t : w.ownsRow B 120 4 vt m.traps.length (rowTrap m.traps)
  f : FramesW w B vf m.frames
theorem MethodW.keep {w w' : World} {B : Nat} {vt vf : Value} {m : MMethod} (h : MethodW w B vt vf m) (hb : Below w.heap.size w w') : MethodW w' B vt vf m := ⟨own_below h.t hb, h.f.keep hb⟩
theorem MethodW.mono {w : World} {B B' : Nat} {vt vf : Value} {m : MMethod} (h : MethodW w B vt vf m) (hb : B' ≤ B) : MethodW w B' vt vf m := ⟨Joins.ownsRow_le h.t hb, h.f.mono hb⟩
theorem MethodW.set {w : World} {B : Nat} {vt vf : Value} {m : MMethod} (h : MethodW w B vt vf m) {a : Addr} (ha : a.block < B) (u : Value) : MethodW (w.setCell a u) B vt vf m := ⟨ownsRow_setCell_below h.t ha u, h.f.set ha u⟩
/-- an argument's lists that read as this method's -/
structure ArgM (w : World) (a : Option Addr) (l : Nat) (a' : Option Addr) (l' : Nat) (m : MMethod) : Prop where
  t : ArgTrap w a l m.traps
  f : ArgFS w a' l' m.frames
  mc : m.code.size ≤ maxLen
  mt : l ≤ maxLen
  mf : l' ≤ maxLen
theorem ArgM.keep {w w' : World} {a a' : Option Addr} {l l' : Nat} {m : MMethod} (h : ArgM w a l a' l' m) (hb : Below w.heap.size w w') : ArgM w' a l a' l' m := ⟨h.t.keep hb, h.f.keep hb, h.mc, h.mt, h.mf⟩

theorem szMethod_any (m : MMethod) (a : Option Addr) (l c : Nat) (a' : Option Addr) (l' c' : Nat) (n : Int) (w : World) (hn : 0 ≤ n) (hn2 : n ≤ 1048576) (hA : ArgM w a l a' l' m) :
    Calls Try.prog 55 #[.agg #[.int .i64 m.flags, .int .i64 m.name, .int .i64 m.desc, .int .i64 m.deep, .int .i64 m.locals, .string m.code, .slice a l c, .slice a' l' c'], .int .i64 n] w fun e w' => ∃ k, e = .returned (.int .i64 k) ∧ (k < 0 ∨ (0 ≤ k ∧ k ≤ n ∧ m.few)) ∧ Below w.heap.size w w' := by
  obtain ⟨ht, hf, mc, mt, mf⟩ := hA
  have e1 := ht.1
  have HF := (show Hid (ArgFS w a' l' m.frames) from hf)
  have e2 := hf.1
  unfold maxLen at mc mt
  by_cases h0 : (m.code.size : Int) ≤ n
  · have hT := fun w => szTrapS_any a l c (n - m.code.size) w (by omega) (by omega) (by omega)
    by_cases h1 : (l : Int) ≤ n - m.code.size
    · simp only [h1, if_true] at hT
      have hS := fun W hW => szFrameS_any a' l' c' m.frames (n - m.code.size - l) W mf (by omega) (by omega) hW
      clear ht hf mf
      go_enter Try.func55, Try.ntmps55
      go_wp2_with fail
      refine (hT _).mono ?_
      rintro e w1 ⟨rfl, hw⟩; replace hw := hw.symm; subst hw
      go_wp2_with fail
      refine (hS _ (HF.out.keep (by go_grown))).mono ?_
      rintro e w1 ⟨k, rfl, hk, hb0⟩
      have hb1 : Below w.heap.size w w1 := (by go_grown : Below w.heap.size w _).trans (hb0.mono (by simp))
      clear hb0
      by_cases hneg : k < 0
      · go_wp2
        go_ret
        exact ⟨_, rfl, .inl (by omega), hb1⟩
      · have hk' : 0 ≤ k ∧ k ≤ n ∧ m.few := by
          rcases hk with hk | ⟨k1, k2, k3, k4⟩
          · exact absurd hk hneg
          · exact ⟨k1, by omega, by omega, by omega, by omega, k4⟩
        have HK := (show Hid (0 ≤ k ∧ k ≤ n ∧ m.few) from hk')
        have m1 := hk'.1
        clear hk hk'
        go_wp2
        go_ret
        exact ⟨_, rfl, .inr HK.out, hb1⟩
    · simp only [h1, if_false] at hT
      clear ht hf mf
      go_enter Try.func55, Try.ntmps55
      go_wp2_with fail
      refine (hT _).mono ?_
      rintro e w1 ⟨rfl, hw⟩; replace hw := hw.symm; subst hw
      go_wp2
      go_ret
      exact ⟨_, rfl, .inl (by omega), by go_grown⟩
  · clear ht hf mf
    go_enter Try.func55, Try.ntmps55
    go_wp2
    go_ret
    exact ⟨_, rfl, .inl (by omega), by go_grown⟩

theorem toMethod_any (m : MMethod) (a : Option Addr) (l c : Nat) (a' : Option Addr) (l' c' : Nat) (w : World) (hA : ArgM w a l a' l' m) (hm : m.few) :
    Calls Try.prog 64 #[.agg #[.int .i64 m.flags, .int .i64 m.name, .int .i64 m.desc, .int .i64 m.deep, .int .i64 m.locals, .string m.code, .slice a l c, .slice a' l' c']] w fun e w' => ∃ v1 v2, e = .returned (.agg #[.int .i64 m.flags, .int .i64 m.name, .int .i64 m.desc, .int .i64 m.deep, .int .i64 m.locals, .string m.code, v1, v2]) ∧ MethodW w' w.heap.size v1 v2 m ∧ Below w.heap.size w w' := by
  obtain ⟨ht, hf, mc, mt, mf⟩ := hA
  obtain ⟨f1, f2, f3, f4⟩ := hm
  have e1 := ht.1
  have e2 := hf.1
  have HA1 := (show Hid (ArgTrap w a l m.traps) from ht)
  have HA2 := (show Hid (ArgFS w a' l' m.frames) from hf)
  have hK1 := fun W hW => toTrapS_any a l c m.traps W (by omega) hW
  have hK2 := fun W hW => toFrameS_any a' l' c' m.frames W (by omega) hW f4
  clear ht hf mc mt mf f4
  go_enter Try.func64, Try.ntmps64
  go_wp2_with fail
  refine (hK1 _ (HA1.out.keep (by go_grown))).mono ?_
  rintro e w1 ⟨v1, rfl, ho1, hb1⟩
  have z1 : w.heap.size + 1 + 1 + 1 ≤ w1.heap.size := by have := hb1.size; simpa using this
  have p0 : w1.cell? ⟨w.heap.size, 7, none⟩ = some (Value.slice a' l' c') := (hb1.cell (p := ⟨w.heap.size, 7, none⟩) (by simp; omega)).trans (by go_cell)
  have r0 : w1.cell? ⟨w.heap.size + 1, 0, none⟩ = some (.int .i64 0) := (hb1.cell (p := ⟨w.heap.size + 1, 0, none⟩) (by simp)).trans (by go_cell)
  have s0 : w1.frozen? ⟨w.heap.size + 1, 0, none⟩ = false := (hb1.frozen (p := ⟨w.heap.size + 1, 0, none⟩) (by simp)).trans (by go_cell)
  have r1 : w1.cell? ⟨w.heap.size + 1, 1, none⟩ = some (.int .i64 0) := (hb1.cell (p := ⟨w.heap.size + 1, 1, none⟩) (by simp)).trans (by go_cell)
  have s1 : w1.frozen? ⟨w.heap.size + 1, 1, none⟩ = false := (hb1.frozen (p := ⟨w.heap.size + 1, 1, none⟩) (by simp)).trans (by go_cell)
  have r2 : w1.cell? ⟨w.heap.size + 1, 2, none⟩ = some (.int .i64 0) := (hb1.cell (p := ⟨w.heap.size + 1, 2, none⟩) (by simp)).trans (by go_cell)
  have s2 : w1.frozen? ⟨w.heap.size + 1, 2, none⟩ = false := (hb1.frozen (p := ⟨w.heap.size + 1, 2, none⟩) (by simp)).trans (by go_cell)
  have r3 : w1.cell? ⟨w.heap.size + 1, 3, none⟩ = some (.int .i64 0) := (hb1.cell (p := ⟨w.heap.size + 1, 3, none⟩) (by simp)).trans (by go_cell)
  have s3 : w1.frozen? ⟨w.heap.size + 1, 3, none⟩ = false := (hb1.frozen (p := ⟨w.heap.size + 1, 3, none⟩) (by simp)).trans (by go_cell)
  have r4 : w1.cell? ⟨w.heap.size + 1, 4, none⟩ = some (.int .i64 0) := (hb1.cell (p := ⟨w.heap.size + 1, 4, none⟩) (by simp)).trans (by go_cell)
  have s4 : w1.frozen? ⟨w.heap.size + 1, 4, none⟩ = false := (hb1.frozen (p := ⟨w.heap.size + 1, 4, none⟩) (by simp)).trans (by go_cell)
  have r5 : w1.cell? ⟨w.heap.size + 1, 5, none⟩ = some (.string ⟨#[]⟩) := (hb1.cell (p := ⟨w.heap.size + 1, 5, none⟩) (by simp)).trans (by go_cell)
  have s5 : w1.frozen? ⟨w.heap.size + 1, 5, none⟩ = false := (hb1.frozen (p := ⟨w.heap.size + 1, 5, none⟩) (by simp)).trans (by go_cell)
  have r6 : w1.cell? ⟨w.heap.size + 1, 6, none⟩ = some (Value.slice none 0 0) := (hb1.cell (p := ⟨w.heap.size + 1, 6, none⟩) (by simp)).trans (by go_cell)
  have s6 : w1.frozen? ⟨w.heap.size + 1, 6, none⟩ = false := (hb1.frozen (p := ⟨w.heap.size + 1, 6, none⟩) (by simp)).trans (by go_cell)
  have r7 : w1.cell? ⟨w.heap.size + 1, 7, none⟩ = some (Value.slice none 0 0) := (hb1.cell (p := ⟨w.heap.size + 1, 7, none⟩) (by simp)).trans (by go_cell)
  have s7 : w1.frozen? ⟨w.heap.size + 1, 7, none⟩ = false := (hb1.frozen (p := ⟨w.heap.size + 1, 7, none⟩) (by simp)).trans (by go_cell)
  have x0 : w1.cell? ⟨w.heap.size + 1 + 1, 0, none⟩ = some (.int .i64 m.flags) := (hb1.cell (p := ⟨w.heap.size + 1 + 1, 0, none⟩) (by simp)).trans (by go_cell)
  have x1 : w1.cell? ⟨w.heap.size + 1 + 1, 1, none⟩ = some (.int .i64 m.name) := (hb1.cell (p := ⟨w.heap.size + 1 + 1, 1, none⟩) (by simp)).trans (by go_cell)
  have x2 : w1.cell? ⟨w.heap.size + 1 + 1, 2, none⟩ = some (.int .i64 m.desc) := (hb1.cell (p := ⟨w.heap.size + 1 + 1, 2, none⟩) (by simp)).trans (by go_cell)
  have x3 : w1.cell? ⟨w.heap.size + 1 + 1, 3, none⟩ = some (.int .i64 m.deep) := (hb1.cell (p := ⟨w.heap.size + 1 + 1, 3, none⟩) (by simp)).trans (by go_cell)
  have x4 : w1.cell? ⟨w.heap.size + 1 + 1, 4, none⟩ = some (.int .i64 m.locals) := (hb1.cell (p := ⟨w.heap.size + 1 + 1, 4, none⟩) (by simp)).trans (by go_cell)
  have x5 : w1.cell? ⟨w.heap.size + 1 + 1, 5, none⟩ = some (.string m.code) := (hb1.cell (p := ⟨w.heap.size + 1 + 1, 5, none⟩) (by simp)).trans (by go_cell)
  have x6 : w1.cell? ⟨w.heap.size + 1 + 1, 6, none⟩ = some (Value.slice none 0 0) := (hb1.cell (p := ⟨w.heap.size + 1 + 1, 6, none⟩) (by simp)).trans (by go_cell)
  have x7 : w1.cell? ⟨w.heap.size + 1 + 1, 7, none⟩ = some (Value.slice none 0 0) := (hb1.cell (p := ⟨w.heap.size + 1 + 1, 7, none⟩) (by simp)).trans (by go_cell)
  have y6 : w1.frozen? ⟨w.heap.size + 1 + 1, 6, none⟩ = false := (hb1.frozen (p := ⟨w.heap.size + 1 + 1, 6, none⟩) (by simp)).trans (by go_cell)
  have y7 : w1.frozen? ⟨w.heap.size + 1 + 1, 7, none⟩ = false := (hb1.frozen (p := ⟨w.heap.size + 1 + 1, 7, none⟩) (by simp)).trans (by go_cell)
  obtain ⟨a1, k1, rfl⟩ := own_len ho1
  have HO1 : Hid (w1.ownsRow (w.heap.size + 1 + 1 + 1) 120 4 (.slice a1 m.traps.length k1) m.traps.length (rowTrap m.traps)) := by unfold Hid; simpa using ho1
  have HB1 : Hid (Below w.heap.size w w1) := (by go_grown : Below w.heap.size w _).trans (hb1.mono (by simp; omega))
  clear ho1 hb1
  go_wp2_with fail
  refine (hK2 _ (HA2.out.keep (HB1.out.setCell (by simp; omega) _))).mono ?_
  rintro e w2 ⟨v2, rfl, ho2, hb2⟩
  have z2 : w1.heap.size ≤ w2.heap.size := by have := hb2.size; simpa using this
  have r0' : w2.cell? ⟨w.heap.size + 1, 0, none⟩ = some (.int .i64 0) := (hb2.cell (p := ⟨w.heap.size + 1, 0, none⟩) (by simp; omega)).trans (by go_cell)
  have s0' : w2.frozen? ⟨w.heap.size + 1, 0, none⟩ = false := (hb2.frozen (p := ⟨w.heap.size + 1, 0, none⟩) (by simp; omega)).trans (by go_cell)
  have r1' : w2.cell? ⟨w.heap.size + 1, 1, none⟩ = some (.int .i64 0) := (hb2.cell (p := ⟨w.heap.size + 1, 1, none⟩) (by simp; omega)).trans (by go_cell)
  have s1' : w2.frozen? ⟨w.heap.size + 1, 1, none⟩ = false := (hb2.frozen (p := ⟨w.heap.size + 1, 1, none⟩) (by simp; omega)).trans (by go_cell)
  have r2' : w2.cell? ⟨w.heap.size + 1, 2, none⟩ = some (.int .i64 0) := (hb2.cell (p := ⟨w.heap.size + 1, 2, none⟩) (by simp; omega)).trans (by go_cell)
  have s2' : w2.frozen? ⟨w.heap.size + 1, 2, none⟩ = false := (hb2.frozen (p := ⟨w.heap.size + 1, 2, none⟩) (by simp; omega)).trans (by go_cell)
  have r3' : w2.cell? ⟨w.heap.size + 1, 3, none⟩ = some (.int .i64 0) := (hb2.cell (p := ⟨w.heap.size + 1, 3, none⟩) (by simp; omega)).trans (by go_cell)
  have s3' : w2.frozen? ⟨w.heap.size + 1, 3, none⟩ = false := (hb2.frozen (p := ⟨w.heap.size + 1, 3, none⟩) (by simp; omega)).trans (by go_cell)
  have r4' : w2.cell? ⟨w.heap.size + 1, 4, none⟩ = some (.int .i64 0) := (hb2.cell (p := ⟨w.heap.size + 1, 4, none⟩) (by simp; omega)).trans (by go_cell)
  have s4' : w2.frozen? ⟨w.heap.size + 1, 4, none⟩ = false := (hb2.frozen (p := ⟨w.heap.size + 1, 4, none⟩) (by simp; omega)).trans (by go_cell)
  have r5' : w2.cell? ⟨w.heap.size + 1, 5, none⟩ = some (.string ⟨#[]⟩) := (hb2.cell (p := ⟨w.heap.size + 1, 5, none⟩) (by simp; omega)).trans (by go_cell)
  have s5' : w2.frozen? ⟨w.heap.size + 1, 5, none⟩ = false := (hb2.frozen (p := ⟨w.heap.size + 1, 5, none⟩) (by simp; omega)).trans (by go_cell)
  have r6' : w2.cell? ⟨w.heap.size + 1, 6, none⟩ = some (Value.slice none 0 0) := (hb2.cell (p := ⟨w.heap.size + 1, 6, none⟩) (by simp; omega)).trans (by go_cell)
  have s6' : w2.frozen? ⟨w.heap.size + 1, 6, none⟩ = false := (hb2.frozen (p := ⟨w.heap.size + 1, 6, none⟩) (by simp; omega)).trans (by go_cell)
  have r7' : w2.cell? ⟨w.heap.size + 1, 7, none⟩ = some (Value.slice none 0 0) := (hb2.cell (p := ⟨w.heap.size + 1, 7, none⟩) (by simp; omega)).trans (by go_cell)
  have s7' : w2.frozen? ⟨w.heap.size + 1, 7, none⟩ = false := (hb2.frozen (p := ⟨w.heap.size + 1, 7, none⟩) (by simp; omega)).trans (by go_cell)
  have x0' : w2.cell? ⟨w.heap.size + 1 + 1, 0, none⟩ = some (.int .i64 m.flags) := (hb2.cell (p := ⟨w.heap.size + 1 + 1, 0, none⟩) (by simp; omega)).trans (by go_cell)
  have x1' : w2.cell? ⟨w.heap.size + 1 + 1, 1, none⟩ = some (.int .i64 m.name) := (hb2.cell (p := ⟨w.heap.size + 1 + 1, 1, none⟩) (by simp; omega)).trans (by go_cell)
  have x2' : w2.cell? ⟨w.heap.size + 1 + 1, 2, none⟩ = some (.int .i64 m.desc) := (hb2.cell (p := ⟨w.heap.size + 1 + 1, 2, none⟩) (by simp; omega)).trans (by go_cell)
  have x3' : w2.cell? ⟨w.heap.size + 1 + 1, 3, none⟩ = some (.int .i64 m.deep) := (hb2.cell (p := ⟨w.heap.size + 1 + 1, 3, none⟩) (by simp; omega)).trans (by go_cell)
  have x4' : w2.cell? ⟨w.heap.size + 1 + 1, 4, none⟩ = some (.int .i64 m.locals) := (hb2.cell (p := ⟨w.heap.size + 1 + 1, 4, none⟩) (by simp; omega)).trans (by go_cell)
  have x5' : w2.cell? ⟨w.heap.size + 1 + 1, 5, none⟩ = some (.string m.code) := (hb2.cell (p := ⟨w.heap.size + 1 + 1, 5, none⟩) (by simp; omega)).trans (by go_cell)
  have x6' : w2.cell? ⟨w.heap.size + 1 + 1, 6, none⟩ = some (Value.slice a1 m.traps.length k1) := (hb2.cell (p := ⟨w.heap.size + 1 + 1, 6, none⟩) (by simp; omega)).trans (by go_cell)
  have x7' : w2.cell? ⟨w.heap.size + 1 + 1, 7, none⟩ = some (Value.slice none 0 0) := (hb2.cell (p := ⟨w.heap.size + 1 + 1, 7, none⟩) (by simp; omega)).trans (by go_cell)
  have y7' : w2.frozen? ⟨w.heap.size + 1 + 1, 7, none⟩ = false := (hb2.frozen (p := ⟨w.heap.size + 1 + 1, 7, none⟩) (by simp; omega)).trans (by go_cell)
  obtain ⟨a2, k2, rfl⟩ := ho2.len
  have HO2 : Hid (FramesW w2 (w.heap.size + 1 + 1 + 1) (.slice a2 m.frames.length k2) m.frames) := ho2.mono (by simpa using z1)
  have HO1' : Hid (w2.ownsRow (w.heap.size + 1 + 1 + 1) 120 4 (.slice a1 m.traps.length k1) m.traps.length (rowTrap m.traps)) := own_below (ownsRow_setCell_below HO1.out (by simp) _) hb2
  have HB2 : Hid (Below w.heap.size w w2) := (HB1.out.setCell (by simp; omega) _).trans (hb2.mono (by simp; omega))
  clear ho2 hb2 HO1 HB1 hK1 hK2 HA1 HA2 p0 r0 s0 r1 s1 r2 s2 r3 s3 r4 s4 r5 s5 r6 s6 r7 s7 x0 x1 x2 x3 x4 x5 x6 x7 y6 y7
  go_wp2
  have g1 : w2.ownsRow (w.heap.size + 1 + 1 + 1) 120 4 (.slice a1 l k1) m.traps.length (rowTrap m.traps) := by
    have := HO1'.out
    rwa [show (Value.slice a1 m.traps.length k1) = .slice a1 l k1 by rw [e1]] at this
  have g2 : FramesW w2 (w.heap.size + 1 + 1 + 1) (.slice a2 l' k2) m.frames := by
    have := HO2.out
    rwa [show (Value.slice a2 m.frames.length k2) = .slice a2 l' k2 by rw [e2]] at this
  have g3 : MethodW w2 (w.heap.size + 1 + 1 + 1) (.slice a1 l k1) (.slice a2 l' k2) m := ⟨g1, g2⟩
  refine bodyPost_ret (v := .agg #[.int .i64 m.flags, .int .i64 m.name, .int .i64 m.desc, .int .i64 m.deep, .int .i64 m.locals, .string m.code, .slice a1 l k1, .slice a2 l' k2]) (by simp [results, Try.results64, go_sem, *]) rfl ⟨.slice a1 l k1, .slice a2 l' k2, rfl, ?_, ?_⟩
  · exact MethodW.mono ((((((((((g3.set (by simp) _).set (by simp) _).set (by simp) _).set (by simp) _).set (by simp) _).set (by simp) _).set (by simp) _).set (by simp) _).set (by simp) _)) (by omega)
  · exact ((((((((HB2.out.setCell (by simp; omega) _).setCell (by simp) _).setCell (by simp) _).setCell (by simp) _).setCell (by simp) _).setCell (by simp) _).setCell (by simp) _).setCell (by simp) _).setCell (by simp) _

end Go.Proofs.Ytnjfaikhiimdjaa
