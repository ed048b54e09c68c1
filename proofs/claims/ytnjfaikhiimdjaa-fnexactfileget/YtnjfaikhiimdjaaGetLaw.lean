/- FileGet of the specification and of the program, in one form: what they answer is told by the text alone. -/
import Derived.Test.YtnjfaikhiimdjaaMkClass
namespace Go.Proofs.Ytnjfaikhiimdjaa
open Go.RowKit Fm
set_option maxHeartbeats 4000000
set_option maxRecDepth 20000
set_option linter.unusedVariables false

def cz : MClass := ⟨[], 0, 0, 0, [], [], []⟩
def clsOf (s : ByteArray) : MClass := (getC s).getD cz
def okOf (s : ByteArray) : Bool := (getC s).isSome
theorem short_cz : shortC cz := ⟨by simp [cz], by simp [cz], by simp [cz], by simp [cz], by simp [cz]⟩
theorem few_cz : cz.few := ⟨by simp [cz], by simp [cz], by simp [cz], by simp [cz], by simp [cz], by simp [cz]⟩
theorem short_of {c : MClass} (h : fineC c) : shortC c := by
  obtain ⟨h1, _, _, _, h2, h3, h4⟩ := h
  refine ⟨by have := h1.1; omega, by have := h2.1; omega, by have := h3.1; omega, by have := h4.1; omega, fun m hm => ?_⟩
  obtain ⟨_, _, _, hb⟩ := h4.2 m hm
  unfold fineM2 at hb
  unfold shortM
  split at hb
  · obtain ⟨_, _, _, e1, e2⟩ := hb
    rw [e1, e2]
    simp
  · obtain ⟨_, _, _, q1, q2⟩ := hb
    refine ⟨by have := q1.1; omega, by have := q2.1; omega, fun f hf => ?_⟩
    obtain ⟨_, r1, r2⟩ := q2.2 f hf
    exact ⟨by have := r1.1; omega, by have := r2.1; omega⟩
theorem short_cls (s : ByteArray) : shortC (clsOf s) := by
  unfold clsOf
  cases h : getC s with
  | none => exact short_cz
  | some c => exact short_of ((getC_iff s c).1 h).2.1

def GetU (s : ByteArray) (w : World) (e : Ending) (w' : World) : Prop := ∃ vp vi vf vm, e = .returned (.tuple #[.agg #[vp, .int .i64 (clsOf s).flags, .int .i64 (clsOf s).name, .int .i64 (clsOf s).super, vi, vf, vm], .bool (okOf s)]) ∧ ClassW w' w.heap.size vp vi vf vm (clsOf s) ∧ (clsOf s).few ∧ Below w.heap.size w w'
def GetV (s : ByteArray) (w : World) (e : Ending) (w' : World) : Prop := ∃ vp vi vf vm xs ys, e = .returned (.tuple #[.agg #[vp, .int .i64 (clsOf s).flags, .int .i64 (clsOf s).name, .int .i64 (clsOf s).super, vi, vf, vm], .bool (okOf s)]) ∧ ClA w' w.heap.size vp vi vf vm (clsOf s) xs ys ∧ Below w.heap.size w w'
theorem ClA.zero (w : World) (B : Nat) : ClA w B (.slice none 0 0) (.slice none 0 0) (.slice none 0 0) (.slice none 0 0) cz [] [] := ⟨World.ownsRow_nil _ _ _ _, World.ownsRow_nil _ _ _ _, World.ownsRow_nil _ _ _ _, MA.nil _ _⟩
theorem GetA.v {s : ByteArray} {w : World} {e : Ending} {w' : World} (h : GetA s w e w') : GetV s w e w' := by
  rcases h with ⟨hn, rfl, hb⟩ | ⟨c, vp, vi, vf, vm, xs, ys, hy, rfl, hc, hb⟩
  · refine ⟨.slice none 0 0, .slice none 0 0, .slice none 0 0, .slice none 0 0, [], [], ?_, ?_, hb⟩
    · simp [clsOf, okOf, hn, cz]
    · have : clsOf s = cz := by simp [clsOf, hn]
      rw [this]
      exact ClA.zero _ _
  · have e1 : clsOf s = c := by simp [clsOf, hy]
    have e2 : okOf s = true := by simp [okOf, hy]
    exact ⟨vp, vi, vf, vm, xs, ys, by rw [e1, e2], by rw [e1]; exact hc, hb⟩
theorem GetPost.u {s : ByteArray} {w : World} {e : Ending} {w' : World} (h : GetPost s w e w') : GetU s w e w' := by
  rcases h with ⟨hn, rfl, hb⟩ | ⟨c, vp, vi, vf, vm, hy, rfl, hc, hf, hb⟩
  · have e1 : clsOf s = cz := by simp [clsOf, hn]
    refine ⟨.slice none 0 0, .slice none 0 0, .slice none 0 0, .slice none 0 0, ?_, ?_, ?_, hb⟩
    · simp [clsOf, okOf, hn, cz]
    · rw [e1]
      exact (ClA.zero _ _).all
    · rw [e1]
      exact few_cz
  · have e1 : clsOf s = c := by simp [clsOf, hy]
    have e2 : okOf s = true := by simp [okOf, hy]
    exact ⟨vp, vi, vf, vm, by rw [e1, e2], by rw [e1]; exact hc, by rw [e1]; exact hf, hb⟩

/-- while the specification's answer is stored -/
structure SGet (w : World) (vp vi vf vm : Value) (c : MClass) (W : World) : Prop where
  r : ∃ zs, Lk W w.heap.size zs 27
  c : ∃ xs, W.ownsRow w.heap.size 75 4 vp c.pool.length (cellsC c.pool) ∧ W.ownsRow w.heap.size 3 1 vi c.faces.length (rowI c.faces) ∧ W.ownsRow w.heap.size 78 3 vf c.fields.length (rowField c.fields) ∧ MX W w.heap.size vm c.methods xs
  old : Below w.heap.size w W
theorem SGet.set {w : World} {vp vi vf vm : Value} {c : MClass} {W : World} (h : SGet w vp vi vf vm c W) (j : Nat) (u : Value) : SGet w vp vi vf vm c (W.setCell ⟨w.heap.size, j, none⟩ u) := by
  obtain ⟨zs, hz⟩ := h.r
  obtain ⟨xs, h1, h2, h3, h4⟩ := h.c
  have k : Kp W (W.setCell ⟨w.heap.size, j, none⟩ u) w.heap.size 27 := Kp.set hz j u
  exact ⟨⟨_, hz.set j u rfl⟩, ⟨xs, k _ _ _ _ _ (by decide) h1, k _ _ _ _ _ (by decide) h2, k _ _ _ _ _ (by decide) h3, h4.kp k (by decide) (by decide) (by decide) (by decide)⟩, h.old.setCell (p := ⟨w.heap.size, j, none⟩) (Nat.le_refl _) _⟩
theorem SGet.fin {s : ByteArray} {w : World} {vp vi vf vm : Value} {W : World} (hf : (clsOf s).few) (h : SGet w vp vi vf vm (clsOf s) W) : GetU s w (.returned (.tuple #[.agg #[vp, .int .i64 (clsOf s).flags, .int .i64 (clsOf s).name, .int .i64 (clsOf s).super, vi, vf, vm], .bool (okOf s)])) W := by
  obtain ⟨xs, h1, h2, h3, h4⟩ := h.c
  exact ⟨vp, vi, vf, vm, rfl, ⟨h1, h2, h3, h4.all⟩, hf, h.old⟩
theorem specFileGet_any (s : ByteArray) (w : World) (hs : s.size ≤ 9223372036854775807) :
    Calls Try.prog 5 #[.string s] w (GetU s w) := by
  have HR := fun w => (l1Get_any s w hs).mono (fun e w' h => GetPost.u h)
  have K0 := Lk.new w zC 27
  go_enter Try.func5, Try.ntmps5
  go_wp2_with fail
  refine (HR _).mono ?_
  rintro e w1 ⟨vp, vi, vf, vm, rfl, hcl, hf, hb⟩
  have HF := hid hf
  have KC := K0.keep hb
  have HO := (show Below w.heap.size w w1 from ((Below.refl w.heap.size w).alloc (Nat.le_refl _) _).trans (hb.mono (by simp)))
  generalize hc : clsOf s = c at hcl hf HF ⊢
  obtain ⟨o1, k1, hv1⟩ := own_len hcl.p
  obtain ⟨o2, k2, hv2⟩ := own_len hcl.i
  obtain ⟨o3, k3, hv3⟩ := own_len hcl.f
  obtain ⟨o4, k4, hv4⟩ := hcl.m.len
  subst hv1 hv2 hv3 hv4
  obtain ⟨xs, hxs⟩ := MX.of (hcl.mono (B' := w.heap.size) (by simp)).m
  have hcm := hcl.mono (B' := w.heap.size) (by simp)
  have HE := hid (show SGet w (.slice o1 c.pool.length k1) (.slice o2 c.faces.length k2) (.slice o3 c.fields.length k3) (.slice o4 c.methods.length k4) c w1 from ⟨⟨_, KC⟩, ⟨xs, hcm.p, hcm.i, hcm.f, hxs⟩, HO⟩)
  have HC := hid hc
  obtain ⟨ok, hok⟩ : ∃ ok, Hid (okOf s = ok) := ⟨_, hid rfl⟩
  rw [hok.out]
  obtain ⟨⟨t0, t1, t2, t3, t4, t5, t6⟩, y0, y1, y2, y3, y4, y5, y6⟩ := KC.c7
  clear hb K0 KC HR hcl HO hcm hxs hc hf
  go_wp2
  refine bodyPost_ret (v := .tuple #[.agg #[.slice o1 c.pool.length k1, .int .i64 c.flags, .int .i64 c.name, .int .i64 c.super, .slice o2 c.faces.length k2, .slice o3 c.fields.length k3, .slice o4 c.methods.length k4], .bool ok]) (by simp [results, Try.results5, go_sem, t0, t1, t2, t3, t4, t5, t6]) rfl ?_
  have hcs := HC.out
  subst hcs
  rw [← hok.out]
  refine SGet.fin HF.out ?_
  repeat' (first | refine SGet.set ?_ _ _ | exact HE.out)

end Go.Proofs.Ytnjfaikhiimdjaa
