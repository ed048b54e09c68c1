/- Contract of l1Get of the specification. -/
import Derived.Test.YtnjfaikhiimdjaaPutClass
import Derived.Test.YtnjfaikhiimdjaaRdClass
import Derived.Deep.CutBlock
import Derived.Deep.DeepCutAuto
namespace Go.Proofs.Ytnjfaikhiimdjaa
open Go.RowKit Fm
set_option maxHeartbeats 4000000
set_option maxRecDepth 20000
set_option linter.unusedVariables false

def GetPost (s : ByteArray) (w : World) (e : Ending) (w' : World) : Prop :=
  (getC s = none ∧ e = .returned (.tuple #[.agg zC, .bool false]) ∧ Below w.heap.size w w') ∨
  ∃ c vp vi vf vm, getC s = some c ∧ e = .returned (.tuple #[.agg #[vp, .int .i64 c.flags, .int .i64 c.name, .int .i64 c.super, vi, vf, vm], .bool true]) ∧ ClassW w' w.heap.size vp vi vf vm c ∧ c.few ∧ Below w.heap.size w w'
theorem get_long {s : ByteArray} (h : ¬ s.size ≤ 900) : getC s = none := by unfold getC; rw [if_neg h]
theorem get_bad {s : ByteArray} (h : rClass s.data.toList = none) : getC s = none := by
  unfold getC
  split
  · simp [h]
  · rfl
theorem get_more {s : ByteArray} {c : MClass} {b : UInt8} {r : List UInt8} (h : rClass s.data.toList = some (c, b :: r)) : getC s = none := by
  unfold getC
  split
  · simp [h]
  · rfl
theorem get_yes {s : ByteArray} {c : MClass} (hs : s.size ≤ 900) (h : rClass s.data.toList = some (c, [])) : getC s = some c := by
  unfold getC
  rw [if_pos hs]
  simp [h]
theorem zCell (w : World) (o : Obj) : Lk ((w.alloc (.cells zC 27)).alloc o) w.heap.size zC 27 := (Lk.new w _ _).alloc _
/-- stores into the result's block keep what lies elsewhere -/
structure GE (w : World) (vp vi vf vm : Value) (c : MClass) (W : World) : Prop where
  old : Below w.heap.size w W
  p : W.ownsRow w.heap.size 75 4 vp c.pool.length (cellsC c.pool)
  i : W.ownsRow w.heap.size 3 1 vi c.faces.length (rowI c.faces)
  f : W.ownsRow w.heap.size 78 3 vf c.fields.length (rowField c.fields)
  m : ∃ xs, MX W w.heap.size vm c.methods xs
  r : ∃ zs, Lk W w.heap.size zs 27
theorem GE.set {w : World} {vp vi vf vm : Value} {c : MClass} {W : World} (h : GE w vp vi vf vm c W) (j : Nat) (u : Value) : GE w vp vi vf vm c (W.setCell ⟨w.heap.size, j, none⟩ u) := by
  obtain ⟨zs, hz⟩ := h.r
  obtain ⟨xs, hx⟩ := h.m
  have k : Kp W (W.setCell ⟨w.heap.size, j, none⟩ u) w.heap.size 27 := Kp.set hz j u
  exact ⟨h.old.setCell (p := ⟨w.heap.size, j, none⟩) (Nat.le_refl _) _, k _ _ _ _ _ (by decide) h.p, k _ _ _ _ _ (by decide) h.i, k _ _ _ _ _ (by decide) h.f, ⟨xs, hx.kp k (by decide) (by decide) (by decide) (by decide)⟩, ⟨_, hz.set j u rfl⟩⟩
theorem GE.fin {w : World} {vp vi vf vm : Value} {c : MClass} {W : World} (h : GE w vp vi vf vm c W) : ClassW W w.heap.size vp vi vf vm c := by
  obtain ⟨xs, hx⟩ := h.m
  exact ⟨h.p, h.i, h.f, hx.all⟩

theorem GE.post {s : ByteArray} {w : World} {vp vi vf vm : Value} {c : MClass} {W : World} (hy : getC s = some c) (hf : c.few) (h : GE w vp vi vf vm c W) : GetPost s w (.returned (.tuple #[.agg #[vp, .int .i64 c.flags, .int .i64 c.name, .int .i64 c.super, vi, vf, vm], .bool true])) W := .inr ⟨c, vp, vi, vf, vm, hy, rfl, h.fin, hf, h.old⟩

theorem l1Get_any (s : ByteArray) (w : World) (hs : s.size ≤ 9223372036854775807) :
    Calls Try.prog 14 #[.string s] w fun e w' => GetPost s w e w' := by
  by_cases h9 : s.size ≤ 900
  · have S0 := (show RdAt (((w.alloc (.cells zC 27))).alloc (.cells #[.string s, .int .i64 0, .bool false] 69)) (w.heap.size + 1) s (some s.data.toList) from
      ⟨0, Nat.zero_le _, by have := heap_alloc_new (w.alloc (.cells zC 27)) (.cells #[.string s, .int .i64 0, .bool false] 69); simpa using this, fun r hr => by cases hr; rfl⟩)
    have HC := l1class_any (w.heap.size + 1) s _ _ (by omega) S0
    have K0 := zCell w (.cells #[.string s, .int .i64 0, .bool false] 69)
    clear S0
    go_enter Try.func14, Try.ntmps14
    go_upto_region 4 with fail
    go_cut [5] (fun p wc => ∃ (c : MClass) (vp vi vf vm : Value) (st' : Option (List UInt8)) (C : Nat), p = .pointer (some ⟨C, 0, none⟩) ∧ w.heap.size + 1 < C ∧ Hid (ClassW wc w.heap.size vp vi vf vm c) ∧ Hid c.few ∧ Hid (RdAt wc (w.heap.size + 1) s st') ∧ Hid (Below w.heap.size w wc) ∧ Hid (Lk wc w.heap.size zC 27) ∧ Hid (Lk wc C (arrC vp c.flags c.name c.super vi vf vm) 27) ∧ Hid (Rd rClass (some s.data.toList) c st'))
    case first =>
      go_wp2_with fail
      refine HC.mono ?_
      rintro e w1 ⟨c, vp, vi, vf, vm, st', rfl, hcw, hcf, h1, g1, r1⟩
      have K1 := K0.call g1 (by omega)
      have hold : Below w.heap.size w w1 := ⟨g1.os, g1.tape, g1.output, by have := g1.size; simp at this; omega, fun k hk => by
        rw [g1.block k (by simp; omega) (by simp; omega), Below.heap_alloc _ _ _ (by simp; omega), Below.heap_alloc _ _ _ hk]⟩
      have hlb := h1.lt
      have hb1 : Below w1.heap.size w1 (w1.alloc (.cells (arrC vp c.flags c.name c.super vi vf vm) 27)) := (Below.refl _ _).alloc (Nat.le_refl _) _
      have HX := hid (show ∃ (c' : MClass) (vp' vi' vf' vm' : Value) (st2 : Option (List UInt8)) (C : Nat), Value.pointer (some ⟨w1.heap.size, 0, none⟩) = .pointer (some ⟨C, 0, none⟩) ∧ w.heap.size + 1 < C ∧ Hid (ClassW (w1.alloc (.cells (arrC vp c.flags c.name c.super vi vf vm) 27)) w.heap.size vp' vi' vf' vm' c') ∧ Hid c'.few ∧ Hid (RdAt (w1.alloc (.cells (arrC vp c.flags c.name c.super vi vf vm) 27)) (w.heap.size + 1) s st2) ∧ Hid (Below w.heap.size w (w1.alloc (.cells (arrC vp c.flags c.name c.super vi vf vm) 27))) ∧ Hid (Lk (w1.alloc (.cells (arrC vp c.flags c.name c.super vi vf vm) 27)) w.heap.size zC 27) ∧ Hid (Lk (w1.alloc (.cells (arrC vp c.flags c.name c.super vi vf vm) 27)) C (arrC vp' c'.flags c'.name c'.super vi' vf' vm') 27) ∧ Hid (Rd rClass (some s.data.toList) c' st2) from
        ⟨c, vp, vi, vf, vm, st', w1.heap.size, rfl, hlb, (hcw.mono (by simp; omega)).keep hb1, hcf, h1.keep hb1, hold.trans (hb1.mono hold.size), K1.keep hb1, Lk.new _ _ _, r1⟩)
      obtain ⟨o1, k1, hv1⟩ := own_len hcw.p
      obtain ⟨o2, k2, hv2⟩ := own_len hcw.i
      obtain ⟨o3, k3, hv3⟩ := own_len hcw.f
      obtain ⟨o4, k4, hv4⟩ := hcw.m.len
      subst hv1 hv2 hv3 hv4
      clear h1 g1 HC hcw hcf K0 K1 hold hb1 r1
      go_wp2_with fail
      go_meet
      case rel => exact HX.out
    case rest =>
      obtain ⟨c, vp, vi, vf, vm, st', C, rfl, hC, HW, HF, HRd, HO, HR, HCl, HRc⟩ := hcut
      clear HC K0
      obtain ⟨a, ha, hr, c0, c1, c2, fz, hu1, hu2⟩ := HRd.out.cells
      obtain ⟨⟨p0, p1, p2, p3, p4, p5, p6⟩, y0, y1, y2, y3, y4, y5, y6⟩ := HR.out.c7
      obtain ⟨⟨t0, t1, t2, t3, t4, t5, t6⟩, _⟩ := HCl.out.c7
      obtain ⟨o1, k1, hv1⟩ := own_len HW.out.p
      obtain ⟨o2, k2, hv2⟩ := own_len HW.out.i
      obtain ⟨o3, k3, hv3⟩ := own_len HW.out.f
      obtain ⟨o4, k4, hv4⟩ := HW.out.m.len
      subst hv1 hv2 hv3 hv4
      clear hu1 hu2 fz
      have hne : ¬ w.heap.size = C := by omega
      cases st' with
      | none =>
        have HN := hid (show getC s = none from get_bad (by
          cases hp : rClass s.data.toList with
          | none => rfl
          | some y => have := HRc.out; simp [Rd, hp] at this))
        simp only [Option.isNone_none] at c2
        clear hr HW HF HRd HR HCl HRc
        go_wp2_with fail
        refine bodyPost_ret (v := .tuple #[.agg zC, .bool false]) (by simp [results, Try.results14, go_sem, p0, p1, p2, p3, p4, p5, p6]) rfl ?_
        refine .inl ⟨HN.out, rfl, ?_⟩
        repeat' (first | refine Below.setCell ?_ (by exact Nat.le_refl _) _ | exact HO.out)
      | some rr =>
        have hrr := hr rr rfl
        obtain ⟨s', hs', hp⟩ := HRc.out.got
        cases hs'
        simp only [Option.isNone_some] at c2
        by_cases hend : a = s.size
        · have hnil : rr = [] := by rw [hrr, hend]; exact List.drop_eq_nil_of_le (by simp)
          subst hnil
          obtain ⟨hfine, heq⟩ := codecClass.only _ _ _ hp
          have HY := hid (get_yes h9 hp)
          have hput := (show ∀ W, Below wc.heap.size wc W → Calls Try.prog 33 #[.agg #[.slice o1 c.pool.length k1, .int .i64 c.flags, .int .i64 c.name, .int .i64 c.super, .slice o2 c.faces.length k2, .slice o3 c.fields.length k3, .slice o4 c.methods.length k4]] W fun e w' => e = .returned (.string s) ∧ Below W.heap.size W w' from fun W hW => by
            have f1 := hfine.1.1
            have f2 := hfine.2.2.2.2.1.1
            have f3 := hfine.2.2.2.2.2.1.1
            have f4 := hfine.2.2.2.2.2.2.1
            refine (putClass_any c _ _ _ _ _ W HF.out (by omega) (by omega) (by omega) (by omega) (HW.out.keep hW)).mono ?_
            rintro e w' ⟨u, rfl, hu, hb⟩
            refine ⟨?_, hb⟩
            have : u = s := by
              rw [hu.2 hfine, ← bytes_data s]
              rw [List.append_nil] at heq
              rw [heq]
            rw [this])
          obtain ⟨xs, hxs⟩ := MX.of HW.out.m
          have HG := hid (show ∀ W, Below wc.heap.size wc W → GE w (.slice o1 c.pool.length k1) (.slice o2 c.faces.length k2) (.slice o3 c.fields.length k3) (.slice o4 c.methods.length k4) c W from fun W hW => by
            have hk := HW.out.keep hW
            obtain ⟨ys, hys⟩ := MX.of hk.m
            exact ⟨HO.out.trans (hW.mono HO.out.size), hk.p, hk.i, hk.f, ⟨ys, hys⟩, ⟨_, HR.out.keep hW⟩⟩)
          subst hend
          clear hr hrr hp heq hfine hxs HRd HRc HW
          go_wp2_with fail
          refine (hput _ (Below.refl _ _)).mono ?_
          rintro e w2 ⟨rfl, hb2⟩
          have HG2 := hid (HG.out _ hb2)
          obtain ⟨⟨q0, q1, q2, q3, q4, q5, q6⟩, z0, z1, z2, z3, z4, z5, z6⟩ := (HR.out.keep hb2).c7
          obtain ⟨⟨v0, v1, v2, v3, v4, v5, v6⟩, _⟩ := (HCl.out.keep hb2).c7
          clear hput HG hb2 p0 p1 p2 p3 p4 p5 p6 y0 y1 y2 y3 y4 y5 y6 t0 t1 t2 t3 t4 t5 t6 HR HCl c0 c1 c2
          go_wp2_with fail
          refine bodyPost_ret (v := .tuple #[.agg #[.slice o1 c.pool.length k1, .int .i64 c.flags, .int .i64 c.name, .int .i64 c.super, .slice o2 c.faces.length k2, .slice o3 c.fields.length k3, .slice o4 c.methods.length k4], .bool true]) (by simp [results, Try.results14, go_sem, q0, q1, q2, q3, q4, q5, q6]) rfl ?_
          refine GE.post HY.out HF.out ?_
          repeat' (first | refine GE.set ?_ _ _ | exact HG2.out)
        · have HN := hid (show getC s = none from by
            cases rr with
            | nil =>
              have := congrArg List.length hrr
              simp at this
              omega
            | cons x r => exact get_more hp)
          have hne2 : ((a : Int) != (s.size : Int)) = true := by simpa using (by omega : ¬ (a : Int) = s.size)
          clear hr hrr hp HW HF HRd HR HCl HRc hend
          go_wp2_with fail
          refine bodyPost_ret (v := .tuple #[.agg zC, .bool false]) (by simp [results, Try.results14, go_sem, p0, p1, p2, p3, p4, p5, p6]) rfl ?_
          refine .inl ⟨HN.out, rfl, ?_⟩
          repeat' (first | refine Below.setCell ?_ (by exact Nat.le_refl _) _ | exact HO.out)
  · go_enter Try.func14, Try.ntmps14
    go_wp2_with fail
    refine bodyPost_ret (v := .tuple #[.agg zC, .bool false]) (by simp [results, Try.results14, go_sem]) rfl ?_
    refine .inl ⟨get_long h9, rfl, ?_⟩
    go_grown

end Go.Proofs.Ytnjfaikhiimdjaa
