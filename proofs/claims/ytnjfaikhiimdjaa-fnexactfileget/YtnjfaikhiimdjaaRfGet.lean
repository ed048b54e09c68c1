/- The program's FileGet: the reader's panic is caught in one place. -/
import Derived.Test.YtnjfaikhiimdjaaRfClass
import Derived.Test.YtnjfaikhiimdjaaGetSpec
import Derived.Defers
import Derived.Recover
namespace Go.Proofs.Ytnjfaikhiimdjaa
open Go.RowKit Fm
set_option maxHeartbeats 4000000
set_option maxRecDepth 20000
set_option linter.unusedVariables false

/-- the deferred closure, of a frame that returns: nothing is turned -/
theorem catch_idle (p q : Addr) (w : World) :
    CallsD Try.prog 43 #[.pointer (some p), .pointer (some q)] .returning w fun e u' w' => e = .returned (.tuple #[]) ∧ u' = .returning ∧ w' = w := by
  refine callsD_of_wpS Try.func43 rfl fun c₀ cs hu => ?_
  apply wpS_seq
  apply wpS_region
  simp [wpOpsS, go_sem, recoverD, hu, Try.ntmps43, Exit.thenS]
  refine wpS_cond (t := false) (by simp [Act.eval, Array.replicate]) ?_
  simp only [Bool.false_eq_true, if_false]
  refine wpS_of_wp (wp_skip ?_)
  cases c₀
  simp_all [bodyPostS, results, Try.results43]

/-- the seven cells of a class's variable, and the other variable, are nothing and false behind it -/
def reset (w : World) (C K : Nat) : World :=
  (((((((w.setCell ⟨C, 0, none⟩ (.slice none 0 0)).setCell ⟨C, 1, none⟩ (.int .i64 0)).setCell ⟨C, 2, none⟩ (.int .i64 0)).setCell ⟨C, 3, none⟩ (.int .i64 0)).setCell ⟨C, 4, none⟩ (.slice none 0 0)).setCell ⟨C, 5, none⟩ (.slice none 0 0)).setCell ⟨C, 6, none⟩ (.slice none 0 0)).setCell ⟨K, 0, none⟩ (.bool false)
theorem catch_panic (C K : Nat) (a0 a1 a2 a3 a4 a5 a6 k0 : Value) (hCK : C ≠ K) (u : TypeId) (pv : Value) (older : List PanicEntry) (w : World) (hc : Lk w C #[a0, a1, a2, a3, a4, a5, a6] 27) (hk : Lk w K #[k0] 4) :
    CallsD Try.prog 43 #[.pointer (some ⟨C, 0, none⟩), .pointer (some ⟨K, 0, none⟩)] (.panicking ({ v := .iface u pv, recovered := false } :: older)) w fun e u' w' =>
      e = .returned (.tuple #[]) ∧ u' = .panicking ({ v := .iface u pv, recovered := true } :: older) ∧ w' = reset w C K := by
  obtain ⟨⟨t0, t1, t2, t3, t4, t5, t6⟩, y0, y1, y2, y3, y4, y5, y6⟩ := hc.c7
  have q0 := hk.c 0 _ rfl
  have z0 := hk.z 0
  have hKC : K ≠ C := fun e => hCK e.symm
  refine callsD_of_wpS Try.func43 rfl fun c₀ cs hu => ?_
  apply wpS_seq
  apply wpS_region
  simp [wpOpsS, go_sem, recoverD, hu, Try.ntmps43, Exit.thenS]
  refine wpS_cond (t := true) (by simp [Act.eval, Array.replicate]) ?_
  simp only [if_true]
  refine wpS_of_wp ?_
  go_wp2
  simp [bodyPostS, results, Try.results43, reset]
theorem reset_C {w : World} {C K : Nat} {a0 a1 a2 a3 a4 a5 a6 : Value} (hCK : C ≠ K) (hc : Lk w C #[a0, a1, a2, a3, a4, a5, a6] 27) : Lk (reset w C K) C zC 27 :=
  (((((((hc.set 0 (.slice none 0 0) rfl).set 1 (.int .i64 0) rfl).set 2 (.int .i64 0) rfl).set 3 (.int .i64 0) rfl).set 4 (.slice none 0 0) rfl).set 5 (.slice none 0 0) rfl).set 6 (.slice none 0 0) rfl).other _ hCK
theorem reset_K {w : World} {C K : Nat} {k0 : Value} (hCK : C ≠ K) (hk : Lk w K #[k0] 4) : Lk (reset w C K) K #[.bool false] 4 :=
  (((((((hk.other (a := ⟨C, 0, none⟩) _ hCK.symm).other (a := ⟨C, 1, none⟩) _ hCK.symm).other (a := ⟨C, 2, none⟩) _ hCK.symm).other (a := ⟨C, 3, none⟩) _ hCK.symm).other (a := ⟨C, 4, none⟩) _ hCK.symm).other (a := ⟨C, 5, none⟩) _ hCK.symm).other (a := ⟨C, 6, none⟩) _ hCK.symm).set 0 _ rfl
theorem reset_old {w w1 : World} {C K : Nat} (h : Below w.heap.size w w1) (hC : w.heap.size ≤ C) (hK : w.heap.size ≤ K) : Below w.heap.size w (reset w1 C K) := by
  unfold reset
  exact (((((((h.setCell (p := ⟨C, 0, none⟩) hC _).setCell (p := ⟨C, 1, none⟩) hC _).setCell (p := ⟨C, 2, none⟩) hC _).setCell (p := ⟨C, 3, none⟩) hC _).setCell (p := ⟨C, 4, none⟩) hC _).setCell (p := ⟨C, 5, none⟩) hC _).setCell (p := ⟨C, 6, none⟩) hC _).setCell (p := ⟨K, 0, none⟩) hK _

theorem Kp.below {W W' : World} {B : Nat} (e0 : TypeId) (h : Below W.heap.size W W') : Kp W W' B e0 := fun e z v n xs _ ho => own_below ho h
theorem ClA.below {W W' : World} {B : Nat} {vp vi vf vm : Value} {c : MClass} {xs : List SMethod} {ys : List (List SFrame)} (h : ClA W B vp vi vf vm c xs ys) (hb : Below W.heap.size W W') : ClA W' B vp vi vf vm c xs ys := h.kp (Kp.below 0 hb) (by decide) (by decide) (by decide) (by decide) (by decide) (by decide) (by decide)
theorem MA.mono {W : World} {B B' : Nat} {v : Value} {ms : List MMethod} {xs : List SMethod} {ys : List (List SFrame)} (h : MA W B v ms xs ys) (hb : B' ≤ B) : MA W B' v ms xs ys :=
  ⟨h.len, h.len2, Joins.ownsRow_le h.row hb, h.sh, fun k a b => Joins.ownsRow_le (h.tr k a b) hb, fun k a b c => (h.fx k a b c).mono hb, h.at_, h.af, h.ak⟩
theorem ClA.mono {W : World} {B B' : Nat} {vp vi vf vm : Value} {c : MClass} {xs : List SMethod} {ys : List (List SFrame)} (h : ClA W B vp vi vf vm c xs ys) (hb : B' ≤ B) : ClA W B' vp vi vf vm c xs ys := ⟨Joins.ownsRow_le h.p hb, Joins.ownsRow_le h.i hb, Joins.ownsRow_le h.f hb, h.m.mono hb⟩
/-- while the answer is stored -/
structure RGet (w : World) (K : Nat) (vp vi vf vm : Value) (c : MClass) (xs : List SMethod) (ys : List (List SFrame)) (W : World) : Prop where
  r : ∃ zs, Lk W w.heap.size zs 27
  c : ClA W (w.heap.size + 3) vp vi vf vm c xs ys
  k : ∃ zs, Lk W K zs 4
  old : Below w.heap.size w W
theorem RGet.setC {w : World} {K : Nat} {vp vi vf vm : Value} {c : MClass} {xs : List SMethod} {ys : List (List SFrame)} {W : World} (h : RGet w K vp vi vf vm c xs ys W) (j : Nat) (u : Value) (hK : K ≠ w.heap.size) : RGet w K vp vi vf vm c xs ys (W.setCell ⟨w.heap.size, j, none⟩ u) := by
  obtain ⟨zs, hz⟩ := h.r
  obtain ⟨qs, hq⟩ := h.k
  exact ⟨⟨_, hz.set j u rfl⟩, h.c.kp (Kp.set hz j u) (by decide) (by decide) (by decide) (by decide) (by decide) (by decide) (by decide), ⟨_, hq.other u hK⟩, h.old.setCell (p := ⟨w.heap.size, j, none⟩) (Nat.le_refl _) _⟩
theorem RGet.setK {w : World} {K : Nat} {vp vi vf vm : Value} {c : MClass} {xs : List SMethod} {ys : List (List SFrame)} {W : World} (h : RGet w K vp vi vf vm c xs ys W) (j : Nat) (u : Value) (hK : w.heap.size < K) : RGet w K vp vi vf vm c xs ys (W.setCell ⟨K, j, none⟩ u) := by
  obtain ⟨zs, hz⟩ := h.r
  obtain ⟨qs, hq⟩ := h.k
  exact ⟨⟨_, hz.other u (by dsimp only; omega)⟩, h.c.kp (Kp.set hq j u) (by decide) (by decide) (by decide) (by decide) (by decide) (by decide) (by decide), ⟨_, hq.set j u rfl⟩, h.old.setCell (p := ⟨K, j, none⟩) (by dsimp only; omega) _⟩
def GetA (s : ByteArray) (w : World) (e : Ending) (w' : World) : Prop :=
  (getC s = none ∧ e = .returned (.tuple #[.agg zC, .bool false]) ∧ Below w.heap.size w w') ∨
  ∃ c vp vi vf vm xs ys, getC s = some c ∧ e = .returned (.tuple #[.agg #[vp, .int .i64 c.flags, .int .i64 c.name, .int .i64 c.super, vi, vf, vm], .bool true]) ∧ ClA w' w.heap.size vp vi vf vm c xs ys ∧ Below w.heap.size w w'

structure FGet (w : World) (vp vi vf vm : Value) (c : MClass) (xs : List SMethod) (ys : List (List SFrame)) (W : World) : Prop where
  r : ∃ zs, Lk W w.heap.size zs 27
  c : ClA W w.heap.size vp vi vf vm c xs ys
  old : Below w.heap.size w W
theorem FGet.set {w : World} {vp vi vf vm : Value} {c : MClass} {xs : List SMethod} {ys : List (List SFrame)} {W : World} (h : FGet w vp vi vf vm c xs ys W) (j : Nat) (u : Value) : FGet w vp vi vf vm c xs ys (W.setCell ⟨w.heap.size, j, none⟩ u) := by
  obtain ⟨zs, hz⟩ := h.r
  exact ⟨⟨_, hz.set j u rfl⟩, h.c.kp (Kp.set hz j u) (by decide) (by decide) (by decide) (by decide) (by decide) (by decide) (by decide), h.old.setCell (p := ⟨w.heap.size, j, none⟩) (Nat.le_refl _) _⟩
theorem FGet.fin {s : ByteArray} {w : World} {vp vi vf vm : Value} {c : MClass} {xs : List SMethod} {ys : List (List SFrame)} {W : World} (hy : getC s = some c) (h : FGet w vp vi vf vm c xs ys W) : GetA s w (.returned (.tuple #[.agg #[vp, .int .i64 c.flags, .int .i64 c.name, .int .i64 c.super, vi, vf, vm], .bool true])) W := .inr ⟨c, vp, vi, vf, vm, xs, ys, hy, rfl, h.c, h.old⟩
theorem readFile_any (s : ByteArray) (w : World) (hs : s.size ≤ 900) :
    Calls Try.prog 15 #[.string s] w (GetA s w) := by
  have hmf : ∀ (fn : Fn) (first cap : Array Value) (w : World), (Instr.makeFunc fn first cap).run Try.prog w = .ok (.func fn first cap) w := fun _ _ _ _ => rfl
  have HP := (show PAt (((w.alloc (.cells zC 27)).alloc (.cells #[.bool false] 4)).alloc (.cells #[.string s, .int .i64 0] 72)) (w.heap.size + 2) s s.data.toList from
    ⟨0, Nat.zero_le _, by have := heap_alloc_new ((w.alloc (.cells zC 27)).alloc (.cells #[.bool false] 4)) (.cells #[.string s, .int .i64 0] 72); simpa using this, rfl⟩)
  have KC := (show Lk (((w.alloc (.cells zC 27)).alloc (.cells #[.bool false] 4)).alloc (.cells #[.string s, .int .i64 0] 72)) w.heap.size zC 27 from ((Lk.new w _ _).alloc _).alloc _)
  have KK := (show Lk (((w.alloc (.cells zC 27)).alloc (.cells #[.bool false] 4)).alloc (.cells #[.string s, .int .i64 0] 72)) (w.heap.size + 1) #[.bool false] 4 from by
    have := (Lk.new (w.alloc (.cells zC 27)) #[.bool false] 4).alloc (.cells #[.string s, .int .i64 0] 72)
    simpa using this)
  have HO := (show Below w.heap.size w (((w.alloc (.cells zC 27)).alloc (.cells #[.bool false] 4)).alloc (.cells #[.string s, .int .i64 0] 72)) from
    (((Below.refl _ _).alloc (Nat.le_refl _) _).alloc (by simp) _).alloc (by simp; omega) _)
  have hsz : (((w.alloc (.cells zC 27)).alloc (.cells #[.bool false] 4)).alloc (.cells #[.string s, .int .i64 0] 72)).heap.size = w.heap.size + 3 := by simp
  have HC := rfClass_any (w.heap.size + 2) s _ _ (by omega) HP
  go_enter_defers Try.func15, Try.ntmps15
  go_wp2_with fail
  refine HC.mono ?_
  rintro e w1 (⟨c, r1, p1, ⟨vp, vi, vf, vm, xs, ys, rfl, hcl⟩, h1, g1⟩ | ⟨p1, ⟨n, rfl⟩, g1⟩)
  rotate_left
  · have hold : Below w.heap.size w w1 := HO.trans ⟨g1.os, g1.tape, g1.output, g1.size, fun k hk => g1.block k (by omega) (by simp; omega)⟩
    have KC1 := KC.call g1 (by omega)
    have KK1 := KK.call g1 (by omega)
    have HX := hid (show Below w.heap.size w (reset w1 w.heap.size (w.heap.size + 1)) from reset_old hold (Nat.le_refl _) (by omega))
    have RC := reset_C (K := w.heap.size + 1) (by omega) KC1
    have RK := reset_K (C := w.heap.size) (K := w.heap.size + 1) (by omega) KK1
    have HN := hid (get_bad p1)
    obtain ⟨⟨t0, t1, t2, t3, t4, t5, t6⟩, _⟩ := RC.c7
    have tk := RK.c 0 _ rfl
    go_wp2
    refine leaves_cons (f := 43) (args := #[.pointer (some ⟨w.heap.size, 0, none⟩), .pointer (some ⟨w.heap.size + 1, 0, none⟩)]) (by simp) (by simp [go_sem]) ?_
    refine (catch_panic w.heap.size (w.heap.size + 1) _ _ _ _ _ _ _ _ (by omega) _ _ [] _ KC1 KK1).mono ?_
    rintro e u' w'' ⟨rfl, rfl, rfl⟩
    simp [Leaves, settle, results, Try.results15, go_sem, t0, t1, t2, t3, t4, t5, t6, tk]
    exact .inl ⟨HN.out, rfl, HX.out⟩
  have KC1 := KC.call g1 (by omega)
  have KK1 := KK.call g1 (by omega)
  have hold : Below w.heap.size w w1 := HO.trans ⟨g1.os, g1.tape, g1.output, g1.size, fun k hk => g1.block k (by omega) (by simp; omega)⟩
  have hw1 := g1.size
  rw [hsz] at hw1 hcl
  obtain ⟨o1, k1, hv1⟩ := own_len hcl.p
  obtain ⟨o2, k2, hv2⟩ := own_len hcl.i
  obtain ⟨o3, k3, hv3⟩ := own_len hcl.f
  obtain ⟨o4, k4, hv4⟩ := own_len hcl.m.row
  subst hv1 hv2 hv3 hv4
  obtain ⟨W, HWd⟩ : ∃ W, Hid (W = (((((((w1.setCell ⟨w.heap.size, 0, none⟩ (.slice o1 c.pool.length k1)).setCell ⟨w.heap.size, 1, none⟩ (.int .i64 c.flags)).setCell ⟨w.heap.size, 2, none⟩ (.int .i64 c.name)).setCell ⟨w.heap.size, 3, none⟩ (.int .i64 c.super)).setCell ⟨w.heap.size, 4, none⟩ (.slice o2 c.faces.length k2)).setCell ⟨w.heap.size, 5, none⟩ (.slice o3 c.fields.length k3)).setCell ⟨w.heap.size, 6, none⟩ (.slice o4 c.methods.length k4))) := ⟨_, rfl⟩
  have KW := (show Lk W w.heap.size (arrC (.slice o1 c.pool.length k1) c.flags c.name c.super (.slice o2 c.faces.length k2) (.slice o3 c.fields.length k3) (.slice o4 c.methods.length k4)) 27 from by
    rw [HWd.out]
    exact ((((((KC1.set 0 _ rfl).set 1 _ rfl).set 2 _ rfl).set 3 _ rfl).set 4 _ rfl).set 5 _ rfl).set 6 _ rfl)
  have hset : ∀ {P : World → Prop}, (∀ W j u, P W → P (W.setCell ⟨w.heap.size, j, none⟩ u)) → P w1 → P W := fun hP h0 => by
    rw [HWd.out]
    exact hP _ _ _ (hP _ _ _ (hP _ _ _ (hP _ _ _ (hP _ _ _ (hP _ _ _ (hP _ _ _ h0))))))
  have KKW := hset (P := fun W => Lk W (w.heap.size + 1) #[.bool false] 4) (fun W j u h => h.other u (by dsimp only; omega)) KK1
  have hoW := hset (P := fun W => Below w.heap.size w W) (fun W j u h => h.setCell (p := ⟨w.heap.size, j, none⟩) (Nat.le_refl _) _) hold
  have hrW := hset (P := fun W => PAt W (w.heap.size + 2) s r1) (fun W j u h => by
    obtain ⟨a, q1, q2, q3⟩ := h
    exact ⟨a, q1, by rw [Below.heap_setCell _ _ _ _ (by dsimp only; omega)]; exact q2, q3⟩) h1
  have hclW := (hset (P := fun W => (∃ zs, Lk W w.heap.size zs 27) ∧ ClA W (w.heap.size + 3) (.slice o1 c.pool.length k1) (.slice o2 c.faces.length k2) (.slice o3 c.fields.length k3) (.slice o4 c.methods.length k4) c xs ys) (fun W j u h => by
    obtain ⟨⟨zs, hz⟩, hc⟩ := h
    exact ⟨⟨_, hz.set j u rfl⟩, hc.kp (Kp.set hz j u) (by decide) (by decide) (by decide) (by decide) (by decide) (by decide) (by decide)⟩) ⟨⟨_, KC1⟩, hcl⟩).2
  have HE := rfEnd_any (w.heap.size + 2) s r1 W (by omega) hrW
  have hCl0 := KC1.c7
  obtain ⟨⟨t0, t1, t2, t3, t4, t5, t6⟩, y0, y1, y2, y3, y4, y5, y6⟩ := hCl0
  clear HC HP KC KK HO h1 g1 hset hcl hold KC1 KK1
  have HPC := hid p1
  have HOld := hid hoW
  have HClA := hid hclW
  clear p1 hoW hclW hrW
  go_wp2_with fail
  rw [← HWd.out]
  refine HE.mono ?_
  rintro e w2 ⟨(⟨hr, rfl⟩ | ⟨hr, ⟨n, rfl⟩⟩), hb2⟩
  · have HY := hid (show getC s = some c from get_yes hs (by rw [← hr]; exact HPC.out))
    have KW2 := KW.keep hb2
    have KK2 := KKW.keep hb2
    have HE2 := hid (show (∃ zs, Lk w2 w.heap.size zs 27) ∧ ClA w2 (w.heap.size + 3) (.slice o1 c.pool.length k1) (.slice o2 c.faces.length k2) (.slice o3 c.fields.length k3) (.slice o4 c.methods.length k4) c xs ys ∧ Lk w2 (w.heap.size + 1) #[.bool false] 4 ∧ Below w.heap.size w w2 from
      ⟨⟨_, KW2⟩, ClA.below HClA.out hb2, KK2, HOld.out.trans (hb2.mono HOld.out.size)⟩)
    clear t0 t1 t2 t3 t4 t5 t6 y0 y1 y2 y3 y4 y5 y6
    obtain ⟨⟨t0, t1, t2, t3, t4, t5, t6⟩, y0, y1, y2, y3, y4, y5, y6⟩ := KW2.c7
    have tk := KK2.c 0 _ rfl
    have yk := KK2.z 0
    clear hb2 HE KW KKW HWd KW2 KK2 hr HOld HClA HPC
    go_wp2
    refine leaves_cons (f := 43) (args := #[.pointer (some ⟨w.heap.size, 0, none⟩), .pointer (some ⟨w.heap.size + 1, 0, none⟩)]) (by simp) (by simp [go_sem]) ?_
    refine (catch_idle ⟨w.heap.size, 0, none⟩ ⟨w.heap.size + 1, 0, none⟩ _).mono ?_
    rintro e u' w'' ⟨rfl, rfl, rfl⟩
    simp [Leaves, settle, results, Try.results15, go_sem, t0, t1, t2, t3, t4, t5, t6, tk]
    have hsC : ∀ W j u, RGet w (w.heap.size + 1) (.slice o1 c.pool.length k1) (.slice o2 c.faces.length k2) (.slice o3 c.fields.length k3) (.slice o4 c.methods.length k4) c xs ys W → RGet w (w.heap.size + 1) (.slice o1 c.pool.length k1) (.slice o2 c.faces.length k2) (.slice o3 c.fields.length k3) (.slice o4 c.methods.length k4) c xs ys (W.setCell ⟨w.heap.size, j, none⟩ u) := fun W j u h => h.setC j u (by omega)
    have hfin := (hsC _ 6 (.slice o4 c.methods.length k4) (hsC _ 5 (.slice o3 c.fields.length k3) (hsC _ 4 (.slice o2 c.faces.length k2) (hsC _ 3 (.int .i64 c.super) (hsC _ 2 (.int .i64 c.name) (hsC _ 1 (.int .i64 c.flags) (hsC _ 0 (.slice o1 c.pool.length k1) ⟨HE2.out.1, HE2.out.2.1, ⟨_, HE2.out.2.2.1⟩, HE2.out.2.2.2⟩))))))).setK 0 (.bool true) (by omega)
    exact .inr ⟨c, _, _, _, _, xs, ys, HY.out, rfl, hfin.c.mono (by omega), hfin.old⟩
  · have HN := hid (show getC s = none from by
      cases r1 with
      | nil => exact absurd rfl hr
      | cons x r => exact get_more HPC.out)
    have KW2 := KW.keep hb2
    have KK2 := KKW.keep hb2
    have HX := hid (show Below w.heap.size w (reset w2 w.heap.size (w.heap.size + 1)) from reset_old (HOld.out.trans (hb2.mono HOld.out.size)) (Nat.le_refl _) (by omega))
    have RC := reset_C (K := w.heap.size + 1) (by omega) KW2
    have RK := reset_K (C := w.heap.size) (K := w.heap.size + 1) (by omega) KK2
    clear t0 t1 t2 t3 t4 t5 t6 y0 y1 y2 y3 y4 y5 y6
    obtain ⟨⟨t0, t1, t2, t3, t4, t5, t6⟩, _⟩ := RC.c7
    have tk := RK.c 0 _ rfl
    clear hb2 HE KW KKW HWd hr HOld HClA HPC
    go_wp2
    refine leaves_cons (f := 43) (args := #[.pointer (some ⟨w.heap.size, 0, none⟩), .pointer (some ⟨w.heap.size + 1, 0, none⟩)]) (by simp) (by simp [go_sem]) ?_
    refine (catch_panic w.heap.size (w.heap.size + 1) _ _ _ _ _ _ _ _ (by omega) _ _ [] _ KW2 KK2).mono ?_
    rintro e u' w'' ⟨rfl, rfl, rfl⟩
    simp [Leaves, settle, results, Try.results15, go_sem, t0, t1, t2, t3, t4, t5, t6, tk]
    exact .inl ⟨HN.out, rfl, HX.out⟩

theorem implFileGet_any (s : ByteArray) (w : World) (hs : s.size ≤ 9223372036854775807) :
    Calls Try.prog 6 #[.string s] w (GetA s w) := by
  by_cases h9 : s.size ≤ 900
  · have HR := fun w => readFile_any s w h9
    have K0 := Lk.new w zC 27
    go_enter Try.func6, Try.ntmps6
    go_wp2_with fail
    refine (HR _).mono ?_
    rintro e w1 (⟨hn, rfl, hb⟩ | ⟨c, vp, vi, vf, vm, xs, ys, hy, rfl, hcl, hb⟩)
    · have HN := hid hn
      have KC := K0.keep hb
      have HO := hid (show Below w.heap.size w w1 from ((Below.refl w.heap.size w).alloc (Nat.le_refl _) _).trans (hb.mono (by simp)))
      obtain ⟨⟨t0, t1, t2, t3, t4, t5, t6⟩, y0, y1, y2, y3, y4, y5, y6⟩ := KC.c7
      clear hn hb K0 KC HR
      go_wp2
      refine bodyPost_ret (v := .tuple #[.agg zC, .bool false]) (by simp [results, Try.results6, go_sem, t0, t1, t2, t3, t4, t5, t6]) rfl ?_
      refine .inl ⟨HN.out, rfl, ?_⟩
      repeat' (first | refine Below.setCell ?_ (by exact Nat.le_refl _) _ | exact HO.out)
    · have HY := hid hy
      have KC := K0.keep hb
      have HO := (show Below w.heap.size w w1 from ((Below.refl w.heap.size w).alloc (Nat.le_refl _) _).trans (hb.mono (by simp)))
      obtain ⟨o1, k1, hv1⟩ := own_len hcl.p
      obtain ⟨o2, k2, hv2⟩ := own_len hcl.i
      obtain ⟨o3, k3, hv3⟩ := own_len hcl.f
      obtain ⟨o4, k4, hv4⟩ := own_len hcl.m.row
      subst hv1 hv2 hv3 hv4
      have HE := hid (show FGet w (.slice o1 c.pool.length k1) (.slice o2 c.faces.length k2) (.slice o3 c.fields.length k3) (.slice o4 c.methods.length k4) c xs ys w1 from ⟨⟨_, KC⟩, hcl.mono (by simp), HO⟩)
      obtain ⟨⟨t0, t1, t2, t3, t4, t5, t6⟩, y0, y1, y2, y3, y4, y5, y6⟩ := KC.c7
      clear hy hb K0 KC HR hcl HO
      go_wp2
      refine bodyPost_ret (v := .tuple #[.agg #[.slice o1 c.pool.length k1, .int .i64 c.flags, .int .i64 c.name, .int .i64 c.super, .slice o2 c.faces.length k2, .slice o3 c.fields.length k3, .slice o4 c.methods.length k4], .bool true]) (by simp [results, Try.results6, go_sem, t0, t1, t2, t3, t4, t5, t6]) rfl ?_
      refine FGet.fin (xs := xs) (ys := ys) HY.out ?_
      repeat' (first | refine FGet.set ?_ _ _ | exact HE.out)
  · go_enter Try.func6, Try.ntmps6
    go_wp2_with fail
    refine bodyPost_ret (v := .tuple #[.agg zC, .bool false]) (by simp [results, Try.results6, go_sem]) rfl ?_
    refine .inl ⟨get_long h9, rfl, ?_⟩
    go_grown

end Go.Proofs.Ytnjfaikhiimdjaa
