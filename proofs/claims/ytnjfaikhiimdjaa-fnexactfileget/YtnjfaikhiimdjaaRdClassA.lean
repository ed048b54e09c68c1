/- Contracts of the specification's reader: a class. -/
import Derived.Test.YtnjfaikhiimdjaaRdMethod
namespace Go.Proofs.Ytnjfaikhiimdjaa
open Go.RowKit Fm
set_option maxHeartbeats 4000000
set_option maxRecDepth 20000
set_option linter.unusedVariables false

/-- rows of every type but e0 are kept -/
def Kp (W W' : World) (B : Nat) (e0 : TypeId) : Prop := ∀ e z v n xs, e ≠ e0 → W.ownsRow B e z v n xs → W'.ownsRow B e z v n xs
theorem Kp.call {W W' : World} {B b : Nat} (e0 : TypeId) (g : W.grownBy W' (some b)) (hb : b < B) : Kp W W' B e0 := fun e z v n xs _ ho => grown_own g ho (fun q => by have := (ho.lt _ q).1; omega)
theorem Kp.grow {W W' : World} {B B' : Nat} {e0 : TypeId} {z n : Nat} {v : Value} {xs : List Value} {o : Obj} (hv : W.ownsRow B' e0 z v n xs) (g : (W.alloc o).grownBy W' v.ownBlock) : Kp W W' B e0 := fun e z v n xs he ho => own_grow (ho.alloc o) (hv.alloc o) he g
theorem Kp.set {W : World} {B C : Nat} {cs : Array Value} {T : TypeId} (h : Lk W C cs T) (j : Nat) (u : Value) : Kp W (W.setCell ⟨C, j, none⟩ u) B T := fun e z v n xs he ho => ownsRow_set_ne ho u (own_ne ho h (fun q => he q.symm))
theorem Kp.trans {W W' W2 : World} {B : Nat} {e0 : TypeId} (h : Kp W W' B e0) (k : Kp W' W2 B e0) : Kp W W2 B e0 := fun e z v n xs he ho => k e z v n xs he (h e z v n xs he ho)
theorem FramesW.kp {W W' : World} {B : Nat} {e0 : TypeId} {v : Value} {fs : List MFrame} (h : FramesW W B v fs) (k : Kp W W' B e0) (h1 : 123 ≠ e0) (h2 : 144 ≠ e0) : FramesW W' B v fs := by
  obtain ⟨xs, k1, k2, k3⟩ := h
  exact ⟨xs, k1, k _ _ _ _ _ h1 k2, fun j hj hj' => ⟨(k3 j hj hj').at_, k _ _ _ _ _ h2 (k3 j hj hj').l, k _ _ _ _ _ h2 (k3 j hj hj').s⟩⟩
theorem MethodW.kp {W W' : World} {B : Nat} {e0 : TypeId} {vt vf : Value} {m : MMethod} (h : MethodW W B vt vf m) (k : Kp W W' B e0) (h0 : 120 ≠ e0) (h1 : 123 ≠ e0) (h2 : 144 ≠ e0) : MethodW W' B vt vf m := ⟨k _ _ _ _ _ h0 h.t, h.f.kp k h1 h2⟩
/-- methods with their rows -/
structure MX (W : World) (B : Nat) (v : Value) (ms : List MMethod) (xs : List SMethod) : Prop where
  len : xs.length = ms.length
  row : W.ownsRow B 83 8 v ms.length (rowMethod xs)
  each : ∀ k (h : k < ms.length) (h' : k < xs.length), ∃ vt vf, xs[k] = shM ms[k] vt vf ∧ MethodW W B vt vf ms[k]
theorem MX.all {W : World} {B : Nat} {v : Value} {ms : List MMethod} {xs : List SMethod} (h : MX W B v ms xs) : MethodsW W B v ms := ⟨xs, h.len, h.row, h.each⟩
theorem MX.of {W : World} {B : Nat} {v : Value} {ms : List MMethod} (h : MethodsW W B v ms) : ∃ xs, MX W B v ms xs := by
  obtain ⟨xs, h1, h2, h3⟩ := h
  exact ⟨xs, h1, h2, h3⟩
theorem MX.nil (W : World) (B : Nat) : MX W B (.slice none 0 0) [] [] := ⟨rfl, World.ownsRow_nil _ _ _ _, fun k hk => by simp at hk⟩
theorem MX.kp {W W' : World} {B : Nat} {e0 : TypeId} {v : Value} {ms : List MMethod} {xs : List SMethod} (h : MX W B v ms xs) (k : Kp W W' B e0) (h3 : 83 ≠ e0) (h0 : 120 ≠ e0) (h1 : 123 ≠ e0) (h2 : 144 ≠ e0) : MX W' B v ms xs :=
  ⟨h.len, k _ _ _ _ _ h3 h.row, fun j hj hj' => by
    obtain ⟨vt, vf, q1, q2⟩ := h.each j hj hj'
    exact ⟨vt, vf, q1, q2.kp k h0 h1 h2⟩⟩
theorem rowMethod_snoc (ts : List SMethod) (t : SMethod) : rowMethod (ts ++ [t]) = rowMethod ts ++ cellsMethod t := by simp [rowMethod]
theorem rowField_snoc (ts : List MField) (t : MField) : rowField (ts ++ [t]) = rowField ts ++ cellsField t := by simp [rowField]
theorem rowI_snoc (ts : List Int) (t : Int) : rowI (ts ++ [t]) = rowI ts ++ [.int .i64 t] := by simp [rowI]
theorem MX.snoc {W W' : World} {B : Nat} {v v' : Value} {ms : List MMethod} {xs : List SMethod} {vt vf : Value} {m : MMethod} {o : Obj} (h : MX W B v ms xs) (hm : MethodW W B vt vf m) (hg : (W.alloc o).grownBy W' v.ownBlock) (ho : W'.ownsRow B 83 8 v' (ms.length + 1) (rowMethod xs ++ cellsMethod (shM m vt vf))) : MX W' B v' (ms ++ [m]) (xs ++ [shM m vt vf]) := by
  have k : Kp W W' B 83 := Kp.grow h.row hg
  refine ⟨by simp [h.len], ?_, fun j hj hj' => ?_⟩
  · rw [rowMethod_snoc, List.length_append]; exact ho
  · by_cases hlt : j < ms.length
    · rw [List.getElem_append_left hlt, List.getElem_append_left (by have := h.len; omega)]
      obtain ⟨a, b, q1, q2⟩ := h.each j hlt (by have := h.len; omega)
      exact ⟨a, b, q1, q2.kp k (by decide) (by decide) (by decide)⟩
    · have : j = ms.length := by simp at hj; omega
      subst this
      rw [List.getElem_append_right (Nat.le_refl _), List.getElem_append_right (by have := h.len; omega)]
      exact ⟨vt, vf, by simp [h.len], by simpa using hm.kp k (by decide) (by decide) (by decide)⟩
theorem Lk.c7 {W : World} {C : Nat} {a b c d e f g : Value} {T : TypeId} (k : Lk W C #[a, b, c, d, e, f, g] T) : (W.cell? ⟨C, 0, none⟩ = some a ∧ W.cell? ⟨C, 1, none⟩ = some b ∧ W.cell? ⟨C, 2, none⟩ = some c ∧ W.cell? ⟨C, 3, none⟩ = some d ∧ W.cell? ⟨C, 4, none⟩ = some e ∧ W.cell? ⟨C, 5, none⟩ = some f ∧ W.cell? ⟨C, 6, none⟩ = some g) ∧
    W.frozen? ⟨C, 0, none⟩ = false ∧ W.frozen? ⟨C, 1, none⟩ = false ∧ W.frozen? ⟨C, 2, none⟩ = false ∧ W.frozen? ⟨C, 3, none⟩ = false ∧ W.frozen? ⟨C, 4, none⟩ = false ∧ W.frozen? ⟨C, 5, none⟩ = false ∧ W.frozen? ⟨C, 6, none⟩ = false :=
  ⟨⟨k.c 0 _ rfl, k.c 1 _ rfl, k.c 2 _ rfl, k.c 3 _ rfl, k.c 4 _ rfl, k.c 5 _ rfl, k.c 6 _ rfl⟩, k.z 0, k.z 1, k.z 2, k.z 3, k.z 4, k.z 5, k.z 6⟩

abbrev arrC (vp : Value) (f n s : Int) (vi vf vm : Value) : Array Value := #[vp, .int .i64 f, .int .i64 n, .int .i64 s, vi, vf, vm]
abbrev zC : Array Value := arrC (.slice none 0 0) 0 0 0 (.slice none 0 0) (.slice none 0 0) (.slice none 0 0)
/-- while a class is read: the reader and the variables, the lists read so far -/
structure CSt (w : World) (b : Nat) (s : ByteArray) (cs : Array Value) (vp vi vf vm : Value) (ps : List C4) (is : List Int) (fs : List MField) (ms : List MMethod) (xs : List SMethod) (st : Option (List UInt8)) (W : World) : Prop where
  bs : BS w b s (w.heap.size + 1) w.heap.size 27 zC st cs W
  p : W.ownsRow w.heap.size 75 4 vp ps.length (cellsC ps)
  i : W.ownsRow w.heap.size 3 1 vi is.length (rowI is)
  f : W.ownsRow w.heap.size 78 3 vf fs.length (rowField fs)
  m : MX W w.heap.size vm ms xs
section
variable {w : World} {b : Nat} {s : ByteArray} {cs : Array Value} {vp vi vf vm : Value} {ps : List C4} {is : List Int} {fs : List MField} {ms : List MMethod} {xs : List SMethod} {st st' : Option (List UInt8)} {W W' : World}
theorem CSt.kp {cs' : Array Value} {e0 : TypeId} (h : CSt w b s cs vp vi vf vm ps is fs ms xs st W) (hb : BS w b s (w.heap.size + 1) w.heap.size 27 zC st' cs' W') (k : Kp W W' w.heap.size e0) (h1 : 75 ≠ e0) (h2 : 3 ≠ e0) (h3 : 78 ≠ e0) (h4 : 83 ≠ e0) (h5 : 120 ≠ e0) (h6 : 123 ≠ e0) (h7 : 144 ≠ e0) : CSt w b s cs' vp vi vf vm ps is fs ms xs st' W' :=
  ⟨hb, k _ _ _ _ _ h1 h.p, k _ _ _ _ _ h2 h.i, k _ _ _ _ _ h3 h.f, h.m.kp k h4 h5 h6 h7⟩
theorem CSt.call (h : CSt w b s cs vp vi vf vm ps is fs ms xs st W) (h1 : RdAt W' b s st') (h2 : W.grownBy W' (some b)) : CSt w b s cs vp vi vf vm ps is fs ms xs st' W' :=
  h.kp (h.bs.call h1 h2) (Kp.call 27 h2 h.bs.st.old) (by decide) (by decide) (by decide) (by decide) (by decide) (by decide) (by decide)
theorem CSt.keep (h : CSt w b s cs vp vi vf vm ps is fs ms xs st W) (hb : Below W.heap.size W W') : CSt w b s cs vp vi vf vm ps is fs ms xs st W' := h.call (h.bs.st.rd.keep hb) (below_grow hb)
theorem CSt.bad (h : CSt w b s cs vp vi vf vm ps is fs ms xs st W) : CSt w b s cs vp vi vf vm ps is fs ms xs none (W.setCell ⟨b, 2, none⟩ (.bool true)) := by
  obtain ⟨h1, h2⟩ := h.bs.st.rd.setBad W (Below.refl _ _)
  exact h.call h1 h2
theorem CSt.set {cs' : Array Value} (h : CSt w b s cs vp vi vf vm ps is fs ms xs st W) (j : Nat) (u : Value) (hu : cs.setIfInBounds j u = cs') : CSt w b s cs' vp vi vf vm ps is fs ms xs st (W.setCell ⟨w.heap.size + 1, j, none⟩ u) :=
  h.kp (h.bs.set j u hu) (Kp.set h.bs.m j u) (by decide) (by decide) (by decide) (by decide) (by decide) (by decide) (by decide)
theorem CSt.appI {o : Obj} {v' : Value} {a : Int} {f1 n1 s1 : Int} (h : CSt w b s (arrC vp f1 n1 s1 vi vf vm) vp vi vf vm ps is fs ms xs st W) (hg : (W.alloc o).grownBy W' vi.ownBlock) (ho : W'.ownsRow w.heap.size 3 1 v' (is.length + 1) (rowI is ++ [.int .i64 a])) :
    BS w b s (w.heap.size + 1) w.heap.size 27 zC st (arrC vp f1 n1 s1 vi vf vm) W' ∧ CSt w b s (arrC vp f1 n1 s1 v' vf vm) vp v' vf vm ps (is ++ [a]) fs ms xs st (W'.setCell ⟨w.heap.size + 1, 4, none⟩ v') := by
  have hB := h.bs.app h.i (Nat.le_refl _) (by decide) hg
  have k : Kp W W' w.heap.size 3 := Kp.grow h.i hg
  refine ⟨hB, CSt.set (cs := arrC vp f1 n1 s1 vi vf vm) ⟨hB, k _ _ _ _ _ (by decide) h.p, ?_, k _ _ _ _ _ (by decide) h.f, h.m.kp k (by decide) (by decide) (by decide) (by decide)⟩ 4 v' rfl⟩
  rw [rowI_snoc, List.length_append]; exact ho
theorem CSt.appF {o : Obj} {v' : Value} {x y z : Int} {f1 n1 s1 : Int} (h : CSt w b s (arrC vp f1 n1 s1 vi vf vm) vp vi vf vm ps is fs ms xs st W) (hg : (W.alloc o).grownBy W' vf.ownBlock) (ho : W'.ownsRow w.heap.size 78 3 v' (fs.length + 1) (rowField fs ++ [.int .i64 x, .int .i64 y, .int .i64 z])) :
    BS w b s (w.heap.size + 1) w.heap.size 27 zC st (arrC vp f1 n1 s1 vi vf vm) W' ∧ CSt w b s (arrC vp f1 n1 s1 vi v' vm) vp vi v' vm ps is (fs ++ [⟨x, y, z⟩]) ms xs st (W'.setCell ⟨w.heap.size + 1, 5, none⟩ v') := by
  have hB := h.bs.app h.f (Nat.le_refl _) (by decide) hg
  have k : Kp W W' w.heap.size 78 := Kp.grow h.f hg
  refine ⟨hB, CSt.set (cs := arrC vp f1 n1 s1 vi vf vm) ⟨hB, k _ _ _ _ _ (by decide) h.p, k _ _ _ _ _ (by decide) h.i, ?_, h.m.kp k (by decide) (by decide) (by decide) (by decide)⟩ 5 v' rfl⟩
  rw [rowField_snoc, List.length_append]; exact ho
theorem CSt.appM {o : Obj} {v' vt ve : Value} {m : MMethod} {f1 n1 s1 : Int} (h : CSt w b s (arrC vp f1 n1 s1 vi vf vm) vp vi vf vm ps is fs ms xs st W) (hm : MethodW W w.heap.size vt ve m) (hg : (W.alloc o).grownBy W' vm.ownBlock) (ho : W'.ownsRow w.heap.size 83 8 v' (ms.length + 1) (rowMethod xs ++ cellsMethod (shM m vt ve))) :
    BS w b s (w.heap.size + 1) w.heap.size 27 zC st (arrC vp f1 n1 s1 vi vf vm) W' ∧ CSt w b s (arrC vp f1 n1 s1 vi vf v') vp vi vf v' ps is fs (ms ++ [m]) (xs ++ [shM m vt ve]) st (W'.setCell ⟨w.heap.size + 1, 6, none⟩ v') := by
  have hB := h.bs.app h.m.row (Nat.le_refl _) (by decide) hg
  have k : Kp W W' w.heap.size 83 := Kp.grow h.m.row hg
  exact ⟨hB, CSt.set (cs := arrC vp f1 n1 s1 vi vf vm) ⟨hB, k _ _ _ _ _ (by decide) h.p, k _ _ _ _ _ (by decide) h.i, k _ _ _ _ _ (by decide) h.f, h.m.snoc hm hg ho⟩ 6 v' rfl⟩
end
/-- at the end: what is stored into R leaves all else -/
structure CE (w : World) (b : Nat) (s : ByteArray) (vp vi vf vm : Value) (ps : List C4) (is : List Int) (fs : List MField) (ms : List MMethod) (st : Option (List UInt8)) (W : World) : Prop where
  st : St w b s st W
  p : W.ownsRow w.heap.size 75 4 vp ps.length (cellsC ps)
  i : W.ownsRow w.heap.size 3 1 vi is.length (rowI is)
  f : W.ownsRow w.heap.size 78 3 vf fs.length (rowField fs)
  m : ∃ xs, MX W w.heap.size vm ms xs
  r : ∃ zs, Lk W w.heap.size zs 27
section
variable {w : World} {b : Nat} {s : ByteArray} {cs : Array Value} {vp vi vf vm : Value} {ps : List C4} {is : List Int} {fs : List MField} {ms : List MMethod} {xs : List SMethod} {st st' : Option (List UInt8)} {W : World}
theorem CSt.ce (h : CSt w b s cs vp vi vf vm ps is fs ms xs st W) : CE w b s vp vi vf vm ps is fs ms st W := ⟨h.bs.st, h.p, h.i, h.f, ⟨_, h.m⟩, ⟨_, h.bs.r⟩⟩
theorem CE.set (h : CE w b s vp vi vf vm ps is fs ms st W) (j : Nat) (u : Value) : CE w b s vp vi vf vm ps is fs ms st (W.setCell ⟨w.heap.size, j, none⟩ u) := by
  obtain ⟨zs, hz⟩ := h.r
  obtain ⟨xs, hx⟩ := h.m
  have k : Kp W (W.setCell ⟨w.heap.size, j, none⟩ u) w.heap.size 27 := Kp.set hz j u
  exact ⟨h.st.set (by exact Nat.le_refl _), k _ _ _ _ _ (by decide) h.p, k _ _ _ _ _ (by decide) h.i, k _ _ _ _ _ (by decide) h.f, ⟨xs, hx.kp k (by decide) (by decide) (by decide) (by decide)⟩, ⟨_, hz.set j u rfl⟩⟩
theorem CE.fin {c : MClass} (h : CE w b s vp vi vf vm c.pool c.faces c.fields c.methods st' W) (hr : Rd rClass st c st') (hf : c.few) : ClassW W w.heap.size vp vi vf vm c ∧ c.few ∧ RdAt W b s st' ∧ w.grownBy W (some b) ∧ Rd rClass st c st' := by
  obtain ⟨xs, hx⟩ := h.m
  exact ⟨⟨h.p, h.i, h.f, hx.all⟩, hf, h.st.rd, h.st.grow, hr⟩
end

theorem Rd.field {st st' : Option (List UInt8)} {a b c : Int} {st1 st2 : Option (List UInt8)} (h1 : Rd rOne st a st1) (h2 : Rd rTwo st1 b st2) (h3 : Rd rTwo st2 c st') : Rd rField st ⟨a, b, c⟩ st' := by
  refine h1.bind ?_
  refine h2.bind ?_
  refine h3.bind ?_
  exact Rd.pure
def Fd1 (rs : List UInt8) (a : Int) (st : Option (List UInt8)) : Prop := Rd rOne (some rs) a st
def Fd2 (rs : List UInt8) (a b : Int) (st : Option (List UInt8)) : Prop := ∃ st1, Rd rOne (some rs) a st1 ∧ Rd rTwo st1 b st
theorem Fd1.mk {rs : List UInt8} {a : Int} {st : Option (List UInt8)} (h : Rd rOne (some rs) a st) : Fd1 rs a st := h
theorem Fd1.next {rs : List UInt8} {a b : Int} {st st' : Option (List UInt8)} (h : Fd1 rs a st) (r : Rd rTwo st b st') : Fd2 rs a b st' := ⟨st, h, r⟩
theorem Fd2.done {rs : List UInt8} {a b c : Int} {st st' : Option (List UInt8)} (h : Fd2 rs a b st) (r : Rd rTwo st c st') : Rd rField (some rs) ⟨a, b, c⟩ st' := by
  obtain ⟨st1, h1, h2⟩ := h
  exact Rd.field h1 h2 r

end Go.Proofs.Ytnjfaikhiimdjaa
