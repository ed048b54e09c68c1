/- The program's reader of files: what stands while a class is read. -/
import Derived.Test.YtnjfaikhiimdjaaRfMethod
import Derived.Test.YtnjfaikhiimdjaaRdClassA
namespace Go.Proofs.Ytnjfaikhiimdjaa
open Go.RowKit Fm
set_option maxHeartbeats 4000000
set_option maxRecDepth 20000
set_option linter.unusedVariables false

/-- methods with their rows, lists of one type in blocks of their own -/
structure MA (W : World) (B : Nat) (v : Value) (ms : List MMethod) (xs : List SMethod) (ys : List (List SFrame)) : Prop where
  len : xs.length = ms.length
  len2 : ys.length = ms.length
  row : W.ownsRow B 83 8 v ms.length (rowMethod xs)
  sh : ∀ k (h : k < ms.length) (h' : k < xs.length), xs[k] = shM ms[k] xs[k].traps xs[k].frames
  tr : ∀ k (h : k < ms.length) (h' : k < xs.length), W.ownsRow B 120 4 xs[k].traps ms[k].traps.length (rowTrap ms[k].traps)
  fx : ∀ k (h : k < ms.length) (h' : k < xs.length) (h'' : k < ys.length), FX W B xs[k].frames ms[k].frames ys[k]
  at_ : Apart (xs.map SMethod.traps)
  af : Apart (xs.map SMethod.frames)
  ak : Apart (ys.flatMap kb)
section
variable {W W' : World} {B : Nat} {v : Value} {ms : List MMethod} {xs : List SMethod} {ys : List (List SFrame)}
theorem MA.nil (W : World) (B : Nat) : MA W B (.slice none 0 0) [] [] [] := ⟨rfl, rfl, World.ownsRow_nil _ _ _ _, fun k hk => by simp at hk, fun k hk => by simp at hk, fun k hk => by simp at hk, Apart.nil, Apart.nil, Apart.nil⟩
theorem MA.mx (h : MA W B v ms xs ys) : MX W B v ms xs := ⟨h.len, h.row, fun k h1 h2 => ⟨xs[k].traps, xs[k].frames, h.sh k h1 h2, ⟨h.tr k h1 h2, (h.fx k h1 h2 (by have := h.len2; omega)).all⟩⟩⟩
theorem FX.kp {e0 : TypeId} {v : Value} {fs : List MFrame} {zs : List SFrame} (h : FX W B v fs zs) (k : Kp W W' B e0) (h1 : 123 ≠ e0) (h2 : 144 ≠ e0) : FX W' B v fs zs :=
  ⟨h.len, k _ _ _ _ _ h1 h.row, fun j hj hj' => ⟨(h.each j hj hj').at_, k _ _ _ _ _ h2 (h.each j hj hj').l, k _ _ _ _ _ h2 (h.each j hj hj').s⟩⟩
theorem MA.kp {e0 : TypeId} (h : MA W B v ms xs ys) (k : Kp W W' B e0) (h3 : 83 ≠ e0) (h0 : 120 ≠ e0) (h1 : 123 ≠ e0) (h2 : 144 ≠ e0) : MA W' B v ms xs ys :=
  ⟨h.len, h.len2, k _ _ _ _ _ h3 h.row, h.sh, fun j a b => k _ _ _ _ _ h0 (h.tr j a b), fun j a b c => (h.fx j a b c).kp k h1 h2, h.at_, h.af, h.ak⟩
theorem MA.underT (h : MA W B v ms xs ys) : Under W.heap.size (xs.map SMethod.traps) := by
  intro u hu i hi
  obtain ⟨x, hx, rfl⟩ := List.mem_map.1 hu
  obtain ⟨k, hk, rfl⟩ := List.getElem_of_mem hx
  exact ((h.tr k (by have := h.len; omega) hk).lt i hi).2
theorem MA.underF (h : MA W B v ms xs ys) : Under W.heap.size (xs.map SMethod.frames) := by
  intro u hu i hi
  obtain ⟨x, hx, rfl⟩ := List.mem_map.1 hu
  obtain ⟨k, hk, rfl⟩ := List.getElem_of_mem hx
  exact ((h.fx k (by have := h.len; omega) hk (by have := h.len; have := h.len2; omega)).row.lt i hi).2
theorem MA.underK (h : MA W B v ms xs ys) : Under W.heap.size (ys.flatMap kb) := by
  intro u hu i hi
  obtain ⟨x, hx, hm⟩ := List.mem_flatMap.1 hu
  obtain ⟨k, hk, rfl⟩ := List.getElem_of_mem hx
  exact (h.fx k (by have := h.len2; omega) (by have := h.len; have := h.len2; omega) hk).under u hm i hi
/-- a method that was read behind the others, ahead of the append -/
structure MNew (W : World) (B : Nat) (vt vf : Value) (m : MMethod) (zs : List SFrame) (xs : List SMethod) (ys : List (List SFrame)) : Prop where
  tr : W.ownsRow B 120 4 vt m.traps.length (rowTrap m.traps)
  fx : FX W B vf m.frames zs
  at_ : Apart ((xs ++ [shM m vt vf]).map SMethod.traps)
  af : Apart ((xs ++ [shM m vt vf]).map SMethod.frames)
  ak : Apart ((ys ++ [zs]).flatMap kb)
theorem MA.next {vt vf : Value} {m : MMethod} {zs : List SFrame} {H : Nat} (h : MA W B v ms xs ys) (hH : W.heap.size = H) (ht : W'.ownsRow H 120 4 vt m.traps.length (rowTrap m.traps)) (hf : FX W' H vf m.frames zs) (ha : Apart (kb zs)) (hB : B ≤ H) : MNew W' B vt vf m zs xs ys := by
  subst hH
  refine ⟨Joins.ownsRow_le ht hB, hf.mono hB, ?_, ?_, ?_⟩
  · rw [List.map_append]
    exact h.at_.app (apart_one _) h.underT (over_row ht)
  · rw [List.map_append]
    exact h.af.app (apart_one _) h.underF (over_row hf.row)
  · rw [List.flatMap_append, List.flatMap_singleton]
    exact h.ak.app ha h.underK hf.over
theorem MA.snoc {v' vt vf : Value} {m : MMethod} {zs : List SFrame} {o : Obj} (h : MA W B v ms xs ys) (hn : MNew W B vt vf m zs xs ys) (hg : (W.alloc o).grownBy W' v.ownBlock) (ho : W'.ownsRow B 83 8 v' (ms.length + 1) (rowMethod xs ++ cellsMethod (shM m vt vf))) : MA W' B v' (ms ++ [m]) (xs ++ [shM m vt vf]) (ys ++ [zs]) := by
  have k : Kp W W' B 83 := Kp.grow h.row hg
  have e1 := h.len
  have e2 := h.len2
  refine ⟨by simp [h.len], by simp [h.len2], ?_, fun j hj hj' => ?_, fun j hj hj' => ?_, fun j hj hj' hj'' => ?_, hn.at_, hn.af, hn.ak⟩
  · rw [rowMethod_snoc, List.length_append]; exact ho
  · by_cases hlt : j < ms.length
    · simp only [List.getElem_append_left hlt, List.getElem_append_left (show j < xs.length by omega)]
      exact h.sh j hlt (by omega)
    · have hje : j = ms.length := by simp at hj; omega
      subst hje
      simp only [List.getElem_append_right (Nat.le_refl _), List.getElem_append_right (show xs.length ≤ ms.length by omega)]
      simp [e1, shM]
  · by_cases hlt : j < ms.length
    · simp only [List.getElem_append_left hlt, List.getElem_append_left (show j < xs.length by omega)]
      exact k _ _ _ _ _ (by decide) (h.tr j hlt (by omega))
    · have hje : j = ms.length := by simp at hj; omega
      subst hje
      simp only [List.getElem_append_right (Nat.le_refl _), List.getElem_append_right (show xs.length ≤ ms.length by omega)]
      simpa [e1, shM] using k _ _ _ _ _ (by decide) hn.tr
  · by_cases hlt : j < ms.length
    · simp only [List.getElem_append_left hlt, List.getElem_append_left (show j < xs.length by omega), List.getElem_append_left (show j < ys.length by omega)]
      exact (h.fx j hlt (by omega) (by omega)).kp k (by decide) (by decide)
    · have hje : j = ms.length := by simp at hj; omega
      subst hje
      simp only [List.getElem_append_right (Nat.le_refl _), List.getElem_append_right (show xs.length ≤ ms.length by omega), List.getElem_append_right (show ys.length ≤ ms.length by omega)]
      simpa [e1, e2, shM] using hn.fx.kp k (by decide) (by decide)
theorem MNew.kp {e0 : TypeId} {vt vf : Value} {m : MMethod} {zs : List SFrame} (h : MNew W B vt vf m zs xs ys) (k : Kp W W' B e0) (h0 : 120 ≠ e0) (h1 : 123 ≠ e0) (h2 : 144 ≠ e0) : MNew W' B vt vf m zs xs ys := ⟨k _ _ _ _ _ h0 h.tr, h.fx.kp k h1 h2, h.at_, h.af, h.ak⟩
end

/-- while a class is read: the reader and the variables, the lists read so far -/
structure CP (w : World) (b : Nat) (s : ByteArray) (M : Nat) (cs : Array Value) (vp vi vf vm : Value) (ps : List C4) (is : List Int) (fs : List MField) (ms : List MMethod) (xs : List SMethod) (ys : List (List SFrame)) (r : List UInt8) (W : World) : Prop where
  bs : PBq w b s M w.heap.size 27 zC r cs W
  p : W.ownsRow w.heap.size 75 4 vp ps.length (cellsC ps)
  i : W.ownsRow w.heap.size 3 1 vi is.length (rowI is)
  f : W.ownsRow w.heap.size 78 3 vf fs.length (rowField fs)
  m : MA W w.heap.size vm ms xs ys
section
variable {w : World} {b : Nat} {s : ByteArray} {M : Nat} {cs : Array Value} {vp vi vf vm : Value} {ps : List C4} {is : List Int} {fs : List MField} {ms : List MMethod} {xs : List SMethod} {ys : List (List SFrame)} {r r' : List UInt8} {W W' : World}
theorem CP.kp {cs' : Array Value} {e0 : TypeId} (h : CP w b s M cs vp vi vf vm ps is fs ms xs ys r W) (hb : PBq w b s M w.heap.size 27 zC r' cs' W') (k : Kp W W' w.heap.size e0) (h1 : 75 ≠ e0) (h2 : 3 ≠ e0) (h3 : 78 ≠ e0) (h4 : 83 ≠ e0) (h5 : 120 ≠ e0) (h6 : 123 ≠ e0) (h7 : 144 ≠ e0) : CP w b s M cs' vp vi vf vm ps is fs ms xs ys r' W' :=
  ⟨hb, k _ _ _ _ _ h1 h.p, k _ _ _ _ _ h2 h.i, k _ _ _ _ _ h3 h.f, h.m.kp k h4 h5 h6 h7⟩
theorem CP.call (h : CP w b s M cs vp vi vf vm ps is fs ms xs ys r W) (h1 : PAt W' b s r') (h2 : W.grownBy W' (some b)) : CP w b s M cs vp vi vf vm ps is fs ms xs ys r' W' :=
  h.kp (h.bs.call h1 h2) (Kp.call 27 h2 h.bs.st.old) (by decide) (by decide) (by decide) (by decide) (by decide) (by decide) (by decide)
theorem CP.keep (h : CP w b s M cs vp vi vf vm ps is fs ms xs ys r W) (hb : Below W.heap.size W W') : CP w b s M cs vp vi vf vm ps is fs ms xs ys r W' := h.call (h.bs.st.rd.keep hb) (below_grow hb)
theorem CP.set {cs' : Array Value} (h : CP w b s M cs vp vi vf vm ps is fs ms xs ys r W) (j : Nat) (u : Value) (hu : cs.setIfInBounds j u = cs') : CP w b s M cs' vp vi vf vm ps is fs ms xs ys r (W.setCell ⟨M, j, none⟩ u) :=
  h.kp (h.bs.set j u hu) (Kp.set h.bs.m j u) (by decide) (by decide) (by decide) (by decide) (by decide) (by decide) (by decide)
theorem CP.appP {o : Obj} {v' : Value} {t : C4} {f1 n1 s1 : Int} (h : CP w b s M (arrC vp f1 n1 s1 vi vf vm) vp vi vf vm ps is fs ms xs ys r W) (hg : (W.alloc o).grownBy W' vp.ownBlock) (ho : W'.ownsRow w.heap.size 75 4 v' (ps.length + 1) (cellsC ps ++ [.int .i64 t.kind, .string t.text, .int .i64 t.a, .int .i64 t.b])) :
    PBq w b s M w.heap.size 27 zC r (arrC vp f1 n1 s1 vi vf vm) W' ∧ CP w b s M (arrC v' f1 n1 s1 vi vf vm) v' vi vf vm (ps ++ [t]) is fs ms xs ys r (W'.setCell ⟨M, 0, none⟩ v') := by
  have hB := h.bs.app h.p (Nat.le_refl _) (by decide) hg
  have k : Kp W W' w.heap.size 75 := Kp.grow h.p hg
  refine ⟨hB, CP.set (cs := arrC vp f1 n1 s1 vi vf vm) ⟨hB, ?_, k _ _ _ _ _ (by decide) h.i, k _ _ _ _ _ (by decide) h.f, h.m.kp k (by decide) (by decide) (by decide) (by decide)⟩ 0 v' rfl⟩
  rw [cellsC_snoc, List.length_append]; exact ho
theorem CP.appI {o : Obj} {v' : Value} {a : Int} {f1 n1 s1 : Int} (h : CP w b s M (arrC vp f1 n1 s1 vi vf vm) vp vi vf vm ps is fs ms xs ys r W) (hg : (W.alloc o).grownBy W' vi.ownBlock) (ho : W'.ownsRow w.heap.size 3 1 v' (is.length + 1) (rowI is ++ [.int .i64 a])) :
    PBq w b s M w.heap.size 27 zC r (arrC vp f1 n1 s1 vi vf vm) W' ∧ CP w b s M (arrC vp f1 n1 s1 v' vf vm) vp v' vf vm ps (is ++ [a]) fs ms xs ys r (W'.setCell ⟨M, 4, none⟩ v') := by
  have hB := h.bs.app h.i (Nat.le_refl _) (by decide) hg
  have k : Kp W W' w.heap.size 3 := Kp.grow h.i hg
  refine ⟨hB, CP.set (cs := arrC vp f1 n1 s1 vi vf vm) ⟨hB, k _ _ _ _ _ (by decide) h.p, ?_, k _ _ _ _ _ (by decide) h.f, h.m.kp k (by decide) (by decide) (by decide) (by decide)⟩ 4 v' rfl⟩
  rw [rowI_snoc, List.length_append]; exact ho
theorem CP.appF {o : Obj} {v' : Value} {t : MField} {f1 n1 s1 : Int} (h : CP w b s M (arrC vp f1 n1 s1 vi vf vm) vp vi vf vm ps is fs ms xs ys r W) (hg : (W.alloc o).grownBy W' vf.ownBlock) (ho : W'.ownsRow w.heap.size 78 3 v' (fs.length + 1) (rowField fs ++ [.int .i64 t.flags, .int .i64 t.name, .int .i64 t.typ])) :
    PBq w b s M w.heap.size 27 zC r (arrC vp f1 n1 s1 vi vf vm) W' ∧ CP w b s M (arrC vp f1 n1 s1 vi v' vm) vp vi v' vm ps is (fs ++ [t]) ms xs ys r (W'.setCell ⟨M, 5, none⟩ v') := by
  have hB := h.bs.app h.f (Nat.le_refl _) (by decide) hg
  have k : Kp W W' w.heap.size 78 := Kp.grow h.f hg
  refine ⟨hB, CP.set (cs := arrC vp f1 n1 s1 vi vf vm) ⟨hB, k _ _ _ _ _ (by decide) h.p, k _ _ _ _ _ (by decide) h.i, ?_, h.m.kp k (by decide) (by decide) (by decide) (by decide)⟩ 5 v' rfl⟩
  rw [rowField_snoc, List.length_append]; exact ho
theorem CP.appM {o : Obj} {v' vt ve : Value} {m : MMethod} {zs : List SFrame} {f1 n1 s1 : Int} (h : CP w b s M (arrC vp f1 n1 s1 vi vf vm) vp vi vf vm ps is fs ms xs ys r W) (hm : MNew W w.heap.size vt ve m zs xs ys) (hg : (W.alloc o).grownBy W' vm.ownBlock) (ho : W'.ownsRow w.heap.size 83 8 v' (ms.length + 1) (rowMethod xs ++ cellsMethod (shM m vt ve))) :
    PBq w b s M w.heap.size 27 zC r (arrC vp f1 n1 s1 vi vf vm) W' ∧ CP w b s M (arrC vp f1 n1 s1 vi vf v') vp vi vf v' ps is fs (ms ++ [m]) (xs ++ [shM m vt ve]) (ys ++ [zs]) r (W'.setCell ⟨M, 6, none⟩ v') := by
  have hB := h.bs.app h.m.row (Nat.le_refl _) (by decide) hg
  have k : Kp W W' w.heap.size 83 := Kp.grow h.m.row hg
  exact ⟨hB, CP.set (cs := arrC vp f1 n1 s1 vi vf vm) ⟨hB, k _ _ _ _ _ (by decide) h.p, k _ _ _ _ _ (by decide) h.i, k _ _ _ _ _ (by decide) h.f, h.m.snoc hm hg ho⟩ 6 v' rfl⟩
end

/-- a class with its rows, lists of one type in blocks of their own -/
structure ClA (W : World) (B : Nat) (vp vi vf vm : Value) (c : MClass) (xs : List SMethod) (ys : List (List SFrame)) : Prop where
  p : W.ownsRow B 75 4 vp c.pool.length (cellsC c.pool)
  i : W.ownsRow B 3 1 vi c.faces.length (rowI c.faces)
  f : W.ownsRow B 78 3 vf c.fields.length (rowField c.fields)
  m : MA W B vm c.methods xs ys
theorem ClA.all {W : World} {B : Nat} {vp vi vf vm : Value} {c : MClass} {xs : List SMethod} {ys : List (List SFrame)} (h : ClA W B vp vi vf vm c xs ys) : ClassW W B vp vi vf vm c := ⟨h.p, h.i, h.f, h.m.mx.all⟩
theorem ClA.kp {W W' : World} {B : Nat} {vp vi vf vm : Value} {c : MClass} {xs : List SMethod} {ys : List (List SFrame)} {e0 : TypeId} (h : ClA W B vp vi vf vm c xs ys) (k : Kp W W' B e0) (h1 : 75 ≠ e0) (h2 : 3 ≠ e0) (h3 : 78 ≠ e0) (h4 : 83 ≠ e0) (h5 : 120 ≠ e0) (h6 : 123 ≠ e0) (h7 : 144 ≠ e0) : ClA W' B vp vi vf vm c xs ys :=
  ⟨k _ _ _ _ _ h1 h.p, k _ _ _ _ _ h2 h.i, k _ _ _ _ _ h3 h.f, h.m.kp k h4 h5 h6 h7⟩
/-- what a class that was read is -/
def VClass (w : World) (c : MClass) (e : Ending) (w' : World) : Prop := ∃ (vp vi vf vm : Value) (xs : List SMethod) (ys : List (List SFrame)), e = .returned (.agg #[vp, .int .i64 c.flags, .int .i64 c.name, .int .i64 c.super, vi, vf, vm]) ∧ ClA w' w.heap.size vp vi vf vm c xs ys
/-- stores into R leave what lies elsewhere -/
structure KE (w : World) (b : Nat) (s : ByteArray) (vp vi vf vm : Value) (c : MClass) (xs : List SMethod) (ys : List (List SFrame)) (r : List UInt8) (W : World) : Prop where
  st : Pq w b s r W
  c : ClA W w.heap.size vp vi vf vm c xs ys
  r : ∃ zs, Lk W w.heap.size zs 27
theorem KE.set {w : World} {b : Nat} {s : ByteArray} {vp vi vf vm : Value} {c : MClass} {xs : List SMethod} {ys : List (List SFrame)} {r : List UInt8} {W : World} (h : KE w b s vp vi vf vm c xs ys r W) (j : Nat) (u : Value) : KE w b s vp vi vf vm c xs ys r (W.setCell ⟨w.heap.size, j, none⟩ u) := by
  obtain ⟨zs, hz⟩ := h.r
  have k : Kp W (W.setCell ⟨w.heap.size, j, none⟩ u) w.heap.size 27 := Kp.set hz j u
  exact ⟨h.st.set (by exact Nat.le_refl _), h.c.kp k (by decide) (by decide) (by decide) (by decide) (by decide) (by decide) (by decide), ⟨_, hz.set j u rfl⟩⟩
theorem KE.fin {w : World} {b : Nat} {s : ByteArray} {vp vi vf vm : Value} {c : MClass} {xs : List SMethod} {ys : List (List SFrame)} {r r' : List UInt8} {W : World} (h : KE w b s vp vi vf vm c xs ys r' W) (hp : rClass r = some (c, r')) :
    RfPost rClass b s r w (VClass w) (.returned (.agg #[vp, .int .i64 c.flags, .int .i64 c.name, .int .i64 c.super, vi, vf, vm])) W :=
  h.st.yes hp ⟨vp, vi, vf, vm, xs, ys, rfl, h.c⟩

end Go.Proofs.Ytnjfaikhiimdjaa
