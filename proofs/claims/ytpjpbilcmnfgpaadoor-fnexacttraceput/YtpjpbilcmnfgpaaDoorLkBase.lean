/- Worlds that grow, and blocks of cells. Nothing of the program is named here. -/
import Derived.Test.YtpjpbilcmnfgpaaDoorBase
namespace Go.Proofs.YtpjpbilcmnfgpaaDoor
open Go.RowKit
set_option maxHeartbeats 1000000
set_option linter.unusedVariables false

theorem grown_refl (w : World) (r : Option Nat) : w.grownBy w r := ⟨rfl, rfl, rfl, Nat.le_refl _, fun _ _ _ => rfl⟩
theorem grown_trans {a b c : World} {r : Option Nat} (h : a.grownBy b r) (k : b.grownBy c r) : a.grownBy c r :=
  ⟨k.os.trans h.os, k.tape.trans h.tape, k.output.trans h.output, Nat.le_trans h.size k.size, fun i hi hr => (k.block i (Nat.lt_of_lt_of_le hi h.size) hr).trans (h.block i hi hr)⟩
/-- below a block of the call's own: only block b, and what is new, may have turned -/
theorem grown_below {a b : World} {n : Nat} (h : a.grownBy b (some n)) : Below n a b ∨ a.heap.size ≤ n :=
  if hn : n ≤ a.heap.size then .inl ⟨h.os, h.tape, h.output, h.size, fun k hk => h.block k (by omega) (by simp; omega)⟩ else .inr (by omega)
theorem below_grow {a b : World} {r : Option Nat} (h : Below a.heap.size a b) : a.grownBy b r := ⟨h.os, h.tape, h.output, h.size, fun k hk _ => h.block k hk⟩
theorem grown_own {a b : World} {n base : Nat} {e : TypeId} {size m : Nat} {v : Value} {xs : List Value} (h : a.grownBy b (some n)) (ho : a.ownsRow base e size v m xs) (hne : v.ownBlock ≠ some n) : b.ownsRow base e size v m xs := ho.kept h (.inr hne)
theorem grown_cell {a b : World} {n k j : Nat} (h : a.grownBy b (some n)) (hk : k < a.heap.size) (hn : k ≠ n) : b.cell? ⟨k, j, none⟩ = a.cell? ⟨k, j, none⟩ := by
  have := h.block k hk (by simpa using hn)
  simp only [World.cell?, this]
theorem grown_frozen {a b : World} {n k j : Nat} (h : a.grownBy b (some n)) (hk : k < a.heap.size) (hn : k ≠ n) : b.frozen? ⟨k, j, none⟩ = a.frozen? ⟨k, j, none⟩ := by
  have := h.block k hk (by simpa using hn)
  simp only [World.frozen?, this]

theorem hb_cell {w w' : World} {k j : Nat} (h : Below w.heap.size w w') (hk : k < w.heap.size) : w'.cell? ⟨k, j, none⟩ = w.cell? ⟨k, j, none⟩ := by
  have := h.block k hk
  simp only [World.cell?, this]

/-- a block of cells -/
def Lk (W : World) (C : Nat) (cs : Array Value) (T : TypeId) : Prop := W.heap[C]? = some (.cells cs T (0, 0))
theorem Lk.new (w : World) (cs : Array Value) (T : TypeId) : Lk (w.alloc (.cells cs T)) w.heap.size cs T := heap_alloc_new w _
theorem Lk.lt {W : World} {C : Nat} {cs : Array Value} {T : TypeId} (h : Lk W C cs T) : C < W.heap.size := (Array.getElem?_eq_some_iff.1 h).1
theorem Lk.call {W W' : World} {C b : Nat} {cs : Array Value} {T : TypeId} (h : Lk W C cs T) (g : W.grownBy W' (some b)) (hb : C ≠ b) : Lk W' C cs T := by
  unfold Lk; rw [g.block C h.lt (by simpa using hb)]; exact h
theorem Lk.keep {W W' : World} {C : Nat} {cs : Array Value} {T : TypeId} (h : Lk W C cs T) (g : Below W.heap.size W W') : Lk W' C cs T := (g.block C h.lt).trans h
theorem Lk.alloc {W : World} {C : Nat} {cs : Array Value} {T : TypeId} (h : Lk W C cs T) (o : Obj) : Lk (W.alloc o) C cs T := h.keep ((Below.refl _ _).alloc (Nat.le_refl _) _)
theorem Lk.c {W : World} {C : Nat} {cs : Array Value} {T : TypeId} (h : Lk W C cs T) (j : Nat) (u : Value) (hu : cs[j]? = some u) : W.cell? ⟨C, j, none⟩ = some u := by
  rw [Lib.cell_of_heap h]; exact hu
theorem Lk.z {W : World} {C : Nat} {cs : Array Value} {T : TypeId} (h : Lk W C cs T) (j : Nat) : W.frozen? ⟨C, j, none⟩ = false := Lib.frozen_of_heap h j
theorem Lk.set {W : World} {C : Nat} {cs cs' : Array Value} {T : TypeId} (h : Lk W C cs T) (j : Nat) (u : Value) (hu : cs.setIfInBounds j u = cs') : Lk (W.setCell ⟨C, j, none⟩ u) C cs' T := by
  subst hu
  unfold Lk at *
  simp [World.setCell, Array.getElem?_modify, h]
theorem Lk.other {W : World} {C : Nat} {cs : Array Value} {T : TypeId} (h : Lk W C cs T) {a : Addr} (u : Value) (hne : C ≠ a.block) : Lk (W.setCell a u) C cs T := by
  unfold Lk at *
  rw [Below.heap_setCell _ _ _ _ hne]; exact h

theorem Lk.c4 {W : World} {C : Nat} {a b c d : Value} {T : TypeId} (h : Lk W C #[a, b, c, d] T) : W.cell? ⟨C, 0, none⟩ = some a ∧ W.cell? ⟨C, 1, none⟩ = some b ∧ W.cell? ⟨C, 2, none⟩ = some c ∧ W.cell? ⟨C, 3, none⟩ = some d ∧ W.frozen? ⟨C, 0, none⟩ = false ∧ W.frozen? ⟨C, 1, none⟩ = false ∧ W.frozen? ⟨C, 2, none⟩ = false ∧ W.frozen? ⟨C, 3, none⟩ = false :=
  ⟨h.c 0 _ rfl, h.c 1 _ rfl, h.c 2 _ rfl, h.c 3 _ rfl, h.z 0, h.z 1, h.z 2, h.z 3⟩

end Go.Proofs.YtpjpbilcmnfgpaaDoor
