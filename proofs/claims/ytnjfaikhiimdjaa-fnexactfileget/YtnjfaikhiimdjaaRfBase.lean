/- The program's reader of files: how far it is, and contracts of its smallest reads: each returns what the text says, or panics. -/
import Derived.Test.YtnjfaikhiimdjaaRdEntry
namespace Go.Proofs.Ytnjfaikhiimdjaa
open Go.RowKit Fm
set_option maxHeartbeats 1000000
set_option maxRecDepth 20000
set_option linter.unusedVariables false

/-- the reader's own panic -/
def Brk (e : Ending) : Prop := ∃ n : Int, e = .panicked [{ v := .iface 138 (.agg #[.int .i64 n]), recovered := false }]
/-- a reader in block b, of the text s; r: what is left -/
def PAt (w : World) (b : Nat) (s : ByteArray) (r : List UInt8) : Prop :=
  ∃ a : Nat, a ≤ s.size ∧ w.heap[b]? = some (.cells #[.string s, .int .i64 a] 72 (0, 0)) ∧ r = s.data.toList.drop a
theorem PAt.lt {w : World} {b : Nat} {s : ByteArray} {r : List UInt8} (h : PAt w b s r) : b < w.heap.size := by
  obtain ⟨a, _, h, _⟩ := h
  exact (Array.getElem?_eq_some_iff.1 h).1
theorem PAt.keep {w w' : World} {b : Nat} {s : ByteArray} {r : List UInt8} (h : PAt w b s r) (hb : Below w.heap.size w w') : PAt w' b s r := by
  have hl := h.lt
  obtain ⟨a, h1, h2, h3⟩ := h
  exact ⟨a, h1, (hb.block b hl).trans h2, h3⟩
theorem PAt.cells {w : World} {b : Nat} {s : ByteArray} {r : List UInt8} (h : PAt w b s r) : ∃ a : Nat, a ≤ s.size ∧ r = s.data.toList.drop a ∧
    w.cell? ⟨b, 0, none⟩ = some (.string s) ∧ w.cell? ⟨b, 1, none⟩ = some (.int .i64 a) ∧ w.frozen? ⟨b, 0, none⟩ = false ∧ w.frozen? ⟨b, 1, none⟩ = false ∧
    (∀ (n : Nat) (i : Int), i = (a : Int) + n → a + n ≤ s.size → ∀ W, Below w.heap.size w W → PAt (W.setCell ⟨b, 1, none⟩ (.int .i64 i)) b s (s.data.toList.drop (a + n)) ∧ w.grownBy (W.setCell ⟨b, 1, none⟩ (.int .i64 i)) (some b)) := by
  have hl := h.lt
  obtain ⟨a, h1, h2, h3⟩ := h
  refine ⟨a, h1, h3, ?_, ?_, Lib.frozen_of_heap h2 0, Lib.frozen_of_heap h2 1, ?_⟩
  · rw [Lib.cell_of_heap h2]; rfl
  · rw [Lib.cell_of_heap h2]; rfl
  · rintro n i rfl hn W hW
    refine ⟨⟨a + n, hn, ?_, rfl⟩, grown_trans (below_grow hW) grown_set⟩
    have := (hW.block b hl).trans h2
    simp [World.setCell, Array.getElem?_modify, this]

theorem refuse_any (b : Nat) (s : ByteArray) (r : List UInt8) (w : World) (h : PAt w b s r) :
    Calls Try.prog 78 #[.pointer (some ⟨b, 0, none⟩)] w fun e w' => Brk e ∧ w' = w := by
  obtain ⟨a, ha, hr, c0, c1, f0, f1, _⟩ := h.cells
  clear h
  go_enter Try.func78, Try.ntmps78
  go_wp2
  exact ⟨rfl, ⟨a, rfl⟩, rfl⟩

/-- what a reader's method that reads by p says, if it returns a value -/
def RfPost {α : Type} (p : Ps α) (b : Nat) (s : ByteArray) (r : List UInt8) (w : World) (V : α → Ending → World → Prop) (e : Ending) (w' : World) : Prop :=
  (∃ x r', p r = some (x, r') ∧ V x e w' ∧ PAt w' b s r' ∧ w.grownBy w' (some b)) ∨ (p r = none ∧ Brk e ∧ w.grownBy w' (some b))

theorem rfOne_any (b : Nat) (s : ByteArray) (r : List UInt8) (w : World) (hs : s.size ≤ 1000000000) (h : PAt w b s r) :
    Calls Try.prog 81 #[.pointer (some ⟨b, 0, none⟩)] w (RfPost rOne b s r w fun x e _ => ∃ n : Nat, x = n ∧ n < 256 ∧ e = .returned (.int .i64 n)) := by
  obtain ⟨a, ha, hr, c0, c1, f0, f1, hu⟩ := h.cells
  cases r with
  | nil =>
    have hae : a = s.size := by
      have := congrArg List.length hr
      simp at this
      omega
    subst hae
    have HB := fun w' (hw : Below w.heap.size w w') => refuse_any b s [] w' (h.keep hw)
    have HG := hid h
    clear hr h ha hu
    go_enter Try.func81, Try.ntmps81
    go_wp2_with fail
    go_quiet (fail)
    go_wp2_with fail
    refine (HB _ (below_drewN (Below.refl _ _) _)).mono ?_
    rintro e w1 ⟨⟨n, rfl⟩, rfl⟩
    go_wp2
    exact ⟨rfl, .inr ⟨rfl, ⟨n, rfl⟩, below_grow (below_drewN (Below.refl _ _) _)⟩⟩
  | cons c r =>
    obtain ⟨hlt, hc, hr2⟩ := drop_cons hr
    have HB := hid (hu 1 ((a : Int) + 1) rfl (by omega))
    have HC := (show Hid (s[a] = c) from hc)
    have HR := (show Hid (r = _) from hr2)
    have hb' := c.toNat_lt
    clear hr h hr2 hc ha hu
    go_enter Try.func81, Try.ntmps81
    go_wp2
    go_quiet (fail)
    go_wp2
    go_quiet (fail)
    go_wp2
    go_ret
    have hW := fun n => HB.out _ (below_drewN (Below.refl _ _) n)
    refine .inl ⟨(c.toNat : Int), r, rfl, ⟨c.toNat, rfl, by omega, ret_i64 ?_⟩, ?_, grown_trans (hW _).2 (below_grow (below_drewN (Below.refl _ _) _))⟩
    · rw [HC.out]
      unfold wrap64
      omega
    · rw [HR.out]
      exact (hW _).1.keep (below_drewN (Below.refl _ _) _)

end Go.Proofs.Ytnjfaikhiimdjaa
