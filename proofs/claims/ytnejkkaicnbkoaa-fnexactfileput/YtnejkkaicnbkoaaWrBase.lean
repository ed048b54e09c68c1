/- The program's writer of files: a builder inside a fileWriter, and contracts of its smallest writes. -/
import Derived.Test.YtnejkkaicnbkoaaFileMath
import Derived.Test.YtnejkkaicnbkoaaRdEntry
import Derived.Test.YtnejkkaicnbkoaaShelf
import Derived.Lib.Builder
import Derived.Laws.Externs
import Derived.Lib.AppendStr
namespace Go.Proofs.Ytnejkkaicnbkoaa
open Go.RowKit Fm
set_option maxHeartbeats 1000000
set_option maxRecDepth 100000
set_option linter.unusedVariables false

theorem infoB : (Try.prog.info? 61).map (·.size) = some 2 := by kernel_rfl
theorem info5 : (Try.prog.info? 5).map (fun i => (i.zero, i.size, i.bytes)) = some (some (.int .u8 0), 1, 1) := by kernel_rfl

/-- every block but the writer's own, and the rows of bytes, is as it was -/
structure Kw (b : Nat) (w w' : World) : Prop where
  os : w'.os = w.os
  tape : w'.tape = w.tape
  output : w'.output = w.output
  size : w.heap.size ≤ w'.heap.size
  block : ∀ k, k < w.heap.size → k ≠ b → (∀ c fz, w.heap[k]? ≠ some (.cells c 5 fz)) → w'.heap[k]? = w.heap[k]?
theorem Kw.refl (b : Nat) (w : World) : Kw b w w := ⟨rfl, rfl, rfl, Nat.le_refl _, fun _ _ _ _ => rfl⟩
theorem Kw.trans {b : Nat} {w w1 w2 : World} (h : Kw b w w1) (k : Kw b w1 w2) : Kw b w w2 :=
  ⟨k.os.trans h.os, k.tape.trans h.tape, k.output.trans h.output, Nat.le_trans h.size k.size, fun i hi hb h5 => by
    have e := h.block i hi hb h5
    rw [k.block i (Nat.lt_of_lt_of_le hi h.size) hb (by rw [e]; exact h5), e]⟩
theorem Kw.lk {b : Nat} {w w' : World} {C : Nat} {cs : Array Value} {T : TypeId} (h : Kw b w w') (hk : Lk w C cs T) (hb : C ≠ b) (hT : T ≠ 5) : Lk w' C cs T := by
  unfold Lk at *
  rw [h.block C (Array.getElem?_eq_some_iff.1 hk).1 hb (fun c f e => by rw [hk] at e; cases e; exact hT rfl)]
  exact hk
theorem Kw.of_below {b : Nat} {w w' : World} (h : Below w.heap.size w w') : Kw b w w' := ⟨h.os, h.tape, h.output, h.size, fun k hk _ _ => h.block k hk⟩
/-- a row of another type is kept -/
theorem Kw.own {b : Nat} {w w' : World} {B : Nat} {e : TypeId} {z n : Nat} {v : Value} {xs : List Value} (h : Kw b w w') (ho : w.ownsRow B e z v n xs) (he : e ≠ 5) (hb : v.ownBlock ≠ some b) : w'.ownsRow B e z v n xs := by
  refine ⟨ho.1, ?_⟩
  rcases ho.2 with hn | ⟨g, cap, cur, rfl, h1, h2, rest⟩
  · exact .inl hn
  · refine .inr ⟨g, cap, cur, rfl, h1, ?_, rest⟩
    rw [h.block g (Array.getElem?_eq_some_iff.1 h2).1 (fun e => hb (by rw [e]; rfl)) (fun c f e2 => by rw [h2] at e2; cases e2; exact he rfl)]
    exact h2

/-- a writer in block b that has written bs; w0: the world in which FilePut began -/
structure WB (w0 : World) (b : Nat) (sp : Bool) (bs : List UInt8) (W : World) : Prop where
  at_ : ∃ p v, (p = .pointer none ∨ p = .pointer (some ⟨b, 0, none⟩)) ∧ W.heap[b]? = some (.cells #[p, v, .bool sp] 63 (0, 0)) ∧ W.ownsRow w0.heap.size 5 1 v bs.length (Lib.byteCells bs)
  old : Below w0.heap.size w0 W
  new : w0.heap.size ≤ b
theorem WB.keep {w0 : World} {b : Nat} {sp : Bool} {bs : List UInt8} {W W' : World} (h : WB w0 b sp bs W) (hb : Below W.heap.size W W') : WB w0 b sp bs W' := by
  obtain ⟨p, v, h1, h2, h3⟩ := h.at_
  exact ⟨⟨p, v, h1, (hb.block b (Array.getElem?_eq_some_iff.1 h2).1).trans h2, own_below h3 hb⟩, h.old.trans (hb.mono h.old.size), h.new⟩

theorem wcopy_any {w0 : World} {b : Nat} {sp : Bool} {bs : List UInt8} {W : World} (h : WB w0 b sp bs W) :
    Calls Try.prog 95 #[.pointer (some ⟨b, 0, none⟩)] W fun e w' => e = .returned (.tuple #[]) ∧ ∃ v, w'.heap[b]? = some (.cells #[.pointer (some ⟨b, 0, none⟩), v, .bool sp] 63 (0, 0)) ∧ w'.ownsRow w0.heap.size 5 1 v bs.length (Lib.byteCells bs) ∧ Below w0.heap.size w0 w' ∧ W.grownBy w' (some b) := by
  obtain ⟨p, v, h1, h2, h3⟩ := h.at_
  obtain ⟨j, hj, hjs⟩ := Option.map_eq_some_iff.1 infoB
  have c0 : W.cell? ⟨b, 0, none⟩ = some p := by rw [Lib.cell_of_heap h2]; rfl
  have hfz := Lib.frozen_of_heap h2 0
  have hsh : W.shape? b = some (63, 3) := by simp [World.shape?, h2]
  rcases h1 with rfl | rfl
  · have hto := Lib.run_to_unsafe (P := Try.prog) W ⟨b, 0, none⟩ Try.underlying58 Try.underlying153 hj (by rw [hjs]; decide) hsh (Nat.zero_lt_succ 2)
    have hfrom := Lib.run_from_unsafe (P := Try.prog) W ⟨b, 0, none⟩ Try.underlying153 Try.underlying58 hj hsh (by kernel_rfl)
    have hesc : (callFunc 111 #[.pointer (some ⟨b, 0, none⟩)]).run Try.prog W = .ok (.value (.pointer (some ⟨b, 0, none⟩))) W := by
      rw [run_callFunc_extern Try.func111 (by kernel_rfl) (by kernel_rfl) (by kernel_rfl) (e := Extern.AbiNoEscape.same) (by kernel_rfl), Lib.run_noEscape]
      rfl
    have HP := hid (show ∃ v, (W.setCell ⟨b, 0, none⟩ (.pointer (some ⟨b, 0, none⟩))).heap[b]? = some (.cells #[.pointer (some ⟨b, 0, none⟩), v, .bool sp] 63 (0, 0)) ∧ (W.setCell ⟨b, 0, none⟩ (.pointer (some ⟨b, 0, none⟩))).ownsRow w0.heap.size 5 1 v bs.length (Lib.byteCells bs) ∧ Below w0.heap.size w0 (W.setCell ⟨b, 0, none⟩ (.pointer (some ⟨b, 0, none⟩))) ∧ W.grownBy (W.setCell ⟨b, 0, none⟩ (.pointer (some ⟨b, 0, none⟩))) (some b) from
      ⟨v, by simp [World.setCell, Array.getElem?_modify, h2], h3.kept grown_set (.inr (Lib.ownBlock_ne h3 h2 (by decide))), h.old.setCell (p := ⟨b, 0, none⟩) h.new _, grown_set⟩)
    clear h h2 h3
    go_enter Try.func95, Try.ntmps95
    go_wp2
    go_end0
    exact ⟨rfl, HP.out⟩
  · have HP := hid (show ∃ v, W.heap[b]? = some (.cells #[.pointer (some ⟨b, 0, none⟩), v, .bool sp] 63 (0, 0)) ∧ W.ownsRow w0.heap.size 5 1 v bs.length (Lib.byteCells bs) ∧ Below w0.heap.size w0 W ∧ W.grownBy W (some b) from ⟨v, h2, h3, h.old, grown_refl _ _⟩)
    clear h h2 h3
    go_enter Try.func95, Try.ntmps95
    go_wp2
    rw [Lib.run_neq_ptr_same W _ Try.underlying58 hj]
    go_wp2
    go_end0
    exact ⟨rfl, HP.out⟩

theorem wbyte_any {w0 : World} {b : Nat} {sp : Bool} {bs : List UInt8} {W : World} (h : WB w0 b sp bs W) (q : UInt8) (n : Int) (hn : n = (q.toNat : Int)) (hl : bs.length ≤ 1000000) :
    Calls Try.prog 98 #[.pointer (some ⟨b, 0, none⟩), .int .u8 n] W fun e w' => e = .returned .nilIface ∧ WB w0 b sp (bs ++ [q]) w' ∧ Kw b W w' := by
  obtain ⟨i0, hi, hz0, hz1, hz2⟩ := info_parts info5
  have hnew := h.new
  have hbl : (Lib.byteCells bs).length = bs.length := Lib.byteCells_length bs
  have HC := wcopy_any h
  subst hn
  clear h
  go_enter Try.func98, Try.ntmps98
  go_wp2_with (first | (go_at_call 95; refine HC.mono ?_; rintro e w1 ⟨rfl, v, hbk, hown, hold, hg1⟩; have c1 : w1.cell? ⟨b, 1, none⟩ = some v := (by rw [Lib.cell_of_heap hbk]; rfl)) | (at_builtin; refine wpList_append_own _ rfl _ _ 59 rfl w0.heap.size 5 i0 (.int .u8 0) 1 1 Try.underlying59 hi hz0 hz1 hz2 rfl (by decide) _ _ _ rfl (hown.alloc _) ⟨w1.heap.size, 0, none⟩ 1 1 [.int .u8 (q.toNat : Int)] rfl rfl ?c1 ?c2 ?c3 ?c4 ?c5 ?_))
  case c1 => exact cell_one_new _ _ _
  case c2 => intro u hu; simp at hu; subst hu; rfl
  case c3 => unfold maxLen; omega
  case c4 => omega
  case c5 => have := hold.size; simp; omega
  intro v' w2 hown' hgrow _
  have hlt : b < w1.heap.size := (Array.getElem?_eq_some_iff.1 hbk).1
  have hne : v.ownBlock ≠ some b := Lib.ownBlock_ne hown hbk (by decide)
  have hb2 : w2.heap[b]? = some (.cells #[.pointer (some ⟨b, 0, none⟩), v, .bool sp] 63 (0, 0)) := by
    rw [hgrow.block b (by simp; omega) (fun e => hne e.symm), Below.heap_alloc w1 _ b hlt]
    exact hbk
  have d1 : w2.cell? ⟨b, 1, none⟩ = some v := by rw [Lib.cell_of_heap hb2]; rfl
  have f1 : w2.frozen? ⟨b, 1, none⟩ = false := Lib.frozen_of_heap hb2 1
  obtain ⟨g, cap, hv'⟩ := Joins.ownsRow_form hown' (by omega)
  subst hv'
  have hne2 : (Value.slice (some ⟨g, 0, none⟩) (bs.length + 1) cap).ownBlock ≠ some b := Lib.ownBlock_ne hown' hb2 (by decide)
  have hs1 := hg1.size
  have HI := hid (show WB w0 b sp (bs ++ [q]) (w2.setCell ⟨b, 1, none⟩ (.slice (some ⟨g, 0, none⟩) (bs.length + 1) cap)) from
    ⟨⟨_, _, .inr rfl, by simp [World.setCell, Array.getElem?_modify, hb2]; rfl, by
      have := hown'.kept (grown_set (u := .slice (some ⟨g, 0, none⟩) (bs.length + 1) cap) (o := 1)) (.inr hne2)
      simpa [Lib.byteCells] using this⟩,
     ((hold.alloc hold.size _).grown hgrow (by have := hold.size; simp; omega) (fun k hk => (hown.lt k hk).1)).setCell (p := ⟨b, 1, none⟩) hnew _, hnew⟩)
  have HK := hid (show Kw b W (w2.setCell ⟨b, 1, none⟩ (.slice (some ⟨g, 0, none⟩) (bs.length + 1) cap)) from by
    refine ⟨hgrow.os.trans hg1.os, hgrow.tape.trans hg1.tape, hgrow.output.trans hg1.output, by have := hgrow.size; simp [World.setCell] at this ⊢; omega, ?_⟩
    intro k hk hkb hk5
    rw [Below.heap_setCell _ _ _ _ hkb]
    have hk1 : w1.heap[k]? = W.heap[k]? := hg1.block k hk (by simpa using hkb)
    rw [hgrow.block k (by simp; omega) ?_, Below.heap_alloc w1 _ k (by omega)]
    · exact hk1
    · intro e
      rcases hown.2 with ⟨hv, _⟩ | ⟨g', cap', cur, hv, _, hgg, _⟩
      · subst hv; simp [Value.ownBlock] at e
      · subst hv
        simp [Value.ownBlock] at e
        subst e
        rw [hk1] at hgg
        exact hk5 _ _ hgg)
  clear hown' hgrow hown hg1 hbk hb2 c1 hs1 hold hne hne2
  go_wp2
  go_ret
  exact ⟨rfl, HI.out, HK.out⟩

end Go.Proofs.Ytnejkkaicnbkoaa
