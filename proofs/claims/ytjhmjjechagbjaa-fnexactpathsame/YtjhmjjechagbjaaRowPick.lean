/- Contracts of the law's own helpers on rows of Pick: toPick, toPickS, szPickS, eqPick, eqPickS. Printed by tools/mixed.py. -/
import Derived.Test.YtjhmjjechagbjaaBase
import Derived.Laws.MakeOwn
namespace Go.Proofs.Ytjhmjjechagbjaa
open Go.RowKit
set_option maxHeartbeats 400000
set_option linter.unusedVariables false

structure MPick where
  at_ : Int
  kind : Int
  loader : Int
  name : ByteArray
def cellsPick (t : MPick) : List Value := [.int .i64 t.at_, .int .i64 t.kind, .int .i64 t.loader, .string t.name]
def rowPick (ts : List MPick) : List Value := ts.flatMap cellsPick
theorem rowPick_len (ts : List MPick) : (rowPick ts).length = ts.length * 4 := by
  induction ts with
  | nil => rfl
  | cons t ts ih => simp only [rowPick, List.flatMap_cons, List.length_append] at *; simp [cellsPick, ih]; omega
theorem rowPick_at (ts : List MPick) (k : Nat) (hk : k < ts.length) : rowPick ts = rowPick (ts.take k) ++ (cellsPick ts[k] ++ rowPick (ts.drop (k + 1))) := by
  have ht : ts = ts.take k ++ ts[k] :: ts.drop (k + 1) := by rw [← List.drop_eq_getElem_cons hk, List.take_append_drop]
  exact (congrArg (List.flatMap cellsPick) ht).trans (by rw [List.flatMap_append, List.flatMap_cons]; rfl)
/-- an argument that reads as these -/
def ArgPick (w : World) (ao : Option Addr) (len : Nat) (ts : List MPick) : Prop :=
  ts.length = len ∧ (∀ t ∈ ts, t.name.size ≤ maxLen) ∧ (len = 0 ∨ ∃ b off, ao = some ⟨b, off, none⟩ ∧ b < w.heap.size ∧ ∀ k (h : k < ts.length), w.cell? ⟨b, off + k * 4, none⟩ = some (.int .i64 ts[k].at_) ∧ w.cell? ⟨b, off + k * 4 + 1, none⟩ = some (.int .i64 ts[k].kind) ∧ w.cell? ⟨b, off + k * 4 + 2, none⟩ = some (.int .i64 ts[k].loader) ∧ w.cell? ⟨b, off + k * 4 + 3, none⟩ = some (.string ts[k].name))
theorem ArgPick.keep {w w' : World} {ao : Option Addr} {len : Nat} {ts : List MPick} (h : ArgPick w ao len ts) (hb : Below w.heap.size w w') : ArgPick w' ao len ts := by
  obtain ⟨h1, hs, h2⟩ := h
  refine ⟨h1, hs, h2.imp id ?_⟩
  rintro ⟨b, off, rfl, hlt, hc⟩
  refine ⟨b, off, rfl, Nat.lt_of_lt_of_le hlt hb.size, fun k hk => ?_⟩
  obtain ⟨c0, c1, c2, c3⟩ := hc k hk
  exact ⟨(hb.cell (p := ⟨b, off + k * 4, none⟩) hlt).trans c0, (hb.cell (p := ⟨b, off + k * 4 + 1, none⟩) hlt).trans c1, (hb.cell (p := ⟨b, off + k * 4 + 2, none⟩) hlt).trans c2, (hb.cell (p := ⟨b, off + k * 4 + 3, none⟩) hlt).trans c3⟩

def zerosPick (n : Nat) : List MPick := List.replicate n ⟨0, 0, 0, ⟨#[]⟩⟩
theorem zerosPick_cells (n : Nat) : (madeCells (Value.agg #[.int .i64 0, .int .i64 0, .int .i64 0, .string ⟨#[]⟩]).cells (n * 4)).toList = rowPick (zerosPick n) := by
  have hz : (Value.agg #[.int .i64 0, .int .i64 0, .int .i64 0, .string ⟨#[]⟩]).cells = #[.int .i64 0, .int .i64 0, .int .i64 0, .string ⟨#[]⟩] := rfl
  apply List.ext_getElem
  · simp [madeCells, rowPick_len, zerosPick]
  · intro i h1 h2
    have hi : i < n * 4 := by simpa [rowPick_len, zerosPick] using h2
    have hget : (rowPick (zerosPick n))[i]? = (cellsPick ⟨0, 0, 0, ⟨#[]⟩⟩)[i % 4]? := by
      have hk : i / 4 < (zerosPick n).length := by simp [zerosPick]; omega
      rw [rowPick_at _ (i / 4) hk, List.getElem?_append_right (by rw [rowPick_len, List.length_take]; omega), rowPick_len, List.length_take, show i - min (i / 4) (zerosPick n).length * 4 = i % 4 by omega, List.getElem?_append_left (by simp [cellsPick]; omega)]
      simp [zerosPick]
    rw [List.getElem?_eq_getElem h2] at hget
    have h3 : i % 4 < 4 := Nat.mod_lt _ (by decide)
    have hl : (madeCells (Value.agg #[.int .i64 0, .int .i64 0, .int .i64 0, .string ⟨#[]⟩]).cells (n * 4)).toList[i] = (#[.int .i64 0, .int .i64 0, .int .i64 0, .string ⟨#[]⟩] : Array Value)[i % 4]! := by
      simp only [madeCells, hz]
      simp only [Array.toList_map, Array.toList_range, List.getElem_map, List.getElem_range]
      rfl
    rw [hl]
    generalize i % 4 = r at h3 hget
    match r, h3 with
    | 0, _ => exact (Option.some.inj hget).symm
    | 1, _ => exact (Option.some.inj hget).symm
    | 2, _ => exact (Option.some.inj hget).symm
    | 3, _ => exact (Option.some.inj hget).symm

theorem setPick (us : List MPick) (k : Nat) (t : MPick) (h : k < us.length) :
    ((((rowPick us).set (k * 4) (.int .i64 t.at_)).set (k * 4 + 1) (.int .i64 t.kind)).set (k * 4 + 2) (.int .i64 t.loader)).set (k * 4 + 3) (.string t.name) = rowPick (us.set k t) := by
  have e2 : us.set k t = us.take k ++ t :: us.drop (k + 1) := by rw [List.set_eq_take_append_cons_drop, if_pos h]
  have hl : (rowPick (us.take k)).length = k * 4 := by rw [rowPick_len, List.length_take]; omega
  have e1 : rowPick us = rowPick (us.take k) ++ (.int .i64 us[k].at_ :: .int .i64 us[k].kind :: .int .i64 us[k].loader :: .string us[k].name :: rowPick (us.drop (k + 1))) := rowPick_at us k h
  rw [e2, e1, List.set_append_right _ _ (by omega), hl, Nat.sub_self, List.set_cons_zero, List.set_append_right _ _ (by omega), hl, show k * 4 + 1 - k * 4 = 1 by omega, List.set_cons_succ, List.set_cons_zero, List.set_append_right _ _ (by omega), hl, show k * 4 + 2 - k * 4 = 2 by omega, List.set_cons_succ, List.set_cons_succ, List.set_cons_zero, List.set_append_right _ _ (by omega), hl, show k * 4 + 3 - k * 4 = 3 by omega, List.set_cons_succ, List.set_cons_succ, List.set_cons_succ, List.set_cons_zero]
  unfold rowPick
  rw [List.flatMap_append, List.flatMap_cons]; rfl
theorem toPick_take {us ts : List MPick} {k : Nat} {t : MPick} (h : us.take k = ts.take k) {hk : k < ts.length} (ht : ts[k] = t) (hu : k < us.length) : (us.set k t).take (k + 1) = ts.take (k + 1) := by
  rw [List.take_succ_eq_append_getElem hk, List.take_succ_eq_append_getElem (by simpa using hu), List.getElem_set_self, ht, ← h]
  congr 1
  rw [List.take_set_of_le (Nat.le_refl _)]

def fewPick (ts : List MPick) : Prop := ts.length ≤ 1048576 ∧ ∀ t ∈ ts, t.name.size ≤ 1048576
end Go.Proofs.Ytjhmjjechagbjaa
