/- Contracts of the law's own helpers on entries of a pool: toConst, toConstS, szConst, szConstS, eqConst, eqConstS. -/
import Derived.Test.YtbpefgkhplicoaaBase
import Derived.Laws.MakeOwn
namespace Go.Proofs.Ytbpefgkhplicoaa
open Go.RowKit
set_option maxHeartbeats 400000

structure C4 where
  kind : Int
  text : ByteArray
  a : Int
  b : Int
def cells4 (t : C4) : List Value := [.int .i64 t.kind, .string t.text, .int .i64 t.a, .int .i64 t.b]
def cellsC (ts : List C4) : List Value := ts.flatMap cells4
theorem cellsC_len (ts : List C4) : (cellsC ts).length = ts.length * 4 := by
  induction ts with
  | nil => rfl
  | cons t ts ih => simp only [cellsC, List.flatMap_cons, List.length_append] at *; simp [cells4, ih]; omega
theorem cellsC_at (ts : List C4) (k : Nat) (hk : k < ts.length) : cellsC ts = cellsC (ts.take k) ++ (cells4 ts[k] ++ cellsC (ts.drop (k + 1))) := by
  have ht : ts = ts.take k ++ ts[k] :: ts.drop (k + 1) := by rw [← List.drop_eq_getElem_cons hk, List.take_append_drop]
  exact (congrArg (List.flatMap cells4) ht).trans (by rw [List.flatMap_append, List.flatMap_cons]; rfl)

theorem infoConst : (Try.prog.info? 33).map (fun i => (i.zero, i.size, i.bytes)) = some (some (.agg #[.int .i64 0, .string ⟨#[]⟩, .int .i64 0, .int .i64 0]), 4, 40) := by kernel_rfl

/-- the cells of the entry at place k of an owned row -/
theorem cells4_at {w : World} {B g cap : Nat} {ts : List C4} (h : w.ownsRow B 33 4 (.slice (some ⟨g, 0, none⟩) ts.length cap) ts.length (cellsC ts)) {k : Nat} (hk : k < ts.length) :
    w.cell? ⟨g, k * 4, none⟩ = some (.int .i64 ts[k].kind) ∧ w.cell? ⟨g, k * 4 + 1, none⟩ = some (.string ts[k].text) ∧ w.cell? ⟨g, k * 4 + 2, none⟩ = some (.int .i64 ts[k].a) ∧ w.cell? ⟨g, k * 4 + 3, none⟩ = some (.int .i64 ts[k].b) := by
  have hx : ∀ j, j < 4 → (cellsC ts)[k * 4 + j]? = (cells4 ts[k])[j]? := by
    intro j hj
    rw [cellsC_at ts k hk, List.getElem?_append_right (by rw [cellsC_len, List.length_take]; omega), cellsC_len, List.length_take, show k * 4 + j - min k ts.length * 4 = j by omega, List.getElem?_append_left (by simp [cells4]; omega)]
  refine ⟨?_, ?_, ?_, ?_⟩
  · rw [h.cellAt _ (by omega)]; exact hx 0 (by omega)
  · rw [h.cellAt _ (by omega)]; exact hx 1 (by omega)
  · rw [h.cellAt _ (by omega)]; exact hx 2 (by omega)
  · rw [h.cellAt _ (by omega)]; exact hx 3 (by omega)

theorem toConst_any (t : C4) (w : World) :
    Calls Try.prog 11 #[.agg #[.int .i64 t.kind, .string t.text, .int .i64 t.a, .int .i64 t.b]] w fun e w' => e = .returned (.agg #[.int .i64 t.kind, .string t.text, .int .i64 t.a, .int .i64 t.b]) ∧ Below w.heap.size w w' := by
  go_enter Try.func11, Try.ntmps11
  go_wp2
  refine bodyPost_ret (v := .agg #[.int .i64 t.kind, .string t.text, .int .i64 t.a, .int .i64 t.b]) (by simp [results, Try.results11, go_sem]) rfl ⟨rfl, ?_⟩
  go_grown

/-- an argument that reads as these entries -/
def ArgC (w : World) (ao : Option Addr) (len : Nat) (ts : List C4) : Prop :=
  ts.length = len ∧ (∀ t ∈ ts, t.text.size ≤ maxLen) ∧ (len = 0 ∨ ∃ b off, ao = some ⟨b, off, none⟩ ∧ b < w.heap.size ∧ ∀ k (h : k < ts.length), w.cell? ⟨b, off + k * 4, none⟩ = some (.int .i64 ts[k].kind) ∧ w.cell? ⟨b, off + k * 4 + 1, none⟩ = some (.string ts[k].text) ∧ w.cell? ⟨b, off + k * 4 + 2, none⟩ = some (.int .i64 ts[k].a) ∧ w.cell? ⟨b, off + k * 4 + 3, none⟩ = some (.int .i64 ts[k].b))
theorem ArgC.keep {w w' : World} {ao : Option Addr} {len : Nat} {ts : List C4} (h : ArgC w ao len ts) (hb : Below w.heap.size w w') : ArgC w' ao len ts := by
  obtain ⟨h1, hs, h2⟩ := h
  refine ⟨h1, hs, h2.imp id ?_⟩
  rintro ⟨b, off, rfl, hlt, hc⟩
  refine ⟨b, off, rfl, Nat.lt_of_lt_of_le hlt hb.size, fun k hk => ?_⟩
  obtain ⟨c1, c2, c3, c4⟩ := hc k hk
  exact ⟨(hb.cell (p := ⟨b, off + k * 4, none⟩) hlt).trans c1, (hb.cell (p := ⟨b, off + k * 4 + 1, none⟩) hlt).trans c2, (hb.cell (p := ⟨b, off + k * 4 + 2, none⟩) hlt).trans c3, (hb.cell (p := ⟨b, off + k * 4 + 3, none⟩) hlt).trans c4⟩

def zero4 : C4 := ⟨0, ⟨#[]⟩, 0, 0⟩
def zerosC (n : Nat) : List C4 := List.replicate n zero4
theorem zerosC_cells (n : Nat) : (madeCells (Value.agg #[.int .i64 0, .string ⟨#[]⟩, .int .i64 0, .int .i64 0]).cells (n * 4)).toList = cellsC (zerosC n) := by
  have hz : (Value.agg #[.int .i64 0, .string ⟨#[]⟩, .int .i64 0, .int .i64 0]).cells = #[.int .i64 0, .string ⟨#[]⟩, .int .i64 0, .int .i64 0] := rfl
  apply List.ext_getElem
  · simp [madeCells, cellsC_len, zerosC]
  · intro i h1 h2
    have hi : i < n * 4 := by simpa [cellsC_len, zerosC] using h2
    have hget : (cellsC (zerosC n))[i]? = (cells4 zero4)[i % 4]? := by
      have hk : i / 4 < (zerosC n).length := by simp [zerosC]; omega
      rw [cellsC_at _ (i / 4) hk, List.getElem?_append_right (by rw [cellsC_len, List.length_take]; omega), cellsC_len, List.length_take, show i - min (i / 4) (zerosC n).length * 4 = i % 4 by omega, List.getElem?_append_left (by simp [cells4]; omega)]
      simp [zerosC]
    rw [List.getElem?_eq_getElem h2] at hget
    have h3 : i % 4 < 4 := Nat.mod_lt _ (by decide)
    have hl : (madeCells (Value.agg #[.int .i64 0, .string ⟨#[]⟩, .int .i64 0, .int .i64 0]).cells (n * 4)).toList[i] = (#[.int .i64 0, .string ⟨#[]⟩, .int .i64 0, .int .i64 0] : Array Value)[i % 4]! := by
      simp only [madeCells, hz]
      simp only [Array.toList_map, Array.toList_range, List.getElem_map, List.getElem_range]
      rfl
    rw [hl]
    generalize i % 4 = r at h3 hget
    match r, h3 with
    | 0, _ => exact (Option.some.inj hget).symm
    | 1, _ => exact (Option.some.inj hget).symm
    | 2, _ => exact (Option.some.inj hget).symm
    | 3, _ => exact (Option.some.inj hget).symm

theorem set4 (us : List C4) (k : Nat) (t : C4) (h : k < us.length) :
    ((((cellsC us).set (k * 4) (.int .i64 t.kind)).set (k * 4 + 1) (.string t.text)).set (k * 4 + 2) (.int .i64 t.a)).set (k * 4 + 3) (.int .i64 t.b) = cellsC (us.set k t) := by
  have e2 : us.set k t = us.take k ++ t :: us.drop (k + 1) := by rw [List.set_eq_take_append_cons_drop, if_pos h]
  have hl : (cellsC (us.take k)).length = k * 4 := by rw [cellsC_len, List.length_take]; omega
  have e1 : cellsC us = cellsC (us.take k) ++ (.int .i64 us[k].kind :: .string us[k].text :: .int .i64 us[k].a :: .int .i64 us[k].b :: cellsC (us.drop (k + 1))) := cellsC_at us k h
  rw [e2, e1, List.set_append_right _ _ (by omega), hl, Nat.sub_self, List.set_cons_zero, List.set_append_right _ _ (by omega), hl, show k * 4 + 1 - k * 4 = 1 by omega, List.set_cons_succ, List.set_cons_zero,
    List.set_append_right _ _ (by omega), hl, show k * 4 + 2 - k * 4 = 2 by omega, List.set_cons_succ, List.set_cons_succ, List.set_cons_zero,
    List.set_append_right _ _ (by omega), hl, show k * 4 + 3 - k * 4 = 3 by omega, List.set_cons_succ, List.set_cons_succ, List.set_cons_succ, List.set_cons_zero]
  unfold cellsC
  rw [List.flatMap_append, List.flatMap_cons]; rfl
theorem toC_next {W : World} {B g len k : Nat} {us : List C4} {t : C4} (h : W.ownsRow B 33 4 (.slice (some ⟨g, 0, none⟩) len len) len (cellsC us)) (hu : us.length = len) (hk : k < len) :
    ((((W.setCell ⟨g, k * 4, none⟩ (.int .i64 t.kind)).setCell ⟨g, k * 4 + 1, none⟩ (.string t.text)).setCell ⟨g, k * 4 + 2, none⟩ (.int .i64 t.a)).setCell ⟨g, k * 4 + 3, none⟩ (.int .i64 t.b)).ownsRow B 33 4 (.slice (some ⟨g, 0, none⟩) len len) len (cellsC (us.set k t)) := by
  have := ((((((h.stored (k * 4) (.int .i64 t.kind)).1.stored (k * 4 + 1) (.string t.text)).1).stored (k * 4 + 2) (.int .i64 t.a)).1).stored (k * 4 + 3) (.int .i64 t.b)).1
  rw [set4 us k t (by omega)] at this
  exact this
theorem toC_take {us ts : List C4} {k : Nat} {t : C4} (h : us.take k = ts.take k) {hk : k < ts.length} (ht : ts[k] = t) (hu : k < us.length) : (us.set k t).take (k + 1) = ts.take (k + 1) := by
  rw [List.take_succ_eq_append_getElem hk, List.take_succ_eq_append_getElem (by simpa using hu), List.getElem_set_self, ht, ← h]
  congr 1
  rw [List.take_set_of_le (Nat.le_refl _)]

theorem toConstS_any (ao : Option Addr) (len cap : Nat) (ts : List C4) (w : World) (hl : len ≤ 1048576) (hA : ArgC w ao len ts) :
    Calls Try.prog 6 #[.slice ao len cap] w fun e w' => ∃ v, e = .returned v ∧ w'.ownsRow w.heap.size 33 4 v ts.length (cellsC ts) ∧ Below w.heap.size w w' := by
  obtain ⟨hlen, _, hcs⟩ := hA
  obtain ⟨i0, hi, hz0, hz1, hz2⟩ := info_parts infoConst
  obtain ⟨M, hM⟩ : ∃ M, M = madeCells (Value.agg #[.int .i64 0, .string ⟨#[]⟩, .int .i64 0, .int .i64 0]).cells (len * 4) := ⟨_, rfl⟩
  have hmk : ∀ W : World, (Instr.makeSlice 25 (.int .i64 (len : Int)) (.int .i64 (len : Int))).run Try.prog W = .ok (.slice (some ⟨W.heap.size, 0, none⟩) len len) (W.alloc (.cells M 33)) := fun W => by
    have h := run_make (P := Try.prog) W 25 33 i0 _ Try.underlying25 hi hz0 .i64 .i64 (len : Int) (len : Int) (by omega) (by omega) (by rw [hz2]; omega) (by omega)
    rw [hz1] at h
    rw [hM]
    simpa using h
  have HO : Hid ((w.alloc (.cells M 33)).ownsRow w.heap.size 33 4 (.slice (some ⟨w.heap.size, 0, none⟩) len len) len (cellsC (zerosC len))) := by
    have hz := zerosC_cells len
    rw [← hM] at hz
    have := World.ownsRow_lit (base := w.heap.size) (e := 33) (size := 4) w M len (Nat.le_refl _) (by unfold maxLen; omega) (by rw [← Array.length_toList, hz, cellsC_len]; simp [zerosC])
    rw [hz] at this
    exact this
  clear hM
  go_enter Try.func6, Try.ntmps6
  go_wp2
  go_loopw [4] (fun i wr => ∃ (k : Nat) (us : List C4), k ≤ len ∧ i = .int .i64 k ∧ us.length = len ∧ Hid (us.take k = ts.take k) ∧ Hid (wr.ownsRow w.heap.size 33 4 (.slice (some ⟨w.heap.size, 0, none⟩) len len) len (cellsC us)) ∧ Below w.heap.size w wr) (fun i _ => len - (intOf i).toNat)
  case atStart => exact ⟨0, zerosC len, by omega, rfl, by simp [zerosC], rfl, HO, (Below.refl _ _).alloc (Nat.le_refl _) _⟩
  case round =>
    obtain ⟨k, us, hk, rfl, hus, HE, HW, hbel⟩ := hrel
    by_cases hlt : k < len
    · rcases hcs with h0 | ⟨b, off, rfl, hbw, hc⟩
      · omega
      · obtain ⟨c1, c2, c3, c4⟩ := hc k (by omega)
        have hne : ¬ b = w.heap.size := by omega
        have d1 := (hbel.cell (p := ⟨b, off + k * 4, none⟩) hbw).trans c1
        have d2 := (hbel.cell (p := ⟨b, off + k * 4 + 1, none⟩) hbw).trans c2
        have d3 := (hbel.cell (p := ⟨b, off + k * 4 + 2, none⟩) hbw).trans c3
        have d4 := (hbel.cell (p := ⟨b, off + k * 4 + 3, none⟩) hbw).trans c4
        obtain ⟨t, ht⟩ : ∃ t, ts[k]'(by omega) = t := ⟨_, rfl⟩
        rw [ht] at d1 d2 d3 d4
        have HX : Hid (ts[k]'(by omega) = t) := ht
        clear ht c1 c2 c3 c4 hc
        have hI := fun w => toConst_any t w
        go_wp2_with (go_at_call 11; refine (hI _).mono ?_; rintro e w1 ⟨rfl, hb1⟩; have ho1 := own_below HW.out hb1; have f1 := ho1.frozenAt (k * 4); have f2 := ho1.frozenAt (k * 4 + 1); have f3 := ho1.frozenAt (k * 4 + 2); have f4 := ho1.frozenAt (k * 4 + 3); obtain ⟨p1, q1⟩ := own_has ho1 (k := k * 4) (by omega); obtain ⟨p2, q2⟩ := own_has ho1 (k := k * 4 + 1) (by omega); obtain ⟨p3, q3⟩ := own_has ho1 (k := k * 4 + 2) (by omega); obtain ⟨p4, q4⟩ := own_has ho1 (k := k * 4 + 3) (by omega); clear ho1)
        go_roundw
        case rel => exact ⟨k + 1, us.set k t, by omega, by go_num, by simpa using hus, toC_take HE.out HX.out (by omega), toC_next (own_below HW.out hb1) hus hlt, ((((hbel.trans (hb1.mono hbel.size)).setCell (Nat.le_refl _) _).setCell (Nat.le_refl _) _).setCell (Nat.le_refl _) _).setCell (Nat.le_refl _) _⟩
        case measure => simp [intOf]; omega
    · have hk' : k = len := by omega
      subst hk'
      have HF : Hid (wr.ownsRow w.heap.size 33 4 (.slice (some ⟨w.heap.size, 0, none⟩) k k) ts.length (cellsC ts)) := by
        have e : us = ts := by
          have := HE.out
          rwa [List.take_of_length_le (by omega), List.take_of_length_le (by omega)] at this
        have := HW.out
        rw [e] at this
        rw [hlen]; exact this
      clear HE HW
      go_wp2
      go_ret
      exact ⟨_, rfl, HF.out, hbel⟩

end Go.Proofs.Ytbpefgkhplicoaa
