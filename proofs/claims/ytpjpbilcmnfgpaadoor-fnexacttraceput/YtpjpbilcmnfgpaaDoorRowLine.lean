/- Contracts of the law's own helpers on rows of Line: toLine, toLineS, szLineS, eqLine, eqLineS. Printed by tools/mixed.py. -/
import Derived.Test.YtpjpbilcmnfgpaaDoorBase
import Derived.Laws.MakeOwn
namespace Go.Proofs.YtpjpbilcmnfgpaaDoor
open Go.RowKit
set_option maxHeartbeats 400000
set_option linter.unusedVariables false

structure MLine where
  loader : Int
  cls : ByteArray
  method : ByteArray
  at_ : Int
  op : Int
  deep : Int
def cellsLine (t : MLine) : List Value := [.int .i64 t.loader, .string t.cls, .string t.method, .int .i64 t.at_, .int .i64 t.op, .int .i64 t.deep]
def rowLine (ts : List MLine) : List Value := ts.flatMap cellsLine
theorem rowLine_len (ts : List MLine) : (rowLine ts).length = ts.length * 6 := by
  induction ts with
  | nil => rfl
  | cons t ts ih => simp only [rowLine, List.flatMap_cons, List.length_append] at *; simp [cellsLine, ih]; omega
theorem rowLine_at (ts : List MLine) (k : Nat) (hk : k < ts.length) : rowLine ts = rowLine (ts.take k) ++ (cellsLine ts[k] ++ rowLine (ts.drop (k + 1))) := by
  have ht : ts = ts.take k ++ ts[k] :: ts.drop (k + 1) := by rw [← List.drop_eq_getElem_cons hk, List.take_append_drop]
  exact (congrArg (List.flatMap cellsLine) ht).trans (by rw [List.flatMap_append, List.flatMap_cons]; rfl)
theorem infoLine : (Tryd.prog.info? 33).map (fun i => (i.zero, i.size, i.bytes)) = some (some (.agg #[.int .i64 0, .string ⟨#[]⟩, .string ⟨#[]⟩, .int .i64 0, .int .i64 0, .int .i64 0]), 6, 64) := by kernel_rfl
theorem ownLine_at {w : World} {B g cap : Nat} {ts : List MLine} (h : w.ownsRow B 33 6 (.slice (some ⟨g, 0, none⟩) ts.length cap) ts.length (rowLine ts)) {k : Nat} (hk : k < ts.length) :
    w.cell? ⟨g, k * 6, none⟩ = some (.int .i64 ts[k].loader) ∧ w.cell? ⟨g, k * 6 + 1, none⟩ = some (.string ts[k].cls) ∧ w.cell? ⟨g, k * 6 + 2, none⟩ = some (.string ts[k].method) ∧ w.cell? ⟨g, k * 6 + 3, none⟩ = some (.int .i64 ts[k].at_) ∧ w.cell? ⟨g, k * 6 + 4, none⟩ = some (.int .i64 ts[k].op) ∧ w.cell? ⟨g, k * 6 + 5, none⟩ = some (.int .i64 ts[k].deep) := by
  have hx : ∀ j, j < 6 → (rowLine ts)[k * 6 + j]? = (cellsLine ts[k])[j]? := by
    intro j hj
    rw [rowLine_at ts k hk, List.getElem?_append_right (by rw [rowLine_len, List.length_take]; omega), rowLine_len, List.length_take, show k * 6 + j - min k ts.length * 6 = j by omega, List.getElem?_append_left (by simp [cellsLine]; omega)]
  refine ⟨?_, ?_, ?_, ?_, ?_, ?_⟩
  · rw [h.cellAt _ (by omega)]; exact hx 0 (by omega)
  · rw [h.cellAt _ (by omega)]; exact hx 1 (by omega)
  · rw [h.cellAt _ (by omega)]; exact hx 2 (by omega)
  · rw [h.cellAt _ (by omega)]; exact hx 3 (by omega)
  · rw [h.cellAt _ (by omega)]; exact hx 4 (by omega)
  · rw [h.cellAt _ (by omega)]; exact hx 5 (by omega)

theorem toLine_any (t : MLine) (w : World) :
    Calls Tryd.prog 11 #[.agg #[.int .i64 t.loader, .string t.cls, .string t.method, .int .i64 t.at_, .int .i64 t.op, .int .i64 t.deep]] w fun e w' => e = .returned (.agg #[.int .i64 t.loader, .string t.cls, .string t.method, .int .i64 t.at_, .int .i64 t.op, .int .i64 t.deep]) ∧ Below w.heap.size w w' := by
  go_enter Tryd.func11, Tryd.ntmps11
  go_wp2
  refine bodyPost_ret (v := .agg #[.int .i64 t.loader, .string t.cls, .string t.method, .int .i64 t.at_, .int .i64 t.op, .int .i64 t.deep]) (by simp [results, Tryd.results11, go_sem]) rfl ⟨rfl, ?_⟩
  go_grown

/-- an argument that reads as these -/
def ArgLine (w : World) (ao : Option Addr) (len : Nat) (ts : List MLine) : Prop :=
  ts.length = len ∧ (∀ t ∈ ts, t.cls.size ≤ maxLen ∧ t.method.size ≤ maxLen) ∧ (len = 0 ∨ ∃ b off, ao = some ⟨b, off, none⟩ ∧ b < w.heap.size ∧ ∀ k (h : k < ts.length), w.cell? ⟨b, off + k * 6, none⟩ = some (.int .i64 ts[k].loader) ∧ w.cell? ⟨b, off + k * 6 + 1, none⟩ = some (.string ts[k].cls) ∧ w.cell? ⟨b, off + k * 6 + 2, none⟩ = some (.string ts[k].method) ∧ w.cell? ⟨b, off + k * 6 + 3, none⟩ = some (.int .i64 ts[k].at_) ∧ w.cell? ⟨b, off + k * 6 + 4, none⟩ = some (.int .i64 ts[k].op) ∧ w.cell? ⟨b, off + k * 6 + 5, none⟩ = some (.int .i64 ts[k].deep))
theorem ArgLine.keep {w w' : World} {ao : Option Addr} {len : Nat} {ts : List MLine} (h : ArgLine w ao len ts) (hb : Below w.heap.size w w') : ArgLine w' ao len ts := by
  obtain ⟨h1, hs, h2⟩ := h
  refine ⟨h1, hs, h2.imp id ?_⟩
  rintro ⟨b, off, rfl, hlt, hc⟩
  refine ⟨b, off, rfl, Nat.lt_of_lt_of_le hlt hb.size, fun k hk => ?_⟩
  obtain ⟨c0, c1, c2, c3, c4, c5⟩ := hc k hk
  exact ⟨(hb.cell (p := ⟨b, off + k * 6, none⟩) hlt).trans c0, (hb.cell (p := ⟨b, off + k * 6 + 1, none⟩) hlt).trans c1, (hb.cell (p := ⟨b, off + k * 6 + 2, none⟩) hlt).trans c2, (hb.cell (p := ⟨b, off + k * 6 + 3, none⟩) hlt).trans c3, (hb.cell (p := ⟨b, off + k * 6 + 4, none⟩) hlt).trans c4, (hb.cell (p := ⟨b, off + k * 6 + 5, none⟩) hlt).trans c5⟩

def zerosLine (n : Nat) : List MLine := List.replicate n ⟨0, ⟨#[]⟩, ⟨#[]⟩, 0, 0, 0⟩
theorem zerosLine_cells (n : Nat) : (madeCells (Value.agg #[.int .i64 0, .string ⟨#[]⟩, .string ⟨#[]⟩, .int .i64 0, .int .i64 0, .int .i64 0]).cells (n * 6)).toList = rowLine (zerosLine n) := by
  have hz : (Value.agg #[.int .i64 0, .string ⟨#[]⟩, .string ⟨#[]⟩, .int .i64 0, .int .i64 0, .int .i64 0]).cells = #[.int .i64 0, .string ⟨#[]⟩, .string ⟨#[]⟩, .int .i64 0, .int .i64 0, .int .i64 0] := rfl
  apply List.ext_getElem
  · simp [madeCells, rowLine_len, zerosLine]
  · intro i h1 h2
    have hi : i < n * 6 := by simpa [rowLine_len, zerosLine] using h2
    have hget : (rowLine (zerosLine n))[i]? = (cellsLine ⟨0, ⟨#[]⟩, ⟨#[]⟩, 0, 0, 0⟩)[i % 6]? := by
      have hk : i / 6 < (zerosLine n).length := by simp [zerosLine]; omega
      rw [rowLine_at _ (i / 6) hk, List.getElem?_append_right (by rw [rowLine_len, List.length_take]; omega), rowLine_len, List.length_take, show i - min (i / 6) (zerosLine n).length * 6 = i % 6 by omega, List.getElem?_append_left (by simp [cellsLine]; omega)]
      simp [zerosLine]
    rw [List.getElem?_eq_getElem h2] at hget
    have h3 : i % 6 < 6 := Nat.mod_lt _ (by decide)
    have hl : (madeCells (Value.agg #[.int .i64 0, .string ⟨#[]⟩, .string ⟨#[]⟩, .int .i64 0, .int .i64 0, .int .i64 0]).cells (n * 6)).toList[i] = (#[.int .i64 0, .string ⟨#[]⟩, .string ⟨#[]⟩, .int .i64 0, .int .i64 0, .int .i64 0] : Array Value)[i % 6]! := by
      simp only [madeCells, hz]
      simp only [Array.toList_map, Array.toList_range, List.getElem_map, List.getElem_range]
      rfl
    rw [hl]
    generalize i % 6 = r at h3 hget
    match r, h3 with
    | 0, _ => exact (Option.some.inj hget).symm
    | 1, _ => exact (Option.some.inj hget).symm
    | 2, _ => exact (Option.some.inj hget).symm
    | 3, _ => exact (Option.some.inj hget).symm
    | 4, _ => exact (Option.some.inj hget).symm
    | 5, _ => exact (Option.some.inj hget).symm

theorem setLine (us : List MLine) (k : Nat) (t : MLine) (h : k < us.length) :
    ((((((rowLine us).set (k * 6) (.int .i64 t.loader)).set (k * 6 + 1) (.string t.cls)).set (k * 6 + 2) (.string t.method)).set (k * 6 + 3) (.int .i64 t.at_)).set (k * 6 + 4) (.int .i64 t.op)).set (k * 6 + 5) (.int .i64 t.deep) = rowLine (us.set k t) := by
  have e2 : us.set k t = us.take k ++ t :: us.drop (k + 1) := by rw [List.set_eq_take_append_cons_drop, if_pos h]
  have hl : (rowLine (us.take k)).length = k * 6 := by rw [rowLine_len, List.length_take]; omega
  have e1 : rowLine us = rowLine (us.take k) ++ (.int .i64 us[k].loader :: .string us[k].cls :: .string us[k].method :: .int .i64 us[k].at_ :: .int .i64 us[k].op :: .int .i64 us[k].deep :: rowLine (us.drop (k + 1))) := rowLine_at us k h
  rw [e2, e1, List.set_append_right _ _ (by omega), hl, Nat.sub_self, List.set_cons_zero, List.set_append_right _ _ (by omega), hl, show k * 6 + 1 - k * 6 = 1 by omega, List.set_cons_succ, List.set_cons_zero, List.set_append_right _ _ (by omega), hl, show k * 6 + 2 - k * 6 = 2 by omega, List.set_cons_succ, List.set_cons_succ, List.set_cons_zero, List.set_append_right _ _ (by omega), hl, show k * 6 + 3 - k * 6 = 3 by omega, List.set_cons_succ, List.set_cons_succ, List.set_cons_succ, List.set_cons_zero, List.set_append_right _ _ (by omega), hl, show k * 6 + 4 - k * 6 = 4 by omega, List.set_cons_succ, List.set_cons_succ, List.set_cons_succ, List.set_cons_succ, List.set_cons_zero, List.set_append_right _ _ (by omega), hl, show k * 6 + 5 - k * 6 = 5 by omega, List.set_cons_succ, List.set_cons_succ, List.set_cons_succ, List.set_cons_succ, List.set_cons_succ, List.set_cons_zero]
  unfold rowLine
  rw [List.flatMap_append, List.flatMap_cons]; rfl
theorem toLine_next {W : World} {B g len k : Nat} {us : List MLine} {t : MLine} (h : W.ownsRow B 33 6 (.slice (some ⟨g, 0, none⟩) len len) len (rowLine us)) (hu : us.length = len) (hk : k < len) :
    ((((((W.setCell ⟨g, k * 6, none⟩ (.int .i64 t.loader)).setCell ⟨g, k * 6 + 1, none⟩ (.string t.cls)).setCell ⟨g, k * 6 + 2, none⟩ (.string t.method)).setCell ⟨g, k * 6 + 3, none⟩ (.int .i64 t.at_)).setCell ⟨g, k * 6 + 4, none⟩ (.int .i64 t.op)).setCell ⟨g, k * 6 + 5, none⟩ (.int .i64 t.deep)).ownsRow B 33 6 (.slice (some ⟨g, 0, none⟩) len len) len (rowLine (us.set k t)) := by
  have := ((((((h.stored (k * 6) (.int .i64 t.loader)).1.stored (k * 6 + 1) (.string t.cls)).1.stored (k * 6 + 2) (.string t.method)).1.stored (k * 6 + 3) (.int .i64 t.at_)).1.stored (k * 6 + 4) (.int .i64 t.op)).1.stored (k * 6 + 5) (.int .i64 t.deep)).1
  rw [setLine us k t (by omega)] at this
  exact this
theorem toLine_take {us ts : List MLine} {k : Nat} {t : MLine} (h : us.take k = ts.take k) {hk : k < ts.length} (ht : ts[k] = t) (hu : k < us.length) : (us.set k t).take (k + 1) = ts.take (k + 1) := by
  rw [List.take_succ_eq_append_getElem hk, List.take_succ_eq_append_getElem (by simpa using hu), List.getElem_set_self, ht, ← h]
  congr 1
  rw [List.take_set_of_le (Nat.le_refl _)]

theorem toLineS_any (ao : Option Addr) (len cap : Nat) (ts : List MLine) (w : World) (hl : len ≤ 1048576) (hA : ArgLine w ao len ts) :
    Calls Tryd.prog 6 #[.slice ao len cap] w fun e w' => ∃ v, e = .returned v ∧ w'.ownsRow w.heap.size 33 6 v ts.length (rowLine ts) ∧ Below w.heap.size w w' := by
  obtain ⟨hlen, _, hcs⟩ := hA
  obtain ⟨i0, hi, hz0, hz1, hz2⟩ := info_parts infoLine
  obtain ⟨M, hM⟩ : ∃ M, M = madeCells (Value.agg #[.int .i64 0, .string ⟨#[]⟩, .string ⟨#[]⟩, .int .i64 0, .int .i64 0, .int .i64 0]).cells (len * 6) := ⟨_, rfl⟩
  have hmk : ∀ W : World, (Instr.makeSlice 25 (.int .i64 (len : Int)) (.int .i64 (len : Int))).run Tryd.prog W = .ok (.slice (some ⟨W.heap.size, 0, none⟩) len len) (W.alloc (.cells M 33)) := fun W => by
    have h := run_make (P := Tryd.prog) W 25 33 i0 _ Tryd.underlying25 hi hz0 .i64 .i64 (len : Int) (len : Int) (by omega) (by omega) (by rw [hz2]; omega) (by omega)
    rw [hz1] at h
    rw [hM]
    simpa using h
  have HO : Hid ((w.alloc (.cells M 33)).ownsRow w.heap.size 33 6 (.slice (some ⟨w.heap.size, 0, none⟩) len len) len (rowLine (zerosLine len))) := by
    have hz := zerosLine_cells len
    rw [← hM] at hz
    have := World.ownsRow_lit (base := w.heap.size) (e := 33) (size := 6) w M len (Nat.le_refl _) (by unfold maxLen; omega) (by rw [← Array.length_toList, hz, rowLine_len]; simp [zerosLine])
    rw [hz] at this
    exact this
  clear hM
  go_enter Tryd.func6, Tryd.ntmps6
  go_wp2
  go_loopw [4] (fun i wr => ∃ (k : Nat) (us : List MLine), k ≤ len ∧ i = .int .i64 k ∧ us.length = len ∧ Hid (us.take k = ts.take k) ∧ Hid (wr.ownsRow w.heap.size 33 6 (.slice (some ⟨w.heap.size, 0, none⟩) len len) len (rowLine us)) ∧ Below w.heap.size w wr) (fun i _ => len - (intOf i).toNat)
  case atStart => exact ⟨0, zerosLine len, by omega, rfl, by simp [zerosLine], rfl, HO, (Below.refl _ _).alloc (Nat.le_refl _) _⟩
  case round =>
    obtain ⟨k, us, hk, rfl, hus, HE, HW, hbel⟩ := hrel
    by_cases hlt : k < len
    · rcases hcs with h0 | ⟨b, off, rfl, hbw, hc⟩
      · omega
      · obtain ⟨c0, c1, c2, c3, c4, c5⟩ := hc k (by omega)
        have hne : ¬ b = w.heap.size := by omega
        have d0 := (hbel.cell (p := ⟨b, off + k * 6, none⟩) hbw).trans c0
        have d1 := (hbel.cell (p := ⟨b, off + k * 6 + 1, none⟩) hbw).trans c1
        have d2 := (hbel.cell (p := ⟨b, off + k * 6 + 2, none⟩) hbw).trans c2
        have d3 := (hbel.cell (p := ⟨b, off + k * 6 + 3, none⟩) hbw).trans c3
        have d4 := (hbel.cell (p := ⟨b, off + k * 6 + 4, none⟩) hbw).trans c4
        have d5 := (hbel.cell (p := ⟨b, off + k * 6 + 5, none⟩) hbw).trans c5
        obtain ⟨t, ht⟩ : ∃ t, ts[k]'(by omega) = t := ⟨_, rfl⟩
        rw [ht] at d0 d1 d2 d3 d4 d5
        have HX : Hid (ts[k]'(by omega) = t) := ht
        clear ht c0 c1 c2 c3 c4 c5 hc
        have hI := fun w => toLine_any t w
        go_wp2_with (go_at_call 11; refine (hI _).mono ?_; rintro e w1 ⟨rfl, hb1⟩; have ho1 := own_below HW.out hb1; have f0 := ho1.frozenAt (k * 6); have f1 := ho1.frozenAt (k * 6 + 1); have f2 := ho1.frozenAt (k * 6 + 2); have f3 := ho1.frozenAt (k * 6 + 3); have f4 := ho1.frozenAt (k * 6 + 4); have f5 := ho1.frozenAt (k * 6 + 5); obtain ⟨p0, q0⟩ := own_has ho1 (k := k * 6) (by omega); obtain ⟨p1, q1⟩ := own_has ho1 (k := k * 6 + 1) (by omega); obtain ⟨p2, q2⟩ := own_has ho1 (k := k * 6 + 2) (by omega); obtain ⟨p3, q3⟩ := own_has ho1 (k := k * 6 + 3) (by omega); obtain ⟨p4, q4⟩ := own_has ho1 (k := k * 6 + 4) (by omega); obtain ⟨p5, q5⟩ := own_has ho1 (k := k * 6 + 5) (by omega); clear ho1)
        go_roundw
        case rel => exact ⟨k + 1, us.set k t, by omega, by go_num, by simpa using hus, toLine_take HE.out HX.out (by omega), toLine_next (own_below HW.out hb1) hus hlt, (((((((hbel.trans (hb1.mono hbel.size)).setCell (Nat.le_refl _) _).setCell (Nat.le_refl _) _).setCell (Nat.le_refl _) _).setCell (Nat.le_refl _) _).setCell (Nat.le_refl _) _).setCell (Nat.le_refl _) _)⟩
        case measure => simp [intOf]; omega
    · have hk' : k = len := by omega
      subst hk'
      have HF : Hid (wr.ownsRow w.heap.size 33 6 (.slice (some ⟨w.heap.size, 0, none⟩) k k) ts.length (rowLine ts)) := by
        have e : us = ts := by
          have := HE.out
          rwa [List.take_of_length_le (by omega), List.take_of_length_le (by omega)] at this
        have := HW.out
        rw [e] at this
        rw [hlen]; exact this
      clear HE HW
      go_wp2
      go_ret
      exact ⟨_, rfl, HF.out, hbel⟩

theorem szLine_any (t : MLine) (n : Int) (w : World) (hn : 0 ≤ n) (hn2 : n ≤ 1048576) (hs : t.cls.size ≤ maxLen ∧ t.method.size ≤ maxLen) :
    Calls Tryd.prog 9 #[.agg #[.int .i64 t.loader, .string t.cls, .string t.method, .int .i64 t.at_, .int .i64 t.op, .int .i64 t.deep], .int .i64 n] w fun e w' => e = .returned (.int .i64 (if (t.cls.size : Int) + (t.method.size : Int) ≤ n then n - ((t.cls.size : Int) + (t.method.size : Int)) else -1)) ∧ Below w.heap.size w w' := by
  unfold maxLen at hs
  by_cases h0 : (t.cls.size : Int) ≤ n
  · by_cases h1 : (t.cls.size : Int) + (t.method.size : Int) ≤ n
    · rw [if_pos (by omega)]
      go_enter Tryd.func9, Tryd.ntmps9
      go_wp2
      go_ret
      exact ⟨ret_i64 (by omega), by go_grown⟩
    · rw [if_neg (by omega)]
      go_enter Tryd.func9, Tryd.ntmps9
      go_wp2
      go_ret
      exact ⟨rfl, by go_grown⟩
  · rw [if_neg (by omega)]
    go_enter Tryd.func9, Tryd.ntmps9
    go_wp2
    go_ret
    exact ⟨rfl, by go_grown⟩

def fewLine (ts : List MLine) : Prop := ts.length ≤ 1048576 ∧ ∀ t ∈ ts, t.cls.size ≤ 1048576 ∧ t.method.size ≤ 1048576
theorem szLineS_any (ao : Option Addr) (len cap : Nat) (ts : List MLine) (n0 : Int) (w : World) (hl : len ≤ maxLen) (hn0 : 0 ≤ n0) (hn1 : n0 ≤ 1048576) (hA : ArgLine w ao len ts) :
    Calls Tryd.prog 4 #[.slice ao len cap, .int .i64 n0] w fun e w' => ∃ n, e = .returned (.int .i64 n) ∧ (n < 0 ∨ (0 ≤ n ∧ n ≤ n0 ∧ fewLine ts)) ∧ Below w.heap.size w w' := by
  unfold maxLen at hl
  unfold fewLine
  by_cases h : (len : Int) ≤ n0
  · obtain ⟨hlen, HS0, hcs⟩ := hA
    have HS : Hid (∀ t ∈ ts, t.cls.size ≤ maxLen ∧ t.method.size ≤ maxLen) := HS0
    clear HS0
    go_enter Tryd.func4, Tryd.ntmps4
    go_wp2
    go_loopw [1, 5] (fun l i wr => ∃ (n : Int) (k : Nat), k ≤ len ∧ i = .int .i64 k ∧ l = .int .i64 n ∧ 0 ≤ n ∧ n ≤ n0 ∧ Hid (∀ t ∈ ts.take k, t.cls.size ≤ 1048576 ∧ t.method.size ≤ 1048576) ∧ Below w.heap.size w wr) (fun _ i _ => len - (intOf i).toNat)
    case atStart => exact ⟨n0 - len, 0, by omega, rfl, by first | rfl | go_num, by omega, by omega, fun t ht => by simp at ht, Below.refl _ _⟩
    case round =>
      obtain ⟨n, k, hk, rfl, rfl, hn, hn2, HE, hbel⟩ := hrel
      by_cases hlt : k < len
      · rcases hcs with h0 | ⟨b, off, rfl, hbw, hc⟩
        · omega
        · obtain ⟨c0, c1, c2, c3, c4, c5⟩ := hc k (by omega)
          have d0 := (hbel.cell (p := ⟨b, off + k * 6, none⟩) hbw).trans c0
          have d1 := (hbel.cell (p := ⟨b, off + k * 6 + 1, none⟩) hbw).trans c1
          have d2 := (hbel.cell (p := ⟨b, off + k * 6 + 2, none⟩) hbw).trans c2
          have d3 := (hbel.cell (p := ⟨b, off + k * 6 + 3, none⟩) hbw).trans c3
          have d4 := (hbel.cell (p := ⟨b, off + k * 6 + 4, none⟩) hbw).trans c4
          have d5 := (hbel.cell (p := ⟨b, off + k * 6 + 5, none⟩) hbw).trans c5
          have hsz := HS.out (ts[k]'(by omega)) (List.getElem_mem _)
          obtain ⟨t, ht⟩ : ∃ t, ts[k]'(by omega) = t := ⟨_, rfl⟩
          rw [ht] at d0 d1 d2 d3 d4 d5 hsz
          have HX : Hid (ts[k]'(by omega) = t) := ht
          clear ht c0 c1 c2 c3 c4 c5 hc
          have hI := fun w => szLine_any t n w hn (by omega) hsz
          by_cases hle : (t.cls.size : Int) + (t.method.size : Int) ≤ n
          · simp only [hle, if_true] at hI
            have HN : Hid (∀ x ∈ ts.take (k + 1), x.cls.size ≤ 1048576 ∧ x.method.size ≤ 1048576) := by
              intro x hx
              rw [List.take_succ_eq_append_getElem (by omega)] at hx
              rcases List.mem_append.mp hx with hx | hx
              · exact HE.out x hx
              · simp at hx; rw [hx, HX.out]; omega
            go_wp2_with (go_at_call 9; refine (hI _).mono ?_; rintro e w1 ⟨rfl, hb1⟩)
            go_roundw
            case rel => exact ⟨_, k + 1, by omega, by go_num, rfl, by omega, by omega, HN.out, hbel.trans (hb1.mono hbel.size)⟩
            case measure => simp [intOf]; omega
          · simp only [hle, if_false] at hI
            go_wp2_with (go_at_call 9; refine (hI _).mono ?_; rintro e w1 ⟨rfl, hb1⟩)
            go_ret
            exact ⟨_, rfl, .inl (by omega), hbel.trans (hb1.mono hbel.size)⟩
      · go_wp2
        go_ret
        refine ⟨_, rfl, .inr ⟨hn, hn2, by omega, ?_⟩, hbel⟩
        have := HE.out
        rwa [List.take_of_length_le (by omega)] at this
  · clear hA
    go_enter Tryd.func4, Tryd.ntmps4
    go_wp2
    go_ret
    exact ⟨_, rfl, .inl (by omega), Below.refl _ _⟩

theorem eqLine_same (t : MLine) (w : World) :
    Calls Tryd.prog 15 #[.agg #[.int .i64 t.loader, .string t.cls, .string t.method, .int .i64 t.at_, .int .i64 t.op, .int .i64 t.deep], .agg #[.int .i64 t.loader, .string t.cls, .string t.method, .int .i64 t.at_, .int .i64 t.op, .int .i64 t.deep]] w fun e w' => e = .returned (.bool true) ∧ Below w.heap.size w w' := by
  go_enter Tryd.func15, Tryd.ntmps15
  go_wp2
  go_ret
  exact ⟨rfl, ((Below.refl _ _).alloc (Nat.le_refl _) _).alloc (by simp) _⟩

theorem eqLineS_same (v1 v2 : Value) (ts : List MLine) (B1 B2 : Nat) (w : World) (hl : ts.length ≤ 1048576)
    (h1 : w.ownsRow B1 33 6 v1 ts.length (rowLine ts)) (h2 : w.ownsRow B2 33 6 v2 ts.length (rowLine ts)) :
    Calls Tryd.prog 8 #[v1, v2] w fun e w' => e = .returned (.bool true) ∧ Below w.heap.size w w' := by
  by_cases hz : ts.length = 0
  · obtain ⟨ao1, c1, rfl⟩ := own_len h1
    obtain ⟨ao2, c2, rfl⟩ := own_len h2
    rw [hz]
    clear h1 h2 hl hz
    go_enter Tryd.func8, Tryd.ntmps8
    go_wp2
    refine wp_loop_rounds 1 ?_
    rw [rounds_succ]
    go_wp2
    go_ret
    exact ⟨rfl, Below.refl _ _⟩
  · obtain ⟨g1, c1, rfl⟩ := Joins.ownsRow_form h1 (by omega)
    obtain ⟨g2, c2, rfl⟩ := Joins.ownsRow_form h2 (by omega)
    have H1 : Hid (w.ownsRow B1 33 6 (.slice (some ⟨g1, 0, none⟩) ts.length c1) ts.length (rowLine ts)) := h1
    have H2 : Hid (w.ownsRow B2 33 6 (.slice (some ⟨g2, 0, none⟩) ts.length c2) ts.length (rowLine ts)) := h2
    have hg1 := (h1.lt g1 rfl).2
    have hg2 := (h2.lt g2 rfl).2
    clear h1 h2
    go_enter Tryd.func8, Tryd.ntmps8
    go_wp2
    go_loopw [5] (fun i wr => ∃ (k : Nat), k ≤ ts.length ∧ i = .int .i64 k ∧ Below w.heap.size w wr) (fun i _ => ts.length - (intOf i).toNat)
    case atStart => exact ⟨0, by omega, rfl, Below.refl _ _⟩
    case round =>
      obtain ⟨k, hk, rfl, hb⟩ := hrel
      by_cases hlt : k < ts.length
      · obtain ⟨t, x0, x1, x2, x3, x4, x5, y0, y1, y2, y3, y4, y5⟩ : ∃ t : MLine, wr.cell? ⟨g1, k * 6, none⟩ = some (.int .i64 t.loader) ∧ wr.cell? ⟨g1, k * 6 + 1, none⟩ = some (.string t.cls) ∧ wr.cell? ⟨g1, k * 6 + 2, none⟩ = some (.string t.method) ∧ wr.cell? ⟨g1, k * 6 + 3, none⟩ = some (.int .i64 t.at_) ∧ wr.cell? ⟨g1, k * 6 + 4, none⟩ = some (.int .i64 t.op) ∧ wr.cell? ⟨g1, k * 6 + 5, none⟩ = some (.int .i64 t.deep) ∧ wr.cell? ⟨g2, k * 6, none⟩ = some (.int .i64 t.loader) ∧ wr.cell? ⟨g2, k * 6 + 1, none⟩ = some (.string t.cls) ∧ wr.cell? ⟨g2, k * 6 + 2, none⟩ = some (.string t.method) ∧ wr.cell? ⟨g2, k * 6 + 3, none⟩ = some (.int .i64 t.at_) ∧ wr.cell? ⟨g2, k * 6 + 4, none⟩ = some (.int .i64 t.op) ∧ wr.cell? ⟨g2, k * 6 + 5, none⟩ = some (.int .i64 t.deep) := by
          obtain ⟨a0, a1, a2, a3, a4, a5⟩ := ownLine_at (own_below H1.out hb) hlt
          obtain ⟨b0, b1, b2, b3, b4, b5⟩ := ownLine_at (own_below H2.out hb) hlt
          exact ⟨_, a0, a1, a2, a3, a4, a5, b0, b1, b2, b3, b4, b5⟩
        have hE := fun w => eqLine_same t w
        go_wp2
        go_region_with (go_at_call 15; refine (hE _).mono ?_; rintro e w1 ⟨rfl, hb1⟩)
        all_goals go_wp2
        all_goals
          have hb2 : Below w.heap.size w w1 := (below_drewN hb 1).trans (hb1.mono (by have := hb.size; simpa using this))
          clear hb1
          go_roundw
          case rel => exact ⟨k + 1, by omega, by go_num, hb2⟩
          case measure => simp [intOf]; omega
      · go_wp2
        go_ret
        exact ⟨rfl, hb⟩

end Go.Proofs.YtpjpbilcmnfgpaaDoor
