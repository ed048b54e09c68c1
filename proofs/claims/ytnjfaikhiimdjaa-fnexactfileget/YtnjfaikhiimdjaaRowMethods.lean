/- Contracts of the law's own helpers on lists of methods: szMethodS, toMethodS, eqMethod, eqMethodS. -/
import Derived.Test.YtnjfaikhiimdjaaRowMethod
namespace Go.Proofs.Ytnjfaikhiimdjaa
open Go.RowKit
set_option maxHeartbeats 2000000
set_option linter.unusedVariables false

def ArgMS (w : World) (ao : Option Addr) (len : Nat) (ms : List MMethod) : Prop :=
  ms.length = len ∧ (len = 0 ∨ ∃ b off, ao = some ⟨b, off, none⟩ ∧ b < w.heap.size ∧ ∀ k (h : k < ms.length), ∃ a l c a' l' c', w.cell? ⟨b, off + k * 8, none⟩ = some (.int .i64 ms[k].flags) ∧ w.cell? ⟨b, off + k * 8 + 1, none⟩ = some (.int .i64 ms[k].name) ∧ w.cell? ⟨b, off + k * 8 + 2, none⟩ = some (.int .i64 ms[k].desc) ∧ w.cell? ⟨b, off + k * 8 + 3, none⟩ = some (.int .i64 ms[k].deep) ∧ w.cell? ⟨b, off + k * 8 + 4, none⟩ = some (.int .i64 ms[k].locals) ∧ w.cell? ⟨b, off + k * 8 + 5, none⟩ = some (.string ms[k].code) ∧ w.cell? ⟨b, off + k * 8 + 6, none⟩ = some (.slice a l c) ∧ w.cell? ⟨b, off + k * 8 + 7, none⟩ = some (.slice a' l' c') ∧ ArgM w a l a' l' ms[k])
theorem ArgMS.keep {w w' : World} {ao : Option Addr} {len : Nat} {ms : List MMethod} (h : ArgMS w ao len ms) (hb : Below w.heap.size w w') : ArgMS w' ao len ms := by
  obtain ⟨h1, h2⟩ := h
  refine ⟨h1, h2.imp id ?_⟩
  rintro ⟨b, off, rfl, hlt, hc⟩
  refine ⟨b, off, rfl, Nat.lt_of_lt_of_le hlt hb.size, fun k hk => ?_⟩
  obtain ⟨a, l, c, a', l', c', c0, c1, c2, c3, c4, c5, c6, c7, hx⟩ := hc k hk
  exact ⟨a, l, c, a', l', c', (hb.cell (p := ⟨b, off + k * 8, none⟩) hlt).trans c0, (hb.cell (p := ⟨b, off + k * 8 + 1, none⟩) hlt).trans c1, (hb.cell (p := ⟨b, off + k * 8 + 2, none⟩) hlt).trans c2, (hb.cell (p := ⟨b, off + k * 8 + 3, none⟩) hlt).trans c3, (hb.cell (p := ⟨b, off + k * 8 + 4, none⟩) hlt).trans c4, (hb.cell (p := ⟨b, off + k * 8 + 5, none⟩) hlt).trans c5, (hb.cell (p := ⟨b, off + k * 8 + 6, none⟩) hlt).trans c6, (hb.cell (p := ⟨b, off + k * 8 + 7, none⟩) hlt).trans c7, hx.keep hb⟩

theorem szMethodS_any (ao : Option Addr) (len cap : Nat) (ms : List MMethod) (n0 : Int) (w : World) (hl : len ≤ maxLen) (hn0 : 0 ≤ n0) (hn1 : n0 ≤ 1048576) (hA : ArgMS w ao len ms) :
    Calls Try.prog 31 #[.slice ao len cap, .int .i64 n0] w fun e w' => ∃ n, e = .returned (.int .i64 n) ∧ (n < 0 ∨ (0 ≤ n ∧ n ≤ n0 ∧ len ≤ 1048576 ∧ ∀ f ∈ ms, f.few)) ∧ Below w.heap.size w w' := by
  unfold maxLen at hl
  by_cases h : (len : Int) ≤ n0
  · obtain ⟨hlen, hcs⟩ := hA
    go_enter Try.func31, Try.ntmps31
    go_wp2
    go_loopw [1, 5] (fun l i wr => ∃ (n : Int) (k : Nat), k ≤ len ∧ i = .int .i64 k ∧ l = .int .i64 n ∧ 0 ≤ n ∧ n ≤ n0 ∧ Hid (∀ f ∈ ms.take k, f.few) ∧ Below w.heap.size w wr) (fun _ i _ => len - (intOf i).toNat)
    case atStart => exact ⟨n0 - len, 0, by omega, rfl, by first | rfl | go_num, by omega, by omega, fun t ht => by simp at ht, Below.refl _ _⟩
    case round =>
      obtain ⟨n, k, hk, rfl, rfl, hn, hn2, HE, hbel⟩ := hrel
      by_cases hlt : k < len
      · rcases hcs with h0 | ⟨b, off, rfl, hbw, hc⟩
        · omega
        · obtain ⟨a, l, c, a', l', c', c0, c1, c2, c3, c4, c5, c6, c7, hx⟩ := hc k (by omega)
          have d0 := (hbel.cell (p := ⟨b, off + k * 8, none⟩) hbw).trans c0
          have d1 := (hbel.cell (p := ⟨b, off + k * 8 + 1, none⟩) hbw).trans c1
          have d2 := (hbel.cell (p := ⟨b, off + k * 8 + 2, none⟩) hbw).trans c2
          have d3 := (hbel.cell (p := ⟨b, off + k * 8 + 3, none⟩) hbw).trans c3
          have d4 := (hbel.cell (p := ⟨b, off + k * 8 + 4, none⟩) hbw).trans c4
          have d5 := (hbel.cell (p := ⟨b, off + k * 8 + 5, none⟩) hbw).trans c5
          have d6 := (hbel.cell (p := ⟨b, off + k * 8 + 6, none⟩) hbw).trans c6
          have d7 := (hbel.cell (p := ⟨b, off + k * 8 + 7, none⟩) hbw).trans c7
          have hI := szMethod_any ms[k] a l c a' l' c' n wr hn (by omega) (hx.keep hbel)
          have HX : Hid (∀ m, (0 ≤ m ∧ m ≤ n ∧ ms[k].few) → ∀ f ∈ ms.take (k + 1), f.few) := by
            intro m hm f hf
            rw [List.take_succ_eq_append_getElem (by omega)] at hf
            rcases List.mem_append.mp hf with hf | hf
            · exact HE.out f hf
            · simp at hf; rw [hf]; exact hm.2.2
          clear c0 c1 c2 c3 c4 c5 c6 c7 hc hx
          generalize ms[k]'(by omega) = mm at d0 d1 d2 d3 d4 d5 hI HX
          go_wp2_with fail
          refine hI.mono ?_
          rintro e w1 ⟨m, rfl, hm, hb1⟩
          · by_cases hneg : m < 0
            · go_wp2
              go_ret
              exact ⟨_, rfl, .inl (by omega), hbel.trans (hb1.mono hbel.size)⟩
            · have hm' : 0 ≤ m ∧ m ≤ n ∧ mm.few := by
                rcases hm with hm | hm
                · exact absurd hm hneg
                · exact hm
              have HN := HX.out m hm'
              have HN' : Hid (∀ f ∈ ms.take (k + 1), f.few) := HN
              have m1 := hm'.1
              have m2 := hm'.2.1
              clear HN hm hm'
              go_wp2
              go_roundw
              case rel => exact ⟨m, k + 1, by omega, by go_num, rfl, by omega, by omega, HN'.out, hbel.trans (hb1.mono hbel.size)⟩
              case measure => simp [intOf]; omega
      · go_wp2
        go_ret
        refine ⟨_, rfl, .inr ⟨hn, hn2, by omega, ?_⟩, hbel⟩
        have := HE.out
        rwa [List.take_of_length_le (by omega)] at this
  · clear hA
    go_enter Try.func31, Try.ntmps31
    go_wp2
    go_ret
    exact ⟨_, rfl, .inl (by omega), Below.refl _ _⟩

/-- a list of methods in blocks of its own, from B on -/
def MethodsW (w : World) (B : Nat) (v : Value) (ms : List MMethod) : Prop :=
  ∃ xs : List SMethod, xs.length = ms.length ∧ w.ownsRow B 83 8 v ms.length (rowMethod xs) ∧ ∀ k (h : k < ms.length) (h' : k < xs.length), ∃ vt vf, xs[k] = shM ms[k] vt vf ∧ MethodW w B vt vf ms[k]
theorem MethodsW.keep {w w' : World} {B : Nat} {v : Value} {ms : List MMethod} (h : MethodsW w B v ms) (hb : Below w.heap.size w w') : MethodsW w' B v ms := by
  obtain ⟨xs, h1, h2, h3⟩ := h
  refine ⟨xs, h1, own_below h2 hb, fun k hk hk' => ?_⟩
  obtain ⟨vt, vf, h4, h5⟩ := h3 k hk hk'
  exact ⟨vt, vf, h4, h5.keep hb⟩
theorem MethodsW.mono {w : World} {B B' : Nat} {v : Value} {ms : List MMethod} (h : MethodsW w B v ms) (hb : B' ≤ B) : MethodsW w B' v ms := by
  obtain ⟨xs, h1, h2, h3⟩ := h
  refine ⟨xs, h1, Joins.ownsRow_le h2 hb, fun k hk hk' => ?_⟩
  obtain ⟨vt, vf, h4, h5⟩ := h3 k hk hk'
  exact ⟨vt, vf, h4, h5.mono hb⟩
theorem MethodsW.set {w : World} {B : Nat} {v : Value} {ms : List MMethod} (h : MethodsW w B v ms) {a : Addr} (ha : a.block < B) (u : Value) : MethodsW (w.setCell a u) B v ms := by
  obtain ⟨xs, h1, h2, h3⟩ := h
  refine ⟨xs, h1, ownsRow_setCell_below h2 ha u, fun k hk hk' => ?_⟩
  obtain ⟨vt, vf, h4, h5⟩ := h3 k hk hk'
  exact ⟨vt, vf, h4, h5.set ha u⟩
theorem MethodsW.len {w : World} {B : Nat} {v : Value} {ms : List MMethod} (h : MethodsW w B v ms) : ∃ ao cap, v = .slice ao ms.length cap := by
  obtain ⟨xs, h1, h2, h3⟩ := h
  exact own_len h2

theorem toMethodS_any (ao : Option Addr) (len cap : Nat) (ms : List MMethod) (w : World) (hl : len ≤ 1048576) (hA : ArgMS w ao len ms) (hf : ∀ f ∈ ms, f.few) :
    Calls Try.prog 38 #[.slice ao len cap] w fun e w' => ∃ v, e = .returned v ∧ MethodsW w' w.heap.size v ms ∧ Below w.heap.size w w' := by
  obtain ⟨hlen, hcs⟩ := hA
  obtain ⟨i0, hi, hz0, hz1, hz2⟩ := info_parts infoMethod
  obtain ⟨M, hM⟩ : ∃ M, M = madeCells (Value.agg #[.int .i64 0, .int .i64 0, .int .i64 0, .int .i64 0, .int .i64 0, .string ⟨#[]⟩, .slice none 0 0, .slice none 0 0]).cells (len * 8) := ⟨_, rfl⟩
  have hmk : ∀ W : World, (Instr.makeSlice 25 (.int .i64 (len : Int)) (.int .i64 (len : Int))).run Try.prog W = .ok (.slice (some ⟨W.heap.size, 0, none⟩) len len) (W.alloc (.cells M 83)) := fun W => by
    have h := run_make (P := Try.prog) W 25 83 i0 _ Try.underlying25 hi hz0 .i64 .i64 (len : Int) (len : Int) (by omega) (by omega) (by rw [hz2]; omega) (by omega)
    rw [hz1] at h
    rw [hM]
    simpa using h
  have HO : Hid ((w.alloc (.cells M 83)).ownsRow w.heap.size 83 8 (.slice (some ⟨w.heap.size, 0, none⟩) len len) len (rowMethod (zerosMethod len))) := by
    have hz := zerosMethod_cells len
    rw [← hM] at hz
    have := World.ownsRow_lit (base := w.heap.size) (e := 83) (size := 8) w M len (Nat.le_refl _) (by unfold maxLen; omega) (by rw [← Array.length_toList, hz, rowMethod_len]; simp [zerosMethod])
    rw [hz] at this
    exact this
  have HF : Hid (∀ f ∈ ms, f.few) := hf
  clear hM hf
  go_enter Try.func38, Try.ntmps38
  go_wp2
  go_loopw [4] (fun i wr => ∃ (k : Nat) (us : List SMethod), k ≤ len ∧ i = .int .i64 k ∧ us.length = len ∧ w.heap.size + 1 ≤ wr.heap.size ∧ Hid (∀ j (h : j < ms.length) (h' : j < us.length), j < k → ∃ vt vf, us[j] = shM ms[j] vt vf ∧ MethodW wr (w.heap.size + 1) vt vf ms[j]) ∧ Hid (wr.ownsRow w.heap.size 83 8 (.slice (some ⟨w.heap.size, 0, none⟩) len len) len (rowMethod us)) ∧ Below w.heap.size w wr) (fun i _ => len - (intOf i).toNat)
  case atStart => exact ⟨0, zerosMethod len, by omega, rfl, by simp [zerosMethod], by simp, fun j _ _ h => by omega, HO, (Below.refl _ _).alloc (Nat.le_refl _) _⟩
  case round =>
    obtain ⟨k, us, hk, rfl, hus, hsz, HE, HW, hbel⟩ := hrel
    by_cases hlt : k < len
    · rcases hcs with h0 | ⟨b, off, rfl, hbw, hc⟩
      · omega
      · obtain ⟨a, l, c, a', l', c', c0, c1, c2, c3, c4, c5, c6, c7, hx⟩ := hc k (by omega)
        have hne : ¬ b = w.heap.size := by omega
        have d0 := (hbel.cell (p := ⟨b, off + k * 8, none⟩) hbw).trans c0
        have d1 := (hbel.cell (p := ⟨b, off + k * 8 + 1, none⟩) hbw).trans c1
        have d2 := (hbel.cell (p := ⟨b, off + k * 8 + 2, none⟩) hbw).trans c2
        have d3 := (hbel.cell (p := ⟨b, off + k * 8 + 3, none⟩) hbw).trans c3
        have d4 := (hbel.cell (p := ⟨b, off + k * 8 + 4, none⟩) hbw).trans c4
        have d5 := (hbel.cell (p := ⟨b, off + k * 8 + 5, none⟩) hbw).trans c5
        have d6 := (hbel.cell (p := ⟨b, off + k * 8 + 6, none⟩) hbw).trans c6
        have d7 := (hbel.cell (p := ⟨b, off + k * 8 + 7, none⟩) hbw).trans c7
        have hI := toMethod_any ms[k] a l c a' l' c' wr (hx.keep hbel) (HF.out _ (List.getElem_mem _))
        obtain ⟨mm, hmm⟩ : ∃ mm, ms[k]'(by omega) = mm := ⟨_, rfl⟩
        have HM : Hid (ms[k]'(by omega) = mm) := hmm
        rw [hmm] at d0 d1 d2 d3 d4 d5 hI
        clear c0 c1 c2 c3 c4 c5 c6 c7 hc hx hmm
        go_wp2_with fail
        refine hI.mono ?_
        rintro e w1 ⟨y1, y2, rfl, hy, hb1⟩
        have ho1 := own_below HW.out hb1
        have f0 := ho1.frozenAt (k * 8)
        obtain ⟨p0, q0⟩ := own_has ho1 (k := k * 8) (by omega)
        have f1 := ho1.frozenAt (k * 8 + 1)
        obtain ⟨p1, q1⟩ := own_has ho1 (k := k * 8 + 1) (by omega)
        have f2 := ho1.frozenAt (k * 8 + 2)
        obtain ⟨p2, q2⟩ := own_has ho1 (k := k * 8 + 2) (by omega)
        have f3 := ho1.frozenAt (k * 8 + 3)
        obtain ⟨p3, q3⟩ := own_has ho1 (k := k * 8 + 3) (by omega)
        have f4 := ho1.frozenAt (k * 8 + 4)
        obtain ⟨p4, q4⟩ := own_has ho1 (k := k * 8 + 4) (by omega)
        have f5 := ho1.frozenAt (k * 8 + 5)
        obtain ⟨p5, q5⟩ := own_has ho1 (k := k * 8 + 5) (by omega)
        have f6 := ho1.frozenAt (k * 8 + 6)
        obtain ⟨p6, q6⟩ := own_has ho1 (k := k * 8 + 6) (by omega)
        have f7 := ho1.frozenAt (k * 8 + 7)
        obtain ⟨p7, q7⟩ := own_has ho1 (k := k * 8 + 7) (by omega)
        have hs1 := hb1.size
        have HNH : Hid _ := nextMethod (t := shM mm y1 y2) ho1 hus hlt
        have HE' : Hid (∀ j (h : j < ms.length) (h' : j < (us.set k (shM mm y1 y2)).length), j < k + 1 → ∃ vt vf, (us.set k (shM mm y1 y2))[j] = shM ms[j] vt vf ∧ MethodW ((((((((w1.setCell ⟨w.heap.size, k * 8, none⟩ (.int .i64 mm.flags)).setCell ⟨w.heap.size, k * 8 + 1, none⟩ (.int .i64 mm.name)).setCell ⟨w.heap.size, k * 8 + 2, none⟩ (.int .i64 mm.desc)).setCell ⟨w.heap.size, k * 8 + 3, none⟩ (.int .i64 mm.deep)).setCell ⟨w.heap.size, k * 8 + 4, none⟩ (.int .i64 mm.locals)).setCell ⟨w.heap.size, k * 8 + 5, none⟩ (.string mm.code)).setCell ⟨w.heap.size, k * 8 + 6, none⟩ (y1)).setCell ⟨w.heap.size, k * 8 + 7, none⟩ (y2)) (w.heap.size + 1) vt vf ms[j]) := by
          intro j h h' hj
          have hfw : ∃ vt vf, (us.set k (shM mm y1 y2))[j] = shM ms[j] vt vf ∧ MethodW w1 (w.heap.size + 1) vt vf ms[j] := by
            by_cases hjk : j = k
            · subst hjk
              have hm := HM.out
              rw [List.getElem_set_self, hm]
              exact ⟨y1, y2, rfl, hy.mono hsz⟩
            · rw [List.getElem_set_ne (by omega)]
              obtain ⟨vt, vf, e1, e2⟩ := HE.out j h (by simpa using h') (by omega)
              exact ⟨vt, vf, e1, e2.keep hb1⟩
          obtain ⟨vt, vf, e1, e2⟩ := hfw
          exact ⟨vt, vf, e1, (((((((e2.set (by simp) _).set (by simp) _).set (by simp) _).set (by simp) _).set (by simp) _).set (by simp) _).set (by simp) _).set (by simp) _⟩
        have hbw1 := hbel.trans (hb1.mono hbel.size)
        obtain ⟨a1, k1, e1⟩ := own_len hy.t
        obtain ⟨a2, k2, e2⟩ := hy.f.len
        subst e1 e2
        generalize mm.traps.length = tn at *
        generalize mm.frames.length = fn at *
        clear hy ho1 hb1 HE HW hI HM
        go_wp2
        go_roundw
        case rel => exact ⟨k + 1, _, by omega, by go_num, by simpa using hus, by simp; omega, HE', HNH.out, (((((((hbw1.setCell (Nat.le_refl _) _).setCell (Nat.le_refl _) _).setCell (Nat.le_refl _) _).setCell (Nat.le_refl _) _).setCell (Nat.le_refl _) _).setCell (Nat.le_refl _) _).setCell (Nat.le_refl _) _).setCell (Nat.le_refl _) _⟩
        case measure => simp [intOf]; omega
    · have hk' : k = len := by omega
      subst hk'
      have HR : Hid (MethodsW wr w.heap.size (.slice (some ⟨w.heap.size, 0, none⟩) k k) ms) := by
        refine ⟨us, by omega, by rw [hlen]; exact HW.out, fun j h h' => ?_⟩
        obtain ⟨vt, vf, e1, e2⟩ := HE.out j h h' (by omega)
        exact ⟨vt, vf, e1, e2.mono (by omega)⟩
      clear HE HW
      go_wp2
      go_ret
      exact ⟨_, rfl, HR.out, hbel⟩

end Go.Proofs.Ytnjfaikhiimdjaa
