/- Contracts of the law's own helpers on lists of frames: szFrameS, toFrameS, eqFrame, eqFrameS. -/
import Derived.Test.YtnjfaikhiimdjaaRowFrame
namespace Go.Proofs.Ytnjfaikhiimdjaa
open Go.RowKit
set_option maxHeartbeats 800000
set_option linter.unusedVariables false

theorem szFrameS_any (ao : Option Addr) (len cap : Nat) (fs : List MFrame) (n0 : Int) (w : World) (hl : len ≤ maxLen) (hn0 : 0 ≤ n0) (hn1 : n0 ≤ 1048576) (hA : ArgFS w ao len fs) :
    Calls Try.prog 90 #[.slice ao len cap, .int .i64 n0] w fun e w' => ∃ n, e = .returned (.int .i64 n) ∧ (n < 0 ∨ (0 ≤ n ∧ n ≤ n0 ∧ len ≤ 1048576 ∧ ∀ f ∈ fs, f.few)) ∧ Below w.heap.size w w' := by
  unfold maxLen at hl
  by_cases h : (len : Int) ≤ n0
  · obtain ⟨hlen, hcs⟩ := hA
    go_enter Try.func90, Try.ntmps90
    go_wp2
    go_loopw [1, 5] (fun l i wr => ∃ (n : Int) (k : Nat), k ≤ len ∧ i = .int .i64 k ∧ l = .int .i64 n ∧ 0 ≤ n ∧ n ≤ n0 ∧ Hid (∀ f ∈ fs.take k, f.few) ∧ Below w.heap.size w wr) (fun _ i _ => len - (intOf i).toNat)
    case atStart => exact ⟨n0 - len, 0, by omega, rfl, by first | rfl | go_num, by omega, by omega, fun t ht => by simp at ht, Below.refl _ _⟩
    case round =>
      obtain ⟨n, k, hk, rfl, rfl, hn, hn2, HE, hbel⟩ := hrel
      by_cases hlt : k < len
      · rcases hcs with h0 | ⟨b, off, rfl, hbw, hc⟩
        · omega
        · obtain ⟨x, c0, c1, c2, hx⟩ := hc k (by omega)
          have d0 := (hbel.cell (p := ⟨b, off + k * 3, none⟩) hbw).trans c0
          have d1 := (hbel.cell (p := ⟨b, off + k * 3 + 1, none⟩) hbw).trans c1
          have d2 := (hbel.cell (p := ⟨b, off + k * 3 + 2, none⟩) hbw).trans c2
          have hI := szFrame_any x fs[k] n wr hn (by omega) (hx.keep hbel)
          obtain ⟨hat, ⟨a, l1, q1, e1, hk1⟩, ⟨a', l2, q2, e2, hk2⟩, hm1, hm2⟩ := hx
          rw [e1] at d1 hI
          rw [e2] at d2 hI
          have HX : Hid (∀ m, (0 ≤ m ∧ m ≤ n ∧ fs[k].few) → ∀ f ∈ fs.take (k + 1), f.few) := by
            intro m hm f hf
            rw [List.take_succ_eq_append_getElem (by omega)] at hf
            rcases List.mem_append.mp hf with hf | hf
            · exact HE.out f hf
            · simp at hf; rw [hf]; exact hm.2.2
          clear c0 c1 c2 hc e1 e2 hat hk1 hk2 hm1 hm2
          go_wp2_with fail
          refine hI.mono ?_
          rintro e w1 ⟨m, rfl, hm, hb1⟩
          · by_cases hneg : m < 0
            · go_wp2
              go_ret
              exact ⟨_, rfl, .inl (by omega), hbel.trans (hb1.mono hbel.size)⟩
            · have hm' : 0 ≤ m ∧ m ≤ n ∧ fs[k].few := by
                rcases hm with hm | hm
                · exact absurd hm hneg
                · exact hm
              have HN := HX.out m hm'
              have HN' : Hid (∀ f ∈ fs.take (k + 1), f.few) := HN
              have m1 := hm'.1
              have m2 := hm'.2.1
              clear HN hm hm'
              go_wp2
              go_roundw
              case rel => exact ⟨m, k + 1, by omega, by go_num, rfl, by omega, by omega, HN'.out, hbel.trans (hb1.mono hbel.size)⟩
              case measure => simp [intOf]; omega
      · go_wp2
        go_ret
        refine ⟨_, rfl, .inr ⟨hn, hn2, by omega, ?_⟩, hbel⟩
        have := HE.out
        rwa [List.take_of_length_le (by omega)] at this
  · clear hA
    go_enter Try.func90, Try.ntmps90
    go_wp2
    go_ret
    exact ⟨_, rfl, .inl (by omega), Below.refl _ _⟩

theorem FrameW.set {w : World} {B : Nat} {x : SFrame} {f : MFrame} (h : FrameW w B x f) {a : Addr} (ha : a.block < B) (u : Value) : FrameW (w.setCell a u) B x f :=
  ⟨h.at_, ownsRow_setCell_below h.l ha u, ownsRow_setCell_below h.s ha u⟩

/-- a list of frames in blocks of its own, from B on -/
def FramesW (w : World) (B : Nat) (v : Value) (fs : List MFrame) : Prop :=
  ∃ xs : List SFrame, xs.length = fs.length ∧ w.ownsRow B 123 3 v fs.length (rowFrame xs) ∧ ∀ k (h : k < fs.length) (h' : k < xs.length), FrameW w B xs[k] fs[k]
theorem FramesW.keep {w w' : World} {B : Nat} {v : Value} {fs : List MFrame} (h : FramesW w B v fs) (hb : Below w.heap.size w w') : FramesW w' B v fs := by
  obtain ⟨xs, h1, h2, h3⟩ := h
  exact ⟨xs, h1, own_below h2 hb, fun k hk hk' => (h3 k hk hk').keep hb⟩
theorem FramesW.mono {w : World} {B B' : Nat} {v : Value} {fs : List MFrame} (h : FramesW w B v fs) (hb : B' ≤ B) : FramesW w B' v fs := by
  obtain ⟨xs, h1, h2, h3⟩ := h
  exact ⟨xs, h1, Joins.ownsRow_le h2 hb, fun k hk hk' => (h3 k hk hk').mono hb⟩

theorem toFrameS_any (ao : Option Addr) (len cap : Nat) (fs : List MFrame) (w : World) (hl : len ≤ 1048576) (hA : ArgFS w ao len fs) (hf : ∀ f ∈ fs, f.few) :
    Calls Try.prog 94 #[.slice ao len cap] w fun e w' => ∃ v, e = .returned v ∧ FramesW w' w.heap.size v fs ∧ Below w.heap.size w w' := by
  obtain ⟨hlen, hcs⟩ := hA
  obtain ⟨i0, hi, hz0, hz1, hz2⟩ := info_parts infoFrame
  obtain ⟨M, hM⟩ : ∃ M, M = madeCells (Value.agg #[.int .i64 0, .slice none 0 0, .slice none 0 0]).cells (len * 3) := ⟨_, rfl⟩
  have hmk : ∀ W : World, (Instr.makeSlice 81 (.int .i64 (len : Int)) (.int .i64 (len : Int))).run Try.prog W = .ok (.slice (some ⟨W.heap.size, 0, none⟩) len len) (W.alloc (.cells M 123)) := fun W => by
    have h := run_make (P := Try.prog) W 81 123 i0 _ Try.underlying81 hi hz0 .i64 .i64 (len : Int) (len : Int) (by omega) (by omega) (by rw [hz2]; omega) (by omega)
    rw [hz1] at h
    rw [hM]
    simpa using h
  have HO : Hid ((w.alloc (.cells M 123)).ownsRow w.heap.size 123 3 (.slice (some ⟨w.heap.size, 0, none⟩) len len) len (rowFrame (zerosFrame len))) := by
    have hz := zerosFrame_cells len
    rw [← hM] at hz
    have := World.ownsRow_lit (base := w.heap.size) (e := 123) (size := 3) w M len (Nat.le_refl _) (by unfold maxLen; omega) (by rw [← Array.length_toList, hz, rowFrame_len]; simp [zerosFrame])
    rw [hz] at this
    exact this
  have HF : Hid (∀ f ∈ fs, f.few) := hf
  clear hM hf
  go_enter Try.func94, Try.ntmps94
  go_wp2
  go_loopw [4] (fun i wr => ∃ (k : Nat) (us : List SFrame), k ≤ len ∧ i = .int .i64 k ∧ us.length = len ∧ w.heap.size + 1 ≤ wr.heap.size ∧ Hid (∀ j (h : j < fs.length) (h' : j < us.length), j < k → FrameW wr (w.heap.size + 1) us[j] fs[j]) ∧ Hid (wr.ownsRow w.heap.size 123 3 (.slice (some ⟨w.heap.size, 0, none⟩) len len) len (rowFrame us)) ∧ Below w.heap.size w wr) (fun i _ => len - (intOf i).toNat)
  case atStart => exact ⟨0, zerosFrame len, by omega, rfl, by simp [zerosFrame], by simp, fun j _ _ h => by omega, HO, (Below.refl _ _).alloc (Nat.le_refl _) _⟩
  case round =>
    obtain ⟨k, us, hk, rfl, hus, hsz, HE, HW, hbel⟩ := hrel
    by_cases hlt : k < len
    · rcases hcs with h0 | ⟨b, off, rfl, hbw, hc⟩
      · omega
      · obtain ⟨x, c0, c1, c2, hx⟩ := hc k (by omega)
        have hne : ¬ b = w.heap.size := by omega
        have d0 := (hbel.cell (p := ⟨b, off + k * 3, none⟩) hbw).trans c0
        have d1 := (hbel.cell (p := ⟨b, off + k * 3 + 1, none⟩) hbw).trans c1
        have d2 := (hbel.cell (p := ⟨b, off + k * 3 + 2, none⟩) hbw).trans c2
        have hI := toFrame_any x fs[k] wr (hx.keep hbel) (HF.out _ (List.getElem_mem _))
        obtain ⟨hat, ⟨a, l1, q1, e1, hk1⟩, ⟨a', l2, q2, e2, hk2⟩, hm1, hm2⟩ := hx
        rw [e1] at d1 hI
        rw [e2] at d2 hI
        clear c0 c1 c2 hc e1 e2 hat hk1 hk2 hm1 hm2
        go_wp2_with fail
        refine hI.mono ?_
        rintro e w1 ⟨y, rfl, hy, hb1⟩
        have ho1 := own_below HW.out hb1
        have f0 := ho1.frozenAt (k * 3); have f1 := ho1.frozenAt (k * 3 + 1); have f2 := ho1.frozenAt (k * 3 + 2)
        obtain ⟨p0, q0'⟩ := own_has ho1 (k := k * 3) (by omega)
        obtain ⟨p1, q1'⟩ := own_has ho1 (k := k * 3 + 1) (by omega)
        obtain ⟨p2, q2'⟩ := own_has ho1 (k := k * 3 + 2) (by omega)
        have hs1 := hb1.size
        have HN := nextFrame (t := y) ho1 hus hlt
        have HNH : Hid _ := HN
        clear HN
        have HE' : Hid (∀ j (h : j < fs.length) (h' : j < (us.set k y).length), j < k + 1 → FrameW (((w1.setCell ⟨w.heap.size, k * 3, none⟩ (.int .i64 y.at_)).setCell ⟨w.heap.size, k * 3 + 1, none⟩ y.l).setCell ⟨w.heap.size, k * 3 + 2, none⟩ y.s) (w.heap.size + 1) (us.set k y)[j] fs[j]) := by
          intro j h h' hj
          have hfw : FrameW w1 (w.heap.size + 1) (us.set k y)[j] fs[j] := by
            by_cases hjk : j = k
            · subst hjk
              rw [List.getElem_set_self]
              exact hy.mono hsz
            · rw [List.getElem_set_ne (by omega)]
              exact (HE.out j h (by simpa using h') (by omega)).keep hb1
          exact ((hfw.set (by simp) _).set (by simp) _).set (by simp) _
        have hbw1 := hbel.trans (hb1.mono hbel.size)
        obtain ⟨ya, yl, ys⟩ := y
        obtain ⟨a1, k1, e1⟩ := own_len hy.l
        obtain ⟨a2, k2, e2⟩ := own_len hy.s
        simp only at e1 e2
        subst e1 e2
        clear hy ho1 hb1 HE HW hI
        go_wp2
        go_roundw
        case rel => exact ⟨k + 1, _, by omega, by go_num, by simpa using hus, by simp; omega, HE', HNH.out, ((hbw1.setCell (Nat.le_refl _) _).setCell (Nat.le_refl _) _).setCell (Nat.le_refl _) _⟩
        case measure => simp [intOf]; omega
    · have hk' : k = len := by omega
      subst hk'
      have HR : Hid (FramesW wr w.heap.size (.slice (some ⟨w.heap.size, 0, none⟩) k k) fs) := by
        refine ⟨us, by omega, by rw [hlen]; exact HW.out, fun j h h' => (HE.out j h h' (by omega)).mono (by omega)⟩
      clear HE HW
      go_wp2
      go_ret
      exact ⟨_, rfl, HR.out, hbel⟩

end Go.Proofs.Ytnjfaikhiimdjaa
