/- Contracts of the law's own helpers on lists of loaders: toLoader, szLoaderS, toLoaderS, eqLoader, eqLoaderS. -/
import Derived.Test.YtjhmjjechagbjaaRowLoader
import Derived.Test.YtjhmjjechagbjaaLkBase
namespace Go.Proofs.Ytjhmjjechagbjaa
open Go.RowKit
set_option maxHeartbeats 2000000
set_option maxRecDepth 20000
set_option linter.unusedVariables false

theorem Lk.d3 {W : World} {C : Nat} {a b c : Value} {T : TypeId} (h : Lk W C #[a, b, c] T) : W.cell? ⟨C, 0, none⟩ = some a ∧ W.cell? ⟨C, 1, none⟩ = some b ∧ W.cell? ⟨C, 2, none⟩ = some c ∧ W.frozen? ⟨C, 0, none⟩ = false ∧ W.frozen? ⟨C, 1, none⟩ = false ∧ W.frozen? ⟨C, 2, none⟩ = false :=
  ⟨h.c 0 _ rfl, h.c 1 _ rfl, h.c 2 _ rfl, h.z 0, h.z 1, h.z 2⟩
abbrev zL : Array Value := #[.slice none 0 0, .slice none 0 0, .int .i64 0]
theorem toLoader_any (x : SLoader) (l : MLoader) (w : World) (hA : ArgL w x l) (hf : l.few) :
    Calls Try.prog 22 #[.agg #[x.files, x.ways, .int .i64 x.parent]] w fun e w' => ∃ y : SLoader, e = .returned (.agg #[y.files, y.ways, .int .i64 y.parent]) ∧ LoaderW w' w.heap.size y l ∧ Below w.heap.size w w' := by
  obtain ⟨h1, ⟨a, b, c, h2, h3⟩, ⟨a', b', c', h4, h5⟩, hm, hm2⟩ := hA
  obtain ⟨xf, xw, xp⟩ := x
  simp only at h1 h2 h4
  subst h1 h2 h4
  obtain ⟨f1, f2⟩ := hf
  obtain rfl := h3.1
  obtain rfl := h5.1
  have H1 := hid (fun W (hW : Below w.heap.size w W) => toFileS_any a _ c l.files W f1.1 (h3.keep hW))
  have H2 := hid (fun W (hW : Below w.heap.size w W) => toWayS_any a' _ c' l.ways W f2.1 (h5.keep hW))
  obtain ⟨W0, hW0⟩ : ∃ W, W = (((w.alloc (.cells #[.slice a l.files.length c, .slice a' l.ways.length c', .int .i64 l.parent] 40)).alloc (.cells zL 47)).alloc (.cells zL 47)) := ⟨_, rfl⟩
  have LB := (show Lk W0 w.heap.size #[.slice a l.files.length c, .slice a' l.ways.length c', .int .i64 l.parent] 40 from by rw [hW0]; exact ((Lk.new w _ _).alloc _).alloc _)
  have LR := (show Lk W0 (w.heap.size + 1) zL 47 from by rw [hW0]; have := (Lk.new (w.alloc (.cells #[.slice a l.files.length c, .slice a' l.ways.length c', .int .i64 l.parent] 40)) zL 47).alloc (.cells zL 47); simpa using this)
  have LM := (show Lk W0 (w.heap.size + 2) zL 47 from by rw [hW0]; have := Lk.new ((w.alloc (.cells #[.slice a l.files.length c, .slice a' l.ways.length c', .int .i64 l.parent] 40)).alloc (.cells zL 47)) zL 47; simpa using this)
  have hB0 : Below w.heap.size w W0 := by rw [hW0]; exact (((Below.refl _ _).alloc (Nat.le_refl _) _).alloc (by simp) _).alloc (by simp; omega) _
  have hs0 : W0.heap.size = w.heap.size + 3 := by rw [hW0]; simp
  clear h3 h5
  go_enter Try.func22, Try.ntmps22
  go_wp2_with fail
  rw [← hW0]
  clear hW0
  refine (H1.out _ hB0).mono ?_
  rintro e w1 ⟨v1, rfl, ho1, hb1⟩
  obtain ⟨a1, k1, hv⟩ := own_len ho1
  subst hv
  rw [hs0] at ho1
  have hs1 := hb1.size
  obtain ⟨b0, b1, b2, _⟩ := (LB.keep hb1).d3
  obtain ⟨m0, m1, m2, z0, z1, z2⟩ := (LM.keep hb1).d3
  have B1 := hB0.trans (hb1.mono hB0.size)
  have B1' := hid (B1.setCell (p := ⟨w.heap.size + 2, 0, none⟩) (by simp) (.slice a1 l.files.length k1))
  have LB1 := (LB.keep hb1).other (a := ⟨w.heap.size + 2, 0, none⟩) (.slice a1 l.files.length k1) (by simp)
  have LR1 := (LR.keep hb1).other (a := ⟨w.heap.size + 2, 0, none⟩) (.slice a1 l.files.length k1) (by simp)
  have LM1 := (LM.keep hb1).set 0 (.slice a1 l.files.length k1) (cs' := #[.slice a1 l.files.length k1, .slice none 0 0, .int .i64 0]) rfl
  have O1 := ownsRow_setCell_below ho1 (a := ⟨w.heap.size + 2, 0, none⟩) (by simp) (.slice a1 l.files.length k1)
  clear hb1 ho1 LB LR LM B1 hB0
  go_wp2_with fail
  refine (H2.out _ B1'.out).mono ?_
  rintro e w2 ⟨v2, rfl, ho2, hb2⟩
  obtain ⟨a2, k2, hv⟩ := own_len ho2
  subst hv
  have O1' := own_below O1 hb2
  have ho2' := Joins.ownsRow_le (base' := w.heap.size + 3) ho2 (by simp [World.setCell]; omega)
  have hs2 := hb2.size
  have LB2 := LB1.keep hb2
  have LR2 := LR1.keep hb2
  have LM2 := LM1.keep hb2
  have B2 := hid (B1'.out.trans (hb2.mono B1'.out.size))
  have HO := hid (show w2.ownsRow (w.heap.size + 3) 71 2 (.slice a1 l.files.length k1) l.files.length (rowFile l.files) ∧ w2.ownsRow (w.heap.size + 3) 73 2 (.slice a2 l.ways.length k2) l.ways.length (rowWay l.ways) from ⟨O1', ho2'⟩)
  clear b0 b1 b2 m0 m1 m2 z0 z1 z2
  obtain ⟨b0, b1, b2, _⟩ := LB2.d3
  obtain ⟨m0, m1, m2, z0, z1, z2⟩ := LM2.d3
  obtain ⟨r0, r1, r2, y0, y1, y2⟩ := LR2.d3
  clear hb2 ho2 ho2' O1 O1' LB1 LR1 LM1 LB2 LR2 LM2 H1 H2 B1' hs2 hs1 hs0
  go_wp2
  refine bodyPost_ret (v := .agg #[.slice a1 l.files.length k1, .slice a2 l.ways.length k2, .int .i64 l.parent]) (by simp [results, Try.results22, go_sem, r0, r1, r2]) rfl ?_
  refine ⟨⟨.slice a1 l.files.length k1, .slice a2 l.ways.length k2, l.parent⟩, rfl, ⟨rfl, Joins.ownsRow_le (base := w.heap.size + 3) ?_ (by omega), Joins.ownsRow_le (base := w.heap.size + 3) ?_ (by omega)⟩, ?_⟩
  · repeat' (first | refine ownsRow_setCell_below ?_ (by simp) _ | exact HO.out.1)
  · repeat' (first | refine ownsRow_setCell_below ?_ (by simp) _ | exact HO.out.2)
  · repeat' (first | refine Below.setCell ?_ (by dsimp only; omega) _ | exact B2.out)

theorem szLoaderS_any (ao : Option Addr) (len cap : Nat) (fs : List MLoader) (n0 : Int) (w : World) (hl : len ≤ maxLen) (hn0 : 0 ≤ n0) (hn1 : n0 ≤ 1048576) (hA : ArgLS w ao len fs) :
    Calls Try.prog 6 #[.slice ao len cap, .int .i64 n0] w fun e w' => ∃ n, e = .returned (.int .i64 n) ∧ (n < 0 ∨ (0 ≤ n ∧ n ≤ n0 ∧ len ≤ 1048576 ∧ ∀ f ∈ fs, f.few)) ∧ Below w.heap.size w w' := by
  unfold maxLen at hl
  by_cases h : (len : Int) ≤ n0
  · obtain ⟨hlen, hcs⟩ := hA
    go_enter Try.func6, Try.ntmps6
    go_wp2
    go_loopw [1, 5] (fun l i wr => ∃ (n : Int) (k : Nat), k ≤ len ∧ i = .int .i64 k ∧ l = .int .i64 n ∧ 0 ≤ n ∧ n ≤ n0 ∧ Hid (∀ f ∈ fs.take k, f.few) ∧ Below w.heap.size w wr) (fun _ i _ => len - (intOf i).toNat)
    case atStart => exact ⟨n0 - len, 0, by omega, rfl, by first | rfl | go_num, by omega, by omega, fun t ht => by simp at ht, Below.refl _ _⟩
    case round =>
      obtain ⟨n, k, hk, rfl, rfl, hn, hn2, HE, hbel⟩ := hrel
      by_cases hlt : k < len
      · rcases hcs with h0 | ⟨b, off, rfl, hbw, hc⟩
        · omega
        · obtain ⟨x, c0, c1, c2, hx⟩ := hc k (by omega)
          have d0 := (hbel.cell (p := ⟨b, off + k * 3, none⟩) hbw).trans c0
          have d1 := (hbel.cell (p := ⟨b, off + k * 3 + 1, none⟩) hbw).trans c1
          have d2 := (hbel.cell (p := ⟨b, off + k * 3 + 2, none⟩) hbw).trans c2
          have hI := szLoader_any x fs[k] n wr hn (by omega) (hx.keep hbel)
          obtain ⟨hat, ⟨a, l1, q1, e1, hk1⟩, ⟨a', l2, q2, e2, hk2⟩, hm1, hm2⟩ := hx
          rw [e1] at d0 hI
          rw [e2] at d1 hI
          have HX : Hid (∀ m, (0 ≤ m ∧ m ≤ n ∧ fs[k].few) → ∀ f ∈ fs.take (k + 1), f.few) := by
            intro m hm f hf
            rw [List.take_succ_eq_append_getElem (by omega)] at hf
            rcases List.mem_append.mp hf with hf | hf
            · exact HE.out f hf
            · simp at hf; rw [hf]; exact hm.2.2
          clear c0 c1 c2 hc e1 e2 hat hk1 hk2 hm1 hm2
          go_wp2_with fail
          refine hI.mono ?_
          rintro e w1 ⟨m, rfl, hm, hb1⟩
          · by_cases hneg : m < 0
            · go_wp2
              go_ret
              exact ⟨_, rfl, .inl (by omega), hbel.trans (hb1.mono hbel.size)⟩
            · have hm' : 0 ≤ m ∧ m ≤ n ∧ fs[k].few := by
                rcases hm with hm | hm
                · exact absurd hm hneg
                · exact hm
              have HN := HX.out m hm'
              have HN' : Hid (∀ f ∈ fs.take (k + 1), f.few) := HN
              have m1 := hm'.1
              have m2 := hm'.2.1
              clear HN hm hm'
              go_wp2
              go_roundw
              case rel => exact ⟨m, k + 1, by omega, by go_num, rfl, by omega, by omega, HN'.out, hbel.trans (hb1.mono hbel.size)⟩
              case measure => simp [intOf]; omega
      · go_wp2
        go_ret
        refine ⟨_, rfl, .inr ⟨hn, hn2, by omega, ?_⟩, hbel⟩
        have := HE.out
        rwa [List.take_of_length_le (by omega)] at this
  · clear hA
    go_enter Try.func6, Try.ntmps6
    go_wp2
    go_ret
    exact ⟨_, rfl, .inl (by omega), Below.refl _ _⟩

theorem LoaderW.set {w : World} {B : Nat} {x : SLoader} {f : MLoader} (h : LoaderW w B x f) {a : Addr} (ha : a.block < B) (u : Value) : LoaderW (w.setCell a u) B x f :=
  ⟨h.p, ownsRow_setCell_below h.f ha u, ownsRow_setCell_below h.y ha u⟩

/-- a list of loaders in blocks of its own, from B on -/
def LoadersW (w : World) (B : Nat) (v : Value) (fs : List MLoader) : Prop :=
  ∃ xs : List SLoader, xs.length = fs.length ∧ w.ownsRow B 47 3 v fs.length (rowLoader xs) ∧ ∀ k (h : k < fs.length) (h' : k < xs.length), LoaderW w B xs[k] fs[k]
theorem LoadersW.keep {w w' : World} {B : Nat} {v : Value} {fs : List MLoader} (h : LoadersW w B v fs) (hb : Below w.heap.size w w') : LoadersW w' B v fs := by
  obtain ⟨xs, h1, h2, h3⟩ := h
  exact ⟨xs, h1, own_below h2 hb, fun k hk hk' => (h3 k hk hk').keep hb⟩
theorem LoadersW.mono {w : World} {B B' : Nat} {v : Value} {fs : List MLoader} (h : LoadersW w B v fs) (hb : B' ≤ B) : LoadersW w B' v fs := by
  obtain ⟨xs, h1, h2, h3⟩ := h
  exact ⟨xs, h1, Joins.ownsRow_le h2 hb, fun k hk hk' => (h3 k hk hk').mono hb⟩

theorem toLoaderS_any (ao : Option Addr) (len cap : Nat) (fs : List MLoader) (w : World) (hl : len ≤ 1048576) (hA : ArgLS w ao len fs) (hf : ∀ f ∈ fs, f.few) :
    Calls Try.prog 8 #[.slice ao len cap] w fun e w' => ∃ v, e = .returned v ∧ LoadersW w' w.heap.size v fs ∧ Below w.heap.size w w' := by
  obtain ⟨hlen, hcs⟩ := hA
  obtain ⟨i0, hi, hz0, hz1, hz2⟩ := info_parts infoLoader
  obtain ⟨M, hM⟩ : ∃ M, M = madeCells (Value.agg #[.slice none 0 0, .slice none 0 0, .int .i64 0]).cells (len * 3) := ⟨_, rfl⟩
  have hmk : ∀ W : World, (Instr.makeSlice 26 (.int .i64 (len : Int)) (.int .i64 (len : Int))).run Try.prog W = .ok (.slice (some ⟨W.heap.size, 0, none⟩) len len) (W.alloc (.cells M 47)) := fun W => by
    have h := run_make (P := Try.prog) W 26 47 i0 _ Try.underlying26 hi hz0 .i64 .i64 (len : Int) (len : Int) (by omega) (by omega) (by rw [hz2]; omega) (by omega)
    rw [hz1] at h
    rw [hM]
    simpa using h
  have HO : Hid ((w.alloc (.cells M 47)).ownsRow w.heap.size 47 3 (.slice (some ⟨w.heap.size, 0, none⟩) len len) len (rowLoader (zerosLoader len))) := by
    have hz := zerosLoader_cells len
    rw [← hM] at hz
    have := World.ownsRow_lit (base := w.heap.size) (e := 47) (size := 3) w M len (Nat.le_refl _) (by unfold maxLen; omega) (by rw [← Array.length_toList, hz, rowLoader_len]; simp [zerosLoader])
    rw [hz] at this
    exact this
  have HF : Hid (∀ f ∈ fs, f.few) := hf
  clear hM hf
  go_enter Try.func8, Try.ntmps8
  go_wp2
  go_loopw [4] (fun i wr => ∃ (k : Nat) (us : List SLoader), k ≤ len ∧ i = .int .i64 k ∧ us.length = len ∧ w.heap.size + 1 ≤ wr.heap.size ∧ Hid (∀ j (h : j < fs.length) (h' : j < us.length), j < k → LoaderW wr (w.heap.size + 1) us[j] fs[j]) ∧ Hid (wr.ownsRow w.heap.size 47 3 (.slice (some ⟨w.heap.size, 0, none⟩) len len) len (rowLoader us)) ∧ Below w.heap.size w wr) (fun i _ => len - (intOf i).toNat)
  case atStart => exact ⟨0, zerosLoader len, by omega, rfl, by simp [zerosLoader], by simp, fun j _ _ h => by omega, HO, (Below.refl _ _).alloc (Nat.le_refl _) _⟩
  case round =>
    obtain ⟨k, us, hk, rfl, hus, hsz, HE, HW, hbel⟩ := hrel
    by_cases hlt : k < len
    · rcases hcs with h0 | ⟨b, off, rfl, hbw, hc⟩
      · omega
      · obtain ⟨x, c0, c1, c2, hx⟩ := hc k (by omega)
        have hne : ¬ b = w.heap.size := by omega
        have d0 := (hbel.cell (p := ⟨b, off + k * 3, none⟩) hbw).trans c0
        have d1 := (hbel.cell (p := ⟨b, off + k * 3 + 1, none⟩) hbw).trans c1
        have d2 := (hbel.cell (p := ⟨b, off + k * 3 + 2, none⟩) hbw).trans c2
        have hI := toLoader_any x fs[k] wr (hx.keep hbel) (HF.out _ (List.getElem_mem _))
        obtain ⟨hat, ⟨a, l1, q1, e1, hk1⟩, ⟨a', l2, q2, e2, hk2⟩, hm1, hm2⟩ := hx
        rw [e1] at d0 hI
        rw [e2] at d1 hI
        clear c0 c1 c2 hc e1 e2 hat hk1 hk2 hm1 hm2
        go_wp2_with fail
        refine hI.mono ?_
        rintro e w1 ⟨y, rfl, hy, hb1⟩
        have ho1 := own_below HW.out hb1
        have f0 := ho1.frozenAt (k * 3); have f1 := ho1.frozenAt (k * 3 + 1); have f2 := ho1.frozenAt (k * 3 + 2)
        obtain ⟨p0, q0'⟩ := own_has ho1 (k := k * 3) (by omega)
        obtain ⟨p1, q1'⟩ := own_has ho1 (k := k * 3 + 1) (by omega)
        obtain ⟨p2, q2'⟩ := own_has ho1 (k := k * 3 + 2) (by omega)
        have hs1 := hb1.size
        have HN := nextLoader (t := y) ho1 hus hlt
        have HNH : Hid _ := HN
        clear HN
        have HE' : Hid (∀ j (h : j < fs.length) (h' : j < (us.set k y).length), j < k + 1 → LoaderW (((w1.setCell ⟨w.heap.size, k * 3, none⟩ y.files).setCell ⟨w.heap.size, k * 3 + 1, none⟩ y.ways).setCell ⟨w.heap.size, k * 3 + 2, none⟩ (.int .i64 y.parent)) (w.heap.size + 1) (us.set k y)[j] fs[j]) := by
          intro j h h' hj
          have hfw : LoaderW w1 (w.heap.size + 1) (us.set k y)[j] fs[j] := by
            by_cases hjk : j = k
            · subst hjk
              rw [List.getElem_set_self]
              exact hy.mono hsz
            · rw [List.getElem_set_ne (by omega)]
              exact (HE.out j h (by simpa using h') (by omega)).keep hb1
          exact ((hfw.set (by simp) _).set (by simp) _).set (by simp) _
        have hbw1 := hbel.trans (hb1.mono hbel.size)
        obtain ⟨yl, ys, ya⟩ := y
        obtain ⟨a1, k1, e1⟩ := own_len hy.f
        obtain ⟨a2, k2, e2⟩ := own_len hy.y
        simp only at e1 e2
        subst e1 e2
        clear hy ho1 hb1 HE HW hI
        go_wp2
        go_roundw
        case rel => exact ⟨k + 1, _, by omega, by go_num, by simpa using hus, by simp; omega, HE', HNH.out, ((hbw1.setCell (Nat.le_refl _) _).setCell (Nat.le_refl _) _).setCell (Nat.le_refl _) _⟩
        case measure => simp [intOf]; omega
    · have hk' : k = len := by omega
      subst hk'
      have HR : Hid (LoadersW wr w.heap.size (.slice (some ⟨w.heap.size, 0, none⟩) k k) fs) := by
        refine ⟨us, by omega, by rw [hlen]; exact HW.out, fun j h h' => (HE.out j h h' (by omega)).mono (by omega)⟩
      clear HE HW
      go_wp2
      go_ret
      exact ⟨_, rfl, HR.out, hbel⟩


end Go.Proofs.Ytjhmjjechagbjaa
