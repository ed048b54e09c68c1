/- Paths: the small functions on one loader. -/
import Derived.Test.YtjhmjjechagbjaaPaFor
namespace Go.Proofs.Ytjhmjjechagbjaa
open Go.RowKit
set_option maxHeartbeats 1000000
set_option maxRecDepth 20000
set_option linter.unusedVariables false

theorem wayFor_any (x : SLoader) (l : MLoader) (nm : ByteArray) (B : Nat) (w : World) (hf : l.few) (h : LoaderW w B x l) :
    Calls Try.prog 59 #[.agg #[x.files, x.ways, .int .i64 x.parent], .string nm] w fun e w' => e = .returned (.tuple #[.int .i64 ((wayTo l.ways nm).getD (-1)), .bool (wayTo l.ways nm).isSome]) ∧ Below w.heap.size w w' := by
  obtain ⟨⟨f1, f2⟩, f3, f4⟩ := hf
  obtain ⟨hp, h1, h2⟩ := h
  obtain ⟨xf, xw, xp⟩ := x
  obtain ⟨fs, ys, pr⟩ := l
  simp only at hp h1 h2 f1 f2 f3 f4 ⊢
  subst hp
  obtain ⟨a1, k1, e1⟩ := own_len h1
  obtain ⟨a2, k2, e2⟩ := own_len h2
  subst e1 e2
  have hb0 : Below w.heap.size w ((w.alloc (.cells #[.slice a1 fs.length k1, .slice a2 ys.length k2, .int .i64 xp] 47)).alloc (.cells #[.string nm] 9)) := ((Below.refl w.heap.size w).alloc (Nat.le_refl _) _).alloc (by simp) _
  have L0 : Lk ((w.alloc (.cells #[.slice a1 fs.length k1, .slice a2 ys.length k2, .int .i64 xp] 47)).alloc (.cells #[.string nm] 9)) w.heap.size #[.slice a1 fs.length k1, .slice a2 ys.length k2, .int .i64 xp] 47 := (Lk.new w _ _).alloc _
  have L1 : Lk ((w.alloc (.cells #[.slice a1 fs.length k1, .slice a2 ys.length k2, .int .i64 xp] 47)).alloc (.cells #[.string nm] 9)) (w.heap.size + 1) #[.string nm] 9 := by have := Lk.new (w.alloc (.cells #[.slice a1 fs.length k1, .slice a2 ys.length k2, .int .i64 xp] 47)) #[.string nm] 9; simpa using this
  have O0 := own_below h2 hb0
  have hI := idxWay_any (.pointer (some ⟨w.heap.size + 1, 0, none⟩)) (.slice a2 ys.length k2) ys B (wayP ys nm) ((w.alloc (.cells #[.slice a1 fs.length k1, .slice a2 ys.length k2, .int .i64 xp] 47)).alloc (.cells #[.string nm] 9)) f3 O0 (fun k hk W hW => by
    refine (wayFn_any ys[k] nm (w.heap.size + 1) W ((hb_cell hW (by simp)).trans (L1.c 0 _ rfl)) (by have := hW.size; simp at this; omega)).mono ?_
    rintro e w1 ⟨rfl, hb⟩
    exact ⟨ret_bool (by unfold wayP; rw [List.getElem?_eq_getElem hk]; rfl), hb⟩)
  have hmf : ∀ (fn : Fn) (first cap : Array Value) (w : World), (Instr.makeFunc fn first cap).run Try.prog w = .ok (.func fn first cap) w := fun _ _ _ _ => rfl
  have HP := hid (show ∀ W, Below ((w.alloc (.cells #[.slice a1 fs.length k1, .slice a2 ys.length k2, .int .i64 xp] 47)).alloc (.cells #[.string nm] 9)).heap.size ((w.alloc (.cells #[.slice a1 fs.length k1, .slice a2 ys.length k2, .int .i64 xp] 47)).alloc (.cells #[.string nm] 9)) W → Below w.heap.size w W ∧ Lk W w.heap.size #[.slice a1 fs.length k1, .slice a2 ys.length k2, .int .i64 xp] 47 ∧ W.ownsRow B 73 2 (.slice a2 ys.length k2) ys.length (rowWay ys) from fun W hW => ⟨hb0.trans (hW.mono hb0.size), L0.keep hW, own_below O0 hW⟩)
  clear h1 h2 f2 f4 hb0 L0 L1 O0
  go_enter Try.func59, Try.ntmps59
  go_wp2_with fail
  refine hI.mono ?_
  rintro e w1 ⟨r, rfl, hr, hb1⟩
  obtain ⟨hb, lk, ow⟩ := HP.out _ hb1
  have HB := hid hb
  clear hb hb1 hI HP
  obtain ⟨c0, c1, c2, _⟩ := lk.d3
  rcases hr with ⟨rfl, hn⟩ | ⟨k, rfl, hk, hp', hj⟩
  · have HR := hid (wayTo_none hn)
    go_wp2
    refine bodyPost_ret (v := .tuple #[.int .i64 ((wayTo ys nm).getD (-1)), .bool (wayTo ys nm).isSome]) (by rw [HR.out]; simp [results, Try.results59, go_sem]) rfl ⟨rfl, HB.out⟩
  · obtain ⟨g, hg⟩ := own_some ow (by omega)
    subst hg
    obtain ⟨d0, d1⟩ := ownWay_at ow hk
    have HR := hid (wayTo_some hk hp' hj)
    go_wp2
    refine bodyPost_ret (v := .tuple #[.int .i64 ((wayTo ys nm).getD (-1)), .bool (wayTo ys nm).isSome]) (by rw [HR.out]; simp [results, Try.results59, go_sem]) rfl ⟨rfl, HB.out⟩

theorem fileFor_any (x : SLoader) (l : MLoader) (nm : ByteArray) (B : Nat) (w : World) (hf : l.few) (h : LoaderW w B x l) :
    Calls Try.prog 60 #[.agg #[x.files, x.ways, .int .i64 x.parent], .string nm] w fun e w' => ∃ s : ByteArray, e = .returned (.tuple #[.string s, .bool (hasF l.files nm)]) ∧ Below w.heap.size w w' := by
  obtain ⟨⟨f1, f2⟩, f3, f4⟩ := hf
  obtain ⟨hp, h1, h2⟩ := h
  obtain ⟨xf, xw, xp⟩ := x
  obtain ⟨fs, ys, pr⟩ := l
  simp only at hp h1 h2 f1 f2 f3 f4 ⊢
  subst hp
  obtain ⟨a1, k1, e1⟩ := own_len h1
  obtain ⟨a2, k2, e2⟩ := own_len h2
  subst e1 e2
  have hb0 : Below w.heap.size w ((w.alloc (.cells #[.slice a1 fs.length k1, .slice a2 ys.length k2, .int .i64 xp] 47)).alloc (.cells #[.string nm] 9)) := ((Below.refl w.heap.size w).alloc (Nat.le_refl _) _).alloc (by simp) _
  have L0 : Lk ((w.alloc (.cells #[.slice a1 fs.length k1, .slice a2 ys.length k2, .int .i64 xp] 47)).alloc (.cells #[.string nm] 9)) w.heap.size #[.slice a1 fs.length k1, .slice a2 ys.length k2, .int .i64 xp] 47 := (Lk.new w _ _).alloc _
  have L1 : Lk ((w.alloc (.cells #[.slice a1 fs.length k1, .slice a2 ys.length k2, .int .i64 xp] 47)).alloc (.cells #[.string nm] 9)) (w.heap.size + 1) #[.string nm] 9 := by have := Lk.new (w.alloc (.cells #[.slice a1 fs.length k1, .slice a2 ys.length k2, .int .i64 xp] 47)) #[.string nm] 9; simpa using this
  have O0 := own_below h1 hb0
  have hI := idxFile_any (.pointer (some ⟨w.heap.size + 1, 0, none⟩)) (.slice a1 fs.length k1) fs B (fileP' fs nm) ((w.alloc (.cells #[.slice a1 fs.length k1, .slice a2 ys.length k2, .int .i64 xp] 47)).alloc (.cells #[.string nm] 9)) f1 O0 (fun k hk W hW => by
    refine (fileFn_any fs[k] nm (w.heap.size + 1) W ((hb_cell hW (by simp)).trans (L1.c 0 _ rfl)) (by have := hW.size; simp at this; omega)).mono ?_
    rintro e w1 ⟨rfl, hb⟩
    exact ⟨ret_bool (by unfold fileP'; rw [List.getElem?_eq_getElem hk]; rfl), hb⟩)
  have hmf : ∀ (fn : Fn) (first cap : Array Value) (w : World), (Instr.makeFunc fn first cap).run Try.prog w = .ok (.func fn first cap) w := fun _ _ _ _ => rfl
  have HP := hid (show ∀ W, Below ((w.alloc (.cells #[.slice a1 fs.length k1, .slice a2 ys.length k2, .int .i64 xp] 47)).alloc (.cells #[.string nm] 9)).heap.size ((w.alloc (.cells #[.slice a1 fs.length k1, .slice a2 ys.length k2, .int .i64 xp] 47)).alloc (.cells #[.string nm] 9)) W → Below w.heap.size w W ∧ Lk W w.heap.size #[.slice a1 fs.length k1, .slice a2 ys.length k2, .int .i64 xp] 47 ∧ W.ownsRow B 71 2 (.slice a1 fs.length k1) fs.length (rowFile fs) from fun W hW => ⟨hb0.trans (hW.mono hb0.size), L0.keep hW, own_below O0 hW⟩)
  clear h1 h2 f2 f4 hb0 L0 L1 O0
  go_enter Try.func60, Try.ntmps60
  go_wp2_with fail
  refine hI.mono ?_
  rintro e w1 ⟨r, rfl, hr, hb1⟩
  obtain ⟨hb, lk, ow⟩ := HP.out _ hb1
  have HB := hid hb
  clear hb hb1 hI HP
  obtain ⟨c0, c1, c2, _⟩ := lk.d3
  rcases hr with ⟨rfl, hn⟩ | ⟨k, rfl, hk, hp', hj⟩
  · have HR := hid (hasF_false hn)
    go_wp2
    refine bodyPost_ret (v := .tuple #[.string ⟨#[]⟩, .bool (hasF fs nm)]) (by rw [HR.out]; simp [results, Try.results60, go_sem]) rfl ⟨_, rfl, HB.out⟩
  · obtain ⟨g, hg⟩ := own_some ow (by omega)
    subst hg
    obtain ⟨d0, d1⟩ := ownFile_at ow hk
    have HR := hid (hasF_true hk hp')
    go_wp2
    refine bodyPost_ret (v := .tuple #[.string fs[k].text, .bool (hasF fs nm)]) (by rw [HR.out]; simp [results, Try.results60, go_sem]) rfl ⟨_, rfl, HB.out⟩

theorem l5Way_any (x : SLoader) (l : MLoader) (nm : ByteArray) (B : Nat) (w : World) (hf : l.few) (h : LoaderW w B x l) :
    Calls Try.prog 35 #[.agg #[x.files, x.ways, .int .i64 x.parent], .string nm] w fun e w' => e = .returned (.int .i64 ((wayTo l.ways nm).getD (-1))) ∧ Below w.heap.size w w' := by
  obtain ⟨⟨f1, f2⟩, f3, f4⟩ := hf
  obtain ⟨hp, h1, h2⟩ := h
  obtain ⟨xf, xw, xp⟩ := x
  obtain ⟨fs, ys, pr⟩ := l
  simp only at hp h1 h2 f1 f2 f3 f4
  subst hp
  obtain ⟨a1, k1, e1⟩ := own_len h1
  obtain ⟨a2, k2, e2⟩ := own_len h2
  subst e1 e2
  have hb0 := (Below.refl w.heap.size w).alloc (Nat.le_refl _) (.cells #[.slice a1 fs.length k1, .slice a2 ys.length k2, .int .i64 xp] 47)
  have HO := hid (show Lk (w.alloc (.cells #[.slice a1 fs.length k1, .slice a2 ys.length k2, .int .i64 xp] 47)) w.heap.size #[.slice a1 fs.length k1, .slice a2 ys.length k2, .int .i64 xp] 47 ∧ (w.alloc (.cells #[.slice a1 fs.length k1, .slice a2 ys.length k2, .int .i64 xp] 47)).ownsRow B 73 2 (.slice a2 ys.length k2) ys.length (rowWay ys) ∧ Below w.heap.size w (w.alloc (.cells #[.slice a1 fs.length k1, .slice a2 ys.length k2, .int .i64 xp] 47)) from ⟨Lk.new _ _ _, own_below h2 hb0, hb0⟩)
  clear h1 h2 f2 f4 hb0
  go_enter Try.func35, Try.ntmps35
  go_wp2_with fail
  go_loopw [5] (fun i wr => ∃ (k : Nat), k ≤ ys.length ∧ i = .int .i64 k ∧ Hid (∀ j, j < k → wayP ys nm j = false) ∧ Hid (Lk wr w.heap.size #[.slice a1 fs.length k1, .slice a2 ys.length k2, .int .i64 xp] 47 ∧ wr.ownsRow B 73 2 (.slice a2 ys.length k2) ys.length (rowWay ys) ∧ Below w.heap.size w wr)) (fun i _ => ys.length - (intOf i).toNat)
  case atStart => exact ⟨0, by omega, rfl, fun j hj => by omega, HO⟩
  case round =>
    obtain ⟨k, hk, rfl, HE, HI⟩ := hrel
    obtain ⟨c0, c1, c2, _⟩ := HI.out.1.d3
    by_cases hlt : k < ys.length
    · obtain ⟨g, hg⟩ := own_some HI.out.2.1 (by omega)
      subst hg
      obtain ⟨d0, d1⟩ := ownWay_at HI.out.2.1 hlt
      obtain ⟨t, ht⟩ : ∃ t, Hid (ys[k] = t) := ⟨_, hid rfl⟩
      rw [ht.out] at d0 d1
      by_cases hq : t.name = nm
      · have hqq : (t.name.toList == nm.toList) = true := by rw [sameT]; simpa using hq
        have HR := hid (wayTo_some hlt (by unfold wayP; rw [List.getElem?_eq_getElem hlt]; simp [ht.out, hq]) HE.out)
        go_wp2
        go_ret
        exact ⟨ret_i64 (by rw [HR.out, ht.out]; rfl), HI.out.2.2⟩
      · have hqq : (t.name.toList == nm.toList) = false := by rw [sameT]; simpa using hq
        have HN := hid (show ∀ j, j < k + 1 → wayP ys nm j = false from fun j hj => by
          by_cases e : j = k
          · rw [e]; unfold wayP; rw [List.getElem?_eq_getElem hlt]; simp; rw [ht.out]; exact hq
          · exact HE.out j (by omega))
        go_wp2
        go_roundw
        case rel => exact ⟨k + 1, by omega, by go_num, HN, HI⟩
        case measure => simp [intOf]; omega
    · have HR := hid (wayTo_none (fun j hj => HE.out j (by omega)))
      go_wp2
      go_ret
      exact ⟨ret_i64 (by rw [HR.out]; rfl), HI.out.2.2⟩

theorem l5File_any (x : SLoader) (l : MLoader) (nm : ByteArray) (B : Nat) (w : World) (hf : l.few) (h : LoaderW w B x l) :
    Calls Try.prog 36 #[.agg #[x.files, x.ways, .int .i64 x.parent], .string nm] w fun e w' => ∃ r : Int, e = .returned (.int .i64 r) ∧ (decide (0 ≤ r) = hasF l.files nm) ∧ Below w.heap.size w w' := by
  obtain ⟨⟨f1, f2⟩, f3, f4⟩ := hf
  obtain ⟨hp, h1, h2⟩ := h
  obtain ⟨xf, xw, xp⟩ := x
  obtain ⟨fs, ys, pr⟩ := l
  simp only at hp h1 h2 f1 f2 f3 f4
  subst hp
  obtain ⟨a1, k1, e1⟩ := own_len h1
  obtain ⟨a2, k2, e2⟩ := own_len h2
  subst e1 e2
  have hb0 := (Below.refl w.heap.size w).alloc (Nat.le_refl _) (.cells #[.slice a1 fs.length k1, .slice a2 ys.length k2, .int .i64 xp] 47)
  have HO := hid (show Lk (w.alloc (.cells #[.slice a1 fs.length k1, .slice a2 ys.length k2, .int .i64 xp] 47)) w.heap.size #[.slice a1 fs.length k1, .slice a2 ys.length k2, .int .i64 xp] 47 ∧ (w.alloc (.cells #[.slice a1 fs.length k1, .slice a2 ys.length k2, .int .i64 xp] 47)).ownsRow B 71 2 (.slice a1 fs.length k1) fs.length (rowFile fs) ∧ Below w.heap.size w (w.alloc (.cells #[.slice a1 fs.length k1, .slice a2 ys.length k2, .int .i64 xp] 47)) from ⟨Lk.new _ _ _, own_below h1 hb0, hb0⟩)
  clear h1 h2 f2 f4 hb0
  go_enter Try.func36, Try.ntmps36
  go_wp2_with fail
  go_loopw [5] (fun i wr => ∃ (k : Nat), k ≤ fs.length ∧ i = .int .i64 k ∧ Hid (∀ j, j < k → fileP' fs nm j = false) ∧ Hid (Lk wr w.heap.size #[.slice a1 fs.length k1, .slice a2 ys.length k2, .int .i64 xp] 47 ∧ wr.ownsRow B 71 2 (.slice a1 fs.length k1) fs.length (rowFile fs) ∧ Below w.heap.size w wr)) (fun i _ => fs.length - (intOf i).toNat)
  case atStart => exact ⟨0, by omega, rfl, fun j hj => by omega, HO⟩
  case round =>
    obtain ⟨k, hk, rfl, HE, HI⟩ := hrel
    obtain ⟨c0, c1, c2, _⟩ := HI.out.1.d3
    by_cases hlt : k < fs.length
    · obtain ⟨g, hg⟩ := own_some HI.out.2.1 (by omega)
      subst hg
      obtain ⟨d0, d1⟩ := ownFile_at HI.out.2.1 hlt
      obtain ⟨t, ht⟩ : ∃ t, Hid (fs[k] = t) := ⟨_, hid rfl⟩
      rw [ht.out] at d0 d1
      by_cases hq : t.name = nm
      · have hqq : (t.name.toList == nm.toList) = true := by rw [sameT, hq]; simp
        have HR := hid (hasF_true (nm := nm) hlt (by unfold fileP'; rw [List.getElem?_eq_getElem hlt]; simp [ht.out, hq]))
        go_wp2
        go_ret
        exact ⟨_, rfl, (show decide ((0:Int) ≤ (k : Int)) = hasF fs nm from by rw [HR.out]; simp), HI.out.2.2⟩
      · have hqq : (t.name.toList == nm.toList) = false := by rw [sameT]; simpa using hq
        have HN := hid (show ∀ j, j < k + 1 → fileP' fs nm j = false from fun j hj => by
          by_cases e : j = k
          · rw [e]; unfold fileP'; rw [List.getElem?_eq_getElem hlt]; simp; rw [ht.out]; exact hq
          · exact HE.out j (by omega))
        go_wp2
        go_roundw
        case rel => exact ⟨k + 1, by omega, by go_num, HN, HI⟩
        case measure => simp [intOf]; omega
    · have HR := hid (hasF_false (fun j hj => HE.out j (by omega)))
      go_wp2
      go_ret
      exact ⟨_, rfl, by rw [HR.out]; rfl, HI.out.2.2⟩

def makesB (l : MLoader) (nm : ByteArray) : Bool := hasF l.files nm && !(wayTo l.ways nm).isSome
def nxtLd (l : MLoader) (nm : ByteArray) : Int := (wayTo l.ways nm).getD l.parent

theorem makes_any (x : SLoader) (l : MLoader) (nm : ByteArray) (B : Nat) (w : World) (hf : l.few) (h : LoaderW w B x l) :
    Calls Try.prog 44 #[.agg #[x.files, x.ways, .int .i64 x.parent], .string nm] w fun e w' => e = .returned (.bool (makesB l nm)) ∧ Below w.heap.size w w' := by
  have hW := fun W (hb : Below w.heap.size w W) => wayFor_any x l nm B W hf (h.keep hb)
  have hF := fun W (hb : Below w.heap.size w W) => fileFor_any x l nm B W hf (h.keep hb)
  have hb0 := (Below.refl w.heap.size w).alloc (Nat.le_refl _) (.cells #[x.files, x.ways, .int .i64 x.parent] 47)
  have L0 := Lk.new w #[x.files, x.ways, .int .i64 x.parent] 47
  obtain ⟨a1, k1, e1⟩ := own_len h.f
  obtain ⟨a2, k2, e2⟩ := own_len h.y
  obtain ⟨xf, xw, xp⟩ := x
  simp only at e1 e2 hW hF hb0 L0
  subst e1 e2
  unfold makesB
  generalize (wayTo l.ways nm).isSome = q1 at hW ⊢
  generalize hasF l.files nm = q2 at hF ⊢
  clear h
  go_enter Try.func44, Try.ntmps44
  go_wp2_with fail
  refine (hW _ hb0).mono ?_
  rintro e w1 ⟨rfl, hb1⟩
  have B1 := hb0.trans (hb1.mono hb0.size)
  have L1 := L0.keep hb1
  obtain ⟨c0, c1, c2, _⟩ := L1.d3
  clear hb0 hb1 L0 hW
  go_wp2_with fail
  refine (hF _ B1).mono ?_
  rintro e w2 ⟨s, rfl, hb2⟩
  have B2 := hid (B1.trans (hb2.mono B1.size))
  clear hb2 B1 hF c0 c1 c2 L1
  cases q1 <;> cases q2
  all_goals
    go_wp2
    go_ret
    exact ⟨rfl, B2.out⟩

theorem nextAsked_any (x : SLoader) (l : MLoader) (nm : ByteArray) (B : Nat) (w : World) (hf : l.few) (h : LoaderW w B x l) :
    Calls Try.prog 43 #[.agg #[x.files, x.ways, .int .i64 x.parent], .string nm] w fun e w' => e = .returned (.int .i64 (nxtLd l nm)) ∧ Below w.heap.size w w' := by
  have hW := fun W (hb : Below w.heap.size w W) => wayFor_any x l nm B W hf (h.keep hb)
  have hb0 := (Below.refl w.heap.size w).alloc (Nat.le_refl _) (.cells #[x.files, x.ways, .int .i64 x.parent] 47)
  have L0 := Lk.new w #[x.files, x.ways, .int .i64 x.parent] 47
  have hp := h.p
  obtain ⟨a1, k1, e1⟩ := own_len h.f
  obtain ⟨a2, k2, e2⟩ := own_len h.y
  obtain ⟨xf, xw, xp⟩ := x
  simp only at e1 e2 hW hb0 L0 hp
  subst e1 e2 hp
  unfold nxtLd
  generalize wayTo l.ways nm = q1 at hW ⊢
  clear h
  go_enter Try.func43, Try.ntmps43
  go_wp2_with fail
  refine (hW _ hb0).mono ?_
  rintro e w1 ⟨rfl, hb1⟩
  have B1 := hid (hb0.trans (hb1.mono hb0.size))
  have L1 := L0.keep hb1
  obtain ⟨c0, c1, c2, _⟩ := L1.d3
  clear hb0 hb1 L0 hW L1
  cases q1
  all_goals
    simp only [Option.isSome, Option.getD]
    go_wp2
    go_ret
    exact ⟨rfl, B1.out⟩

/-- a row of ints -/
def ints (l : List Int) : List Value := l.map (Value.int .i64)
theorem l5Asked_any (v : Value) (l : List Int) (B : Nat) (n : Int) (w : World) (hl : l.length ≤ 1048576) (ho : w.ownsRow B 3 1 v l.length (ints l)) :
    Calls Try.prog 34 #[v, .int .i64 n] w fun e w' => e = .returned (.bool (l.contains n)) ∧ w' = w := by
  obtain ⟨ao, cap, hv⟩ := own_len ho
  subst hv
  have HO := hid ho
  clear ho
  go_enter Try.func34, Try.ntmps34
  go_wp2_with fail
  go_loopw [5] (fun i wr => ∃ (k : Nat), k ≤ l.length ∧ i = .int .i64 k ∧ Hid (∀ j (h : j < l.length), j < k → l[j] ≠ n) ∧ wr = w) (fun i _ => l.length - (intOf i).toNat)
  case atStart => exact ⟨0, by omega, rfl, fun j _ hj => by omega, rfl⟩
  case round =>
    obtain ⟨k, hk, rfl, HE, rfl⟩ := hrel
    by_cases hlt : k < l.length
    · obtain ⟨g, hg⟩ := own_some HO.out (by omega)
      subst hg
      have c0 : wr.cell? ⟨g, k, none⟩ = some (.int .i64 l[k]) := by
        rw [HO.out.cellAt k (by omega)]
        simp [ints, hlt]
      obtain ⟨t, ht⟩ : ∃ t, Hid (l[k] = t) := ⟨_, hid rfl⟩
      rw [ht.out] at c0
      by_cases hq : t = n
      · have HR := hid (show l.contains n = true by simp; rw [← hq, ← ht.out]; exact List.getElem_mem _)
        subst hq
        go_wp2
        go_ret
        exact ⟨ret_bool HR.out.symm, rfl⟩
      · have HN := hid (show ∀ j (h : j < l.length), j < k + 1 → l[j] ≠ n from fun j h hj => by
          by_cases e : j = k
          · subst e; rw [ht.out]; exact hq
          · exact HE.out j h (by omega))
        go_wp2
        go_roundw
        case rel => exact ⟨k + 1, by omega, by go_num, HN, trivial⟩
        case measure => simp [intOf]; omega
    · have HR := hid (show l.contains n = false by
        rw [Bool.eq_false_iff]
        intro h
        simp at h
        obtain ⟨j, hj, e⟩ := List.getElem_of_mem h
        exact HE.out j hj (by omega) e)
      go_wp2
      go_ret
      exact ⟨ret_bool HR.out.symm, rfl⟩

end Go.Proofs.Ytjhmjjechagbjaa
