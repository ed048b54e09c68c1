/- Contracts of the law's own helpers: markText, markStringS, heldStringS, eqStringS. -/
import Derived.Test.YtcgbbdplnlnnjaaDescSpec
import Derived.BigQuiet
import Derived.Laws.IdiomStrings
namespace Go.Proofs.Ytcgbbdplnlnnjaa
open Mx Go.RowKit
set_option maxHeartbeats 400000

def dgs : Nat → Nat → List UInt8 → List UInt8
  | 0, _, acc => acc
  | f + 1, n, acc => if n = 0 then acc else dgs f (n / 10) (UInt8.ofNat (48 + n % 10) :: acc)
def bytesOf (l : List UInt8) : ByteArray := ⟨l.toArray⟩
def mt (k : Nat) : ByteArray := bytesOf (109 :: dgs 20 k [])

theorem one_byte (W : World) (n : Int) (c : UInt8) (hn : (c.toNat : Int) = n) :
    (convert 22 9 (.slice (some ⟨W.heap.size, 0, none⟩) 1 1)).run Try.prog (W.alloc (.cells #[.int .u8 n] 5)) = .ok (.string (bytesOf [c])) (W.alloc (.cells #[.int .u8 n] 5)) := by
  subst hn
  refine run_convert_bytes_back (P := Try.prog) _ 22 9 5 ⟨W.heap.size, 0, none⟩ 1 [c] Try.underlying22 Try.underlying5 Try.underlying9 ?_
  intro j hj
  have hj0 : j = 0 := by simp at hj; omega
  subst hj0
  simp [Addr.add]

theorem bytes_app (a b : List UInt8) : bytesOf a ++ bytesOf b = bytesOf (a ++ b) := by
  apply ByteArray.ext
  simp [bytesOf]
theorem bytes_size (a : List UInt8) : (bytesOf a).size = a.length := by simp [bytesOf, ByteArray.size]
theorem dgs_zero (f : Nat) (acc : List UInt8) : dgs f 0 acc = acc := by cases f <;> simp [dgs]
theorem dgs_step (f m : Nat) (acc : List UInt8) (h : m ≠ 0) : dgs (f + 1) m acc = dgs f (m / 10) (UInt8.ofNat (48 + m % 10) :: acc) := by
  simp [dgs, h]
theorem ret_str {a b : ByteArray} (h : a = b) : Ending.returned (.string a) = .returned (.string b) := by rw [h]

theorem markText_any (k : Nat) (w : World) (h0 : 0 < k) (hk : k ≤ 4611686018427387904) :
    Calls Try.prog 32 #[.int .i64 (k : Int)] w fun e w' => e = .returned (.string (mt k)) ∧ Below w.heap.size w w' := by
  have h0' : ¬ (k : Int) ≤ 0 := by omega
  go_enter Try.func32, Try.ntmps32
  go_wp2
  go_loopw [0, 3] (fun i s wr => ∃ (f m : Nat) (acc : List UInt8), i = .int .i64 m ∧ s = .string (bytesOf acc) ∧ m ≤ 4611686018427387904 ∧ Hid (m < 10 ^ f) ∧ f + acc.length = 20 ∧ Hid (dgs 20 k [] = dgs f m acc) ∧ Below w.heap.size w wr) (fun i _ _ => (intOf i).toNat)
  case atStart => exact ⟨20, k, [], rfl, rfl, hk, by unfold Hid; omega, rfl, rfl, Below.refl _ _⟩
  case round =>
    obtain ⟨f, m, acc, rfl, rfl, hm, HF, hl, HD, hb⟩ := hrel
    have hsz : (bytesOf acc).size ≤ 20 := by rw [bytes_size]; omega
    by_cases hz : m = 0
    · subst hz
      have HR : Hid (({ data := #[109] } : ByteArray) ++ bytesOf acc = mt k) := by
        unfold Hid mt
        rw [HD.out, dgs_zero]
        exact bytes_app [109] acc
      go_wp2
      go_ret
      exact ⟨ret_str HR.out, hb⟩
    · have hz' : (0 : Int) < (m : Int) := by omega
      obtain ⟨g, rfl⟩ : ∃ g, f = g + 1 := by
        cases f with
        | zero => exfalso; have := HF.out; simp at this; exact hz this
        | succ g => exact ⟨g, rfl⟩
      obtain ⟨c, HC⟩ : ∃ c, Hid (UInt8.ofNat (48 + m % 10) = c) := ⟨_, rfl⟩
      have hcv := fun W => one_byte W (48 + (m : Int) % 10) c (by rw [← HC.out]; simp; omega)
      have HS : Hid (dgs 20 k [] = dgs g (m / 10) (c :: acc)) := by
        unfold Hid; rw [HD.out, dgs_step _ _ _ hz, HC.out]
      have HG : Hid (m / 10 < 10 ^ g) := by
        unfold Hid
        have := HF.out
        rw [Nat.pow_succ] at this
        omega
      have hs1 : (bytesOf [c]).size ≤ 1 := by rw [bytes_size]; simp
      have HA : Hid (bytesOf [c] ++ bytesOf acc = bytesOf (c :: acc)) := bytes_app [_] acc
      clear HD HF hz HC
      go_wp2
      go_roundw
      case rel => exact ⟨g, m / 10, c :: acc, by go_num, by rw [HA.out], by omega, HG, by simp; omega, HS, hb.alloc hb.size _⟩
      case measure => simp [intOf]; omega

theorem own_at {w : World} {B : Nat} {g cap : Nat} {ts : List ByteArray} (h : w.ownsRow B 9 1 (.slice (some ⟨g, 0, none⟩) ts.length cap) ts.length (ts.map Value.string)) {k : Nat} (hk : k < ts.length) :
    w.cell? ⟨g, k, none⟩ = some (.string ts[k]) := by
  rw [h.cellAt k (by omega)]
  simp [hk]

theorem eqStringS_same (v1 v2 : Value) (ts : List ByteArray) (B1 B2 : Nat) (w : World) (hl : ts.length ≤ 1000000)
    (h1 : w.ownsRow B1 9 1 v1 ts.length (ts.map Value.string)) (h2 : w.ownsRow B2 9 1 v2 ts.length (ts.map Value.string)) :
    Calls Try.prog 17 #[v1, v2] w fun e w' => e = .returned (.bool true) ∧ ∃ n, w' = w.drewN n := by
  by_cases hz : ts.length = 0
  · obtain ⟨ao1, c1, rfl⟩ := own_len h1
    obtain ⟨ao2, c2, rfl⟩ := own_len h2
    rw [hz]
    clear h1 h2 hl hz
    go_enter Try.func17, Try.ntmps17
    go_wp2
    refine wp_loop_rounds 1 ?_
    rw [rounds_succ]
    go_wp2
    go_ret
    exact ⟨rfl, 0, rfl⟩
  · obtain ⟨g1, c1, rfl⟩ := Joins.ownsRow_form h1 (by omega)
    obtain ⟨g2, c2, rfl⟩ := Joins.ownsRow_form h2 (by omega)
    have H1 : Hid (∀ k (hk : k < ts.length), w.cell? ⟨g1, k, none⟩ = some (.string ts[k])) := fun k hk => own_at h1 hk
    have H2 : Hid (∀ k (hk : k < ts.length), w.cell? ⟨g2, k, none⟩ = some (.string ts[k])) := fun k hk => own_at h2 hk
    clear h1 h2
    go_enter Try.func17, Try.ntmps17
    go_wp2
    go_loopw [5] (fun i wr => ∃ (k q : Nat), k ≤ ts.length ∧ i = .int .i64 k ∧ wr = w.drewN q) (fun i _ => ts.length - (intOf i).toNat)
    case atStart => exact ⟨0, 0, by omega, rfl, rfl⟩
    case round =>
      obtain ⟨k, q, hk, rfl, rfl⟩ := hrel
      by_cases hlt : k < ts.length
      · obtain ⟨x, hc1, hc2⟩ : ∃ x, w.cell? ⟨g1, k, none⟩ = some (.string x) ∧ w.cell? ⟨g2, k, none⟩ = some (.string x) := ⟨_, H1.out k hlt, H2.out k hlt⟩
        go_wp2
        go_quiet (fail)
        go_wp2
        go_roundw
        case rel => exact ⟨k + 1, _, by omega, by go_num, rfl⟩
        case measure => simp [intOf]; omega
      · go_wp2
        go_ret
        exact ⟨rfl, _, rfl⟩

/-- the marks from k on, n of them -/
def marks (k n : Nat) : List ByteArray := (List.range n).map fun i => mt (k + i)
theorem marks_len (k n : Nat) : (marks k n).length = n := by simp [marks]
theorem marks_succ (k n : Nat) : marks k (n + 1) = marks k n ++ [mt (k + n)] := by simp [marks, List.range_succ]
theorem marks_get (k n i : Nat) (h : i < (marks k n).length) : (marks k n)[i] = mt (k + i) := by simp [marks]

theorem marks_set (k j : Nat) (ts : List ByteArray) (h : j < ts.length) :
    ((marks k j ++ ts.drop j).map Value.string).set j (.string (mt (k + j))) = (marks k (j + 1) ++ ts.drop (j + 1)).map Value.string := by
  rw [← List.map_set, List.set_append_right _ _ (by rw [marks_len]; omega), marks_len, Nat.sub_self, List.drop_eq_getElem_cons h, List.set_cons_zero, marks_succ]
  simp

theorem own_has {w : World} {B : Nat} {g cap n : Nat} {xs : List Value} (h : w.ownsRow B 9 1 (.slice (some ⟨g, 0, none⟩) n cap) n xs) {k : Nat} (hk : k < n) :
    ∃ u, w.cell? ⟨g, k, none⟩ = some u := by
  rw [h.cellAt k (by omega)]
  have := h.1
  exact ⟨xs[k]'(by omega), by simp⟩

theorem mark_next {wr w1 : World} {B g1 c1 k0 j : Nat} {ts : List ByteArray} (h : wr.ownsRow B 9 1 (.slice (some ⟨g1, 0, none⟩) ts.length c1) ts.length ((marks k0 j ++ ts.drop j).map Value.string)) (hb1 : Below wr.heap.size wr w1) (hlt : j < ts.length) :
    (w1.setCell ⟨g1, j, none⟩ (.string (mt (k0 + j)))).ownsRow B 9 1 (.slice (some ⟨g1, 0, none⟩) ts.length c1) ts.length ((marks k0 (j + 1) ++ ts.drop (j + 1)).map Value.string) := by
  have := ((own_below h hb1).stored j (.string (mt (k0 + j)))).1
  rw [marks_set _ _ _ hlt] at this
  exact this

theorem markStringS_any (v : Value) (k0 : Nat) (ts : List ByteArray) (B : Nat) (w : World) (hl : ts.length ≤ 1000000) (hk0 : 0 < k0) (hk : k0 ≤ 1000000000000)
    (h1 : w.ownsRow B 9 1 v ts.length (ts.map Value.string)) (hB : B ≤ w.heap.size) :
    Calls Try.prog 18 #[v, .int .i64 (k0 : Int)] w fun e w' => e = .returned (.int .i64 ((k0 + ts.length : Nat) : Int)) ∧ w'.ownsRow B 9 1 v ts.length ((marks k0 ts.length).map Value.string) ∧ Below B w w' := by
  by_cases hz : ts.length = 0
  · obtain ⟨ao1, c1, rfl⟩ := own_len h1
    have hts : ts = [] := List.eq_nil_of_length_eq_zero hz
    subst hts
    have HO : Hid (w.ownsRow B 9 1 (.slice ao1 0 c1) 0 []) := h1
    clear h1 hl hz
    go_enter Try.func18, Try.ntmps18
    go_wp2
    refine wp_loop_rounds 1 ?_
    rw [rounds_succ]
    go_wp2
    go_ret
    exact ⟨rfl, HO.out, Below.refl _ _⟩
  · obtain ⟨g1, c1, rfl⟩ := Joins.ownsRow_form h1 (by omega)
    have hg := (h1.lt g1 rfl).1
    go_enter Try.func18, Try.ntmps18
    go_wp2
    go_loopw [1, 5] (fun kv i wr => ∃ (j : Nat), j ≤ ts.length ∧ i = .int .i64 j ∧ kv = .int .i64 ((k0 + j : Nat) : Int) ∧ Hid (wr.ownsRow B 9 1 (.slice (some ⟨g1, 0, none⟩) ts.length c1) ts.length ((marks k0 j ++ ts.drop j).map Value.string)) ∧ Below B w wr) (fun _ i _ => ts.length - (intOf i).toNat)
    case atStart => exact ⟨0, by omega, rfl, rfl, by unfold Hid; simpa [marks] using h1, Below.refl _ _⟩
    case round =>
      obtain ⟨j, hj, rfl, rfl, HO, hb⟩ := hrel
      clear h1
      by_cases hlt : j < ts.length
      · have hM := fun w => markText_any (k0 + j) w (by omega) (by omega)
        go_wp2_with (go_at_call 32; refine (hM _).mono ?_; rintro e w1 ⟨rfl, hb1⟩; have ho1 := own_below HO.out hb1; have hf1 := ho1.frozenAt j; have hc1 := own_has ho1 hlt; obtain ⟨x, hc1⟩ := hc1; clear ho1)
        go_roundw
        case rel => exact ⟨j + 1, by omega, by go_num, by go_num, mark_next HO.out hb1 hlt, (hb.trans (hb1.mono (Nat.le_trans hB hb.size))).setCell hg _⟩
        case measure => simp [intOf]; omega
      · have hj' : j = ts.length := by omega
        subst hj'
        have HO' : Hid (wr.ownsRow B 9 1 (.slice (some ⟨g1, 0, none⟩) ts.length c1) ts.length ((marks k0 ts.length).map Value.string)) := by
          have := HO.out; rw [List.drop_length, List.append_nil] at this; exact this
        clear HO
        go_wp2
        go_ret
        exact ⟨rfl, HO'.out, hb⟩

end Go.Proofs.Ytcgbbdplnlnnjaa
