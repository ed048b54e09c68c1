/- Contract: DrawDescOf: a short text. -/
import Derived.Test.YtdlgifpiblcaeaaDrawNames
namespace Go.Proofs.Ytdlgifpiblcaeaa
open Mx Go.RowKit
set_option maxHeartbeats 400000

theorem own_int {w : World} {B : Nat} {g cap : Nat} {ts : List Int} (h : w.ownsRow B 3 1 (.slice (some ⟨g, 0, none⟩) ts.length cap) ts.length (ts.map (Value.int .i64))) {k : Nat} (hk : k < ts.length) :
    w.cell? ⟨g, k, none⟩ = some (.int .i64 ts[k]) := by
  rw [h.cellAt k (by omega)]
  simp [hk]

def OnePost (B : Nat) (w : World) (b p : Nat) (ts : List Int) (e : Ending) (w' : World) : Prop :=
  ∃ x ∈ ts, e = .returned (.int .i64 x) ∧ Rd B w' b (p + 1) ∧ w.grownBy w' (some b)

theorem one_any (B b p : Nat) (g cap O : Nat) (ts : List Int) (w : World) (h : Rd B w b p) (hp : p ≤ 1000000000) (h1 : 1 ≤ ts.length) (h2 : ts.length ≤ 1000) (hg : g ≠ b)
    (ho : w.ownsRow O 3 1 (.slice (some ⟨g, 0, none⟩) ts.length cap) ts.length (ts.map (Value.int .i64))) :
    Calls Try.prog 29 #[.pointer (some ⟨b, 0, none⟩), .slice (some ⟨g, 0, none⟩) ts.length cap] w fun e w' => OnePost B w b p ts e w' := by
  go_enter Try.func29, Try.ntmps29
  go_wp2_with fail
  refine (pick_any B b p ts.length w h hp (by omega) (by omega)).mono ?_
  rintro e w1 ⟨x, rfl, hx0, hx1, hr, hgr⟩
  obtain ⟨k, rfl⟩ : ∃ k : Nat, x = k := ⟨x.toNat, by omega⟩
  have hk : k < ts.length := by omega
  have hc := own_int (ho.kept hgr (.inr (by simpa [Value.ownBlock] using hg))) hk
  have HP : Hid (OnePost B w b p ts (.returned (.int .i64 ts[k])) w1) := ⟨ts[k], List.getElem_mem _, rfl, hr, hgr⟩
  generalize ts[k] = y at hc HP
  clear hr hgr ho h
  go_wp2
  go_ret
  exact HP.out

theorem one_lit (B b p : Nat) (w1 : World) (ts : List Int) (cs : Array Value) (n : Nat) (hcs : cs = (ts.map (Value.int .i64)).toArray) (hn : n = ts.length) (h : Rd B w1 b p) (hb : b < w1.heap.size) (hB : B ≤ w1.heap.size) (hp : p ≤ 1000000000) (h1 : 1 ≤ n) (h2 : n ≤ 1000) :
    Calls Try.prog 29 #[.pointer (some ⟨b, 0, none⟩), .slice (some ⟨w1.heap.size, 0, none⟩) n n] (w1.alloc (.cells cs 3)) fun e w' => OnePost B (w1.alloc (.cells cs 3)) b p ts e w' := by
  subst hcs hn
  have ho := World.ownsRow_lit (base := 0) (e := 3) (size := 1) w1 (ts.map (Value.int .i64)).toArray ts.length (Nat.zero_le _) (by unfold maxLen; omega) (by simp)
  have hr1 : Rd B (w1.alloc (.cells (ts.map (Value.int .i64)).toArray 3)) b p := h.keep (Below.heap_alloc _ _ _ (by omega)) (fun k hk => Below.heap_alloc _ _ _ (by omega))
  exact one_any B b p w1.heap.size ts.length 0 ts _ hr1 hp h1 h2 (by omega) (by simpa using ho)

def manyList : List Int := [0, 1, 2, 3, 4, 4, 5]
def takeList : List ByteArray := [⟨#[73]⟩, ⟨#[76, 65, 59]⟩, ⟨#[76, 66, 99, 49, 59]⟩]
def backList : List ByteArray := [⟨#[86]⟩, ⟨#[73]⟩, ⟨#[76, 65, 59]⟩]
def bentList : List ByteArray := [⟨#[73]⟩, ⟨#[41]⟩, ⟨#[40]⟩, ⟨#[59]⟩, ⟨#[86]⟩, ⟨#[76]⟩]
theorem many_facts : ∀ n ∈ manyList, 0 ≤ n ∧ n ≤ 5 := by decide
theorem take_facts : ∀ t ∈ takeList, t.size ≤ 5 := by decide
theorem back_facts : ∀ t ∈ backList, t.size ≤ 5 := by decide
theorem bent_facts : ∀ t ∈ bentList, t.size ≤ 5 := by decide

/-- a step of drawing hands the reader on -/
theorem rd_next {B b p : Nat} {w w1 w2 : World} {o : Obj} (hb : Below B w w1) (hB : B ≤ w1.heap.size) (hbb : b < w1.heap.size) (hr2 : Rd B w2 b (p + 1)) (hg2 : (w1.alloc o).grownBy w2 (some b)) : Below B w w2 ∧ b < w2.heap.size ∧ B ≤ w2.heap.size := by
  have h1 := hg2.size
  simp at h1
  exact ⟨below_grown (hb.alloc hB _) hg2 (by simp; omega) hr2.1, by omega, by omega⟩

theorem DrawDescOf_any (ao : Option Addr) (len cap : Nat) (w : World) (h : Code8 w ao len cap) :
    Calls Try.prog 15 #[.slice ao len cap] w fun e w' => ∃ x : ByteArray, x.size ≤ 100 ∧ e = .returned (.string x) ∧ Below w.heap.size w w' := by
  go_enter Try.func15, Try.ntmps15
  go_wp2_with fail
  refine (l15Open_any ao len cap w h).mono ?_
  rintro e w1 ⟨rfl, hr, hb, hs⟩
  go_wp2_with fail
  refine (one_lit w.heap.size w.heap.size 0 w1 manyList _ 7 rfl rfl hr (by omega) (by omega) (by omega) (by omega) (by omega)).mono ?_
  rintro e w2 ⟨n, hn, rfl, hr2, hg2⟩
  obtain ⟨hb2, hbb2, hB2⟩ := rd_next hb (by omega) (by omega) hr2 hg2
  obtain ⟨hn0, hn5⟩ := many_facts n hn
  clear hr hb hs hn hg2
  go_wp2_with fail
  go_loopw [4, 5] (fun sv nv wr => ∃ (x : ByteArray) (m : Int) (p : Nat), sv = .string x ∧ nv = .int .i64 m ∧ 0 ≤ m ∧ m ≤ 5 ∧ (x.size : Int) ≤ 26 - 5 * m ∧ (p : Int) ≤ 6 - m ∧ Rd w.heap.size wr w.heap.size p ∧ Below w.heap.size w wr ∧ w.heap.size < wr.heap.size) (fun _ nv _ => (intOf nv).toNat)
  case atStart => exact ⟨_, n, 1, rfl, rfl, hn0, hn5, by simp [ByteArray.size]; omega, by omega, hr2, hb2, hbb2⟩
  case round =>
    obtain ⟨x, m, p, rfl, rfl, hm0, hm5, hx, hp, hr, hb, hbb⟩ := hrel
    clear hr2 hb2 hbb2 hB2 hn0 hn5
    by_cases hlt : 0 < m
    · go_wp2_with fail
      refine (of_lit w.heap.size w.heap.size p wr takeList _ 3 rfl rfl hr hbb (by omega) (by omega) (by omega) (by omega)).mono ?_
      rintro e w3 ⟨y, hy, rfl, hr3, hg3⟩
      obtain ⟨hb3, hbb3, hB3⟩ := rd_next hb (by omega) hbb hr3 hg3
      have hys := take_facts y hy
      clear hr hb hbb hg3 hy
      go_wp2
      go_roundw
      case rel => exact ⟨_, m - 1, p + 1, rfl, by go_num, by omega, by omega, by simp; omega, by omega, hr3, hb3, hbb3⟩
      case measure => simp [intOf]; omega
    · go_wp2_with fail
      refine (of_lit w.heap.size w.heap.size p wr backList _ 3 rfl rfl hr hbb (by omega) (by omega) (by omega) (by omega)).mono ?_
      rintro e w3 ⟨y, hy, rfl, hr3, hg3⟩
      obtain ⟨hb3, hbb3, hB3⟩ := rd_next hb (by omega) hbb hr3 hg3
      have hys := back_facts y hy
      clear hr hb hbb hg3 hy
      go_wp2_with fail
      refine (pick_any w.heap.size w.heap.size (p + 1) 4 w3 hr3 (by omega) (by omega) (by omega)).mono ?_
      rintro e w4 ⟨z, rfl, hz0, hz1, hr4, hg4⟩
      have hb4 := below_grown hb3 hg4 hB3 (Nat.le_refl _)
      have hbb4 : w.heap.size < w4.heap.size := Nat.lt_of_lt_of_le hbb3 hg4.size
      clear hr3 hb3 hbb3 hB3 hg4
      have hXs : (x ++ ({ data := #[41] } : ByteArray) ++ y).size ≤ 40 := by
        have e1 : ({ data := #[41] } : ByteArray).size = 1 := rfl
        rw [ByteArray.size_append, ByteArray.size_append, e1]; omega
      generalize x ++ ({ data := #[41] } : ByteArray) ++ y = X at *
      clear hx hys
      by_cases hz : z = 0
      · subst hz
        go_wp2_with fail
        refine (pick_any w.heap.size w.heap.size (p + 2) ((X.size : Int) + 1) w4 hr4 (by omega) (by omega) (by omega)).mono ?_
        rintro e w5 ⟨k, rfl, hk0, hk1, hr5, hg5⟩
        have hb5 := below_grown hb4 hg5 (by omega) (Nat.le_refl _)
        have hbb5 : w.heap.size < w5.heap.size := Nat.lt_of_lt_of_le hbb4 hg5.size
        obtain ⟨j, rfl⟩ : ∃ j : Nat, k = j := ⟨k.toNat, by omega⟩
        have hj : j ≤ X.size := by omega
        clear hr4 hb4 hbb4 hg5 hk0 hk1
        have hO : ∀ q, Calls Try.prog 21 #[.pointer (some ⟨w.heap.size, 0, none⟩), .slice (some ⟨w5.heap.size, 0, none⟩) 6 6] ((w5.alloc (.cells #[.string { data := #[73] }, .string { data := #[41] }, .string { data := #[40] }, .string { data := #[59] }, .string { data := #[86] }, .string { data := #[76] }] 9)).drewN q) fun e w' => ∃ y : ByteArray, e = .returned (.string y) ∧ y.size ≤ 5 ∧ Below w.heap.size w w' := fun q => by
          refine (of_lit w.heap.size w.heap.size (p + 3) (w5.drewN q) bentList _ 6 rfl rfl (hr5.keep rfl (fun _ _ => rfl)) hbb5 (by exact Nat.le_of_lt hbb5) (by omega) (by omega) (by omega)).mono ?_
          rintro e w6 ⟨y, hy, rfl, hr6, hg6⟩
          exact ⟨y, rfl, bent_facts y hy, (rd_next (w1 := w5.drewN q) (below_drewN hb5 q) (by exact Nat.le_of_lt hbb5) hbb5 hr6 hg6).1⟩
        clear hr5 hb5
        go_wp2_with fail
        go_region_with (go_at_call 21; refine (hO 1).mono ?_; rintro e w6 ⟨y, rfl, hy, hb6⟩)
        go_wp2
        go_ret
        refine ⟨_, ?_, rfl, hb6⟩
        rw [ByteArray.size_append, ByteArray.size_append, ByteArray.size_extract, ByteArray.size_extract]; omega
      · have hz' : (z == 0) = false := by rw [beq_eq_false_iff_ne]; exact hz
        go_wp2
        go_ret
        exact ⟨X, by omega, rfl, hb4⟩

end Go.Proofs.Ytdlgifpiblcaeaa
