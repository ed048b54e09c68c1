/- Contracts: DrawNameOk, DrawTypeOk: one of the texts that they list. -/
import Derived.Test.YtdlgifpiblcaeaaDrawTwo
namespace Go.Proofs.Ytdlgifpiblcaeaa
open Mx Go.RowKit
set_option maxHeartbeats 400000

def nameList : List ByteArray := [⟨#[]⟩, ⟨#[97]⟩, ⟨#[65, 98, 99]⟩, ⟨#[97, 49]⟩, ⟨#[49, 97]⟩, ⟨#[97, 98, 99, 100, 101, 102, 103, 104]⟩, ⟨#[97, 98, 99, 100, 101, 102, 103, 104, 105]⟩, ⟨#[97, 95, 98]⟩, ⟨#[73]⟩, ⟨#[195, 169]⟩]
def typeList : List ByteArray := [⟨#[]⟩, ⟨#[73]⟩, ⟨#[73, 73]⟩, ⟨#[76, 65, 59]⟩, ⟨#[76, 65]⟩, ⟨#[76, 59]⟩, ⟨#[76, 49, 59]⟩, ⟨#[76, 65, 59, 73]⟩, ⟨#[86]⟩, ⟨#[76, 97, 98, 99, 100, 101, 102, 103, 104, 59]⟩, ⟨#[76, 97, 98, 99, 100, 101, 102, 103, 104, 105, 59]⟩]

/-- 'of' over a list that was just written out -/
theorem of_lit (B b p : Nat) (w1 : World) (ts : List ByteArray) (cs : Array Value) (n : Nat) (hcs : cs = (ts.map Value.string).toArray) (hn : n = ts.length) (h : Rd B w1 b p) (hb : b < w1.heap.size) (hB : B ≤ w1.heap.size) (hp : p ≤ 1000000000) (h1 : 1 ≤ n) (h2 : n ≤ 1000) :
    Calls Try.prog 21 #[.pointer (some ⟨b, 0, none⟩), .slice (some ⟨w1.heap.size, 0, none⟩) n n] (w1.alloc (.cells cs 9)) fun e w' => OfPost B (w1.alloc (.cells cs 9)) b p ts e w' := by
  subst hcs hn
  have ho := World.ownsRow_lit (base := 0) (e := 9) (size := 1) w1 (ts.map Value.string).toArray ts.length (Nat.zero_le _) (by unfold maxLen; omega) (by simp)
  have hr1 : Rd B (w1.alloc (.cells (ts.map Value.string).toArray 9)) b p := h.keep (Below.heap_alloc _ _ _ (by omega)) (fun k hk => Below.heap_alloc _ _ _ (by omega))
  exact of_any B b p w1.heap.size ts.length 0 ts _ hr1 hp h1 h2 (by omega) (by simpa using ho)

theorem DrawNameOk_any (ao : Option Addr) (len cap : Nat) (w : World) (h : Code8 w ao len cap) :
    Calls Try.prog 8 #[.slice ao len cap] w fun e w' => ∃ x ∈ nameList, e = .returned (.string x) ∧ Below w.heap.size w w' := by
  go_enter Try.func8, Try.ntmps8
  go_wp2_with fail
  refine (l15Open_any ao len cap w h).mono ?_
  rintro e w1 ⟨rfl, hr, hb, hs⟩
  go_wp2_with fail
  refine (of_lit w.heap.size w.heap.size 0 w1 nameList _ 10 rfl rfl hr (by omega) (by omega) (by omega) (by omega) (by omega)).mono ?_
  rintro e w2 ⟨x, hx, rfl, hr2, hg2⟩
  have HB : Hid (Below w.heap.size w w2) := below_grown (hb.alloc (by omega) _) hg2 (by simp; omega) (Nat.le_refl _)
  clear hr2 hg2 hr hb
  go_wp2
  go_ret
  exact ⟨x, hx, rfl, HB.out⟩

theorem DrawTypeOk_any (ao : Option Addr) (len cap : Nat) (w : World) (h : Code8 w ao len cap) :
    Calls Try.prog 9 #[.slice ao len cap] w fun e w' => ∃ x ∈ typeList, e = .returned (.string x) ∧ Below w.heap.size w w' := by
  go_enter Try.func9, Try.ntmps9
  go_wp2_with fail
  refine (l15Open_any ao len cap w h).mono ?_
  rintro e w1 ⟨rfl, hr, hb, hs⟩
  go_wp2_with fail
  refine (of_lit w.heap.size w.heap.size 0 w1 typeList _ 11 rfl rfl hr (by omega) (by omega) (by omega) (by omega) (by omega)).mono ?_
  rintro e w2 ⟨x, hx, rfl, hr2, hg2⟩
  have HB : Hid (Below w.heap.size w w2) := below_grown (hb.alloc (by omega) _) hg2 (by simp; omega) (Nat.le_refl _)
  clear hr2 hg2 hr hb
  go_wp2
  go_ret
  exact ⟨x, hx, rfl, HB.out⟩

end Go.Proofs.Ytdlgifpiblcaeaa
