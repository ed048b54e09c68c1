/- Contracts: l15Open, of, one; DrawNameOk, DrawTypeOk. -/
import Derived.Test.YtdlgifpiblcaeaaDraw
namespace Go.Proofs.Ytdlgifpiblcaeaa
open Mx Go.RowKit
set_option maxHeartbeats 400000

/-- a slice of bytes that came in -/
def Code8 (w : World) (ao : Option Addr) (len cap : Nat) : Prop := len ≤ cap ∧ cap ≤ maxLen ∧ Row8 w.heap.size w ao len

theorem Row8.less {B : Nat} {w : World} {ao : Option Addr} {len m : Nat} (h : Row8 B w ao len) (hm : m ≤ len) : Row8 B w ao m := by
  rcases h with hz | ⟨bz, off, rfl, hbz, hcell⟩
  · exact .inl (by omega)
  · exact .inr ⟨bz, off, rfl, hbz, fun i hi => hcell i (by omega)⟩

theorem rd_new {w : World} {ao : Option Addr} {len cap : Nat} (h : Row8 w.heap.size w ao len) (hl : len ≤ 2000) :
    Rd w.heap.size (w.alloc (.cells #[.slice ao len cap, .int .i64 0] 44)) w.heap.size 0 := by
  refine ⟨Nat.le_refl _, by simp, ao, len, cap, by simp, by simp, hl, h.keep (fun k hk => Below.heap_alloc _ _ _ hk)⟩

theorem l15Open_any (ao : Option Addr) (len cap : Nat) (w : World) (h : Code8 w ao len cap) :
    Calls Try.prog 20 #[.slice ao len cap] w fun e w' => e = .returned (.pointer (some ⟨w.heap.size, 0, none⟩)) ∧ Rd w.heap.size w' w.heap.size 0 ∧ Below w.heap.size w w' ∧ w.heap.size + 1 ≤ w'.heap.size := by
  obtain ⟨hlc, hcm, hrow⟩ := h
  unfold maxLen at hcm
  by_cases hlt : 2000 < len
  · rcases hrow with hz0 | ⟨bz, off, rfl, hbz, hcell⟩
    · omega
    · have H := rd_new (w := w) (cap := cap) (Row8.less (len := len) (m := 2000) (.inr ⟨bz, off, rfl, hbz, hcell⟩) (by omega)) (by omega)
      have HH : Hid (Rd w.heap.size (w.alloc (.cells #[.slice (some ⟨bz, off, none⟩) 2000 cap, .int .i64 0] 44)) w.heap.size 0) := H
      clear H hcell
      go_enter Try.func20, Try.ntmps20
      go_wp2
      go_ret
      exact ⟨rfl, HH.out, (Below.refl _ _).alloc (Nat.le_refl _) _, by simp⟩
  · have HH : Hid (Rd w.heap.size (w.alloc (.cells #[.slice ao len cap, .int .i64 0] 44)) w.heap.size 0) := rd_new hrow (by omega)
    clear hrow
    go_enter Try.func20, Try.ntmps20
    go_wp2
    go_ret
    exact ⟨rfl, HH.out, (Below.refl _ _).alloc (Nat.le_refl _) _, by simp⟩

def OfPost (B : Nat) (w : World) (b p : Nat) (ts : List ByteArray) (e : Ending) (w' : World) : Prop :=
  ∃ x ∈ ts, e = .returned (.string x) ∧ Rd B w' b (p + 1) ∧ w.grownBy w' (some b)

theorem of_any (B b p : Nat) (g cap O : Nat) (ts : List ByteArray) (w : World) (h : Rd B w b p) (hp : p ≤ 1000000000) (h1 : 1 ≤ ts.length) (h2 : ts.length ≤ 1000) (hg : g ≠ b)
    (ho : w.ownsRow O 9 1 (.slice (some ⟨g, 0, none⟩) ts.length cap) ts.length (ts.map Value.string)) :
    Calls Try.prog 21 #[.pointer (some ⟨b, 0, none⟩), .slice (some ⟨g, 0, none⟩) ts.length cap] w fun e w' => OfPost B w b p ts e w' := by
  go_enter Try.func21, Try.ntmps21
  go_wp2_with fail
  refine (pick_any B b p ts.length w h hp (by omega) (by omega)).mono ?_
  rintro e w1 ⟨x, rfl, hx0, hx1, hr, hgr⟩
  obtain ⟨k, rfl⟩ : ∃ k : Nat, x = k := ⟨x.toNat, by omega⟩
  have hk : k < ts.length := by omega
  have hc := own_at (ho.kept hgr (.inr (by simpa [Value.ownBlock] using hg))) hk
  have HP : Hid (OfPost B w b p ts (.returned (.string ts[k])) w1) := ⟨ts[k], List.getElem_mem _, rfl, hr, hgr⟩
  generalize ts[k] = y at hc HP
  clear hr hgr ho h
  go_wp2
  go_ret
  exact HP.out

end Go.Proofs.Ytdlgifpiblcaeaa
