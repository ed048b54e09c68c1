/- Contracts of the drawing functions of the specification: l15Open, pick, of, one. Of a drawn number only its range is said. -/
import Derived.Test.YtdlgifpiblcaeaaHeld
import Derived.Laws.BitsAllLaws
namespace Go.Proofs.Ytdlgifpiblcaeaa
open Mx Go.RowKit
set_option maxHeartbeats 400000

/-- the bytes that are drawn from: so many, each a byte, in a block below B -/
def Row8 (B : Nat) (w : World) (ao : Option Addr) (len : Nat) : Prop :=
  len = 0 ∨ ∃ bz off, ao = some ⟨bz, off, none⟩ ∧ bz < B ∧ ∀ i, i < len → ∃ z : Int, 0 ≤ z ∧ z ≤ 255 ∧ w.cell? ⟨bz, off + i, none⟩ = some (.int .u8 z)

/-- a reader at block b, that stands at place p -/
def Rd (B : Nat) (w : World) (b p : Nat) : Prop :=
  B ≤ b ∧ w.frozen? ⟨b, 1, none⟩ = false ∧ ∃ ao len cap, w.cell? ⟨b, 0, none⟩ = some (.slice ao len cap) ∧ w.cell? ⟨b, 1, none⟩ = some (.int .i64 (p : Int)) ∧ len ≤ 2000 ∧ Row8 B w ao len

def PickPost (B : Nat) (w : World) (b p : Nat) (n : Int) (e : Ending) (w' : World) : Prop :=
  ∃ x : Int, e = .returned (.int .i64 x) ∧ 0 ≤ x ∧ x < n ∧ Rd B w' b (p + 1) ∧ w.grownBy w' (some b)

/-- the row of bytes is as it was where its block is -/
theorem Row8.keep {B : Nat} {w w' : World} {ao : Option Addr} {len : Nat} (h : Row8 B w ao len) (hk : ∀ k, k < B → w'.heap[k]? = w.heap[k]?) : Row8 B w' ao len := by
  rcases h with hz | ⟨bz, off, rfl, hbz, hcell⟩
  · exact .inl hz
  · refine .inr ⟨bz, off, rfl, hbz, fun i hi => ?_⟩
    obtain ⟨z, h1, h2, h3⟩ := hcell i hi
    exact ⟨z, h1, h2, by rw [World.cell?_of_block (a := ⟨bz, off + i, none⟩) (hk bz hbz)]; exact h3⟩

theorem rd_store {B b p : Nat} {w : World} (h : Rd B w b p) : Rd B (w.setCell ⟨b, 1, none⟩ (.int .i64 ((p : Int) + 1))) b (p + 1) := by
  obtain ⟨hB, hf, ao, len, cap, hc0, hc1, hlen, hrow⟩ := h
  refine ⟨hB, by simpa using hf, ao, len, cap, by go_simp, by go_simp, hlen, hrow.keep (fun k hk => Below.heap_setCell _ _ _ _ (by show k ≠ b; omega))⟩

/-- a reader stands as it stood where neither its block nor its bytes were written -/
theorem Rd.keep {B b p : Nat} {w w' : World} (h : Rd B w b p) (hb : w'.heap[b]? = w.heap[b]?) (hk : ∀ k, k < B → w'.heap[k]? = w.heap[k]?) : Rd B w' b p := by
  obtain ⟨hB, hf, ao, len, cap, hc0, hc1, hlen, hrow⟩ := h
  refine ⟨hB, ?_, ao, len, cap, ?_, ?_, hlen, hrow.keep hk⟩
  · rw [World.frozen?_of_block (a := ⟨b, 1, none⟩) hb]; exact hf
  · rw [World.cell?_of_block (a := ⟨b, 0, none⟩) hb]; exact hc0
  · rw [World.cell?_of_block (a := ⟨b, 1, none⟩) hb]; exact hc1

theorem pick_post {B b p q : Nat} {n x : Int} {w : World} (h : Rd B w b p) (h1 : 0 ≤ x) (h2 : x < n) :
    PickPost B w b p n (.returned (.int .i64 x)) ((w.setCell ⟨b, 1, none⟩ (.int .i64 ((p : Int) + 1))).drewN q) :=
  have g := grown_set (w := w) (b := b) (o := 1) (u := .int .i64 ((p : Int) + 1))
  ⟨x, rfl, h1, h2, (rd_store h).keep rfl (fun _ _ => rfl), ⟨g.os, g.tape, g.output, g.size, g.block⟩⟩

theorem i64_xor_nat (a b : Nat) (ha : a < 2 ^ 62) (hb : b < 2 ^ 62) : bits .xor .i64 (a : Int) (b : Int) = ((a ^^^ b : Nat) : Int) := by
  have hx : a ^^^ b < 2 ^ 62 := Nat.xor_lt_two_pow ha hb
  show IntKind.i64.wrap ((BitVec.ofInt 64 (a : Int) ^^^ BitVec.ofInt 64 (b : Int)).toNat : Int) = _
  rw [BitVec.toNat_xor, ofInt_u64 a (by omega), ofInt_u64 b (by omega), IntKind.wrap_i64]
  omega
theorem xor_range (x n : Int) (h0 : 0 ≤ x) (h1 : x < 2 ^ 62) (hn : 1 ≤ n) : 0 ≤ (bits .xor .i64 x (x / 64)).tmod n ∧ (bits .xor .i64 x (x / 64)).tmod n < n := by
  obtain ⟨a, rfl⟩ := Int.eq_ofNat_of_zero_le h0
  have e : ((a : Int) / 64) = ((a / 64 : Nat) : Int) := by omega
  rw [e, i64_xor_nat a (a / 64) (by omega) (by omega)]
  exact ⟨Int.tmod_nonneg _ (by omega), Int.tmod_lt_of_pos _ (by omega)⟩

theorem pick_any (B b p : Nat) (n : Int) (w : World) (h : Rd B w b p) (hp : p ≤ 1000000000) (hn : 1 ≤ n) (hn2 : n ≤ 4294967296) :
    Calls Try.prog 30 #[.pointer (some ⟨b, 0, none⟩), .int .i64 n] w fun e w' => PickPost B w b p n e w' := by
  have H : Hid (Rd B w b p) := h
  obtain ⟨hB, hf, ao, len, cap, hc0, hc1, hlen, hrow⟩ := h
  have hn' : ¬ n < 1 := by omega
  by_cases hz : len = 0
  · subst hz
    go_enter Try.func30, Try.ntmps30
    go_wp2
    go_ret
    exact pick_post (q := 0) H.out (by omega) (by omega)
  rcases hrow with hz0 | ⟨bz, off, rfl, hbz, hcell⟩
  · exact absurd hz0 hz
  · have hz' : ((len : Int) == 0) = false := by rw [beq_eq_false_iff_ne]; omega
    by_cases hlt : p < len
    · obtain ⟨z, hz1, hz2, hz3⟩ := hcell p hlt
      have hne : ¬ bz = b := by omega
      clear hcell
      go_enter Try.func30, Try.ntmps30
      go_wp2
      go_ret
      exact pick_post (q := 0) H.out (Int.emod_nonneg _ (by omega)) (Int.emod_lt_of_pos _ (by omega))
    · obtain ⟨z, hz1, hz2, hz3⟩ := hcell (p % len) (Nat.mod_lt _ (by omega))
      obtain ⟨y, hy1, hy2, hy3⟩ := hcell ((p * 7 + 3) % len) (Nat.mod_lt _ (by omega))
      have hne : ¬ bz = b := by omega
      have hm1 : (p : Int) % (len : Int) < (len : Int) := Int.emod_lt_of_pos _ (by omega)
      have hm2 : ((p : Int) * 7 + 3) % (len : Int) < (len : Int) := Int.emod_lt_of_pos _ (by omega)
      have hm3 : 0 ≤ (p : Int) % (len : Int) := Int.emod_nonneg _ (by omega)
      have hm4 : 0 ≤ ((p : Int) * 7 + 3) % (len : Int) := Int.emod_nonneg _ (by omega)
      have hd1 : 0 ≤ (p : Int) / (len : Int) := Int.ediv_nonneg (by omega) (by omega)
      have hd2 : (p : Int) / (len : Int) ≤ 1000000000 := Int.le_trans (Int.ediv_le_self _ (by omega)) (by omega)
      clear hcell
      go_enter Try.func30, Try.ntmps30
      go_wp2
      go_quiet (fail)
      go_wp2
      go_ret
      have hx := xor_range (z * 131 + y * 1117 + (p : Int) * 29 + (p : Int) / (len : Int) * 53) n (by omega) (by omega) hn
      exact pick_post H.out hx.1 hx.2

end Go.Proofs.Ytdlgifpiblcaeaa
