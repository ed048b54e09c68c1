/- Contract of the law's own helper markText. -/
import Derived.Test.YtdlgifpiblcaeaaBase
import Derived.BigQuiet
import Derived.Laws.IdiomStrings
namespace Go.Proofs.Ytdlgifpiblcaeaa
open Go.RowKit
set_option maxHeartbeats 400000
set_option linter.unusedVariables false

def dgs : Nat → Nat → List UInt8 → List UInt8
  | 0, _, acc => acc
  | f + 1, n, acc => if n = 0 then acc else dgs f (n / 10) (UInt8.ofNat (48 + n % 10) :: acc)
def mt (k : Nat) : ByteArray := bytesOf (109 :: dgs 20 k [])

theorem one_byte (W : World) (n : Int) (c : UInt8) (hn : (c.toNat : Int) = n) :
    (convert 22 9 (.slice (some ⟨W.heap.size, 0, none⟩) 1 1)).run Try.prog (W.alloc (.cells #[.int .u8 n] 5)) = .ok (.string (bytesOf [c])) (W.alloc (.cells #[.int .u8 n] 5)) := by
  subst hn
  refine run_convert_bytes_back (P := Try.prog) _ 22 9 5 ⟨W.heap.size, 0, none⟩ 1 [c] Try.underlying22 Try.underlying5 Try.underlying9 ?_
  intro j hj
  have hj0 : j = 0 := by simp at hj; omega
  subst hj0
  simp [Addr.add]

theorem dgs_zero (f : Nat) (acc : List UInt8) : dgs f 0 acc = acc := by cases f <;> simp [dgs]
theorem dgs_step (f m : Nat) (acc : List UInt8) (h : m ≠ 0) : dgs (f + 1) m acc = dgs f (m / 10) (UInt8.ofNat (48 + m % 10) :: acc) := by
  simp [dgs, h]
theorem markText_any (k : Nat) (w : World) (h0 : 0 < k) (hk : k ≤ 4611686018427387904) :
    Calls Try.prog 32 #[.int .i64 (k : Int)] w fun e w' => e = .returned (.string (mt k)) ∧ Below w.heap.size w w' := by
  have h0' : ¬ (k : Int) ≤ 0 := by omega
  go_enter Try.func32, Try.ntmps32
  go_wp2
  go_loopw [0, 3] (fun i s wr => ∃ (f m : Nat) (acc : List UInt8), i = .int .i64 m ∧ s = .string (bytesOf acc) ∧ m ≤ 4611686018427387904 ∧ Hid (m < 10 ^ f) ∧ f + acc.length = 20 ∧ Hid (dgs 20 k [] = dgs f m acc) ∧ Below w.heap.size w wr) (fun i _ _ => (intOf i).toNat)
  case atStart => exact ⟨20, k, [], rfl, rfl, hk, by unfold Hid; omega, rfl, rfl, Below.refl _ _⟩
  case round =>
    obtain ⟨f, m, acc, rfl, rfl, hm, HF, hl, HD, hb⟩ := hrel
    have hsz : (bytesOf acc).size ≤ 20 := by rw [bytes_size]; omega
    by_cases hz : m = 0
    · subst hz
      have HR : Hid (({ data := #[109] } : ByteArray) ++ bytesOf acc = mt k) := by
        unfold Hid mt
        rw [HD.out, dgs_zero]
        exact bytes_app [109] acc
      go_wp2
      go_ret
      exact ⟨ret_str HR.out, hb⟩
    · have hz' : (0 : Int) < (m : Int) := by omega
      obtain ⟨g, rfl⟩ : ∃ g, f = g + 1 := by
        cases f with
        | zero => exfalso; have := HF.out; simp at this; exact hz this
        | succ g => exact ⟨g, rfl⟩
      obtain ⟨c, HC⟩ : ∃ c, Hid (UInt8.ofNat (48 + m % 10) = c) := ⟨_, rfl⟩
      have hcv := fun W => one_byte W (48 + (m : Int) % 10) c (by rw [← HC.out]; simp; omega)
      have HS : Hid (dgs 20 k [] = dgs g (m / 10) (c :: acc)) := by
        unfold Hid; rw [HD.out, dgs_step _ _ _ hz, HC.out]
      have HG : Hid (m / 10 < 10 ^ g) := by
        unfold Hid
        have := HF.out
        rw [Nat.pow_succ] at this
        omega
      have hs1 : (bytesOf [c]).size ≤ 1 := by rw [bytes_size]; simp
      have HA : Hid (bytesOf [c] ++ bytesOf acc = bytesOf (c :: acc)) := bytes_app [_] acc
      clear HD HF hz HC
      go_wp2
      go_roundw
      case rel => exact ⟨g, m / 10, c :: acc, by go_num, by rw [HA.out], by omega, HG, by simp; omega, HS, hb.alloc hb.size _⟩
      case measure => simp [intOf]; omega

end Go.Proofs.Ytdlgifpiblcaeaa
