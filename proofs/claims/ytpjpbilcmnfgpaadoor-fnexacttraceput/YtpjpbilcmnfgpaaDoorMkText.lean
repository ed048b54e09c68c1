/- Contract of the law's own helper markText. -/
import Derived.Test.YtpjpbilcmnfgpaaDoorBase
import Derived.BigQuiet
import Derived.Laws.IdiomStrings
namespace Go.Proofs.YtpjpbilcmnfgpaaDoor
open Go.RowKit
set_option maxHeartbeats 400000
set_option linter.unusedVariables false

def dgs : Nat → Nat → List UInt8 → List UInt8
  | 0, _, acc => acc
  | f + 1, n, acc => if n = 0 then acc else dgs f (n / 10) (UInt8.ofNat (48 + n % 10) :: acc)
def mt (k : Nat) : ByteArray := bytesOf (109 :: dgs 20 k [])

theorem one_byte (W : World) (n : Int) (c : UInt8) (hn : (c.toNat : Int) = n) :
    (convert 36 9 (.slice (some ⟨W.heap.size, 0, none⟩) 1 1)).run Tryd.prog (W.alloc (.cells #[.int .u8 n] 5)) = .ok (.string (bytesOf [c])) (W.alloc (.cells #[.int .u8 n] 5)) := by
  subst hn
  refine run_convert_bytes_back (P := Tryd.prog) _ 36 9 5 ⟨W.heap.size, 0, none⟩ 1 [c] Tryd.underlying36 Tryd.underlying5 Tryd.underlying9 ?_
  intro j hj
  have hj0 : j = 0 := by simp at hj; omega
  subst hj0
  simp [Addr.add]

theorem dgs_zero (f : Nat) (acc : List UInt8) : dgs f 0 acc = acc := by cases f <;> simp [dgs]
theorem dgs_step (f m : Nat) (acc : List UInt8) (h : m ≠ 0) : dgs (f + 1) m acc = dgs f (m / 10) (UInt8.ofNat (48 + m % 10) :: acc) := by
  simp [dgs, h]
end Go.Proofs.YtpjpbilcmnfgpaaDoor
