/- The code's entries of a pool: what entryOf makes of an entry. -/
import Derived.Test.YtbpefgkhplicoaaPoolMath
namespace Go.Proofs.Ytbpefgkhplicoaa
open Mx Go.RowKit
set_option maxHeartbeats 1000000
set_option maxRecDepth 20000
set_option linter.unusedVariables false

def ifc (t : C4) : Value :=
  if t.kind = 1 then .iface 57 (.agg #[.string t.text, .bool (decide (t.a = 0) && decide (t.b = 0))])
  else if t.kind = 2 then .iface 59 (.agg #[.int .i64 t.a, .bool (t.text.toList.isEmpty && decide (t.b = 0))])
  else if t.kind = 3 then .iface 61 (.agg #[.int .i64 t.a, .int .i64 t.b, .bool t.text.toList.isEmpty])
  else if t.kind = 4 then .iface 63 (.agg #[.int .i64 t.a, .int .i64 t.b, .bool t.text.toList.isEmpty])
  else if t.kind = 5 ∨ t.kind = 6 then .iface 64 (.agg #[.int .i64 t.a, .int .i64 t.b, .bool t.text.toList.isEmpty])
  else .iface 66 (.agg #[])

theorem entryOf_any (t : C4) (w : World) :
    Calls Try.prog 22 #[.agg #[.int .i64 t.kind, .string t.text, .int .i64 t.a, .int .i64 t.b]] w fun e w' => e = .returned (ifc t) ∧ Below w.heap.size w w' := by
  obtain ⟨R, HR⟩ : ∃ R, Hid (ifc t = R) := ⟨_, rfl⟩
  rw [HR.out]
  go_enter Try.func22, Try.ntmps22
  go_wp2
  all_goals go_ret
  all_goals refine ⟨?_, by go_grown⟩
  all_goals (rw [← HR.out]; unfold ifc; clear HR; simp_all)
  all_goals rfl

end Go.Proofs.Ytbpefgkhplicoaa
