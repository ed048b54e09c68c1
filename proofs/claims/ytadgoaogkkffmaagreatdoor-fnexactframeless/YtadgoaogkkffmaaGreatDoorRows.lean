/-
  NARROWER THAN 'FOR EVERY INPUT', by the rows' own cells (each row's printed sentence says how): FnExactClassCheck: laid · FnExactFrameLess: laid · FnExactFrameMany: laid · FnExactPackText: laid · FnExactPackUsed: laid · FnExactPackAdd: laid.
  DERIVED. THE GIVEN ROWS OF THIS SEAT. 6 by the template 'for every input the law returns true; each argument reads behind the call as it read before'; 0 by the template 'total and deterministic' (their statements: YtadgoaogkkffmaaGreatDoorTotals.lean).
  GIVEN WITH THE SEED: the statements are not yours to turn. If you find one false, say at which input.
  Laid BY PROGRAM, IN A SANDBOX (cutbox-rows.mjs): the forced cells as the released guide's own fill.sh prints them over the translation 72b031d8c80f1f44… (all of the seat's roots in one cut). By AI agents, Wed Nov 11 2026. No macro, syntax, notation, axiom, sorry.
-/
import Derived.Test.YtadgoaogkkffmaaGreatDoorChecked
import GoSem.Claim
import GoSem.ClaimJoined
import GoSem.ClaimMapViews
import Derived.JoinedTies
import Derived.KernelRfl
namespace Go.Proofs.YtadgoaogkkffmaaGreatDoor
/- THE CELL 'sum', in the pinned program and in every row, IS THE sha256 OF THE DUMP (.gsa) THAT YtadgoaogkkffmaaGreatDoorProg.lean LOADS. Nothing in Lean hashes anything: it is a label: what it is worth is what the hold of that sum in a sandbox is worth. -/
noncomputable def Tryz.pinned : Pinned := { name := "ytadgoaogkkffmaagreatdoor", sum := "72b031d8c80f1f440c0a4ddb77fcd08d0b92f3462a7f18674b475b0865535905", checked := Tryz.checked }
namespace Rows
def none {H : Type} : Left H := { results := [], args := [] }

/- WHAT THE LISTED PACKAGE-LEVEL VARIABLES READ AS WHEN THE CALL BEGINS. Each datum BY PROGRAM (the guide's laid-datum.mjs) off the statement by which the dump's own 'gosem.cut.vars' lays the variable. In a bare row this is a premise. The card (YtadgoaogkkffmaaGreatDoorCards.lean) ties it to the program's text. -/
def laid_errors_errorType {H : Type} : DataW H := .iface "internal/reflectlite.rtype" (.agg [.ptr (.lit (.string [101, 114, 114, 111, 114]))])
def laid_loop_example_stowage_impl_opBehind {H : Type} : DataW H := .agg [.lit (.int .i64 0), .lit (.int .i64 2), .lit (.int .i64 0), .lit (.int .i64 1), .lit (.int .i64 1), .lit (.int .i64 1), .lit (.int .i64 1), .lit (.int .i64 0), .lit (.int .i64 0), .lit (.int .i64 0), .lit (.int .i64 0), .lit (.int .i64 0), .lit (.int .i64 0), .lit (.int .i64 0), .lit (.int .i64 2), .lit (.int .i64 2), .lit (.int .i64 2), .lit (.int .i64 2), .lit (.int .i64 2), .lit (.int .i64 2), .lit (.int .i64 2), .lit (.int .i64 2), .lit (.int .i64 2), .lit (.int .i64 2), .lit (.int .i64 2), .lit (.int .i64 2), .lit (.int .i64 2), .lit (.int .i64 2), .lit (.int .i64 2), .lit (.int .i64 2), .lit (.int .i64 0), .lit (.int .i64 0), .lit (.int .i64 0), .lit (.int .i64 0), .lit (.int .i64 0)]
def laid_math_bits_deBruijn32tab {H : Type} : DataW H := .agg [.lit (.int .u8 0), .lit (.int .u8 1), .lit (.int .u8 28), .lit (.int .u8 2), .lit (.int .u8 29), .lit (.int .u8 14), .lit (.int .u8 24), .lit (.int .u8 3), .lit (.int .u8 30), .lit (.int .u8 22), .lit (.int .u8 20), .lit (.int .u8 15), .lit (.int .u8 25), .lit (.int .u8 17), .lit (.int .u8 4), .lit (.int .u8 8), .lit (.int .u8 31), .lit (.int .u8 27), .lit (.int .u8 13), .lit (.int .u8 23), .lit (.int .u8 21), .lit (.int .u8 19), .lit (.int .u8 16), .lit (.int .u8 7), .lit (.int .u8 26), .lit (.int .u8 12), .lit (.int .u8 18), .lit (.int .u8 6), .lit (.int .u8 11), .lit (.int .u8 5), .lit (.int .u8 10), .lit (.int .u8 9)]
def laid_math_bits_deBruijn64tab {H : Type} : DataW H := .agg [.lit (.int .u8 0), .lit (.int .u8 1), .lit (.int .u8 56), .lit (.int .u8 2), .lit (.int .u8 57), .lit (.int .u8 49), .lit (.int .u8 28), .lit (.int .u8 3), .lit (.int .u8 61), .lit (.int .u8 58), .lit (.int .u8 42), .lit (.int .u8 50), .lit (.int .u8 38), .lit (.int .u8 29), .lit (.int .u8 17), .lit (.int .u8 4), .lit (.int .u8 62), .lit (.int .u8 47), .lit (.int .u8 59), .lit (.int .u8 36), .lit (.int .u8 45), .lit (.int .u8 43), .lit (.int .u8 51), .lit (.int .u8 22), .lit (.int .u8 53), .lit (.int .u8 39), .lit (.int .u8 33), .lit (.int .u8 30), .lit (.int .u8 24), .lit (.int .u8 18), .lit (.int .u8 12), .lit (.int .u8 5), .lit (.int .u8 63), .lit (.int .u8 55), .lit (.int .u8 48), .lit (.int .u8 27), .lit (.int .u8 60), .lit (.int .u8 41), .lit (.int .u8 37), .lit (.int .u8 16), .lit (.int .u8 46), .lit (.int .u8 35), .lit (.int .u8 44), .lit (.int .u8 21), .lit (.int .u8 52), .lit (.int .u8 32), .lit (.int .u8 23), .lit (.int .u8 11), .lit (.int .u8 54), .lit (.int .u8 26), .lit (.int .u8 40), .lit (.int .u8 15), .lit (.int .u8 34), .lit (.int .u8 20), .lit (.int .u8 31), .lit (.int .u8 10), .lit (.int .u8 25), .lit (.int .u8 14), .lit (.int .u8 19), .lit (.int .u8 9), .lit (.int .u8 13), .lit (.int .u8 8), .lit (.int .u8 7), .lit (.int .u8 6)]
def laid_internal_strconv_uint64pow10 {H : Type} : DataW H := .agg [.lit (.int .u64 1), .lit (.int .u64 10), .lit (.int .u64 100), .lit (.int .u64 1000), .lit (.int .u64 10000), .lit (.int .u64 100000), .lit (.int .u64 1000000), .lit (.int .u64 10000000), .lit (.int .u64 100000000), .lit (.int .u64 1000000000), .lit (.int .u64 10000000000), .lit (.int .u64 100000000000), .lit (.int .u64 1000000000000), .lit (.int .u64 10000000000000), .lit (.int .u64 100000000000000), .lit (.int .u64 1000000000000000), .lit (.int .u64 10000000000000000), .lit (.int .u64 100000000000000000), .lit (.int .u64 1000000000000000000), .lit (.int .u64 10000000000000000000)]

/-- 'laws.FnExactClassCheck': WHATEVER THE INPUT: true; the input reads as it did. -/
def fnExactClassCheckSpec : ChangeSpec := { name := "fnExactClassCheck", vars := ["loop.example/stowage/impl.opBehind"], fn := fun _ => fun
  | [d, g1] => { results := [.lit (.bool true)], args := [d], vars := [g1] }
  | _ => none }
def fnExactClassCheckRow : OpenClaim := { program := "ytadgoaogkkffmaagreatdoor", sum := "72b031d8c80f1f440c0a4ddb77fcd08d0b92f3462a7f18674b475b0865535905", func := "loop.example/stowage/laws.FnExactClassCheck", spec := "fnExactClassCheck", inPlace := ["internal/abi.NoEscape", "internal/bytealg.IndexByteString", "internal/reflectlite.ValueOf", "(internal/reflectlite.Value).Type", "(internal/reflectlite.Value).IsNil", "internal/reflectlite.TypeOf", "(internal/reflectlite.Value).Elem", "(internal/reflectlite.Value).Set"], unfollowed := true, recurses := true, named := ["loop.example/stowage/impl.opBehind", "errors.errorType"], apart := false, laid := [("errors.errorType", laid_errors_errorType), ("loop.example/stowage/impl.opBehind", laid_loop_example_stowage_impl_opBehind)] }
def FnExactClassCheckSaid : Prop := fnExactClassCheckRow.holds Tryz.pinned (OpenSpec.ofChange fnExactClassCheckSpec)

/-- ITS FALSE NEIGHBOUR: 'it returns false'. Refute it at one input. -/
def fnExactClassCheckWrong : ChangeSpec := { name := "fnExactClassCheck", vars := ["loop.example/stowage/impl.opBehind"], fn := fun _ => fun
  | [d, g1] => { results := [.lit (.bool false)], args := [d], vars := [g1] }
  | _ => none }
def FnExactClassCheckWrongFalsely : Prop := fnExactClassCheckRow.holds Tryz.pinned (OpenSpec.ofChange fnExactClassCheckWrong)

/-- 'laws.FnExactFrameLess': WHATEVER THE INPUT: true; the input reads as it did. -/
def fnExactFrameLessSpec : ChangeSpec := { name := "fnExactFrameLess", vars := ["loop.example/stowage/impl.opBehind"], fn := fun _ => fun
  | [d, g1] => { results := [.lit (.bool true)], args := [d], vars := [g1] }
  | _ => none }
def fnExactFrameLessRow : OpenClaim := { program := "ytadgoaogkkffmaagreatdoor", sum := "72b031d8c80f1f440c0a4ddb77fcd08d0b92f3462a7f18674b475b0865535905", func := "loop.example/stowage/laws.FnExactFrameLess", spec := "fnExactFrameLess", inPlace := ["internal/abi.NoEscape", "internal/bytealg.IndexByteString", "internal/reflectlite.ValueOf", "(internal/reflectlite.Value).Type", "(internal/reflectlite.Value).IsNil", "internal/reflectlite.TypeOf", "(internal/reflectlite.Value).Elem", "(internal/reflectlite.Value).Set"], unfollowed := true, recurses := true, named := ["loop.example/stowage/impl.opBehind", "errors.errorType"], apart := false, laid := [("errors.errorType", laid_errors_errorType), ("loop.example/stowage/impl.opBehind", laid_loop_example_stowage_impl_opBehind)] }
def FnExactFrameLessSaid : Prop := fnExactFrameLessRow.holds Tryz.pinned (OpenSpec.ofChange fnExactFrameLessSpec)

/-- ITS FALSE NEIGHBOUR: 'it returns false'. Refute it at one input. -/
def fnExactFrameLessWrong : ChangeSpec := { name := "fnExactFrameLess", vars := ["loop.example/stowage/impl.opBehind"], fn := fun _ => fun
  | [d, g1] => { results := [.lit (.bool false)], args := [d], vars := [g1] }
  | _ => none }
def FnExactFrameLessWrongFalsely : Prop := fnExactFrameLessRow.holds Tryz.pinned (OpenSpec.ofChange fnExactFrameLessWrong)

/-- 'laws.FnExactFrameMany': WHATEVER THE INPUT: true; the input reads as it did. -/
def fnExactFrameManySpec : ChangeSpec := { name := "fnExactFrameMany", vars := ["loop.example/stowage/impl.opBehind"], fn := fun _ => fun
  | [d, g1] => { results := [.lit (.bool true)], args := [d], vars := [g1] }
  | _ => none }
def fnExactFrameManyRow : OpenClaim := { program := "ytadgoaogkkffmaagreatdoor", sum := "72b031d8c80f1f440c0a4ddb77fcd08d0b92f3462a7f18674b475b0865535905", func := "loop.example/stowage/laws.FnExactFrameMany", spec := "fnExactFrameMany", inPlace := ["internal/abi.NoEscape", "internal/bytealg.IndexByteString", "internal/reflectlite.ValueOf", "(internal/reflectlite.Value).Type", "(internal/reflectlite.Value).IsNil", "internal/reflectlite.TypeOf", "(internal/reflectlite.Value).Elem", "(internal/reflectlite.Value).Set"], unfollowed := true, recurses := true, named := ["loop.example/stowage/impl.opBehind", "errors.errorType"], apart := false, laid := [("errors.errorType", laid_errors_errorType), ("loop.example/stowage/impl.opBehind", laid_loop_example_stowage_impl_opBehind)] }
def FnExactFrameManySaid : Prop := fnExactFrameManyRow.holds Tryz.pinned (OpenSpec.ofChange fnExactFrameManySpec)

/-- ITS FALSE NEIGHBOUR: 'it returns false'. Refute it at one input. -/
def fnExactFrameManyWrong : ChangeSpec := { name := "fnExactFrameMany", vars := ["loop.example/stowage/impl.opBehind"], fn := fun _ => fun
  | [d, g1] => { results := [.lit (.bool false)], args := [d], vars := [g1] }
  | _ => none }
def FnExactFrameManyWrongFalsely : Prop := fnExactFrameManyRow.holds Tryz.pinned (OpenSpec.ofChange fnExactFrameManyWrong)

/-- 'laws.FnExactPackText': WHATEVER THE INPUT: true; the input reads as it did. -/
def fnExactPackTextSpec : ChangeSpec := { name := "fnExactPackText", vars := ["loop.example/stowage/impl.opBehind"], fn := fun _ => fun
  | [d1, d2, g1] => { results := [.lit (.bool true)], args := [d1, d2], vars := [g1] }
  | _ => none }
def fnExactPackTextRow : OpenClaim := { program := "ytadgoaogkkffmaagreatdoor", sum := "72b031d8c80f1f440c0a4ddb77fcd08d0b92f3462a7f18674b475b0865535905", func := "loop.example/stowage/laws.FnExactPackText", spec := "fnExactPackText", inPlace := ["internal/abi.NoEscape", "internal/bytealg.IndexByteString", "internal/reflectlite.ValueOf", "(internal/reflectlite.Value).Type", "(internal/reflectlite.Value).IsNil", "internal/reflectlite.TypeOf", "(internal/reflectlite.Value).Elem", "(internal/reflectlite.Value).Set"], unfollowed := true, recurses := true, named := ["loop.example/stowage/impl.opBehind", "errors.errorType", "internal/strconv.uint64pow10", "math/bits.deBruijn32tab", "math/bits.deBruijn64tab"], apart := false, laid := [("math/bits.deBruijn32tab", laid_math_bits_deBruijn32tab), ("math/bits.deBruijn64tab", laid_math_bits_deBruijn64tab), ("internal/strconv.uint64pow10", laid_internal_strconv_uint64pow10), ("errors.errorType", laid_errors_errorType), ("loop.example/stowage/impl.opBehind", laid_loop_example_stowage_impl_opBehind)] }
def FnExactPackTextSaid : Prop := fnExactPackTextRow.holds Tryz.pinned (OpenSpec.ofChange fnExactPackTextSpec)

/-- ITS FALSE NEIGHBOUR: 'it returns false'. Refute it at one input. -/
def fnExactPackTextWrong : ChangeSpec := { name := "fnExactPackText", vars := ["loop.example/stowage/impl.opBehind"], fn := fun _ => fun
  | [d1, d2, g1] => { results := [.lit (.bool false)], args := [d1, d2], vars := [g1] }
  | _ => none }
def FnExactPackTextWrongFalsely : Prop := fnExactPackTextRow.holds Tryz.pinned (OpenSpec.ofChange fnExactPackTextWrong)

/-- 'laws.FnExactPackUsed': WHATEVER THE INPUT: true; the input reads as it did. -/
def fnExactPackUsedSpec : ChangeSpec := { name := "fnExactPackUsed", vars := ["loop.example/stowage/impl.opBehind"], fn := fun _ => fun
  | [d, g1] => { results := [.lit (.bool true)], args := [d], vars := [g1] }
  | _ => none }
def fnExactPackUsedRow : OpenClaim := { program := "ytadgoaogkkffmaagreatdoor", sum := "72b031d8c80f1f440c0a4ddb77fcd08d0b92f3462a7f18674b475b0865535905", func := "loop.example/stowage/laws.FnExactPackUsed", spec := "fnExactPackUsed", inPlace := ["internal/abi.NoEscape", "internal/bytealg.IndexByteString", "internal/reflectlite.ValueOf", "(internal/reflectlite.Value).Type", "(internal/reflectlite.Value).IsNil", "internal/reflectlite.TypeOf", "(internal/reflectlite.Value).Elem", "(internal/reflectlite.Value).Set"], unfollowed := true, recurses := true, named := ["loop.example/stowage/impl.opBehind", "errors.errorType"], apart := false, laid := [("errors.errorType", laid_errors_errorType), ("loop.example/stowage/impl.opBehind", laid_loop_example_stowage_impl_opBehind)] }
def FnExactPackUsedSaid : Prop := fnExactPackUsedRow.holds Tryz.pinned (OpenSpec.ofChange fnExactPackUsedSpec)

/-- ITS FALSE NEIGHBOUR: 'it returns false'. Refute it at one input. -/
def fnExactPackUsedWrong : ChangeSpec := { name := "fnExactPackUsed", vars := ["loop.example/stowage/impl.opBehind"], fn := fun _ => fun
  | [d, g1] => { results := [.lit (.bool false)], args := [d], vars := [g1] }
  | _ => none }
def FnExactPackUsedWrongFalsely : Prop := fnExactPackUsedRow.holds Tryz.pinned (OpenSpec.ofChange fnExactPackUsedWrong)

/-- 'laws.FnExactPackAdd': WHATEVER THE INPUT: true; the input reads as it did. -/
def fnExactPackAddSpec : ChangeSpec := { name := "fnExactPackAdd", vars := ["loop.example/stowage/impl.opBehind"], fn := fun _ => fun
  | [d1, d2, g1] => { results := [.lit (.bool true)], args := [d1, d2], vars := [g1] }
  | _ => none }
def fnExactPackAddRow : OpenClaim := { program := "ytadgoaogkkffmaagreatdoor", sum := "72b031d8c80f1f440c0a4ddb77fcd08d0b92f3462a7f18674b475b0865535905", func := "loop.example/stowage/laws.FnExactPackAdd", spec := "fnExactPackAdd", inPlace := ["internal/abi.NoEscape", "internal/bytealg.IndexByteString", "internal/reflectlite.ValueOf", "(internal/reflectlite.Value).Type", "(internal/reflectlite.Value).IsNil", "internal/reflectlite.TypeOf", "(internal/reflectlite.Value).Elem", "(internal/reflectlite.Value).Set"], unfollowed := true, recurses := true, named := ["loop.example/stowage/impl.opBehind", "errors.errorType"], apart := false, laid := [("errors.errorType", laid_errors_errorType), ("loop.example/stowage/impl.opBehind", laid_loop_example_stowage_impl_opBehind)] }
def FnExactPackAddSaid : Prop := fnExactPackAddRow.holds Tryz.pinned (OpenSpec.ofChange fnExactPackAddSpec)

/-- ITS FALSE NEIGHBOUR: 'it returns false'. Refute it at one input. -/
def fnExactPackAddWrong : ChangeSpec := { name := "fnExactPackAdd", vars := ["loop.example/stowage/impl.opBehind"], fn := fun _ => fun
  | [d1, d2, g1] => { results := [.lit (.bool false)], args := [d1, d2], vars := [g1] }
  | _ => none }
def FnExactPackAddWrongFalsely : Prop := fnExactPackAddRow.holds Tryz.pinned (OpenSpec.ofChange fnExactPackAddWrong)

/- THE SECOND FORM. 'bulk': how many values and letters a reading holds, each counted each time it is reached (what is shared counts as often as it is met; a slice's spare places count too). A statement '..UptoSaid' is the law's where the arguments, and the package variables that the reading takes, are together of bulk at most 1048576: NARROWER than '..Said'. Prove '..Said' where nothing that the law and all that it calls make is longer than what came in: it says more and counts as full. Else prove '..UptoSaid'. A law counts once. -/
mutual
def uptoBulk {H : Type} : DataW H → Nat
  | .lit (.string bytes) => bytes.length + 1
  | .lit _ => 1
  | .nil => 1
  | .ptr d => uptoBulk d + 1
  | .slice elems spare => uptoBulkAll elems + uptoBulkAll spare + 1
  | .agg parts => uptoBulkAll parts + 1
  | .iface _ d => uptoBulk d + 1
  | .map entries => uptoBulkEntries entries + 1
  | .held _ => 1
def uptoBulkAll {H : Type} : List (DataW H) → Nat
  | [] => 0
  | d :: r => uptoBulk d + uptoBulkAll r
def uptoBulkEntries {H : Type} : List (Lit × DataW H) → Nat
  | [] => 0
  | x :: r => uptoBulkEntry x + uptoBulkEntries r
def uptoBulkEntry {H : Type} : Lit × DataW H → Nat
  | (.string bytes, d) => bytes.length + uptoBulk d + 1
  | (_, d) => uptoBulk d + 1
 end
def uptoSmall : (H : Type) → List (DataW H) → Bool := fun _ ds => decide (uptoBulkAll ds ≤ 1048576)
def OpenSpec.upto (s : _root_.Go.ChangeSpec) : _root_.Go.OpenSpec := { _root_.Go.OpenSpec.ofChange s with cond := some uptoSmall }

/-- 'laws.FnExactClassCheck', WHERE WHAT IT READS IS OF BULK AT MOST 1048576: true; the input reads as it did. -/
def fnExactClassCheckUptoRow : OpenClaim := { program := "ytadgoaogkkffmaagreatdoor", sum := "72b031d8c80f1f440c0a4ddb77fcd08d0b92f3462a7f18674b475b0865535905", func := "loop.example/stowage/laws.FnExactClassCheck", spec := "fnExactClassCheck", inPlace := ["internal/abi.NoEscape", "internal/bytealg.IndexByteString", "internal/reflectlite.ValueOf", "(internal/reflectlite.Value).Type", "(internal/reflectlite.Value).IsNil", "internal/reflectlite.TypeOf", "(internal/reflectlite.Value).Elem", "(internal/reflectlite.Value).Set"], unfollowed := true, recurses := true, named := ["loop.example/stowage/impl.opBehind", "errors.errorType"], apart := false, laid := [("errors.errorType", laid_errors_errorType), ("loop.example/stowage/impl.opBehind", laid_loop_example_stowage_impl_opBehind)], narrowed := true }
def FnExactClassCheckUptoSaid : Prop := fnExactClassCheckUptoRow.holds Tryz.pinned (OpenSpec.upto fnExactClassCheckSpec)

/-- 'laws.FnExactFrameLess', WHERE WHAT IT READS IS OF BULK AT MOST 1048576: true; the input reads as it did. -/
def fnExactFrameLessUptoRow : OpenClaim := { program := "ytadgoaogkkffmaagreatdoor", sum := "72b031d8c80f1f440c0a4ddb77fcd08d0b92f3462a7f18674b475b0865535905", func := "loop.example/stowage/laws.FnExactFrameLess", spec := "fnExactFrameLess", inPlace := ["internal/abi.NoEscape", "internal/bytealg.IndexByteString", "internal/reflectlite.ValueOf", "(internal/reflectlite.Value).Type", "(internal/reflectlite.Value).IsNil", "internal/reflectlite.TypeOf", "(internal/reflectlite.Value).Elem", "(internal/reflectlite.Value).Set"], unfollowed := true, recurses := true, named := ["loop.example/stowage/impl.opBehind", "errors.errorType"], apart := false, laid := [("errors.errorType", laid_errors_errorType), ("loop.example/stowage/impl.opBehind", laid_loop_example_stowage_impl_opBehind)], narrowed := true }
def FnExactFrameLessUptoSaid : Prop := fnExactFrameLessUptoRow.holds Tryz.pinned (OpenSpec.upto fnExactFrameLessSpec)

/-- 'laws.FnExactFrameMany', WHERE WHAT IT READS IS OF BULK AT MOST 1048576: true; the input reads as it did. -/
def fnExactFrameManyUptoRow : OpenClaim := { program := "ytadgoaogkkffmaagreatdoor", sum := "72b031d8c80f1f440c0a4ddb77fcd08d0b92f3462a7f18674b475b0865535905", func := "loop.example/stowage/laws.FnExactFrameMany", spec := "fnExactFrameMany", inPlace := ["internal/abi.NoEscape", "internal/bytealg.IndexByteString", "internal/reflectlite.ValueOf", "(internal/reflectlite.Value).Type", "(internal/reflectlite.Value).IsNil", "internal/reflectlite.TypeOf", "(internal/reflectlite.Value).Elem", "(internal/reflectlite.Value).Set"], unfollowed := true, recurses := true, named := ["loop.example/stowage/impl.opBehind", "errors.errorType"], apart := false, laid := [("errors.errorType", laid_errors_errorType), ("loop.example/stowage/impl.opBehind", laid_loop_example_stowage_impl_opBehind)], narrowed := true }
def FnExactFrameManyUptoSaid : Prop := fnExactFrameManyUptoRow.holds Tryz.pinned (OpenSpec.upto fnExactFrameManySpec)

/-- 'laws.FnExactPackText', WHERE WHAT IT READS IS OF BULK AT MOST 1048576: true; the input reads as it did. -/
def fnExactPackTextUptoRow : OpenClaim := { program := "ytadgoaogkkffmaagreatdoor", sum := "72b031d8c80f1f440c0a4ddb77fcd08d0b92f3462a7f18674b475b0865535905", func := "loop.example/stowage/laws.FnExactPackText", spec := "fnExactPackText", inPlace := ["internal/abi.NoEscape", "internal/bytealg.IndexByteString", "internal/reflectlite.ValueOf", "(internal/reflectlite.Value).Type", "(internal/reflectlite.Value).IsNil", "internal/reflectlite.TypeOf", "(internal/reflectlite.Value).Elem", "(internal/reflectlite.Value).Set"], unfollowed := true, recurses := true, named := ["loop.example/stowage/impl.opBehind", "errors.errorType", "internal/strconv.uint64pow10", "math/bits.deBruijn32tab", "math/bits.deBruijn64tab"], apart := false, laid := [("math/bits.deBruijn32tab", laid_math_bits_deBruijn32tab), ("math/bits.deBruijn64tab", laid_math_bits_deBruijn64tab), ("internal/strconv.uint64pow10", laid_internal_strconv_uint64pow10), ("errors.errorType", laid_errors_errorType), ("loop.example/stowage/impl.opBehind", laid_loop_example_stowage_impl_opBehind)], narrowed := true }
def FnExactPackTextUptoSaid : Prop := fnExactPackTextUptoRow.holds Tryz.pinned (OpenSpec.upto fnExactPackTextSpec)

/-- 'laws.FnExactPackUsed', WHERE WHAT IT READS IS OF BULK AT MOST 1048576: true; the input reads as it did. -/
def fnExactPackUsedUptoRow : OpenClaim := { program := "ytadgoaogkkffmaagreatdoor", sum := "72b031d8c80f1f440c0a4ddb77fcd08d0b92f3462a7f18674b475b0865535905", func := "loop.example/stowage/laws.FnExactPackUsed", spec := "fnExactPackUsed", inPlace := ["internal/abi.NoEscape", "internal/bytealg.IndexByteString", "internal/reflectlite.ValueOf", "(internal/reflectlite.Value).Type", "(internal/reflectlite.Value).IsNil", "internal/reflectlite.TypeOf", "(internal/reflectlite.Value).Elem", "(internal/reflectlite.Value).Set"], unfollowed := true, recurses := true, named := ["loop.example/stowage/impl.opBehind", "errors.errorType"], apart := false, laid := [("errors.errorType", laid_errors_errorType), ("loop.example/stowage/impl.opBehind", laid_loop_example_stowage_impl_opBehind)], narrowed := true }
def FnExactPackUsedUptoSaid : Prop := fnExactPackUsedUptoRow.holds Tryz.pinned (OpenSpec.upto fnExactPackUsedSpec)

/-- 'laws.FnExactPackAdd', WHERE WHAT IT READS IS OF BULK AT MOST 1048576: true; the input reads as it did. -/
def fnExactPackAddUptoRow : OpenClaim := { program := "ytadgoaogkkffmaagreatdoor", sum := "72b031d8c80f1f440c0a4ddb77fcd08d0b92f3462a7f18674b475b0865535905", func := "loop.example/stowage/laws.FnExactPackAdd", spec := "fnExactPackAdd", inPlace := ["internal/abi.NoEscape", "internal/bytealg.IndexByteString", "internal/reflectlite.ValueOf", "(internal/reflectlite.Value).Type", "(internal/reflectlite.Value).IsNil", "internal/reflectlite.TypeOf", "(internal/reflectlite.Value).Elem", "(internal/reflectlite.Value).Set"], unfollowed := true, recurses := true, named := ["loop.example/stowage/impl.opBehind", "errors.errorType"], apart := false, laid := [("errors.errorType", laid_errors_errorType), ("loop.example/stowage/impl.opBehind", laid_loop_example_stowage_impl_opBehind)], narrowed := true }
def FnExactPackAddUptoSaid : Prop := fnExactPackAddUptoRow.holds Tryz.pinned (OpenSpec.upto fnExactPackAddSpec)

end Rows
end Go.Proofs.YtadgoaogkkffmaaGreatDoor
