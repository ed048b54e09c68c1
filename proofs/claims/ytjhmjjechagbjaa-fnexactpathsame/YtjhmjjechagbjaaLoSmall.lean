/- Small contracts on loaders: what the program and the specification ask of a name, a file, a way, a pick. -/
import Derived.Test.YtjhmjjechagbjaaNames
import Derived.Test.YtjhmjjechagbjaaEqLoaders
import Derived.Test.YtjhmjjechagbjaaRowPick
namespace Go.Proofs.Ytjhmjjechagbjaa
open Go.RowKit
set_option maxHeartbeats 1000000
set_option maxRecDepth 20000
set_option linter.unusedVariables false

def nmB (s : ByteArray) : Bool := Mx.nameB s.data.toList
def firstB (s : ByteArray) : Bool := (s.toList == [79, 98, 106]) || (s.toList == [69, 114, 114])
def inB (n lo hi : Int) : Bool := decide (lo ≤ n) && decide (n ≤ hi)
def fileB (f : MFile) : Bool := nmB f.name && (!firstB f.name && decide ((f.text.size : Int) ≤ 900))
def wayB (n : Nat) (y : MWay) : Bool := nmB y.name && inB y.to_ 0 ((n : Int) - 1)
def pickB (n : Nat) (p : MPick) : Bool := inB p.at_ 0 300 && (inB p.kind 1 2 && (inB p.loader 0 ((n : Int) - 1) && nmB p.name))

theorem isAtLoader_any (ao : Option Addr) (len cap : Nat) (n : Int) (w : World) (hl : len ≤ 9223372036854775807) :
    Calls Try.prog 40 #[.slice ao len cap, .int .i64 n] w fun e w' => e = .returned (.bool (inB n 0 ((len : Int) - 1))) ∧ w' = w := by
  go_enter Try.func40, Try.ntmps40
  go_wp2
  all_goals go_ret
  all_goals refine ⟨ret_bool ?_, rfl⟩
  all_goals (rw [Bool.eq_iff_iff]; simp [inB]; omega)
theorem isFirst_any (s : ByteArray) (w : World) :
    Calls Try.prog 42 #[.string s] w fun e w' => e = .returned (.bool (firstB s)) ∧ w' = w := by
  go_enter Try.func42, Try.ntmps42
  go_wp2
  all_goals go_ret
  all_goals refine ⟨ret_bool ?_, rfl⟩
  all_goals simp_all [firstB]
theorem l5Built_any (s : ByteArray) (w : World) :
    Calls Try.prog 33 #[.string s] w fun e w' => ∃ r : Int, e = .returned (.int .i64 r) ∧ (0 ≤ r ↔ firstB s = true) ∧ w' = w := by
  go_enter Try.func33, Try.ntmps33
  go_wp2
  all_goals go_ret
  all_goals refine ⟨_, rfl, ?_, rfl⟩
  all_goals simp_all [firstB]
theorem fileFine_any (f : MFile) (w : World) (hs : f.name.size ≤ maxLen) (ht : f.text.size ≤ maxLen) :
    Calls Try.prog 70 #[.agg #[.string f.name, .string f.text]] w fun e w' => e = .returned (.bool (fileB f)) ∧ Below w.heap.size w w' := by
  have hN := fun w => NameOk_any f.name w hs
  have hI := fun w => isFirst_any f.name w
  unfold maxLen at ht
  unfold fileB nmB
  generalize Mx.nameB f.name.data.toList = b at hN ⊢
  generalize firstB f.name = c at hI ⊢
  cases b <;> cases c
  all_goals
    go_enter Try.func70, Try.ntmps70
    go_wp2_with (first | (go_at_call 41; refine (hN _).mono ?_; rintro e w1 ⟨rfl, hw⟩; replace hw := hw.symm; subst hw) | (go_at_call 42; refine (hI _).mono ?_; rintro e w2 ⟨rfl, hw⟩; replace hw := hw.symm; subst hw))
  all_goals go_ret
  all_goals refine ⟨ret_bool ?_, by go_grown⟩
  all_goals simp
theorem wayFine_any (y : MWay) (ao : Option Addr) (len cap c : Nat) (w : World) (hs : y.name.size ≤ maxLen) (hl : len ≤ 9223372036854775807) (hc : w.cell? ⟨c, 0, none⟩ = some (.slice ao len cap)) (hlt : c < w.heap.size) :
    Calls Try.prog 65 #[.agg #[.string y.name, .int .i64 y.to_], .pointer (some ⟨c, 0, none⟩)] w fun e w' => e = .returned (.bool (wayB len y)) ∧ Below w.heap.size w w' := by
  have hN := fun w => NameOk_any y.name w hs
  have hI := fun w => isAtLoader_any ao len cap y.to_ w hl
  have hne : ¬ c = w.heap.size := by omega
  unfold wayB nmB
  generalize Mx.nameB y.name.data.toList = b at hN ⊢
  generalize inB y.to_ 0 ((len : Int) - 1) = d at hI ⊢
  cases b <;> cases d
  all_goals
    go_enter Try.func65, Try.ntmps65
    go_wp2_with (first | (go_at_call 41; refine (hN _).mono ?_; rintro e w1 ⟨rfl, hw⟩; replace hw := hw.symm; subst hw) | (go_at_call 40; refine (hI _).mono ?_; rintro e w2 ⟨rfl, hw⟩; replace hw := hw.symm; subst hw))
  all_goals go_ret
  all_goals exact ⟨rfl, by go_grown⟩
end Go.Proofs.Ytjhmjjechagbjaa
