/- What OpsGet answers, as a function on texts. Nothing of the program is named here. -/
import Derived.Lib.IndexBytes
namespace Go.Proofs.YtnimkkchpmlddaaDoor
namespace Mx

/-- how many bytes stand behind an op; -1, if there is no such op -/
def args (op : Int) : Int :=
  if op = 1 then 2 else if 3 ≤ op ∧ op ≤ 6 then 1 else if 14 ≤ op ∧ op ≤ 29 then 2 else if 0 ≤ op ∧ op ≤ 34 then 0 else -1
def tab : List Int := [0, 2, 0, 1, 1, 1, 1, 0, 0, 0, 0, 0, 0, 0, 2, 2, 2, 2, 2, 2, 2, 2, 2, 2, 2, 2, 2, 2, 2, 2, 0, 0, 0, 0, 0]
theorem args_tab (k : Nat) (h : k < 35) : args (k : Int) = tab.getD k 0 := by
  have : ∀ k, k < 35 → args ((k : Nat) : Int) = tab.getD k 0 := by decide
  exact this k h
theorem args_none (op : Int) (h : op < 0 ∨ 35 ≤ op) : args op = -1 := by
  unfold args
  rw [if_neg (by omega), if_neg (by omega), if_neg (by omega), if_neg (by omega)]
theorem args_range (op : Int) : args op = -1 ∨ args op = 0 ∨ args op = 1 ∨ args op = 2 := by
  unfold args; repeat (first | split | simp)
theorem args_one (op : Int) (h : args op = 0 ∨ args op = 1) : op ≠ 1 := by
  intro e; subst e; simp [args] at h
theorem args_some (op : Int) (h : 0 ≤ args op) : 0 ≤ op ∧ op < 35 := by
  by_cases h1 : op < 0 ∨ 35 ≤ op
  · rw [args_none op h1] at h; omega
  · omega

/-- the number that bytes behind an op are -/
def num (op : Int) (b : List UInt8) : Int :=
  match b with
  | [] => 0
  | [x] => x.toNat
  | x :: y :: _ => if op = 1 ∧ 32768 ≤ (x.toNat : Int) * 256 + y.toNat then (x.toNat : Int) * 256 + y.toNat - 65536 else (x.toNat : Int) * 256 + y.toNat

structure Op3 where
  at_ : Int
  op : Int
  num : Int
def opNat (s : ByteArray) (a : Nat) : Nat := (s.data.toList.getD a 0).toNat
def opAt (s : ByteArray) (a : Nat) : Int := opNat s a
/-- the bytes behind the op at a -/
def behind (s : ByteArray) (a : Nat) : List UInt8 := (s.data.toList.drop (a + 1)).take ((a + 1 + (args (opAt s a)).toNat) - (a + 1))
def insAt (s : ByteArray) (a : Nat) : Op3 := ⟨a, opAt s a, num (opAt s a) (behind s a)⟩
/-- the ops from place a on (f: no fewer than there are bytes left) -/
def opsAt (s : ByteArray) : Nat → Nat → Option (List Op3)
  | 0, _ => some []
  | f + 1, a => if a < s.size then (if args (opAt s a) < 0 ∨ (s.size : Int) < (a : Int) + 1 + args (opAt s a) then none else (opsAt s f (a + 1 + (args (opAt s a)).toNat)).map fun l => insAt s a :: l) else some []
def ops (s : ByteArray) : Option (List Op3) := opsAt s s.size 0
def oGood (s : ByteArray) : Bool := decide (1 ≤ s.size) && decide (s.size ≤ 120) && (ops s).isSome
def oList (s : ByteArray) : List Op3 := if oGood s then (ops s).getD [] else []

def pre (ts : List Op3) (l : List Op3) : List Op3 := ts ++ l
theorem pre_nil (x : Option (List Op3)) : x.map (pre []) = x := by cases x <;> simp [pre]
theorem pre_pre (ts us : List Op3) (x : Option (List Op3)) : (x.map (pre us)).map (pre ts) = x.map (pre (ts ++ us)) := by cases x <;> simp [pre]
theorem opsAt_end {s : ByteArray} {f a : Nat} (h : ¬ a < s.size) : opsAt s f a = some [] := by cases f <;> simp [opsAt, h]
theorem opsAt_bad {s : ByteArray} {f a : Nat} (h : a < s.size) (hb : args (opAt s a) < 0 ∨ (s.size : Int) < (a : Int) + 1 + args (opAt s a)) : opsAt s (f + 1) a = none := by
  simp only [opsAt]; rw [if_pos h, if_pos hb]
theorem opsAt_step {s : ByteArray} {f a n : Nat} (h : a < s.size) (hn : args (opAt s a) = n) (hl : a + 1 + n ≤ s.size) : opsAt s (f + 1) a = (opsAt s f (a + 1 + n)).map (pre [insAt s a]) := by
  simp only [opsAt]; rw [if_pos h, if_neg (by omega), hn]; rfl
theorem ops_yes {s : ByteArray} {ts : List Op3} (h1 : 1 ≤ s.size) (h2 : s.size ≤ 120) (h : ops s = some ts) : oGood s = true ∧ oList s = ts := by
  have : oGood s = true := by simp [oGood, h, h2]; omega
  exact ⟨this, by simp [oList, this, h]⟩
theorem ops_no {s : ByteArray} (h : s.size < 1 ∨ 120 < s.size ∨ ops s = none) : oGood s = false ∧ oList s = [] := by
  have : oGood s = false := by
    unfold oGood
    rcases h with h | h | h
    · rw [decide_eq_false (by omega)]; rfl
    · rw [decide_eq_false (p := s.size ≤ 120) (by omega)]; simp
    · rw [h]; simp
  exact ⟨this, by simp [oList, this]⟩
theorem opsAt_len {s : ByteArray} : ∀ {f a : Nat} {l : List Op3}, opsAt s f a = some l → l.length ≤ f := by
  intro f
  induction f with
  | zero => intro a l h; simp [opsAt] at h; subst h; simp
  | succ f ih =>
    intro a l h
    simp only [opsAt] at h
    split at h
    · split at h
      · cases h
      · rw [Option.map_eq_some_iff] at h
        obtain ⟨y, hy, rfl⟩ := h
        have := ih hy
        simp; omega
    · cases h; simp
theorem oList_len (s : ByteArray) : (oList s).length ≤ 120 := by
  unfold oList
  split
  · rename_i h
    unfold oGood at h
    simp at h
    cases ho : ops s with
    | none => simp
    | some l => have := opsAt_len ho; simp; omega
  · simp

end Mx
end Go.Proofs.YtnimkkchpmlddaaDoor
