/- What OpsPut answers, as a function on lists of ops. Nothing of the program's functions is named here. -/
import Derived.Test.YtnimkkchpmlddaaDoorOpsMath
import Derived.Test.YtnimkkchpmlddaaDoorBase
namespace Go.Proofs.YtnimkkchpmlddaaDoor
namespace Mx

def toB (n : Int) : UInt8 := UInt8.ofNat (n % 256).toNat
theorem u8_toNat (n : Int) : ((toB n).toNat : Int) = n % 256 := by
  unfold toB
  have h0 : 0 ≤ n % 256 := Int.emod_nonneg _ (by omega)
  have h1 : n % 256 < 256 := Int.emod_lt_of_pos _ (by omega)
  simp
  omega
def low (n : Int) : Int := (n + 65536) % 65536
/-- the bytes of an op -/
def putB (t : Op3) : List UInt8 := toB t.op :: (if args t.op = 1 then [toB t.num] else if args t.op = 2 then [toB (low t.num / 256), toB (low t.num % 256)] else [])
def fitsB (op num : Int) : Bool :=
  if op = 1 then decide (-32768 ≤ num) && decide (num ≤ 32767)
  else decide (0 ≤ num) && decide (num < (if args op = 2 then 65536 else if args op = 1 then 256 else 1))
def valid : Nat → List Op3 → Bool
  | _, [] => true
  | p, t :: r => decide (t.at_ = (p : Int)) && decide (0 ≤ t.op) && decide (t.op < 35) && fitsB t.op t.num && valid (p + 1 + (args t.op).toNat) r
def flatP (ts : List Op3) : List UInt8 := ts.flatMap putB
def outGood (ts : List Op3) : Bool := valid 0 ts && decide ((flatP ts).length ≤ 120)
def outPut (ts : List Op3) : ByteArray := if outGood ts then bytesOf (flatP ts) else ⟨#[]⟩

theorem put_len (t : Op3) : (putB t).length = 1 + (args t.op).toNat := by
  unfold putB
  rcases args_range t.op with h | h | h | h <;> simp [h]
theorem flatP_nil : flatP [] = [] := rfl
theorem flatP_cons (t : Op3) (r : List Op3) : flatP (t :: r) = putB t ++ flatP r := rfl
theorem flatP_snoc (ts : List Op3) (t : Op3) : flatP (ts ++ [t]) = flatP ts ++ putB t := by simp [flatP]
theorem flatP_len (ts : List Op3) : ts.length ≤ (flatP ts).length := by
  induction ts with
  | nil => simp
  | cons t r ih => rw [flatP_cons, List.length_append, put_len, List.length_cons]; omega
theorem valid_append (ts us : List Op3) : ∀ p, valid p (ts ++ us) = (valid p ts && valid (p + (flatP ts).length) us) := by
  induction ts with
  | nil => intro p; simp [valid, flatP_nil]
  | cons t r ih =>
    intro p
    simp only [List.cons_append, valid, ih, flatP_cons, List.length_append, put_len]
    rw [show p + 1 + (args t.op).toNat + (flatP r).length = p + (1 + (args t.op).toNat + (flatP r).length) by omega]
    simp only [Bool.and_assoc]
theorem op_args {op : Int} (h0 : 0 ≤ op) (h1 : op < 35) : 0 ≤ args op ∧ args op ≤ 2 := by
  rcases args_range op with h | h | h | h
  · exfalso
    unfold args at h
    split at h
    · omega
    · split at h
      · omega
      · split at h
        · omega
        · split at h
          · omega
          · omega
  all_goals omega
theorem num_fits (op : Int) (b : List UInt8) (hb : args op = (b.length : Int)) : fitsB op (num op b) = true := by
  unfold fitsB num
  rcases args_range op with h | h | h | h
  · omega
  · have hl : b = [] := List.eq_nil_of_length_eq_zero (by omega)
    have h1 := args_one op (.inl h)
    subst hl; simp [h, h1]
  · have h1 := args_one op (.inr h)
    match b, hb with
    | [x], _ => have := x.toNat_lt; simp [h, h1]; omega
    | [], hb => simp at hb; omega
    | _ :: _ :: _, hb => simp at hb; omega
  · match b, hb with
    | [x, y], _ =>
      have := x.toNat_lt
      have := y.toNat_lt
      by_cases h1 : op = 1
      · subst h1; simp only [if_true, true_and]; split <;> simp <;> omega
      · simp [h, h1]; omega
    | [], hb => simp at hb; omega
    | [_], hb => simp at hb; omega
    | _ :: _ :: _ :: _, hb => simp at hb; omega
/-- the number of the bytes that were written for it -/
theorem num_put {t : Op3} (h0 : 0 ≤ t.op) (h1 : t.op < 35) (hf : fitsB t.op t.num = true) : num t.op (putB t).tail = t.num := by
  unfold fitsB at hf
  unfold putB num
  rcases args_range t.op with h | h | h | h
  · have := op_args h0 h1; omega
  · have hne := args_one t.op (.inl h)
    simp [h, hne] at hf
    simp [h]; omega
  · have hne := args_one t.op (.inr h)
    simp [h, hne] at hf
    simp [h]
    have := u8_toNat t.num
    omega
  · have a1 := u8_toNat (low t.num / 256)
    have a2 := u8_toNat (low t.num % 256)
    simp only [h, List.tail_cons]
    simp only [show ¬ ((2 : Int) = 1) by omega, if_false, if_true]
    rw [a1, a2]
    unfold low
    by_cases h1' : t.op = 1
    · simp only [h1', if_true, Bool.and_eq_true, decide_eq_true_eq] at hf
      simp only [h1', true_and]
      split <;> omega
    · simp only [h1', h, if_false, if_true, Bool.and_eq_true, decide_eq_true_eq] at hf
      simp only [h1', false_and, if_false]
      omega

theorem valid_cons {p : Nat} {t : Op3} {r : List Op3} : valid p (t :: r) = true ↔ t.at_ = (p : Int) ∧ 0 ≤ t.op ∧ t.op < 35 ∧ fitsB t.op t.num = true ∧ valid (p + 1 + (args t.op).toNat) r = true := by
  simp [valid, and_assoc]
theorem reads_back (s : ByteArray) : ∀ (ts : List Op3) (p f : Nat), valid p ts = true → s.data.toList.drop p = flatP ts → s.size ≤ p + f → opsAt s f p = some ts := by
  intro ts
  induction ts with
  | nil =>
    intro p f _ hd _
    have hl := lenOf s
    have : s.data.toList.length ≤ p := by
      have := congrArg List.length hd
      rw [List.length_drop, flatP_nil] at this
      simp at this
      rw [hl]; omega
    exact opsAt_end (by omega)
  | cons t r ih =>
    intro p f hv hd hf
    obtain ⟨v1, v2, v3, v4, v5⟩ := valid_cons.1 hv
    have hl := lenOf s
    have hlen : s.size - p = (putB t).length + (flatP r).length := by
      have := congrArg List.length hd
      rw [List.length_drop, flatP_cons, List.length_append, hl] at this
      exact this
    have hpl := put_len t
    have ha := op_args v2 v3
    obtain ⟨n, hn⟩ : ∃ n : Nat, args t.op = n := ⟨(args t.op).toNat, by omega⟩
    rw [hn, Int.toNat_natCast] at hpl v5
    obtain ⟨g, rfl⟩ : ∃ g, f = g + 1 := ⟨f - 1, by omega⟩
    have hp : p < s.size := by omega
    have hget : s.data.toList.getD p 0 = toB t.op := by
      have : (s.data.toList.drop p).getD 0 0 = s.data.toList.getD p 0 := by simp [List.getD_eq_getElem?_getD]
      rw [← this, hd, flatP_cons]; rfl
    have hop : opAt s p = t.op := by
      unfold opAt opNat
      rw [hget, u8_toNat]; omega
    have hbeh : behind s p = (putB t).tail := by
      unfold behind
      rw [hop, hn, Int.toNat_natCast, ← List.drop_drop, hd, flatP_cons]
      have hp1 : (putB t ++ flatP r).drop 1 = (putB t).tail ++ flatP r := by
        unfold putB; rfl
      rw [hp1]
      have htl : (putB t).tail.length = n := by rw [List.length_tail]; omega
      rw [show p + 1 + n - (p + 1) = n by omega, ← htl, List.take_left']
      rfl
    have hins : insAt s p = t := by
      unfold insAt
      rw [hop, hbeh, num_put v2 v3 v4, ← v1]
    rw [opsAt_step hp (by rw [hop]; exact hn) (by omega), hins, ih (p + 1 + n) g v5 ?_ (by omega)]
    · rfl
    · rw [Nat.add_assoc, ← List.drop_drop, hd, flatP_cons, show 1 + n = (putB t).length by omega, List.drop_left']
      rfl

theorem read_valid (s : ByteArray) : ∀ (f p : Nat) (ts : List Op3), opsAt s f p = some ts → valid p ts = true := by
  intro f
  induction f with
  | zero => intro p ts h; simp [opsAt] at h; subst h; rfl
  | succ f ih =>
    intro p ts h
    simp only [opsAt] at h
    split at h
    · rename_i hp
      split at h
      · cases h
      · rename_i hbad
        rw [Option.map_eq_some_iff] at h
        obtain ⟨l, hl, rfl⟩ := h
        have hr := args_some (opAt s p) (by omega)
        refine valid_cons.2 ⟨rfl, hr.1, hr.2, ?_, ih _ _ hl⟩
        show fitsB (opAt s p) (num (opAt s p) (behind s p)) = true
        apply num_fits
        unfold behind
        rw [List.length_take, List.length_drop, lenOf]
        omega
    · cases h; rfl

end Mx
end Go.Proofs.YtnimkkchpmlddaaDoor
