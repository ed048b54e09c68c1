/- The specification's reader of files: how far it is, and contracts of its smallest reads. -/
import Derived.Test.YtnjfaikhiimdjaaFileMath
namespace Go.Proofs.Ytnjfaikhiimdjaa
open Go.RowKit Fm
set_option maxHeartbeats 1000000
set_option linter.unusedVariables false

/-- a step of a reader: what is left to read before and behind it (none: it is bad), and what it gives -/
def Rd {α : Type} (p : Ps α) (st : Option (List UInt8)) (x : α) (st' : Option (List UInt8)) : Prop :=
  match st with
  | none => st' = none
  | some s => match p s with | none => st' = none | some y => x = y.1 ∧ st' = some y.2
theorem Rd.bad {α : Type} {p : Ps α} {x : α} : Rd p none x none := rfl
theorem Rd.of_none {α : Type} {p : Ps α} {x : α} {st' : Option (List UInt8)} (h : Rd p none x st') : st' = none := h
theorem Rd.ok {α : Type} {p : Ps α} {s r : List UInt8} {x : α} (h : p s = some (x, r)) : Rd p (some s) x (some r) := by
  unfold Rd; simp [h]
theorem Rd.no {α : Type} {p : Ps α} {s : List UInt8} {x : α} (h : p s = none) : Rd p (some s) x none := by
  unfold Rd; simp [h]
theorem Rd.bind {α γ : Type} {p : Ps α} {q : α → Ps γ} {st st1 st2 : Option (List UInt8)} {a : α} {x : γ} (h1 : Rd p st a st1) (h2 : Rd (q a) st1 x st2) : Rd (pbind p q) st x st2 := by
  cases st with
  | none =>
    have e := h1.of_none
    subst e
    have e := h2.of_none
    subst e
    exact Rd.bad
  | some s =>
    unfold Rd at h1
    unfold Rd pbind
    cases hp : p s with
    | none =>
      simp only [hp] at h1
      subst h1
      have e := h2.of_none
      subst e
      simp [hp]
    | some y =>
      simp only [hp] at h1
      obtain ⟨rfl, rfl⟩ := h1
      simpa [Rd, hp] using h2
theorem Rd.pure {α : Type} {x : α} {st : Option (List UInt8)} : Rd (ppure x) st x st := by
  cases st with
  | none => rfl
  | some s => exact ⟨rfl, rfl⟩
theorem Rd.fail {α : Type} {x : α} {st : Option (List UInt8)} : Rd pfail st x none := by
  cases st with
  | none => rfl
  | some s => rfl
/-- what is bad stays bad, whatever is given -/
theorem Rd.any {α : Type} {p : Ps α} {st : Option (List UInt8)} {x y : α} (h : Rd p st x none) : Rd p st y none := by
  cases st with
  | none => exact h
  | some s =>
    cases hp : p s with
    | none => exact Rd.no hp
    | some z => simp [Rd, hp] at h
theorem Rd.many_none {α : Type} {p : Ps α} {st : Option (List UInt8)} {xs ys : List α} {k n : Nat} (h : Rd (rMany p k) st xs none) (hk : k ≤ n) : Rd (rMany p n) st ys none := by
  cases st with
  | none => rfl
  | some s =>
    cases hp : rMany p k s with
    | none => exact Rd.no (rMany_none hp n hk)
    | some z => simp [Rd, hp] at h
theorem Rd.got {α : Type} {p : Ps α} {st : Option (List UInt8)} {x : α} {r : List UInt8} (h : Rd p st x (some r)) : ∃ s, st = some s ∧ p s = some (x, r) := by
  cases st with
  | none => exact absurd (Rd.of_none h) (by simp)
  | some s =>
    cases hp : p s with
    | none => simp [Rd, hp] at h
    | some y =>
      simp [Rd, hp] at h
      obtain ⟨rfl, rfl⟩ := h
      exact ⟨s, rfl, hp⟩

theorem grown_refl (w : World) (r : Option Nat) : w.grownBy w r := ⟨rfl, rfl, rfl, Nat.le_refl _, fun _ _ _ => rfl⟩
theorem grown_trans {a b c : World} {r : Option Nat} (h : a.grownBy b r) (k : b.grownBy c r) : a.grownBy c r :=
  ⟨k.os.trans h.os, k.tape.trans h.tape, k.output.trans h.output, Nat.le_trans h.size k.size, fun i hi hr => (k.block i (Nat.lt_of_lt_of_le hi h.size) hr).trans (h.block i hi hr)⟩
/-- below a block of the call's own: only block b, and what is new, may have turned -/
theorem grown_below {a b : World} {n : Nat} (h : a.grownBy b (some n)) : Below n a b ∨ a.heap.size ≤ n :=
  if hn : n ≤ a.heap.size then .inl ⟨h.os, h.tape, h.output, h.size, fun k hk => h.block k (by omega) (by simp; omega)⟩ else .inr (by omega)
theorem below_grow {a b : World} {r : Option Nat} (h : Below a.heap.size a b) : a.grownBy b r := ⟨h.os, h.tape, h.output, h.size, fun k hk _ => h.block k hk⟩
theorem grown_own {a b : World} {n base : Nat} {e : TypeId} {size m : Nat} {v : Value} {xs : List Value} (h : a.grownBy b (some n)) (ho : a.ownsRow base e size v m xs) (hne : v.ownBlock ≠ some n) : b.ownsRow base e size v m xs := ho.kept h (.inr hne)
theorem grown_cell {a b : World} {n k j : Nat} (h : a.grownBy b (some n)) (hk : k < a.heap.size) (hn : k ≠ n) : b.cell? ⟨k, j, none⟩ = a.cell? ⟨k, j, none⟩ := by
  have := h.block k hk (by simpa using hn)
  simp only [World.cell?, this]
theorem grown_frozen {a b : World} {n k j : Nat} (h : a.grownBy b (some n)) (hk : k < a.heap.size) (hn : k ≠ n) : b.frozen? ⟨k, j, none⟩ = a.frozen? ⟨k, j, none⟩ := by
  have := h.block k hk (by simpa using hn)
  simp only [World.frozen?, this]

theorem hb_cell {w w' : World} {k j : Nat} (h : Below w.heap.size w w') (hk : k < w.heap.size) : w'.cell? ⟨k, j, none⟩ = w.cell? ⟨k, j, none⟩ := by
  have := h.block k hk
  simp only [World.cell?, this]

/-- a reader in block b, of the text s -/
def RdAt (w : World) (b : Nat) (s : ByteArray) (st : Option (List UInt8)) : Prop :=
  ∃ a : Nat, a ≤ s.size ∧ w.heap[b]? = some (.cells #[.string s, .int .i64 a, .bool st.isNone] 69 (0, 0)) ∧ ∀ r, st = some r → r = s.data.toList.drop a
theorem RdAt.lt {w : World} {b : Nat} {s : ByteArray} {st : Option (List UInt8)} (h : RdAt w b s st) : b < w.heap.size := by
  obtain ⟨a, _, h, _⟩ := h
  exact (Array.getElem?_eq_some_iff.1 h).1
theorem RdAt.keep {w w' : World} {b : Nat} {s : ByteArray} {st : Option (List UInt8)} (h : RdAt w b s st) (hb : Below w.heap.size w w') : RdAt w' b s st := by
  have hl := h.lt
  obtain ⟨a, h1, h2, h3⟩ := h
  exact ⟨a, h1, (hb.block b hl).trans h2, h3⟩
theorem RdAt.cells {w : World} {b : Nat} {s : ByteArray} {st : Option (List UInt8)} (h : RdAt w b s st) : ∃ a : Nat, a ≤ s.size ∧ (∀ r, st = some r → r = s.data.toList.drop a) ∧
    w.cell? ⟨b, 0, none⟩ = some (.string s) ∧ w.cell? ⟨b, 1, none⟩ = some (.int .i64 a) ∧ w.cell? ⟨b, 2, none⟩ = some (.bool st.isNone) ∧ (∀ j, w.frozen? ⟨b, j, none⟩ = false) ∧
    (RdAt (w.setCell ⟨b, 2, none⟩ (.bool true)) b s none) ∧ (∀ (n : Nat) (r : List UInt8), a + n ≤ s.size → r = s.data.toList.drop (a + n) → st ≠ none → RdAt (w.setCell ⟨b, 1, none⟩ (.int .i64 ((a : Int) + n))) b s (some r)) := by
  obtain ⟨a, h1, h2, h3⟩ := h
  refine ⟨a, h1, h3, ?_, ?_, ?_, fun j => Lib.frozen_of_heap h2 j, ⟨a, h1, ?_, fun r hr => by cases hr⟩, fun n r hn hr hst => ⟨a + n, hn, ?_, fun r' hr' => by cases hr'; exact hr⟩⟩
  · rw [Lib.cell_of_heap h2]; rfl
  · rw [Lib.cell_of_heap h2]; rfl
  · rw [Lib.cell_of_heap h2]; rfl
  · simp [World.setCell, Array.getElem?_modify, h2]
  · cases st with
    | none => exact absurd rfl hst
    | some r' => simp [World.setCell, Array.getElem?_modify, h2]

theorem drop_cons {s : ByteArray} {a : Nat} {c : UInt8} {r : List UInt8} (h : c :: r = s.data.toList.drop a) : ∃ ha : a < s.size, s[a] = c ∧ r = s.data.toList.drop (a + 1) := by
  have hl : a < s.data.toList.length := by
    rcases Nat.lt_or_ge a s.data.toList.length with h' | h'
    · exact h'
    · rw [List.drop_eq_nil_of_le h'] at h; cases h
  rw [List.drop_eq_getElem_cons hl] at h
  injection h with h1 h2
  refine ⟨by simpa using hl, ?_, h2⟩
  rw [h1]; rfl

theorem RdAt.setBad {w : World} {b : Nat} {s : ByteArray} {st : Option (List UInt8)} (h : RdAt w b s st) : ∀ W, Below w.heap.size w W → RdAt (W.setCell ⟨b, 2, none⟩ (.bool true)) b s none ∧ w.grownBy (W.setCell ⟨b, 2, none⟩ (.bool true)) (some b) := fun W hW => by
  obtain ⟨_, _, _, _, _, _, _, h1, _⟩ := (h.keep hW).cells
  exact ⟨h1, grown_trans (below_grow hW) grown_set⟩
theorem RdAt.setAt {w : World} {b : Nat} {s : ByteArray} {r0 : List UInt8} {a : Nat} (h : RdAt w b s (some r0)) (ha : w.cell? ⟨b, 1, none⟩ = some (.int .i64 a)) (n : Nat) (i : Int) (hi : i = (a : Int) + n) (r : List UInt8) (hn : a + n ≤ s.size) (hr : r = s.data.toList.drop (a + n)) :
    ∀ W, Below w.heap.size w W → RdAt (W.setCell ⟨b, 1, none⟩ (.int .i64 i)) b s (some r) ∧ w.grownBy (W.setCell ⟨b, 1, none⟩ (.int .i64 i)) (some b) := fun W hW => by
  subst hi
  have hl := h.lt
  obtain ⟨a', _, _, _, h1, _, _, _, h2⟩ := (h.keep hW).cells
  have e : a' = a := by
    have := (hb_cell hW hl).symm.trans h1
    rw [ha] at this
    simp at this
    omega
  subst e
  exact ⟨h2 n r hn hr (by simp), grown_trans (below_grow hW) grown_set⟩

theorem l1one_any (b : Nat) (s : ByteArray) (st : Option (List UInt8)) (w : World) (hs : s.size ≤ 1000000000) (h : RdAt w b s st) :
    Calls Try.prog 74 #[.pointer (some ⟨b, 0, none⟩)] w fun e w' => ∃ (x : Nat) (st' : Option (List UInt8)), e = .returned (.int .i64 x) ∧ x < 256 ∧ RdAt w' b s st' ∧ w.grownBy w' (some b) ∧ Rd rOne st x st' := by
  obtain ⟨a, ha, hr, c0, c1, c2, fz, _, _⟩ := h.cells
  have f1 := fz 1
  have f2 := fz 2
  cases st with
  | none =>
    simp only [Option.isNone_none] at c2
    have HB := hid h.setBad
    clear hr h fz
    go_enter Try.func74, Try.ntmps74
    go_wp2
    go_quiet (fail)
    go_wp2
    go_ret
    exact ⟨0, none, rfl, by omega, (HB.out _ (below_drewN (Below.refl _ _) _)).1, (HB.out _ (below_drewN (Below.refl _ _) _)).2, Rd.bad⟩
  | some r =>
    have hr' := hr r rfl
    simp only [Option.isNone_some] at c2
    cases r with
    | nil =>
      have hae : a = s.size := by
        have := congrArg List.length hr'
        simp at this
        omega
      subst hae
      have HB := hid h.setBad
      clear hr h fz hr' ha
      go_enter Try.func74, Try.ntmps74
      go_wp2
      go_quiet (fail)
      go_wp2
      go_ret
      exact ⟨0, none, rfl, by omega, (HB.out _ (below_drewN (Below.refl _ _) _)).1, (HB.out _ (below_drewN (Below.refl _ _) _)).2, Rd.no rfl⟩
    | cons c r =>
      obtain ⟨hlt, hc, hr2⟩ := drop_cons hr'
      have HB := hid (h.setAt c1 1 ((a : Int) + 1) rfl r (by omega) hr2)
      have HC := (show Hid (s[a] = c) from hc)
      have hb' := c.toNat_lt
      clear hr h fz hr' hr2 hc ha
      go_enter Try.func74, Try.ntmps74
      go_wp2
      go_quiet (fail)
      go_wp2
      go_quiet (fail)
      go_wp2
      go_ret
      have hW := fun n => HB.out _ (below_drewN (Below.refl _ _) n)
      refine ⟨c.toNat, some r, ret_i64 ?_, by omega, (hW _).1.keep (below_drewN (Below.refl _ _) _), grown_trans (hW _).2 (below_grow (below_drewN (Below.refl _ _) _)), Rd.ok rfl⟩
      rw [HC.out]
      unfold wrap64
      omega
theorem l1two_any (b : Nat) (s : ByteArray) (st : Option (List UInt8)) (w : World) (hs : s.size ≤ 1000000000) (h : RdAt w b s st) :
    Calls Try.prog 75 #[.pointer (some ⟨b, 0, none⟩)] w fun e w' => ∃ (x : Nat) (st' : Option (List UInt8)), e = .returned (.int .i64 x) ∧ x < 65536 ∧ RdAt w' b s st' ∧ w.grownBy w' (some b) ∧ Rd rTwo st x st' := by
  have H1 := fun st w h => l1one_any b s st w hs h
  have HH := hid h
  clear h
  go_enter Try.func75, Try.ntmps75
  go_wp2_with fail
  refine (H1 _ _ HH.out).mono ?_
  rintro e w1 ⟨x, st1, rfl, hx, h1, g1, r1⟩
  go_wp2_with fail
  refine (H1 _ _ h1).mono ?_
  rintro e w2 ⟨y, st2, rfl, hy, h2, g2, r2⟩
  have HR := hid (show Rd rTwo st ((x * 256 + y : Nat) : Int) st2 from r1.bind (r2.bind (by
    rw [show (((x * 256 + y : Nat)) : Int) = (x : Int) * 256 + y by omega]; exact Rd.pure)))
  have HG := hid (grown_trans g1 g2)
  have HA := hid h2
  clear r1 r2 g1 g2 h1 h2 HH H1
  go_wp2
  go_ret
  exact ⟨x * 256 + y, st2, ret_i64 (by go_num), by omega, HA.out, HG.out, HR.out⟩

theorem drop_take {s : ByteArray} {a n : Nat} (hn : a + n ≤ s.size) : (⟨((s.data.toList.drop a).take n).toArray⟩ : ByteArray) = s.extract a (a + n) := by
  apply ByteArray.ext
  apply Array.ext'
  simp [ByteArray.data_extract, Array.toList_extract, List.extract_eq_take_drop]

theorem l1text_any (b : Nat) (s : ByteArray) (st : Option (List UInt8)) (n : Nat) (w : World) (hs : s.size ≤ 1000000000) (hn : n ≤ 1000000) (h : RdAt w b s st) :
    Calls Try.prog 72 #[.pointer (some ⟨b, 0, none⟩), .int .i64 n] w fun e w' => ∃ (x : ByteArray) (st' : Option (List UInt8)), e = .returned (.string x) ∧ x.size ≤ n ∧ RdAt w' b s st' ∧ w.grownBy w' (some b) ∧ Rd (rText n) st x st' := by
  obtain ⟨a, ha, hr, c0, c1, c2, fz, _, _⟩ := h.cells
  have f1 := fz 1
  have f2 := fz 2
  cases st with
  | none =>
    simp only [Option.isNone_none] at c2
    have HB := hid h.setBad
    clear hr h fz
    go_enter Try.func72, Try.ntmps72
    go_wp2
    go_quiet (fail)
    go_wp2
    go_ret
    exact ⟨⟨#[]⟩, none, rfl, Nat.zero_le _, (HB.out _ (below_drewN (Below.refl _ _) _)).1, (HB.out _ (below_drewN (Below.refl _ _) _)).2, Rd.bad⟩
  | some r =>
    have hr' := hr r rfl
    simp only [Option.isNone_some] at c2
    by_cases hl : a + n ≤ s.size
    · have HB := hid (h.setAt c1 n ((a : Int) + n) rfl (s.data.toList.drop (a + n)) hl rfl)
      have HR := hid (show Rd (rText n) (some r) (s.extract a (a + n)) (some (s.data.toList.drop (a + n))) from Rd.ok (by
        unfold rText
        subst hr'
        rw [if_pos (by simp; omega)]
        simp only [Int.toNat_natCast, List.drop_drop]
        rw [drop_take hl]))
      clear hr h fz hr'
      go_enter Try.func72, Try.ntmps72
      go_wp2
      go_quiet (fail)
      go_wp2
      go_quiet (fail)
      go_wp2
      go_ret
      have hW := fun n => HB.out _ (below_drewN (Below.refl _ _) n)
      exact ⟨s.extract a (a + n), _, rfl, by simp [ByteArray.size_extract]; omega, (hW _).1.keep (below_drewN (Below.refl _ _) _), grown_trans (hW _).2 (below_grow (below_drewN (Below.refl _ _) _)), HR.out⟩
    · have HB := hid h.setBad
      have HR := hid (show Rd (rText n) (some r) ⟨#[]⟩ none from Rd.no (by
        unfold rText
        subst hr'
        rw [if_neg (by simp; omega)]))
      clear hr h fz hr'
      go_enter Try.func72, Try.ntmps72
      go_wp2
      go_quiet (fail)
      go_wp2
      go_ret
      exact ⟨⟨#[]⟩, none, rfl, Nat.zero_le _, (HB.out _ (below_drewN (Below.refl _ _) _)).1, (HB.out _ (below_drewN (Below.refl _ _) _)).2, HR.out⟩

end Go.Proofs.Ytnjfaikhiimdjaa
