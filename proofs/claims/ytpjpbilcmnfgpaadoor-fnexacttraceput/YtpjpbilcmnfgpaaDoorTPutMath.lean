/- A line of a trace as a text, and a list of them. Nothing of a walk. -/
import Derived.Test.YtpjpbilcmnfgpaaDoorRowLine
import Derived.Test.YtpjpbilcmnfgpaaDoorLkBase
import Derived.Test.YtpjpbilcmnfgpaaDoorDecX
import Derived.Lib.Repeat
import Derived.WalkSmall
namespace Go.Proofs.YtpjpbilcmnfgpaaDoor
open Go.RowKit
set_option maxHeartbeats 1000000
set_option maxRecDepth 20000
set_option linter.unusedVariables false

def isOpB (n : Int) : Bool := decide (0 ≤ n) && decide (n < 35)
theorem isOpB_nat {n : Int} (h : isOpB n = true) : ∃ m : Nat, n = (m : Int) ∧ m < 35 := by
  unfold isOpB at h
  simp at h
  exact ⟨n.toNat, by omega, by omega⟩
def wordsL : List ByteArray := [⟨#[110, 111, 112]⟩, ⟨#[112, 117, 115, 104]⟩, ⟨#[110, 117, 108, 108]⟩, ⟨#[108, 111, 97, 100]⟩, ⟨#[115, 116, 111, 114, 101]⟩, ⟨#[114, 101, 102, 108, 111, 97, 100]⟩, ⟨#[114, 101, 102, 115, 116, 111, 114, 101]⟩, ⟨#[112, 111, 112]⟩, ⟨#[100, 117, 112]⟩, ⟨#[115, 119, 97, 112]⟩, ⟨#[97, 100, 100]⟩, ⟨#[115, 117, 98]⟩, ⟨#[109, 117, 108]⟩, ⟨#[100, 105, 118]⟩, ⟨#[105, 102, 122, 101, 114, 111]⟩, ⟨#[105, 102, 110, 101, 103]⟩, ⟨#[105, 102, 110, 117, 108, 108]⟩, ⟨#[105, 102, 115, 97, 109, 101]⟩, ⟨#[103, 111]⟩, ⟨#[110, 101, 119]⟩, ⟨#[103, 101, 116]⟩, ⟨#[112, 117, 116]⟩, ⟨#[103, 101, 116, 97, 108, 108]⟩, ⟨#[112, 117, 116, 97, 108, 108]⟩, ⟨#[118, 105, 114, 116, 117, 97, 108]⟩, ⟨#[115, 112, 101, 99, 105, 97, 108]⟩, ⟨#[115, 116, 97, 116, 105, 99]⟩, ⟨#[102, 97, 99, 101]⟩, ⟨#[99, 97, 115, 116]⟩, ⟨#[105, 115]⟩, ⟨#[103, 105, 118, 101, 105, 110, 116]⟩, ⟨#[103, 105, 118, 101, 114, 101, 102]⟩, ⟨#[103, 105, 118, 101]⟩, ⟨#[116, 104, 114, 111, 119]⟩, ⟨#[112, 114, 105, 110, 116]⟩]
def endT : ByteArray := ⟨#[101, 110, 100]⟩
def wordT (n : Int) : ByteArray := if isOpB n then wordsL.getD n.toNat ⟨#[]⟩ else endT
theorem wordT_no {n : Int} (h : isOpB n = false) : wordT n = endT := by unfold wordT; rw [if_neg (by simp [h])]
theorem wordT_op {m : Nat} (h : m < 35) : wordsL[m]? = some (wordT (m : Int)) := by
  unfold wordT
  rw [if_pos (by unfold isOpB; simp; omega), Int.toNat_natCast, List.getD, List.getElem?_eq_getElem (show m < wordsL.length from h)]
  rfl
theorem wordT_size (n : Int) : (wordT n).size ≤ 8 := by
  have hall : ∀ x ∈ wordsL, x.size ≤ 8 := by decide
  unfold wordT
  split
  · rename_i h
    obtain ⟨m, rfl, hm⟩ := isOpB_nat h
    rw [Int.toNat_natCast, List.getD, List.getElem?_eq_getElem (show m < wordsL.length from hm)]
    exact hall _ (List.getElem_mem _)
  · decide
/-- how many times two blanks stand ahead -/
def indN (d : Int) : Nat := min (d - 1).toNat 12
theorem indN_le (d : Int) : indN d ≤ 12 := by unfold indN; omega
def blankT (c : Nat) : ByteArray := bytesOf (Lib.repeatL [32, 32] c)
theorem blankT_next (c : Nat) : blankT c ++ (⟨#[32, 32]⟩ : ByteArray) = blankT (c + 1) := by
  unfold blankT
  rw [Lib.repeatL_add, Lib.repeatL_one]
  exact bytes_app _ [32, 32]
theorem blankT_size (c : Nat) : (blankT c).size = c * 2 := by unfold blankT; rw [bytes_size, Lib.repeatL_length]; rfl
theorem blankT_zero : (⟨#[]⟩ : ByteArray) = blankT 0 := rfl
def lineT (t : MLine) : ByteArray := blankT (indN t.deep) ++ itoaT t.loader ++ ⟨#[58]⟩ ++ t.cls ++ ⟨#[46]⟩ ++ t.method ++ ⟨#[64]⟩ ++ itoaT t.at_ ++ ⟨#[32]⟩ ++ wordT t.op ++ ⟨#[10]⟩
/-- the numbers of a line are numbers of 64 bits, its texts are not too long -/
def OkLine (t : MLine) : Prop := (-9223372036854775808 ≤ t.loader ∧ t.loader ≤ 9223372036854775807) ∧ (-9223372036854775808 ≤ t.at_ ∧ t.at_ ≤ 9223372036854775807) ∧ (-9223372036854775808 ≤ t.deep ∧ t.deep ≤ 9223372036854775807) ∧ t.cls.size ≤ 1048576 ∧ t.method.size ≤ 1048576
theorem lineT_size {t : MLine} (h : OkLine t) : (lineT t).size ≤ 2097300 := by
  obtain ⟨h1, h2, _, h3, h4⟩ := h
  have a := itoaT_size t.loader h1.1 h1.2
  have b := itoaT_size t.at_ h2.1 h2.2
  have c := wordT_size t.op
  have d := blankT_size (indN t.deep)
  have e := indN_le t.deep
  have f : ∀ x : UInt8, (⟨#[x]⟩ : ByteArray).size = 1 := fun _ => rfl
  unfold lineT
  simp only [ByteArray.size_append, f]
  omega
def putT (ts : List MLine) : ByteArray := ts.foldl (fun o t => o ++ lineT t) ⟨#[]⟩
theorem putT_next (ts : List MLine) (k : Nat) (h : k < ts.length) : putT (ts.take (k + 1)) = putT (ts.take k) ++ lineT ts[k] := by
  unfold putT
  rw [List.take_succ_eq_append_getElem h, List.foldl_append]
  rfl
theorem putT_size (ts : List MLine) (hok : ∀ t ∈ ts, OkLine t) (k : Nat) (hk : k ≤ ts.length) : (putT (ts.take k)).size ≤ k * 2097300 := by
  induction k with
  | zero => simp [putT]; rfl
  | succ k ih =>
    rw [putT_next ts k (by omega), ByteArray.size_append]
    have := ih (by omega)
    have := lineT_size (hok _ (List.getElem_mem (by omega : k < ts.length)))
    omega

/-- a line in a variable of its own, and what lay below is kept -/
structure LV (w : World) (g : Nat) (t : MLine) (W : World) : Prop where
  l : Lk W g #[.int .i64 t.loader, .string t.cls, .string t.method, .int .i64 t.at_, .int .i64 t.op, .int .i64 t.deep] 33
  b : Below w.heap.size w W
  s : w.heap.size ≤ W.heap.size
theorem LV.new (w : World) (t : MLine) : LV w w.heap.size t (w.alloc (.cells #[.int .i64 t.loader, .string t.cls, .string t.method, .int .i64 t.at_, .int .i64 t.op, .int .i64 t.deep] 33)) := ⟨Lk.new _ _ _, (Below.refl _ _).alloc (Nat.le_refl _) _, by simp⟩
theorem LV.keep {w W W' : World} {g : Nat} {t : MLine} (h : LV w g t W) (hb : Below W.heap.size W W') : LV w g t W' := ⟨h.l.keep hb, h.b.trans (hb.mono h.s), Nat.le_trans h.s hb.size⟩
theorem LV.drew {w W : World} {g : Nat} {t : MLine} (h : LV w g t W) : LV w g t W.drew := h.keep (Below.refl _ _).drew
theorem LV.c {w W : World} {g : Nat} {t : MLine} (h : LV w g t W) : W.cell? ⟨g, 0, none⟩ = some (.int .i64 t.loader) ∧ W.cell? ⟨g, 1, none⟩ = some (.string t.cls) ∧ W.cell? ⟨g, 2, none⟩ = some (.string t.method) ∧ W.cell? ⟨g, 3, none⟩ = some (.int .i64 t.at_) ∧ W.cell? ⟨g, 4, none⟩ = some (.int .i64 t.op) ∧ W.cell? ⟨g, 5, none⟩ = some (.int .i64 t.deep) :=
  ⟨h.l.c 0 _ rfl, h.l.c 1 _ rfl, h.l.c 2 _ rfl, h.l.c 3 _ rfl, h.l.c 4 _ rfl, h.l.c 5 _ rfl⟩
/-- the sums of sizes that adding a line's pieces meets -/
theorem fits {b L c m A : ByteArray} {d : ByteArray} (hb : b.size ≤ 24) (hL : L.size ≤ 21) (hc : c.size ≤ 1048576) (hm : m.size ≤ 1048576) (hA : A.size ≤ 21) (hd : d.size ≤ 8) :
    ¬ 9223372036854775807 < b.size + L.size ∧ ¬ 9223372036854775807 < b.size + L.size + 1 ∧ ¬ 9223372036854775807 < b.size + L.size + 1 + c.size ∧ ¬ 9223372036854775807 < b.size + L.size + 1 + c.size + 1 ∧ ¬ 9223372036854775807 < b.size + L.size + 1 + c.size + 1 + m.size ∧ ¬ 9223372036854775807 < b.size + L.size + 1 + c.size + 1 + m.size + 1 ∧ ¬ 9223372036854775807 < b.size + L.size + 1 + c.size + 1 + m.size + 1 + A.size ∧ ¬ 9223372036854775807 < b.size + L.size + 1 + c.size + 1 + m.size + 1 + A.size + 1 ∧ ¬ 9223372036854775807 < b.size + L.size + 1 + c.size + 1 + m.size + 1 + A.size + 1 + d.size ∧ ¬ 9223372036854775807 < b.size + L.size + 1 + c.size + 1 + m.size + 1 + A.size + 1 + d.size + 1 := by
  omega
end Go.Proofs.YtpjpbilcmnfgpaaDoor
