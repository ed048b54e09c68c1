/- Marks in a list of Line, each cell turned into one of its kind, and reading a law's argument of that type. Printed by tools/gen/mkweak.py. -/
import Derived.Test.YtpjpbilcmnfgpaaDoorMkLike
import Derived.Test.YtpjpbilcmnfgpaaDoorMkText
import Derived.Test.YtpjpbilcmnfgpaaDoorRowLine
import Derived.Test.YtpjpbilcmnfgpaaDoorArgRow
namespace Go.Proofs.YtpjpbilcmnfgpaaDoor
open Go.RowKit Go.ChangeShapes Go.WideShapes
set_option maxHeartbeats 2000000
set_option maxRecDepth 20000
set_option linter.unusedVariables false

/-- the cells of a list's element are of their kinds -/
def CLine (W : World) (g i : Nat) : Prop := CellIs W g (i * 6) isI ∧ CellIs W g (i * 6 + 1) isS ∧ CellIs W g (i * 6 + 2) isS ∧ CellIs W g (i * 6 + 3) isI ∧ CellIs W g (i * 6 + 4) isI ∧ CellIs W g (i * 6 + 5) isI
theorem CLine.chg {B H : Nat} {W W' : World} {g i : Nat} (h : CLine W g i) (c : Chg B H W W') : CLine W' g i := by
  obtain ⟨h0, h1, h2, h3, h4, h5⟩ := h
  exact ⟨h0.chg c isI_like, h1.chg c isS_like, h2.chg c isS_like, h3.chg c isI_like, h4.chg c isI_like, h5.chg c isI_like⟩
def RLine (W : World) (B H : Nat) (v : Value) (n : Nat) : Prop := ∃ ao c, v = .slice ao n c ∧ (n = 0 ∨ ∃ g, ao = some ⟨g, 0, none⟩ ∧ B ≤ g ∧ g < H ∧ ∀ i, i < n → CLine W g i)
theorem RLine.chg {B H b k : Nat} {W W' : World} {v : Value} {n : Nat} (h : RLine W B H v n) (c : Chg b k W W') : RLine W' B H v n := by
  obtain ⟨ao, cc, rfl, h⟩ := h
  refine ⟨ao, cc, rfl, h.imp id ?_⟩
  rintro ⟨g, rfl, h1, h2, h3⟩
  exact ⟨g, rfl, h1, h2, fun i hi => (h3 i hi).chg c⟩
theorem RLine.own {W : World} {B : Nat} {v : Value} {ts : List MLine} (h : W.ownsRow B 33 6 v ts.length (rowLine ts)) : RLine W B W.heap.size v ts.length := by
  by_cases hz : ts.length = 0
  · obtain ⟨ao, c, rfl⟩ := own_len h
    exact ⟨ao, c, rfl, .inl hz⟩
  · obtain ⟨g, c, rfl⟩ := Joins.ownsRow_form h (by omega)
    have hl := h.lt g rfl
    refine ⟨_, _, rfl, .inr ⟨g, rfl, hl.1, hl.2, fun i hi => ?_⟩⟩
    have hx : ∀ j, j < 6 → (rowLine ts)[i * 6 + j]? = (cellsLine ts[i])[j]? := by
      intro j hj
      rw [rowLine_at ts i hi, List.getElem?_append_right (by rw [rowLine_len, List.length_take]; omega), rowLine_len, List.length_take, show i * 6 + j - min i ts.length * 6 = j by omega, List.getElem?_append_left (by simp [cellsLine]; omega)]
    exact ⟨CellIs.own h (j := i * 6) (hx 0 (by omega)) (v := .int .i64 ts[i].loader) ⟨_, rfl⟩, CellIs.own h (j := i * 6 + 1) (hx 1 (by omega)) (v := .string ts[i].cls) ⟨_, rfl⟩, CellIs.own h (j := i * 6 + 2) (hx 2 (by omega)) (v := .string ts[i].method) ⟨_, rfl⟩, CellIs.own h (j := i * 6 + 3) (hx 3 (by omega)) (v := .int .i64 ts[i].at_) ⟨_, rfl⟩, CellIs.own h (j := i * 6 + 4) (hx 4 (by omega)) (v := .int .i64 ts[i].op) ⟨_, rfl⟩, CellIs.own h (j := i * 6 + 5) (hx 5 (by omega)) (v := .int .i64 ts[i].deep) ⟨_, rfl⟩⟩

/-- a number of 64 bits -/
def I64 (p : Int) : Prop := -9223372036854775808 ≤ p ∧ p ≤ 9223372036854775807
theorem at_i64 {H : Type} {enc : TypeId × Value → H} {W : World} {n o : Nat} {cs : List Value} {i : Nat} {xs : List (DataW H × List MemPlace)} (hi : i < xs.length)
    (h : DataW.trod enc Tryd.prog W 0 (fun _ => true) true n 3 ((cs.drop o).take (Tryd.prog.cellsOf 3)) = xs[i]?) : ∃ p, cs[o]? = some (.int .i64 p) ∧ I64 p := by
  rw [List.getElem?_eq_getElem hi] at h
  obtain ⟨p, q, _, hw⟩ := DataW.trod_int Tryd.underlying3 h
  rw [show Tryd.prog.cellsOf 3 = 1 by kernel_rfl] at q
  refine ⟨p, by have := congrArg (·[0]?) q; simpa [List.getElem?_take, List.getElem?_drop] using this, ?_⟩
  simp [Lit.wf, IntKind.min, IntKind.max, IntKind.signed, IntKind.bits] at hw
  unfold I64
  omega
theorem lines_of {H : Type} {enc : TypeId × Value → H} {W : World} {fuel : Nat} {ao : Option Addr} {len cap : Nat} {x : DataW H × List MemPlace}
    (h : DataW.trod enc Tryd.prog W 0 (fun _ => true) true fuel 22 [.slice ao len cap] = some x) : len ≤ maxLen ∧ ∃ ts, ArgLine W ao len ts ∧ ∀ t ∈ ts, I64 t.loader ∧ I64 t.at_ ∧ I64 t.op ∧ I64 t.deep := by
  obtain ⟨hm, h0 | ⟨b, off, rfl, hb, hx⟩⟩ := row_of Tryd.underlying22 (show Tryd.prog.cellsOf 31 = 6 by kernel_rfl) (by decide) h
  · exact ⟨hm, [], ⟨by simp [h0], fun t ht => by simp at ht, .inl h0⟩, fun t ht => by simp at ht⟩
  · refine ⟨hm, ?_⟩
    have key : ∀ i, i < len → ∃ t : MLine, (W.cell? ⟨b, off + i * 6, none⟩ = some (.int .i64 t.loader) ∧ W.cell? ⟨b, off + i * 6 + 1, none⟩ = some (.string t.cls) ∧ W.cell? ⟨b, off + i * 6 + 2, none⟩ = some (.string t.method) ∧ W.cell? ⟨b, off + i * 6 + 3, none⟩ = some (.int .i64 t.at_) ∧ W.cell? ⟨b, off + i * 6 + 4, none⟩ = some (.int .i64 t.op) ∧ W.cell? ⟨b, off + i * 6 + 5, none⟩ = some (.int .i64 t.deep)) ∧ (t.cls.size ≤ maxLen ∧ t.method.size ≤ maxLen) ∧ I64 t.loader ∧ I64 t.at_ ∧ I64 t.op ∧ I64 t.deep := by
      intro i hi
      obtain ⟨cs, n', y, hc, ht⟩ := hx i hi
      obtain ⟨xs, n2, _, _, _, hl, hf⟩ := DataW.trod_struct Tryd.underlying31 ht
      simp at hl
      obtain ⟨p0, g0, z0⟩ := at_i64 (by omega) (hf 0 _ rfl)
      obtain ⟨p1, g1, z1⟩ := at_str (by omega) (hf 1 _ rfl)
      obtain ⟨p2, g2, z2⟩ := at_str (by omega) (hf 2 _ rfl)
      obtain ⟨p3, g3, z3⟩ := at_i64 (by omega) (hf 3 _ rfl)
      obtain ⟨p4, g4, z4⟩ := at_i64 (by omega) (hf 4 _ rfl)
      obtain ⟨p5, g5, z5⟩ := at_i64 (by omega) (hf 5 _ rfl)
      exact ⟨⟨p0, p1, p2, p3, p4, p5⟩, ⟨(hc 0 (by omega)).trans g0, (hc 1 (by omega)).trans g1, (hc 2 (by omega)).trans g2, (hc 3 (by omega)).trans g3, (hc 4 (by omega)).trans g4, (hc 5 (by omega)).trans g5⟩, ⟨z1, z2⟩, z0, z3, z4, z5⟩
    obtain ⟨ts, hl, hp⟩ := list_of len key
    refine ⟨ts, ⟨hl, fun t ht => ?_, .inr ⟨b, off, rfl, hb, fun k hk => (hp k hk).1⟩⟩, fun t ht => ?_⟩
    · obtain ⟨k, hk, rfl⟩ := List.getElem_of_mem ht
      exact (hp k hk).2.1
    · obtain ⟨k, hk, rfl⟩ := List.getElem_of_mem ht
      exact (hp k hk).2.2

end Go.Proofs.YtpjpbilcmnfgpaaDoor
