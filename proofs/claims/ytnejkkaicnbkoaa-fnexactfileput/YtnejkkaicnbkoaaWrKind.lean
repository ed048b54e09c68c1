/- Contracts of the program's writer: kinds, frames, traps, fields. -/
import Derived.Test.YtnejkkaicnbkoaaWrTwo
import Derived.Test.YtnejkkaicnbkoaaRdBody
namespace Go.Proofs.Ytnejkkaicnbkoaa
open Go.RowKit Fm
set_option maxHeartbeats 2000000
set_option maxRecDepth 20000
set_option linter.unusedVariables false

theorem WB.lt {w0 : World} {b : Nat} {sp : Bool} {bs : List UInt8} {W : World} (h : WB w0 b sp bs W) : b < W.heap.size := by
  obtain ⟨p, v, h1, h2, h3⟩ := h.at_
  exact (Array.getElem?_eq_some_iff.1 h2).1
theorem WB.lk {w0 : World} {b : Nat} {sp : Bool} {bs : List UInt8} {W : World} (h : WB w0 b sp bs W) : ∃ cs, Lk W b cs 63 := by
  obtain ⟨p, v, h1, h2, h3⟩ := h.at_
  exact ⟨_, h2⟩
theorem WB.alloc {w0 : World} {b : Nat} {sp : Bool} {bs : List UInt8} {W : World} (h : WB w0 b sp bs W) (o : Obj) : WB w0 b sp bs (W.alloc o) := h.keep ((Below.refl _ _).alloc (Nat.le_refl _) _)
theorem Kw.alloc (b : Nat) (W : World) (o : Obj) : Kw b W (W.alloc o) := Kw.of_below ((Below.refl _ _).alloc (Nat.le_refl _) _)

theorem wtrap_any {w0 : World} {b : Nat} {sp : Bool} {bs : List UInt8} {W : World} (t : MTrap) (h : WB w0 b sp bs W) (hl : bs.length ≤ 800000) :
    Calls Try.prog 113 #[.pointer (some ⟨b, 0, none⟩), .agg #[.int .i64 t.from_, .int .i64 t.to_, .int .i64 t.at_, .int .i64 t.cls]] W fun e w' => e = .returned (.tuple #[]) ∧ WP w0 b sp bs W 8 (fineT t) (putT t) w' := by
  obtain ⟨x0, x1, x2, x3⟩ := t
  have hb := h.lt
  have h0 := h.alloc (.cells #[.int .i64 x0, .int .i64 x1, .int .i64 x2, .int .i64 x3] 120)
  have L0 := Lk.new W #[.int .i64 x0, .int .i64 x1, .int .i64 x2, .int .i64 x3] 120
  have K0 := Kw.alloc b W (.cells #[.int .i64 x0, .int .i64 x1, .int .i64 x2, .int .i64 x3] 120)
  clear h
  go_enter Try.func113, Try.ntmps113
  go_wp2_with fail
  refine (wtwo_any _ h0 (by omega)).mono ?_
  rintro e w1 ⟨rfl, sp1, bs1, h1, k1, z1⟩
  have L1 := k1.lk L0 (by omega) (by decide)
  obtain ⟨c0, c1, c2, c3, _⟩ := L1.c4
  have hl1 := z1.len
  clear h0 L0
  go_wp2_with fail
  refine (wtwo_any _ h1 (by omega)).mono ?_
  rintro e w2 ⟨rfl, sp2, bs2, h2, k2, z2⟩
  have L2 := k2.lk L1 (by omega) (by decide)
  clear c0 c1 c2 c3
  obtain ⟨c0, c1, c2, c3, _⟩ := L2.c4
  have hl2 := z2.len
  clear h1 L1
  go_wp2_with fail
  refine (wtwo_any _ h2 (by omega)).mono ?_
  rintro e w3 ⟨rfl, sp3, bs3, h3, k3, z3⟩
  have L3 := k3.lk L2 (by omega) (by decide)
  clear c0 c1 c2 c3
  obtain ⟨c0, c1, c2, c3, _⟩ := L3.c4
  have hl3 := z3.len
  clear h2 L2
  go_wp2_with fail
  refine (wtwo_any _ h3 (by omega)).mono ?_
  rintro e w4 ⟨rfl, sp4, bs4, h4, k4, z4⟩
  have HF := hid (show WP w0 b sp bs W 8 (fineT ⟨x0, x1, x2, x3⟩) (putT ⟨x0, x1, x2, x3⟩) w4 from ⟨sp4, bs4, h4, (K0.trans k1).trans ((k2.trans k3).trans k4), (((z1.trans z2).trans z3).trans z4).to (by omega) (by unfold fineT; simp [and_assoc]) (fun _ => by simp [putT])⟩)
  clear h3 h4 k1 k2 k3 k4 z1 z2 z3 z4 K0 L3 c0 c1 c2 c3
  go_wp2_with fail
  go_end0
  exact ⟨rfl, HF.out⟩

theorem Lk.c3' {W : World} {C : Nat} {a b c : Value} {T : TypeId} (h : Lk W C #[a, b, c] T) : W.cell? ⟨C, 0, none⟩ = some a ∧ W.cell? ⟨C, 1, none⟩ = some b ∧ W.cell? ⟨C, 2, none⟩ = some c := ⟨h.c 0 _ rfl, h.c 1 _ rfl, h.c 2 _ rfl⟩

theorem wfield_any {w0 : World} {b : Nat} {sp : Bool} {bs : List UInt8} {W : World} (t : MField) (h : WB w0 b sp bs W) (hl : bs.length ≤ 800000) :
    Calls Try.prog 70 #[.pointer (some ⟨b, 0, none⟩), .agg #[.int .i64 t.flags, .int .i64 t.name, .int .i64 t.typ]] W fun e w' => e = .returned (.tuple #[]) ∧ WP w0 b sp bs W 5 (fineFd t) (putFd t) w' := by
  obtain ⟨x0, x1, x2⟩ := t
  have hb := h.lt
  have h0 := h.alloc (.cells #[.int .i64 x0, .int .i64 x1, .int .i64 x2] 78)
  have L0 := Lk.new W #[.int .i64 x0, .int .i64 x1, .int .i64 x2] 78
  have K0 := Kw.alloc b W (.cells #[.int .i64 x0, .int .i64 x1, .int .i64 x2] 78)
  clear h
  go_enter Try.func70, Try.ntmps70
  go_wp2_with fail
  refine (wone_any _ h0 (by omega)).mono ?_
  rintro e w1 ⟨rfl, sp1, bs1, h1, k1, z1⟩
  have L1 := k1.lk L0 (by omega) (by decide)
  obtain ⟨c0, c1, c2⟩ := L1.c3'
  have hl1 := z1.len
  clear h0 L0
  go_wp2_with fail
  refine (wtwo_any _ h1 (by omega)).mono ?_
  rintro e w2 ⟨rfl, sp2, bs2, h2, k2, z2⟩
  have L2 := k2.lk L1 (by omega) (by decide)
  clear c0 c1 c2
  obtain ⟨c0, c1, c2⟩ := L2.c3'
  have hl2 := z2.len
  clear h1 L1
  go_wp2_with fail
  refine (wtwo_any _ h2 (by omega)).mono ?_
  rintro e w3 ⟨rfl, sp3, bs3, h3, k3, z3⟩
  have HF := hid (show WP w0 b sp bs W 5 (fineFd ⟨x0, x1, x2⟩) (putFd ⟨x0, x1, x2⟩) w3 from ⟨sp3, bs3, h3, (K0.trans k1).trans (k2.trans k3), ((z1.trans z2).trans z3).to (by omega) (by unfold fineFd; simp [and_assoc]) (fun _ => by simp [putFd])⟩)
  clear h2 h3 k1 k2 k3 z1 z2 z3 K0 L2 c0 c1 c2
  go_wp2_with fail
  go_end0
  exact ⟨rfl, HF.out⟩

theorem wkind_any {w0 : World} {b : Nat} {sp : Bool} {bs : List UInt8} {W : World} (t : MKind) (h : WB w0 b sp bs W) (hl : bs.length ≤ 800000) :
    Calls Try.prog 127 #[.pointer (some ⟨b, 0, none⟩), .agg #[.int .i64 t.tag, .int .i64 t.cls]] W fun e w' => e = .returned (.tuple #[]) ∧ WP w0 b sp bs W 3 (fineK t) (putK t) w' := by
  obtain ⟨x, y⟩ := t
  have hb := h.lt
  have h0 := h.alloc (.cells #[.int .i64 x, .int .i64 y] 144)
  have L0 := Lk.new W #[.int .i64 x, .int .i64 y] 144
  have K0 := Kw.alloc b W (.cells #[.int .i64 x, .int .i64 y] 144)
  clear h
  go_enter Try.func127, Try.ntmps127
  go_wp2_with fail
  refine (wmust_any h0 (decide (x ≤ 3)) (x ≤ 3) (by simp)).mono ?_
  rintro e w1 ⟨rfl, sp1, bs1, h1, k1, z1⟩
  have L1 := k1.lk L0 (by omega) (by decide)
  have c0 := L1.c 0 _ rfl
  have c1 := L1.c 1 _ rfl
  have hl1 := z1.len
  clear h0 L0
  go_wp2_with fail
  refine (wone_any _ h1 (by omega)).mono ?_
  rintro e w2 ⟨rfl, sp2, bs2, h2, k2, z2⟩
  have L2 := k2.lk L1 (by omega) (by decide)
  clear c0 c1
  have c0 : w2.cell? ⟨W.heap.size, 0, none⟩ = some (.int .i64 x) := L2.c 0 _ rfl
  have c1 : w2.cell? ⟨W.heap.size, 1, none⟩ = some (.int .i64 y) := L2.c 1 _ rfl
  have hl2 := z2.len
  have Z := hid (z1.trans z2)
  have KK := hid ((K0.trans k1).trans k2)
  clear h1 L1 z1 z2 K0 k1 k2
  by_cases h3 : x = 3
  · subst h3
    go_wp2_with fail
    refine (wtwo_any _ h2 (by omega)).mono ?_
    rintro e w3 ⟨rfl, sp3, bs3, h3, k3, z3⟩
    have HF := hid (show WP w0 b sp bs W 3 (fineK ⟨3, y⟩) (putK ⟨3, y⟩) w3 from ⟨sp3, bs3, h3, KK.out.trans k3, (Z.out.trans z3).to (by omega) (by unfold fineK; simp [in1]) (fun _ => by simp [putK])⟩)
    clear h2 h3 k3 z3 Z KK L2 c0 c1
    go_wp2_with fail
    refine bodyPost_ret (results_none (by rfl) _ _ _) rfl ?_
    exact ⟨rfl, HF.out⟩
  · have e3 : (x == 3) = false := by simpa using h3
    have HN := hid h3
    clear h3
    go_wp2_with fail
    refine (wmust_any h2 (y == 0) (y = 0) (by simp)).mono ?_
    rintro e w3 ⟨rfl, sp3, bs3, h3, k3, z3⟩
    have HF := hid (show WP w0 b sp bs W 3 (fineK ⟨x, y⟩) (putK ⟨x, y⟩) w3 from ⟨sp3, bs3, h3, KK.out.trans k3, (Z.out.trans z3).to (by omega) (by unfold fineK in1; simp only [HN.out, if_false]; constructor <;> (rintro ⟨⟨q1, q2⟩, q3⟩; refine ⟨⟨?_, ?_⟩, ?_⟩ <;> first | exact q3 | omega)) (fun _ => by simp [putK, HN.out])⟩)
    clear h2 h3 k3 z3 Z KK L2 c0 c1
    go_wp2_with fail
    go_end0
    exact ⟨rfl, HF.out⟩

end Go.Proofs.Ytnejkkaicnbkoaa
