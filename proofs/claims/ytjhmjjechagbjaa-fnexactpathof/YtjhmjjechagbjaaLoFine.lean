/- Contract of the program's loaderFine. -/
import Derived.Test.YtjhmjjechagbjaaLoAsc
import Derived.Test.YtjhmjjechagbjaaAnyLoader
namespace Go.Proofs.Ytjhmjjechagbjaa
open Go.RowKit
set_option maxHeartbeats 2000000
set_option maxRecDepth 20000
set_option linter.unusedVariables false

def wayQ (n : Nat) (ys : List MWay) (k : Nat) : Bool := (ys[k]?.map (wayB n)).getD true
def fileQ (fs : List MFile) (k : Nat) : Bool := (fs[k]?.map fileB).getD true
/-- a loader that is ok among n -/
structure fineL (n : Nat) (l : MLoader) : Prop where
  nf : l.files.length ≤ 5
  ny : l.ways.length ≤ 4
  y : ∀ k, k < l.ways.length → wayQ n l.ways k = true
  a : AscP l.ways
  f : ∀ k, k < l.files.length → fileQ l.files k = true
  u : UnlikeP l.files
  p : l.parent = -1 ∨ inB l.parent 0 ((n : Int) - 1) = true

/-- the two arguments in their blocks -/
structure LF (w : World) (ao : Option Addr) (len cap : Nat) (v1 v2 : Value) (p : Int) (W : World) : Prop where
  b : Below w.heap.size w W
  c : W.cell? ⟨w.heap.size, 0, none⟩ = some (.slice ao len cap)
  d0 : W.cell? ⟨w.heap.size + 1, 0, none⟩ = some v1
  d1 : W.cell? ⟨w.heap.size + 1, 1, none⟩ = some v2
  d2 : W.cell? ⟨w.heap.size + 1, 2, none⟩ = some (.int .i64 p)
  l : w.heap.size + 1 < W.heap.size
theorem LF.keep {w W W' : World} {ao : Option Addr} {len cap : Nat} {v1 v2 : Value} {p : Int} (h : LF w ao len cap v1 v2 p W) (hb : Below W.heap.size W W') : LF w ao len cap v1 v2 p W' := by
  have := h.l
  exact ⟨h.b.trans (hb.mono h.b.size), (hb_cell hb (by omega)).trans h.c, (hb_cell hb (by omega)).trans h.d0, (hb_cell hb (by omega)).trans h.d1, (hb_cell hb (by omega)).trans h.d2, Nat.lt_of_lt_of_le h.l hb.size⟩
theorem LF.start (w : World) (ao : Option Addr) (len cap : Nat) (v1 v2 : Value) (p : Int) (T1 T2 : TypeId) : LF w ao len cap v1 v2 p ((w.alloc (.cells #[.slice ao len cap] T1)).alloc (.cells #[v1, v2, .int .i64 p] T2)) := by
  refine ⟨((Below.refl _ _).alloc (Nat.le_refl _) _).alloc (by simp) _, ?_, ?_, ?_, ?_, by simp⟩
  · rw [hb_cell ((Below.refl _ _).alloc (Nat.le_refl _) _) (by simp)]; simp [go_sem]
  · simp
  · simp
  · simp

theorem loaderFine_any (x : SLoader) (l : MLoader) (ao : Option Addr) (len cap B : Nat) (w : World) (hl : len ≤ 1048576) (hf : l.few) (h : LoaderW w B x l) :
    Calls Try.prog 56 #[.slice ao len cap, .agg #[x.files, x.ways, .int .i64 x.parent]] w fun e w' => ∃ b : Bool, e = .returned (.bool b) ∧ (b = true ↔ fineL len l) ∧ Below w.heap.size w w' := by
  obtain ⟨⟨f1, f2⟩, f3, f4⟩ := hf
  obtain ⟨hp, h1, h2⟩ := h
  obtain ⟨xf, xw, xp⟩ := x
  obtain ⟨fs, ys, pr⟩ := l
  simp only at hp h1 h2 f1 f2 f3 f4
  subst hp
  obtain ⟨a1, k1, e1⟩ := own_len h1
  obtain ⟨a2, k2, e2⟩ := own_len h2
  subst e1 e2
  have P0 := LF.start w ao len cap (.slice a1 fs.length k1) (.slice a2 ys.length k2) xp 26 47
  have H1 := hid h1
  have H2 := hid h2
  have F2 := hid f2
  have F4 := hid f4
  clear h1 h2 f2 f4
  have hmf : ∀ (fn : Fn) (first cap : Array Value) (w : World), (Instr.makeFunc fn first cap).run Try.prog w = .ok (.func fn first cap) w := fun _ _ _ _ => rfl
  by_cases hnf : fs.length ≤ 5
  case neg =>
    have HN := hid (show ¬ fineL len ⟨fs, ys, xp⟩ from fun h => hnf h.nf)
    have HB := hid P0.b
    clear P0
    go_enter Try.func56, Try.ntmps56
    go_wp2
    go_ret
    first | exact ⟨false, rfl, ⟨fun h => (by cases h), fun h => absurd h HN.out⟩, HB.out⟩ | exact .inl ⟨rfl, HN.out, HB.out⟩
  by_cases hny : ys.length ≤ 4
  case neg =>
    have HN := hid (show ¬ fineL len ⟨fs, ys, xp⟩ from fun h => hny h.ny)
    have HB := hid P0.b
    clear P0
    go_enter Try.func56, Try.ntmps56
    go_wp2
    go_ret
    first | exact ⟨false, rfl, ⟨fun h => (by cases h), fun h => absurd h HN.out⟩, HB.out⟩ | exact .inl ⟨rfl, HN.out, HB.out⟩
  have hW := fun W (hW : LF w ao len cap (.slice a1 fs.length k1) (.slice a2 ys.length k2) xp W) => allWay_any (.pointer (some ⟨w.heap.size, 0, none⟩)) (.slice a2 ys.length k2) ys B (wayQ len ys) W (by omega) (own_below H2.out hW.b) (fun k hk W' hW' => by
    have P := hW.keep hW'
    have hlt := P.l
    refine (wayFine_any ys[k] ao len cap w.heap.size W' (by have := F4.out _ (List.getElem_mem hk); unfold maxLen; omega) (by omega) P.c (by omega)).mono ?_
    rintro e w1 ⟨rfl, hb⟩
    exact ⟨ret_bool (by unfold wayQ; rw [List.getElem?_eq_getElem hk]; rfl), hb⟩)
  have hA := fun W (hW : LF w ao len cap (.slice a1 fs.length k1) (.slice a2 ys.length k2) xp W) => ascWay_any (.slice a2 ys.length k2) ys B W (by omega) (own_below H2.out hW.b)
  have hF := fun W (hW : LF w ao len cap (.slice a1 fs.length k1) (.slice a2 ys.length k2) xp W) => allFile_any (.slice a1 fs.length k1) fs B (fileQ fs) W (by omega) (own_below H1.out hW.b) (fun k hk W' hW' => by
    refine (fileFine_any fs[k] W' (by have := (F2.out _ (List.getElem_mem hk)).1; unfold maxLen; omega) (by have := (F2.out _ (List.getElem_mem hk)).2; unfold maxLen; omega)).mono ?_
    rintro e w1 ⟨rfl, hb⟩
    exact ⟨ret_bool (by unfold fileQ; rw [List.getElem?_eq_getElem hk]; rfl), hb⟩)
  have hU := fun W (hW : LF w ao len cap (.slice a1 fs.length k1) (.slice a2 ys.length k2) xp W) => unlikeFile_any (.slice a1 fs.length k1) fs B W (by omega) (own_below H1.out hW.b)
  have hI := fun W => isAtLoader_any ao len cap xp W (by omega)
  go_enter Try.func56, Try.ntmps56
  go_wp2_with fail
  refine (hW _ P0).mono ?_
  rintro e w1 ⟨b1, rfl, r1, hb1⟩
  have P1 := P0.keep hb1
  have R1 := hid r1
  clear P0 hb1 hW r1
  obtain ⟨_, c0, c1, c2, c3, _⟩ := id P1
  cases b1 with
  | false =>
    have HN := hid (show ¬ fineL len ⟨fs, ys, xp⟩ from fun h => by have := R1.out.2 h.y; cases this)
    have HB := hid P1.b
    clear P1 R1
    go_wp2
    go_ret
    first | exact ⟨false, rfl, ⟨fun h => (by cases h), fun h => absurd h HN.out⟩, HB.out⟩ | exact .inl ⟨rfl, HN.out, HB.out⟩
  | true =>
  replace R1 := hid (R1.out.1 rfl)
  go_wp2_with fail
  refine (hA _ P1).mono ?_
  rintro e w2 ⟨b2, rfl, r2, hb2⟩
  have P2 := P1.keep hb2
  have R2 := hid r2
  clear P1 hb2 hA r2 c0 c1 c2 c3
  obtain ⟨_, c0, c1, c2, c3, _⟩ := id P2
  cases b2 with
  | false =>
    have HN := hid (show ¬ fineL len ⟨fs, ys, xp⟩ from fun h => by have := R2.out.2 h.a; cases this)
    have HB := hid P2.b
    clear P2 R2
    go_wp2
    go_ret
    first | exact ⟨false, rfl, ⟨fun h => (by cases h), fun h => absurd h HN.out⟩, HB.out⟩ | exact .inl ⟨rfl, HN.out, HB.out⟩
  | true =>
  replace R2 := hid (R2.out.1 rfl)
  go_wp2_with fail
  refine (hF _ P2).mono ?_
  rintro e w3 ⟨b3, rfl, r3, hb3⟩
  have P3 := P2.keep hb3
  have R3 := hid r3
  clear P2 hb3 hF r3 c0 c1 c2 c3
  obtain ⟨_, c0, c1, c2, c3, _⟩ := id P3
  cases b3 with
  | false =>
    have HN := hid (show ¬ fineL len ⟨fs, ys, xp⟩ from fun h => by have := R3.out.2 h.f; cases this)
    have HB := hid P3.b
    clear P3 R3
    go_wp2
    go_ret
    first | exact ⟨false, rfl, ⟨fun h => (by cases h), fun h => absurd h HN.out⟩, HB.out⟩ | exact .inl ⟨rfl, HN.out, HB.out⟩
  | true =>
  replace R3 := hid (R3.out.1 rfl)
  go_wp2_with fail
  refine (hU _ P3).mono ?_
  rintro e w4 ⟨b4, rfl, r4, hb4⟩
  have P4 := P3.keep hb4
  have R4 := hid r4
  clear P3 hb4 hU r4 c0 c1 c2 c3
  obtain ⟨_, c0, c1, c2, c3, _⟩ := id P4
  cases b4 with
  | false =>
    have HN := hid (show ¬ fineL len ⟨fs, ys, xp⟩ from fun h => by have := R4.out.2 h.u; cases this)
    have HB := hid P4.b
    clear P4 R4
    go_wp2
    go_ret
    first | exact ⟨false, rfl, ⟨fun h => (by cases h), fun h => absurd h HN.out⟩, HB.out⟩ | exact .inl ⟨rfl, HN.out, HB.out⟩
  | true =>
  replace R4 := hid (R4.out.1 rfl)
  have HB := hid P4.b
  clear P4
  by_cases hpar : xp = -1
  · have HY := hid (show fineL len ⟨fs, ys, xp⟩ from ⟨hnf, hny, R1.out, R2.out, R3.out, R4.out, .inl hpar⟩)
    clear R1 R2 R3 R4
    subst hpar
    go_wp2
    go_ret
    exact ⟨true, rfl, ⟨fun _ => HY.out, fun _ => rfl⟩, HB.out⟩
  · go_wp2_with fail
    refine (hI _).mono ?_
    rintro e w5 ⟨rfl, hw⟩
    replace hw := hw.symm
    subst hw
    have HY := hid (show inB xp 0 ((len : Int) - 1) = true ↔ fineL len ⟨fs, ys, xp⟩ from ⟨fun h => ⟨hnf, hny, R1.out, R2.out, R3.out, R4.out, .inr h⟩, fun h => h.p.resolve_left hpar⟩)
    clear R1 R2 R3 R4
    generalize inB xp 0 ((len : Int) - 1) = q at HY ⊢
    go_wp2
    go_ret
    refine ⟨q, ret_bool ?_, HY.out, HB.out⟩
    rw [show (xp == -1) = false from by simpa using hpar]
    rfl

end Go.Proofs.Ytjhmjjechagbjaa
