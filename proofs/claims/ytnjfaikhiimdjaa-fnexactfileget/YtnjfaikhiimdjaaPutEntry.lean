/- Contracts of the specification's writer: entries of a pool. -/
import Derived.Test.YtnjfaikhiimdjaaPutKinds
import Derived.Test.YtnjfaikhiimdjaaRdEntry
import Derived.Deep.RegionHeld
namespace Go.Proofs.Ytnjfaikhiimdjaa
open Go.RowKit Fm
set_option maxHeartbeats 4000000
set_option maxRecDepth 20000
set_option linter.unusedVariables false

theorem Pt.whole (x : ByteArray) : Pt x x.size True x.data.toList := ⟨Nat.le_refl _, fun _ => (bytes_data x).symm⟩

theorem putEntry_any (t : C4) (w : World) (hs : t.text.size ≤ 1048576) :
    Calls Try.prog 57 #[.agg #[.int .i64 t.kind, .string t.text, .int .i64 t.a, .int .i64 t.b]] w fun e w' => ∃ u, e = .returned (.string u) ∧ Pt u (5 + t.text.size) (fineE t) (putE t) ∧ Below w.heap.size w w' := by
  obtain ⟨k, x, a, b⟩ := t
  have hs : x.size ≤ 1048576 := hs
  have K0 := Lk.new w #[.int .i64 k, .string x, .int .i64 a, .int .i64 b] 75
  have KD := (show Lk (w.alloc (.cells #[.int .i64 k, .string x, .int .i64 a, .int .i64 b] 75)).drew w.heap.size #[.int .i64 k, .string x, .int .i64 a, .int .i64 b] 75 from K0)
  have hb0 := (show Below w.heap.size w (w.alloc (.cells #[.int .i64 k, .string x, .int .i64 a, .int .i64 b] 75)).drew from ((Below.refl _ _).alloc (Nat.le_refl _) _).drew)
  obtain ⟨c0, c1, c2, c3, _⟩ := KD.c4
  have hs1 : ∀ n : Int, (bytesOf (one n)).size ≤ 1 := fun n => by rw [bytes_size]; simp [one]
  have hp1 := fun n => Pt.of (one n)
  have HP1 := hid hp1
  clear hp1 K0
  by_cases h1 : k = 1
  · subst h1
    have hq1 := hs1 1
    have hq2 := hs1 x.size
    clear hs1
    go_enter Try.func57, Try.ntmps57
    go_wp2_with fail
    go_region_held (fun w' => w'.cell? ⟨w.heap.size, 0, none⟩ = some (.int .i64 1) ∧ w'.cell? ⟨w.heap.size, 1, none⟩ = some (.string x)) (refine ⟨?_, ?_⟩ <;> assumption) (first
      | (go_at_call 56; refine (put1_any _ _).mono ?_; rintro e w9 ⟨rfl, hb9⟩; have hk9 := Lk.keep (by assumption) hb9; have hb9' := Below.trans (by assumption) (Below.mono hb9 (Below.size (by assumption))); obtain ⟨d0, d1, d2, d3, _⟩ := hk9.c4))
    go_wp2_with fail
    go_ret
    refine ⟨_, rfl, ((HP1.out 1).app (HP1.out x.size)).app (Pt.whole x) |>.mono (by simp [one]) (fun _ => ⟨⟨trivial, trivial⟩, trivial⟩) (by simp [putE]), hb9'⟩
  · have e1 : (k == 1) = false := by simpa using h1
    by_cases h2 : k = 2
    · subst h2
      have hq1 := hs1 2
      clear hs1
      go_enter Try.func57, Try.ntmps57
      go_wp2_with fail
      go_region_held (fun w' => w'.cell? ⟨w.heap.size, 0, none⟩ = some (.int .i64 2) ∧ w'.cell? ⟨w.heap.size, 2, none⟩ = some (.int .i64 a)) (refine ⟨?_, ?_⟩ <;> assumption) (first
      | (go_at_call 56; refine (put1_any _ _).mono ?_; rintro e w9 ⟨rfl, hb9⟩; have hk9 := Lk.keep (by assumption) hb9; have hb9' := Below.trans (by assumption) (Below.mono hb9 (Below.size (by assumption))); obtain ⟨d0, d1, d2, d3, _⟩ := hk9.c4)
      | (go_at_call 58; refine (put2_any _ _).mono ?_; rintro e w9 ⟨u9, rfl, pu9, hb9⟩; have hu9 := pu9.1; have hk9 := Lk.keep (by assumption) hb9; have hb9' := Below.trans (by assumption) (Below.mono hb9 (Below.size (by assumption))); obtain ⟨d0, d1, d2, d3, _⟩ := hk9.c4))
      go_wp2_with fail
      go_ret
      refine ⟨_, rfl, ((HP1.out 2).app pu9).mono (by simp [one]; omega) (fun hf => ⟨trivial, by have := hf.2; simp [fineE2] at this; exact this.2.1⟩) (by simp [putE]), hb9'⟩
    · have e2 : (k == 2) = false := by simpa using h2
      have hq1 := hs1 k
      have HN1 := hid h1
      have HN2 := hid h2
      clear hs1 h1 h2
      go_enter Try.func57, Try.ntmps57
      go_wp2_with fail
      go_region_held (fun w' => w'.cell? ⟨w.heap.size, 0, none⟩ = some (.int .i64 k) ∧ w'.cell? ⟨w.heap.size, 2, none⟩ = some (.int .i64 a) ∧ w'.cell? ⟨w.heap.size, 3, none⟩ = some (.int .i64 b)) (refine ⟨?_, ?_, ?_⟩ <;> assumption) (first
      | (go_at_call 56; refine (put1_any _ _).mono ?_; rintro e w9 ⟨rfl, hb9⟩; have hk9 := Lk.keep (by assumption) hb9; have hb9' := Below.trans (by assumption) (Below.mono hb9 (Below.size (by assumption))); obtain ⟨d0, d1, d2, d3, _⟩ := hk9.c4)
      | (go_at_call 58; refine (put2_any _ _).mono ?_; rintro e w9 ⟨u9, rfl, pu9, hb9⟩; have hu9 := pu9.1; have hk9 := Lk.keep (by assumption) hb9; have hb9' := Below.trans (by assumption) (Below.mono hb9 (Below.size (by assumption))); obtain ⟨d0, d1, d2, d3, _⟩ := hk9.c4))
      all_goals
        go_wp2_with fail
        go_ret
        refine ⟨_, rfl, (((HP1.out k).app (P' := in2 a) (n' := 2) (l' := two a) (by assumption)).app pu9).mono (by simp [one]) (fun hf => ?_) (by simp [putE, HN1.out, HN2.out]), hb9'⟩
        have := hf.2
        simp [fineE2, HN1.out, HN2.out] at this
        exact ⟨⟨trivial, this.2.2.1⟩, this.2.2.2⟩

end Go.Proofs.Ytnjfaikhiimdjaa
