/- Contract of the program's memberAt. -/
import Derived.Test.YtadgoaogkkffmaaGreatDoorG03
import Derived.Test.YtadgoaogkkffmaaGreatDoorK01
import Derived.Deep.RegionHeld
namespace Go.Proofs.YtadgoaogkkffmaaGreatDoor
open Mx Go.RowKit
set_option maxHeartbeats 2000000
set_option maxRecDepth 20000
set_option linter.unusedVariables false

def arr4 (t : C4) : Array Value := #[.int .i64 t.kind, .string t.text, .int .i64 t.a, .int .i64 t.b]
theorem Lk.a4 {W : World} {g : Nat} {t : C4} {T : TypeId} (h : Lk W g (arr4 t) T) : W.cell? ⟨g, 0, none⟩ = some (.int .i64 t.kind) ∧ W.cell? ⟨g, 1, none⟩ = some (.string t.text) ∧ W.cell? ⟨g, 2, none⟩ = some (.int .i64 t.a) ∧ W.cell? ⟨g, 3, none⟩ = some (.int .i64 t.b) := ⟨h.c 0 _ rfl, h.c 1 _ rfl, h.c 2 _ rfl, h.c 3 _ rfl⟩

theorem Lk.s3 {W : World} {g : Nat} {T : TypeId} (h : Lk W g #[.string ⟨#[]⟩, .string ⟨#[]⟩, .string ⟨#[]⟩] T) : (W.cell? ⟨g, 0, none⟩ = some (.string ⟨#[]⟩) ∧ W.cell? ⟨g, 1, none⟩ = some (.string ⟨#[]⟩) ∧ W.cell? ⟨g, 2, none⟩ = some (.string ⟨#[]⟩)) ∧ W.frozen? ⟨g, 0, none⟩ = false ∧ W.frozen? ⟨g, 1, none⟩ = false ∧ W.frozen? ⟨g, 2, none⟩ = false :=
  ⟨⟨h.c 0 _ rfl, h.c 1 _ rfl, h.c 2 _ rfl⟩, h.z 0, h.z 1, h.z 2⟩

theorem memberAt_any (v : Value) (ts : List C4) (i : Int) (w : World) (hl : ts.length ≤ 1048576) (h : PoolW w v ts) :
    Calls Tryz.prog 109 #[v, .int .i64 i] w fun e w' => e = .returned (.agg #[.string (rawC ts (atC ts i).a), .string (rawT ts (atC ts (atC ts i).b).a), .string (rawT ts (atC ts (atC ts i).b).b)]) ∧ Below w.heap.size w w' := by
  have HA := hid (fun x W (hW : Below w.heap.size w W) => constAt_any v ts x W hl (h.keep hW))
  have HC := hid (fun x W (hW : Below w.heap.size w W) => classTextAt_any v ts x W hl (h.keep hW))
  have HN := hid (fun x W (hW : Below w.heap.size w W) => nameTextAt_any v ts x W hl (h.keep hW))
  have hA := HA.out i
  have hB := HA.out (atC ts i).b
  generalize atC ts (atC ts i).b = u at hB ⊢
  generalize atC ts i = t at hA hB ⊢
  generalize rawC ts = C at HC ⊢
  generalize rawT ts = F at HN ⊢
  obtain ⟨ao, cap, rfl⟩ := h.len
  have P0 := HB.one w #[.string ⟨#[]⟩, .string ⟨#[]⟩, .string ⟨#[]⟩] 133
  have hA1 := hA _ P0.b
  clear h HA hA
  go_enter Tryz.func109, Tryz.ntmps109
  go_wp2_with fail
  refine hA1.mono ?_
  rintro e w1 ⟨rfl, hb1⟩
  have P1 := (P0.keep hb1).add (arr4 t) 50 rfl
  have l1 : w.heap.size < w1.heap.size := by have := hb1.size; simp at this; omega
  have hB1 := hB _ P1.b
  obtain ⟨f0, f1, f2, f3⟩ := P1.hd.a4
  clear P0 hb1 hA1 hB
  go_wp2_with fail
  refine hB1.mono ?_
  rintro e w2 ⟨rfl, hb2⟩
  have P2 := (P1.keep hb2).add (arr4 u) 50 rfl
  have l2 : w.heap.size < w2.heap.size := by have := hb2.size; simp at this; omega
  have n1 : ¬ w1.heap.size = w.heap.size := by omega
  have n2 : ¬ w2.heap.size = w.heap.size := by omega
  clear P1 hb2 hB1 f0 f1 f2 f3
  have HC1 := fun x W (hW : HB w [(w2.heap.size, arr4 u, 50), (w1.heap.size, arr4 t, 50), (w.heap.size, #[.string ⟨#[]⟩, .string ⟨#[]⟩, .string ⟨#[]⟩], 133)] W) => HC.out x W hW.b
  have HN1 := fun x W (hW : HB w [(w2.heap.size, arr4 u, 50), (w1.heap.size, arr4 t, 50), (w.heap.size, #[.string ⟨#[]⟩, .string ⟨#[]⟩, .string ⟨#[]⟩], 133)] W) => HN.out x W hW.b
  go_upto_region 3 with fail
  have PD := P2.keep (show Below _ _ _ from (Below.refl _ _).drew)
  clear P2 HC HN
  obtain ⟨-, -, f2, f3⟩ := PD.hd.a4
  obtain ⟨-, -, e2, -⟩ := PD.tl.hd.a4
  obtain ⟨⟨m0, m1, m2⟩, z0, z1, z2⟩ := PD.tl.tl.hd.s3
  go_region_held (fun w' => w'.cell? ⟨w1.heap.size, 2, none⟩ = some (.int .i64 t.a) ∧ w'.cell? ⟨w2.heap.size, 2, none⟩ = some (.int .i64 u.a) ∧ w'.cell? ⟨w2.heap.size, 3, none⟩ = some (.int .i64 u.b)) (refine ⟨?_, ?_, ?_⟩ <;> first | assumption | go_cell) (first
    | (go_at_call 107; refine (HC1 _ _ (by assumption)).mono ?_; rintro e w8 ⟨rfl, hb8⟩; have P8 := HB.keep (by assumption) hb8; obtain ⟨-, -, f2, f3⟩ := P8.hd.a4; obtain ⟨-, -, e2, -⟩ := P8.tl.hd.a4; obtain ⟨⟨m0, m1, m2⟩, z0, z1, z2⟩ := P8.tl.tl.hd.s3)
    | (go_at_call 108; refine (HN1 _ _ (by assumption)).mono ?_; rintro e w8 ⟨rfl, hb8⟩; have P8 := HB.keep (by assumption) hb8; obtain ⟨-, -, f2, f3⟩ := P8.hd.a4; obtain ⟨-, -, e2, -⟩ := P8.tl.hd.a4; obtain ⟨⟨m0, m1, m2⟩, z0, z1, z2⟩ := P8.tl.tl.hd.s3))
  have HBX := hid (HB.b (by assumption))
  clear PD
  go_wp2
  refine bodyPost_ret (v := .agg #[.string (C t.a), .string (F u.a), .string (F u.b)]) (by simp [results, Tryz.results109, go_sem, *]) rfl ⟨rfl, ?_⟩
  exact ((HBX.out.setCell (by simp) _).setCell (by simp) _).setCell (by simp) _

end Go.Proofs.YtadgoaogkkffmaaGreatDoor
