/- Contract of OpsGet of the program: over a world that holds the table of ops. -/
import Derived.Test.YtnimkkchpmlddaaDoorOpsSmall
namespace Go.Proofs.YtnimkkchpmlddaaDoor
open Mx Go.RowKit
set_option maxHeartbeats 400000

def cells3 (t : Op3) : List Value := [.int .i64 t.at_, .int .i64 t.op, .int .i64 t.num]
def cellsL (ts : List Op3) : List Value := ts.flatMap cells3
theorem cellsL_nil : cellsL [] = [] := rfl
theorem cellsL_snoc (ts : List Op3) (t : Op3) : cellsL (ts ++ [t]) = cellsL ts ++ cells3 t := by simp [cellsL]
theorem cellsL_len (ts : List Op3) : (cellsL ts).length = ts.length * 3 := by
  induction ts with
  | nil => rfl
  | cons t ts ih => simp only [cellsL, List.flatMap_cons, List.length_append] at *; simp [cells3, ih]; omega

theorem infoIns : (Tryd.prog.info? 37).map (fun i => (i.zero, i.size, i.bytes)) = some (some (.agg #[.int .i64 0, .int .i64 0, .int .i64 0]), 3, 24) := by kernel_rfl

/-- the table of ops, in block 0 -/
def Tab (w : World) : Prop := 0 < w.heap.size ∧ ∀ k, k < 35 → w.cell? ⟨0, k, none⟩ = some (.int .i64 (tab.getD k 0))
theorem Tab.keep {B : Nat} {w w' : World} (h : Tab w) (hb : Below B w w') (hB : 0 < B) : Tab w' :=
  ⟨Nat.lt_of_lt_of_le h.1 hb.size, fun k hk => (hb.cell (p := ⟨0, k, none⟩) hB).trans (h.2 k hk)⟩

def OpsPost (s : ByteArray) (w : World) (e : Ending) (w' : World) : Prop :=
  ∃ v, e = .returned (.tuple #[v, .bool (oGood s)]) ∧ w'.ownsRow w.heap.size 37 3 v (oList s).length (cellsL (oList s)) ∧ Below w.heap.size w w'
theorem ops_post_no {s : ByteArray} {w w' : World} (h : s.size < 1 ∨ 120 < s.size ∨ ops s = none) (hb : Below w.heap.size w w') :
    OpsPost s w (.returned (.tuple #[.slice none 0 0, .bool false])) w' := by
  obtain ⟨h1, h2⟩ := ops_no h
  refine ⟨.slice none 0 0, by rw [h1], ?_, hb⟩
  rw [h2]
  exact World.ownsRow_nil _ _ _ _
theorem ops_post_yes {s : ByteArray} {w w' : World} {ts : List Op3} {v : Value} (h1 : 1 ≤ s.size) (h2 : s.size ≤ 120) (h : ops s = some ts) (ho : w'.ownsRow w.heap.size 37 3 v ts.length (cellsL ts)) (hb : Below w.heap.size w w') :
    OpsPost s w (.returned (.tuple #[v, .bool true])) w' := by
  obtain ⟨e1, e2⟩ := ops_yes h1 h2 h
  exact ⟨v, by rw [e1], by rw [e2]; exact ho, hb⟩

theorem tab_nonneg (k : Nat) : tab.getD k 0 ≠ -1 := by
  have : ∀ x ∈ tab, x ≠ -1 := by decide
  rw [List.getD_eq_getElem?_getD]
  cases h : tab[k]? with
  | none => simp
  | some x => exact this x (List.mem_of_getElem? h)

theorem OpsGet_any (s : ByteArray) (w : World) (hs : s.size ≤ maxLen) (hT : Tab w) :
    Calls Tryd.prog 6 #[.string s] w fun e w' => OpsPost s w e w' := by
  unfold maxLen at hs
  by_cases h1 : s.size < 1
  · go_enter Tryd.func6, Tryd.ntmps6
    go_wp2
    go_ret2
    exact ops_post_no (.inl h1) (Below.refl _ _)
  by_cases h2 : 120 < s.size
  · go_enter Tryd.func6, Tryd.ntmps6
    go_wp2
    go_ret2
    exact ops_post_no (.inr (.inl h2)) (Below.refl _ _)
  obtain ⟨i0, hi, hz0, hz1, hz2⟩ := info_parts infoIns
  have HTab : Hid (Tab w) := hT
  have hB0 := hT.1
  clear hT hs
  go_enter Tryd.func6, Tryd.ntmps6
  go_wp2
  go_loopw [4, 5] (fun v i wr => ∃ (ts : List Op3) (a f : Nat), i = .int .i64 a ∧ a ≤ s.size ∧ s.size ≤ a + f ∧ ts.length + f ≤ s.size ∧ wr.ownsRow w.heap.size 37 3 v ts.length (cellsL ts) ∧ Below w.heap.size w wr ∧ Hid (ops s = (opsAt s f a).map (pre ts))) (fun _ i _ => s.size - (intOf i).toNat)
  case atStart => exact ⟨[], 0, s.size, rfl, by omega, by omega, by simp, World.ownsRow_nil _ _ _ _, Below.refl _ _, (pre_nil _).symm⟩
  case round =>
    obtain ⟨ts, a, f, rfl, ha, hf, hl, hown, hbel, HR⟩ := hrel
    obtain ⟨ao, cap, hv⟩ := own_len hown
    subst hv
    by_cases hlt : a < s.size
    · have hTab := HTab.out.keep hbel hB0
      obtain ⟨g, rfl⟩ : ∃ g, f = g + 1 := ⟨f - 1, by omega⟩
      have hop : opAt s a = (s[a].toNat : Int) := by unfold opAt opNat; rw [byteOf s a hlt]
      have hc : (s[a].toNat : Int) ≤ 255 := by have := s[a].toNat_lt; omega
      by_cases hop35 : s[a].toNat < 35
      · have hcell := hTab.2 _ hop35
        have harg := args_tab _ hop35
        rw [← hop] at harg
        rw [← harg] at hcell
        obtain ⟨n, hn2, hn⟩ : ∃ n : Nat, n ≤ 2 ∧ args (opAt s a) = n := by
          rcases args_range (opAt s a) with h | h | h | h
          · exfalso; rw [hop] at h; have := args_tab _ hop35; rw [h] at this; exact tab_nonneg _ this.symm
          · exact ⟨0, by omega, h⟩
          · exact ⟨1, by omega, h⟩
          · exact ⟨2, by omega, h⟩
        rw [hn] at hcell
        have hO : ∀ w, Calls Tryd.prog 15 #[.int .i64 (s[a].toNat : Int)] w fun e w' => e = .returned (.bool true) ∧ w' = w := fun w => by
          refine (isOp_any _ w).mono ?_
          rintro e w' ⟨rfl, rfl⟩
          exact ⟨ret_bool (by simp; omega), rfl⟩
        by_cases hfit : a + 1 + n ≤ s.size
        · obtain ⟨z, hz⟩ : ∃ z, (insAt s a).num = z := ⟨_, rfl⟩
          have hN : ∀ w, Calls Tryd.prog 16 #[.int .i64 (s[a].toNat : Int), .string (s.extract (a + 1) (a + 1 + n))] w fun e w' => e = .returned (.int .i64 z) ∧ w' = w := fun w => by
            refine (numberOf_any _ _ w (by simp; omega)).mono ?_
            rintro e w' ⟨rfl, rfl⟩
            refine ⟨ret_i64 ?_, rfl⟩
            rw [← hz, Lib.extract_data]
            unfold insAt behind
            rw [hn, hop]; rfl
          have HC : Hid (cells3 (insAt s a) = [.int .i64 (a : Int), .int .i64 (s[a].toNat : Int), .int .i64 z]) := by
            unfold Hid; rw [← hz, ← hop]; rfl
          have HS : Hid (ops s = (opsAt s g (a + 1 + n)).map (pre (ts ++ [insAt s a]))) := by
            unfold Hid; rw [HR.out, ← pre_pre, ← opsAt_step hlt hn hfit]
          clear hop HR hTab harg hn hz
          go_wp2_with (first | (go_at_call 15; refine (hO _).mono ?_; rintro e w1 ⟨rfl, hw⟩; replace hw := hw.symm; subst hw) | (go_at_call 16; refine (hN _).mono ?_; rintro e w1 ⟨rfl, hw⟩; replace hw := hw.symm; subst hw) | (at_builtin; refine wpList_append_own _ rfl _ _ 22 rfl w.heap.size 37 i0 (.agg #[.int .i64 0, .int .i64 0, .int .i64 0]) 3 24 Tryd.underlying22 hi hz0 hz1 hz2 rfl (by decide) _ _ _ rfl (hown.alloc _) ⟨wr.heap.size, 0, none⟩ 1 1 [.int .i64 (a : Int), .int .i64 (s[a].toNat : Int), .int .i64 z] rfl rfl ?c1 ?c2 ?c3 ?c4 ?c5 ?_))
          case c1 => exact fun j u hj => cells_new _ _ _ j u hj
          case c2 => intro u hu; simp at hu; rcases hu with rfl | rfl | rfl <;> rfl
          case c3 => unfold maxLen; omega
          case c4 => omega
          case c5 => have := hbel.size; simp; omega
          · intro v' w2 hown' hgrow _
            obtain ⟨R1, R2⟩ := own_next hown (Below.refl _ _) hbel hbel.size hown' hgrow
            rw [← HC.out, ← cellsL_snoc] at R1
            clear hown' hgrow hown hbel
            go_wp2
            go_roundw
            case rel => exact ⟨ts ++ [insAt s a], a + 1 + n, g, by go_num, by omega, by omega, by simp; omega, by simpa using R1, R2, HS⟩
            case measure => simp [intOf]; omega
        · have HN : Hid (ops s = none) := by
            unfold Hid; rw [HR.out, opsAt_bad hlt (.inr (by rw [hn]; omega))]; rfl
          have hn0 : (s.size : Int) - (a : Int) - 1 < (n : Int) := by omega
          clear hop HR hTab harg hn
          go_wp2_with (go_at_call 15; refine (hO _).mono ?_; rintro e w1 ⟨rfl, hw⟩; replace hw := hw.symm; subst hw)
          go_ret2
          exact ops_post_no (.inr (.inr HN.out)) hbel
      · have HN : Hid (ops s = none) := by
          unfold Hid; rw [HR.out, opsAt_bad hlt (.inl (by rw [hop, args_none _ (by omega)]; omega))]; rfl
        have hO : ∀ w, Calls Tryd.prog 15 #[.int .i64 (s[a].toNat : Int)] w fun e w' => e = .returned (.bool false) ∧ w' = w := fun w => by
          refine (isOp_any _ w).mono ?_
          rintro e w' ⟨rfl, rfl⟩
          exact ⟨ret_bool (by simp; omega), rfl⟩
        clear hop HR hTab
        go_wp2_with (go_at_call 15; refine (hO _).mono ?_; rintro e w1 ⟨rfl, hw⟩; replace hw := hw.symm; subst hw)
        go_ret2
        exact ops_post_no (.inr (.inr HN.out)) hbel
    · have HN : Hid (ops s = some ts) := by unfold Hid; rw [HR.out, opsAt_end hlt]; simp [pre]
      clear HR
      go_wp2
      go_ret2
      exact ops_post_yes (by omega) (by omega) HN.out hown hbel

end Go.Proofs.YtnimkkchpmlddaaDoor
