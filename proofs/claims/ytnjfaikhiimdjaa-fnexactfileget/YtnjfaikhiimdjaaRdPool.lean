/- Contracts of the specification's reader: a pool. -/
import Derived.Test.YtnjfaikhiimdjaaRdKinds
namespace Go.Proofs.Ytnjfaikhiimdjaa
open Go.RowKit Fm
set_option maxHeartbeats 1000000
set_option maxRecDepth 20000
set_option linter.unusedVariables false

theorem cellsC_snoc (ts : List C4) (t : C4) : cellsC (ts ++ [t]) = cellsC ts ++ cells4 t := by simp [cellsC]

theorem l1pool_any (b : Nat) (s : ByteArray) (st : Option (List UInt8)) (w : World) (hs : s.size ≤ 1000000000) (h : RdAt w b s st) :
    Calls Try.prog 73 #[.pointer (some ⟨b, 0, none⟩)] w fun e w' => ∃ (v : Value) (ts : List C4) (st' : Option (List UInt8)), e = .returned v ∧ w'.ownsRow w.heap.size 75 4 v ts.length (cellsC ts) ∧ (ts.length ≤ 60 ∧ ∀ t ∈ ts, t.text.size ≤ 255) ∧ RdAt w' b s st' ∧ w.grownBy w' (some b) ∧ Rd (rList 60 rEntry) st ts st' := by
  have H1 := fun st w h => l1one_any b s st w hs h
  have H2 := fun st w h => l1entry_any b s st w hs h
  have S0 := St.start h
  have HB := h.lt
  obtain ⟨i0, hi, hz0, hz1, hz2⟩ := info_parts infoConst
  clear h
  go_enter Try.func73, Try.ntmps73
  go_wp2_with fail
  refine (H1 _ _ (S0.alloc _).rd).mono ?_
  rintro e w1 ⟨n, st1, rfl, hn, h1, g1, r1⟩
  have S1 := (S0.alloc _).call h1 g1
  obtain ⟨c2, f2⟩ := S1.cells
  have hsz := S1.size
  have O1 := (show w1.ownsRow w.heap.size 75 4 _ 0 (cellsC []) from (World.ownsRow_made w #[] 0 (Nat.le_refl _) (by unfold maxLen; omega) rfl).kept g1 (.inr (by simp [Value.ownBlock]; omega)))
  by_cases h8 : n ≤ 60
  · have HR := hid (r1.count (most := 60) (by omega))
    have HS := hid S1
    have HO := hid O1
    clear r1 S0 S1 h1 g1 c2 f2 O1
    go_wp2_with fail
    go_loopw [3, 5] (fun v i wr => ∃ (ts : List C4) (st' : Option (List UInt8)), i = .int .i64 ts.length ∧ ts.length ≤ n ∧ Hid (St w b s st' wr) ∧ wr.ownsRow w.heap.size 75 4 v ts.length (cellsC ts) ∧ Hid (Rd (rMany rEntry ts.length) st1 ts st') ∧ Hid (∀ t ∈ ts, t.text.size ≤ 255)) (fun _ i _ => n - (intOf i).toNat)
    case atStart => exact ⟨[], st1, rfl, Nat.zero_le _, HS, HO.out, Rd.pure, hid (by simp)⟩
    case round =>
      obtain ⟨ts, st', rfl, hk, hS, hown, hR, hT⟩ := hrel
      obtain ⟨ao, cap, hv⟩ := own_len hown
      subst hv
      obtain ⟨c2, f2⟩ := hS.out.cells
      have HW := hid hown
      have hsr := hS.out.size
      by_cases hlt : ts.length < n
      · cases st' with
        | none =>
          have HF := hid (show Rd (rList 60 rEntry) st ts none from HR.out.list (hR.out.many_none (by omega)))
          simp only [Option.isNone_none] at c2
          clear hown HS HO HR hR hsr
          go_wp2_with fail
          go_ret
          exact ⟨_, ts, none, rfl, HW.out, ⟨by omega, hT.out⟩, St.fin hS.out HF.out⟩
        | some rs =>
          simp only [Option.isNone_some] at c2
          clear hown HS HO
          go_wp2_with fail -- C
          refine (H2 _ _ hS.out.rd).mono ?_
          rintro e w2 ⟨t, st2, rfl, hx, h2, g2, r2⟩
          have S2 := hid (hS.out.call h2 g2)
          have HO2 := hid (grown_own g2 HW.out (fun e => by have := (HW.out.lt _ e).1; omega))
          have R2 := hid r2
          clear r2 h2 g2 HW c2 f2 H1 H2
          go_wp2_with (at_builtin; refine wpList_append_own _ rfl _ _ 22 rfl w.heap.size 75 i0 (.agg #[.int .i64 0, .string ⟨#[]⟩, .int .i64 0, .int .i64 0]) 4 40 Try.underlying22 hi hz0 hz1 hz2 rfl (by decide) _ _ _ rfl (HO2.out.alloc _) ⟨w2.heap.size, 0, none⟩ 1 1 [.int .i64 t.kind, .string t.text, .int .i64 t.a, .int .i64 t.b] rfl rfl ?c1 ?c2 ?c3 ?c4 ?c5 ?_)
          case c1 => exact fun j u hj => cells_new _ _ _ j u hj
          case c2 => intro u hu; simp at hu; rcases hu with rfl | rfl | rfl | rfl <;> rfl
          case c3 => unfold maxLen; omega
          case c4 => omega
          case c5 => have := S2.out.size; simp; omega
          intro v' w4 hown' hgrow _
          have S4 := hid (S2.out.app (fun k hk => (HO2.out.lt k hk).1) hgrow)
          have O4 := hid (show w4.ownsRow w.heap.size 75 4 v' (ts ++ [t]).length (cellsC (ts ++ [t])) from by rw [cellsC_snoc, List.length_append]; exact hown')
          have R4 := hid (show Rd (rMany rEntry (ts ++ [t]).length) st1 (ts ++ [t]) _ from by rw [List.length_append]; exact hR.out.step R2.out)
          have T4 := hid (show ∀ x ∈ ts ++ [t], x.text.size ≤ 255 from fun x hm => by
            rcases List.mem_append.1 hm with hm | hm
            · exact hT.out x hm
            · simp at hm; subst hm; exact hx)
          clear hown' hgrow
          go_wp2_with fail
          go_roundw
          case rel => exact ⟨ts ++ [t], _, by simp, by simp; omega, S4, O4.out, R4, T4⟩
          case measure => simp [intOf]; omega
      · have HF := hid (show Rd (rList 60 rEntry) st ts st' from HR.out.list (by rw [show n = ts.length by omega]; exact hR.out))
        clear hown HS HO HR hR hsr
        go_wp2_with fail
        go_ret
        exact ⟨_, ts, st', rfl, HW.out, ⟨by omega, hT.out⟩, St.fin hS.out HF.out⟩
  · have HR := hid (r1.over (most := 60) (by omega))
    have HS := hid (S1.bad)
    have HO := hid (ownsRow_set_ne O1 (a := ⟨b, 2, none⟩) (.bool true) (by simp [Value.ownBlock]; omega))
    clear r1 S0 S1 h1 g1 O1 H1 H2
    go_wp2_with fail
    refine wp_loop_rounds 1 ?_
    rw [rounds_succ]
    go_wp2_with fail
    go_ret
    exact ⟨_, [], none, rfl, HO.out, ⟨by simp, by simp⟩, St.fin HS.out (HR.out.list Rd.bad)⟩

end Go.Proofs.Ytnjfaikhiimdjaa
