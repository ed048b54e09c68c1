/- Contracts of the specification's reader: lists of kinds. -/
import Derived.Test.YtnjfaikhiimdjaaRdEntry
namespace Go.Proofs.Ytnjfaikhiimdjaa
open Go.RowKit Fm
set_option maxHeartbeats 1000000
set_option maxRecDepth 20000
set_option linter.unusedVariables false

theorem Lk.c2 {W : World} {C : Nat} {a b : Value} {T : TypeId} (h : Lk W C #[a, b] T) : W.cell? ⟨C, 0, none⟩ = some a ∧ W.cell? ⟨C, 1, none⟩ = some b ∧ W.frozen? ⟨C, 0, none⟩ = false ∧ W.frozen? ⟨C, 1, none⟩ = false :=
  ⟨h.c 0 _ rfl, h.c 1 _ rfl, h.z 0, h.z 1⟩
theorem St.cells {w : World} {b : Nat} {s : ByteArray} {st : Option (List UInt8)} {W : World} (h : St w b s st W) : W.cell? ⟨b, 2, none⟩ = some (.bool st.isNone) ∧ W.frozen? ⟨b, 2, none⟩ = false := by
  obtain ⟨a, ha, hr, c0, c1, c2, fz, _, _⟩ := h.rd.cells
  exact ⟨c2, fz 2⟩
theorem rowKind_snoc (ts : List MKind) (t : MKind) : rowKind (ts ++ [t]) = rowKind ts ++ cellsKind t := by simp [rowKind]
theorem ownsRow_set_ne {w : World} {base : Nat} {e : TypeId} {size n : Nat} {v : Value} {xs : List Value} (h : w.ownsRow base e size v n xs) {a : Addr} (u : Value) (hne : v.ownBlock ≠ some a.block) : (w.setCell a u).ownsRow base e size v n xs :=
  h.kept (row := some a.block) ⟨rfl, rfl, rfl, by simp [World.setCell], fun k _ hk => Below.heap_setCell _ _ _ _ (by intro e; exact hk (by rw [e]))⟩ (.inr hne)
/-- a count within its limit, or too great -/
theorem Rd.count {st st1 : Option (List UInt8)} {n : Nat} {most : Int} (h : Rd rOne st (n : Int) st1) (hn : (n : Int) ≤ most) : Rd (rCount most) st (n : Int) st1 := by
  refine h.bind ?_
  rw [if_pos hn]
  exact Rd.pure
theorem Rd.over {st st1 : Option (List UInt8)} {n : Nat} {most : Int} (h : Rd rOne st (n : Int) st1) (hn : ¬ (n : Int) ≤ most) : Rd (rCount most) st (n : Int) none := by
  refine h.bind ?_
  rw [if_neg hn]
  exact Rd.fail

theorem Rd.list {α : Type} {p : Ps α} {most : Int} {n : Nat} {st st1 st2 : Option (List UInt8)} {ts : List α} (h : Rd (rCount most) st (n : Int) st1) (k : Rd (rMany p n) st1 ts st2) : Rd (rList most p) st ts st2 := by
  unfold rList
  refine h.bind ?_
  simpa using k
theorem Rd.step {α : Type} {p : Ps α} {k : Nat} {st1 st2 st3 : Option (List UInt8)} {ts : List α} {x : α} (h : Rd (rMany p k) st1 ts st2) (g : Rd p st2 x st3) : Rd (rMany p (k + 1)) st1 (ts ++ [x]) st3 := by
  show Rd (pbind (rMany p k) fun xs => pbind p fun x => ppure (xs ++ [x])) st1 (ts ++ [x]) st3
  refine h.bind ?_
  refine g.bind ?_
  exact Rd.pure

theorem l1kinds_any (b : Nat) (s : ByteArray) (st : Option (List UInt8)) (w : World) (hs : s.size ≤ 1000000000) (h : RdAt w b s st) :
    Calls Try.prog 115 #[.pointer (some ⟨b, 0, none⟩)] w fun e w' => ∃ (v : Value) (ts : List MKind) (st' : Option (List UInt8)), e = .returned v ∧ w'.ownsRow w.heap.size 144 2 v ts.length (rowKind ts) ∧ ts.length ≤ 8 ∧ RdAt w' b s st' ∧ w.grownBy w' (some b) ∧ Rd rKinds st ts st' := by
  have H1 := fun st w h => l1one_any b s st w hs h
  have H2 := fun st w h => l1two_any b s st w hs h
  have S0 := St.start h
  have HB := h.lt
  obtain ⟨i0, hi, hz0, hz1, hz2⟩ := info_parts infoKind
  clear h
  go_enter Try.func115, Try.ntmps115
  go_wp2_with fail
  refine (H1 _ _ (S0.alloc _).rd).mono ?_
  rintro e w1 ⟨n, st1, rfl, hn, h1, g1, r1⟩
  have S1 := (S0.alloc _).call h1 g1
  obtain ⟨c2, f2⟩ := S1.cells
  have hsz := S1.size
  have O1 := (show w1.ownsRow w.heap.size 144 2 _ 0 (rowKind []) from (World.ownsRow_made w #[] 0 (Nat.le_refl _) (by unfold maxLen; omega) rfl).kept g1 (.inr (by simp [Value.ownBlock]; omega)))
  by_cases h8 : n ≤ 8
  · have HR := hid (r1.count (most := 8) (by omega))
    have HS := hid S1
    have HO := hid O1
    clear r1 S0 S1 h1 g1 c2 f2 O1
    go_wp2_with fail
    go_loopw [3, 5] (fun v i wr => ∃ (ts : List MKind) (st' : Option (List UInt8)), i = .int .i64 ts.length ∧ ts.length ≤ n ∧ Hid (St w b s st' wr) ∧ wr.ownsRow w.heap.size 144 2 v ts.length (rowKind ts) ∧ Hid (Rd (rMany rKind ts.length) st1 ts st')) (fun _ i _ => n - (intOf i).toNat)
    case atStart => exact ⟨[], st1, rfl, Nat.zero_le _, HS, HO.out, Rd.pure⟩
    case round =>
      obtain ⟨ts, st', rfl, hk, hS, hown, hR⟩ := hrel
      obtain ⟨ao, cap, hv⟩ := own_len hown
      subst hv
      obtain ⟨c2, f2⟩ := hS.out.cells
      have HW := hid hown
      have hsr := hS.out.size
      by_cases hlt : ts.length < n
      · cases st' with
        | none =>
          have HF := hid (show Rd rKinds st ts none from HR.out.list (hR.out.many_none (by omega)))
          simp only [Option.isNone_none] at c2
          clear hown HS HO HR hR hsr
          go_wp2_with fail
          go_ret
          exact ⟨_, ts, none, rfl, HW.out, by omega, St.fin hS.out HF.out⟩
        | some rs =>
          simp only [Option.isNone_some] at c2
          clear hown HS HO
          go_wp2_with fail
          refine (H1 _ _ hS.out.rd).mono ?_
          rintro e w2 ⟨x, st2, rfl, hx, h2, g2, r2⟩
          have S2 := hS.out.call h2 g2
          have HO2 := hid (grown_own g2 HW.out (fun e => by have := (HW.out.lt _ e).1; omega))
          have R2 := hid r2
          clear r2 h2 g2 HW c2 f2
          have hs2 := S2.size
          by_cases x3 : x = 3
          · subst x3
            go_wp2_with fail
            refine (H2 _ _ (S2.alloc _).rd).mono ?_
            rintro e w3 ⟨y, st3, rfl, hy, h3, g3, r3⟩
            have S3 := hid (((S2.alloc _).call h3 g3).set (a := ⟨w2.heap.size, 1, none⟩) (u := .int .i64 y) (by dsimp only; omega))
            have O3 := hid (ownsRow_set_ne (grown_own g3 (HO2.out.alloc (.cells #[.int .i64 3, .int .i64 0] 144)) (fun e => by have := (HO2.out.lt _ e).1; omega)) (a := ⟨w2.heap.size, 1, none⟩) (.int .i64 y) (fun e => by have := (HO2.out.lt _ e).2; dsimp only at this; omega))
            have C3 := (Lk.new w2 _ _).call g3 (by omega)
            obtain ⟨q0, q1, z0, z1⟩ := C3.c2
            have HK := hid (show Rd rKind (some rs) ⟨3, y⟩ st3 from by
              refine R2.out.bind ?_
              rw [if_pos (by simp), if_pos (by simp)]
              refine r3.bind ?_
              exact Rd.pure)
            clear h3 g3 r3 C3 S2 HO2 R2 H1 H2
            go_wp2_with (at_builtin; refine wpList_append_own _ rfl _ _ 121 rfl w.heap.size 144 i0 (.agg #[.int .i64 0, .int .i64 0]) 2 16 Try.underlying121 hi hz0 hz1 hz2 rfl (by decide) _ _ _ rfl (O3.out.alloc _) ⟨w3.heap.size, 0, none⟩ 1 1 [.int .i64 3, .int .i64 (y : Int)] rfl rfl ?c1 ?c2 ?c3 ?c4 ?c5 ?_)
            case c1 => intro j u hj; have h := cells_new (w3.setCell ⟨w2.heap.size, 1, none⟩ (.int .i64 y)) _ 144 j u hj; rw [show (w3.setCell ⟨w2.heap.size, 1, none⟩ (.int .i64 y)).heap.size = w3.heap.size by simp [World.setCell]] at h; exact h
            case c2 => intro u hu; simp at hu; rcases hu with rfl | rfl <;> rfl
            case c3 => unfold maxLen; omega
            case c4 => omega
            case c5 => have := S3.out.size; simp at this ⊢; omega
            intro v' w4 hown' hgrow _
            have S4 := hid (S3.out.app (fun k hk => (O3.out.lt k hk).1) hgrow)
            have O4 := hid (show w4.ownsRow w.heap.size 144 2 v' (ts ++ [(⟨3, (y : Int)⟩ : MKind)]).length (rowKind (ts ++ [⟨3, (y : Int)⟩])) from by rw [rowKind_snoc, List.length_append]; exact hown')
            have R4 := hid (show Rd (rMany rKind (ts ++ [(⟨3, (y : Int)⟩ : MKind)]).length) st1 (ts ++ [⟨3, (y : Int)⟩]) _ from by rw [List.length_append]; exact hR.out.step HK.out)
            clear hown' hgrow
            go_wp2_with fail
            go_roundw
            case rel => exact ⟨ts ++ [⟨3, (y : Int)⟩], _, by simp, by simp; omega, S4, O4.out, R4⟩
            case measure => simp [intOf]; omega
          · by_cases x4 : x ≤ 3
            · have HK := hid (show Rd rKind (some rs) ⟨x, 0⟩ st2 from by
                refine R2.out.bind ?_
                rw [if_pos (by omega), if_neg (by omega)]
                exact Rd.pure)
              have e3 : ((x : Int) == 3) = false := by rw [beq_eq_false_iff_ne]; omega
              have S3 := hid (S2.alloc (.cells #[.int .i64 (x : Int), .int .i64 0] 144))
              have O3 := hid (HO2.out.alloc (.cells #[.int .i64 (x : Int), .int .i64 0] 144))
              clear S2 HO2 R2 H1 H2 x3
              go_wp2_with (at_builtin; refine wpList_append_own _ rfl _ _ 121 rfl w.heap.size 144 i0 (.agg #[.int .i64 0, .int .i64 0]) 2 16 Try.underlying121 hi hz0 hz1 hz2 rfl (by decide) _ _ _ rfl (O3.out.alloc _) ⟨w2.heap.size + 1, 0, none⟩ 1 1 [.int .i64 (x : Int), .int .i64 0] rfl rfl ?c1 ?c2 ?c3 ?c4 ?c5 ?_)
              case c1 => intro j u hj; have h := cells_new (w2.alloc (.cells #[.int .i64 (x : Int), .int .i64 0] 144)) _ 144 j u hj; rw [show (w2.alloc (.cells #[.int .i64 (x : Int), .int .i64 0] 144)).heap.size = w2.heap.size + 1 by simp] at h; exact h
              case c2 => intro u hu; simp at hu; rcases hu with rfl | rfl <;> rfl
              case c3 => unfold maxLen; omega
              case c4 => omega
              case c5 => have := S3.out.size; simp at this ⊢; omega
              intro v' w4 hown' hgrow _
              have S4 := hid (S3.out.app (fun k hk => (O3.out.lt k hk).1) hgrow)
              have O4 := hid (show w4.ownsRow w.heap.size 144 2 v' (ts ++ [(⟨(x : Int), 0⟩ : MKind)]).length (rowKind (ts ++ [⟨(x : Int), 0⟩])) from by rw [rowKind_snoc, List.length_append]; exact hown')
              have R4 := hid (show Rd (rMany rKind (ts ++ [(⟨(x : Int), 0⟩ : MKind)]).length) st1 (ts ++ [⟨(x : Int), 0⟩]) _ from by rw [List.length_append]; exact hR.out.step HK.out)
              clear hown' hgrow
              go_wp2_with fail
              go_roundw
              case rel => exact ⟨ts ++ [⟨(x : Int), 0⟩], _, by simp, by simp; omega, S4, O4.out, R4⟩
              case measure => simp [intOf]; omega
            · have HK := hid (show Rd rKind (some rs) ⟨x, 0⟩ none from by
                refine R2.out.bind ?_
                rw [if_neg (by omega)]
                exact Rd.fail)
              have e3 : ((x : Int) == 3) = false := by rw [beq_eq_false_iff_ne]; omega
              have S2' := S2.alloc (.cells #[.int .i64 (x : Int), .int .i64 0] 144)
              obtain ⟨c2, f2⟩ := S2'.cells
              have S3 := hid S2'.bad
              have O3 := hid (ownsRow_set_ne (HO2.out.alloc (.cells #[.int .i64 (x : Int), .int .i64 0] 144)) (a := ⟨b, 2, none⟩) (.bool true) (fun e => by have := (HO2.out.lt _ e).1; dsimp only at this; omega))
              obtain ⟨q0, q1, z0, z1⟩ := ((Lk.new w2 #[.int .i64 (x : Int), .int .i64 0] 144).other (a := ⟨b, 2, none⟩) (.bool true) (by dsimp only; omega)).c2
              clear S2 S2' HO2 R2 H1 H2 x3
              go_wp2_with (at_builtin; refine wpList_append_own _ rfl _ _ 121 rfl w.heap.size 144 i0 (.agg #[.int .i64 0, .int .i64 0]) 2 16 Try.underlying121 hi hz0 hz1 hz2 rfl (by decide) _ _ _ rfl (O3.out.alloc _) ⟨w2.heap.size + 1, 0, none⟩ 1 1 [.int .i64 (x : Int), .int .i64 0] rfl rfl ?c1 ?c2 ?c3 ?c4 ?c5 ?_)
              case c1 => intro j u hj; have h := cells_new ((w2.alloc (.cells #[.int .i64 (x : Int), .int .i64 0] 144)).setCell ⟨b, 2, none⟩ (.bool true)) _ 144 j u hj; rw [show ((w2.alloc (.cells #[.int .i64 (x : Int), .int .i64 0] 144)).setCell ⟨b, 2, none⟩ (.bool true)).heap.size = w2.heap.size + 1 by simp [World.setCell]] at h; exact h
              case c2 => intro u hu; simp at hu; rcases hu with rfl | rfl <;> rfl
              case c3 => unfold maxLen; omega
              case c4 => omega
              case c5 => have := S3.out.size; simp at this ⊢; omega
              intro v' w4 hown' hgrow _
              have S4 := hid (S3.out.app (fun k hk => (O3.out.lt k hk).1) hgrow)
              have O4 := hid (show w4.ownsRow w.heap.size 144 2 v' (ts ++ [(⟨(x : Int), 0⟩ : MKind)]).length (rowKind (ts ++ [⟨(x : Int), 0⟩])) from by rw [rowKind_snoc, List.length_append]; exact hown')
              have R4 := hid (show Rd (rMany rKind (ts ++ [(⟨(x : Int), 0⟩ : MKind)]).length) st1 (ts ++ [⟨(x : Int), 0⟩]) _ from by rw [List.length_append]; exact hR.out.step HK.out)
              clear hown' hgrow
              go_wp2_with fail
              go_roundw
              case rel => exact ⟨ts ++ [⟨(x : Int), 0⟩], _, by simp, by simp; omega, S4, O4.out, R4⟩
              case measure => simp [intOf]; omega
      · have HF := hid (show Rd rKinds st ts st' from HR.out.list (by rw [show n = ts.length by omega]; exact hR.out))
        clear hown HS HO HR hR hsr
        go_wp2_with fail
        go_ret
        exact ⟨_, ts, st', rfl, HW.out, by omega, St.fin hS.out HF.out⟩
  · have HR := hid (r1.over (most := 8) (by omega))
    have HS := hid (S1.bad)
    have HO := hid (ownsRow_set_ne O1 (a := ⟨b, 2, none⟩) (.bool true) (by simp [Value.ownBlock]; omega))
    clear r1 S0 S1 h1 g1 O1 H1 H2
    go_wp2_with fail
    refine wp_loop_rounds 1 ?_
    rw [rounds_succ]
    go_wp2_with fail
    go_ret
    exact ⟨_, [], none, rfl, HO.out, by simp, St.fin HS.out (HR.out.list Rd.bad)⟩

end Go.Proofs.Ytnjfaikhiimdjaa
