/- Contracts of l1One, l1Two, l3Put, l3Same and OpsPut of the specification. -/
import Derived.Test.YtnimkkchpmlddaaDoorOpsPut
import Derived.Laws.IdiomStrings
namespace Go.Proofs.YtnimkkchpmlddaaDoor
open Mx Go.RowKit
set_option maxHeartbeats 400000

theorem conv_bytes (W : World) (cs : List UInt8) (vs : Array Value) (n : Nat) (hn : n = cs.length) (hv : vs.toList = cs.map fun c => Value.int .u8 (c.toNat : Int)) :
    (convert 43 9 (.slice (some ⟨W.heap.size, 0, none⟩) n n)).run Tryd.prog (W.alloc (.cells vs 5)) = .ok (.string (bytesOf cs)) (W.alloc (.cells vs 5)) := by
  subst hn
  refine run_convert_bytes_back (P := Tryd.prog) _ 43 9 5 ⟨W.heap.size, 0, none⟩ cs.length cs Tryd.underlying43 Tryd.underlying5 Tryd.underlying9 ?_
  intro j hj
  exact cells_new W vs 5 j _ (by rw [hv]; simp [hj])

theorem l1One_any (n : Int) (w : World) :
    Calls Tryd.prog 28 #[.int .i64 n] w fun e w' => e = .returned (.string (bytesOf [toB n])) ∧ Below w.heap.size w w' := by
  have hc := fun W => conv_bytes W [toB n] #[.int .u8 (n % 256)] 1 rfl (by simp [u8_toNat])
  go_enter Tryd.func28, Tryd.ntmps28
  go_wp2
  go_ret
  exact ⟨rfl, (Below.refl _ _).alloc (Nat.le_refl _) _⟩

theorem l1Two_any (n : Int) (w : World) (h0 : 0 ≤ n) (h1 : n < 65536) :
    Calls Tryd.prog 29 #[.int .i64 n] w fun e w' => e = .returned (.string (bytesOf [toB (n / 256), toB (n % 256)])) ∧ Below w.heap.size w w' := by
  have hc := fun W => conv_bytes W [toB (n / 256), toB (n % 256)] #[.int .u8 (n / 256), .int .u8 (n % 256)] 2 rfl (by simp [u8_toNat]; omega)
  go_enter Tryd.func29, Tryd.ntmps29
  go_wp2
  go_ret
  exact ⟨rfl, (Below.refl _ _).alloc (Nat.le_refl _) _⟩

def inRange (ts : List Op3) : Prop := ∀ t ∈ ts, -32768 ≤ t.num ∧ t.num ≤ 65535
theorem flatP_take_le (ts : List Op3) (k : Nat) : (flatP (ts.take k)).length ≤ 3 * ts.length := by
  have h : ∀ l : List Op3, (flatP l).length ≤ 3 * l.length := by
    intro l
    induction l with
    | nil => simp [flatP]
    | cons t r ih =>
      rw [flatP_cons, List.length_append, put_len, List.length_cons]
      have := args_range t.op
      omega
  have h1 := h (ts.take k)
  rw [List.length_take] at h1
  omega

theorem l3Put_any (v : Value) (ts : List Op3) (Bv : Nat) (w : World) (hl : ts.length ≤ 120) (hr : inRange ts) (h1 : w.ownsRow Bv 37 3 v ts.length (cellsL ts)) :
    Calls Tryd.prog 19 #[v] w fun e w' => e = .returned (.string (bytesOf (flatP ts))) ∧ Below w.heap.size w w' := by
  obtain ⟨ao, cap, hv⟩ := own_len h1
  subst hv
  have H1 : Hid (w.ownsRow Bv 37 3 (.slice ao ts.length cap) ts.length (cellsL ts)) := h1
  have HR : Hid (inRange ts) := hr
  clear h1 hr
  go_enter Tryd.func19, Tryd.ntmps19
  go_wp2
  go_loopw [3, 4] (fun sv i wr => ∃ k : Nat, k ≤ ts.length ∧ i = .int .i64 k ∧ sv = .string (bytesOf (flatP (ts.take k))) ∧ Below w.heap.size w wr) (fun _ i _ => ts.length - (intOf i).toNat)
  case atStart => exact ⟨0, by omega, rfl, rfl, Below.refl _ _⟩
  case round =>
    obtain ⟨k, hk, rfl, rfl, hbel⟩ := hrel
    by_cases hlt : k < ts.length
    · obtain ⟨g, hg⟩ := own_some H1.out (by omega)
      subst hg
      obtain ⟨ca, cb, cc⟩ := cells3_at (own_below H1.out hbel) hlt
      have hrn := HR.out ts[k] (List.getElem_mem _)
      obtain ⟨x, y, z, hxyz⟩ : ∃ x y z, ts[k] = ⟨x, y, z⟩ := ⟨_, _, _, rfl⟩
      have HP1 : Hid (flatP (ts.take (k + 1)) = flatP (ts.take k) ++ putB ⟨x, y, z⟩) := by
        unfold Hid; rw [take_next hlt, flatP_snoc, hxyz]
      have hz3 := flatP_take_le ts k
      rw [hxyz] at ca cb cc hrn
      simp only at ca cb cc hrn
      obtain ⟨l, HLl⟩ : ∃ l, Hid (flatP (ts.take k) = l) := ⟨_, rfl⟩
      rw [HLl.out] at HP1 hz3 ⊢
      have hsz : (bytesOf l).size ≤ 360 := by rw [bytes_size]; omega
      clear hxyz hz3
      have hsu : ∀ q : UInt8, (bytesOf [q]).size ≤ 1 := fun q => by rw [bytes_size]; simp
      go_wp2_with fail
      refine (l1One_any y _).mono ?_
      rintro e w1 ⟨rfl, hb1⟩
      have hc1 : w1.heap[wr.heap.size]? = some (.cells #[.int .i64 x, .int .i64 y, .int .i64 z] 37 (0, 0)) := by
        rw [hb1.block wr.heap.size (by simp)]; exact heap_alloc_new wr _
      have hcb : w1.cell? ⟨wr.heap.size, 1, none⟩ = some (.int .i64 y) := by rw [Lib.cell_of_heap hc1]; rfl
      have hcc : w1.cell? ⟨wr.heap.size, 2, none⟩ = some (.int .i64 z) := by rw [Lib.cell_of_heap hc1]; rfl
      have hbw1 : Below w.heap.size w w1 := (hbel.alloc hbel.size _).trans (hb1.mono (by have := hbel.size; simp; omega))
      have hA := l3Args_any y w1
      have e1 : bytesOf l ++ bytesOf [toB y] = bytesOf (l ++ [toB y]) := bytes_app _ _
      have hs2 : (bytesOf [toB y]).size ≤ 1 := hsu _
      have hs3 : (bytesOf (l ++ [toB y])).size ≤ 361 := by rw [bytes_size]; rw [bytes_size] at hsz; simp; omega
      clear hb1 hc1
      rcases args_range y with ha | ha | ha | ha
      · rw [ha] at hA
        have HP2 : Hid (flatP (ts.take (k + 1)) = l ++ [toB y]) := by
          unfold Hid; rw [HP1.out]; unfold putB; simp [ha]
        clear HP1 ha
        go_wp2_with (go_at_call 26; refine hA.mono ?_; rintro e w2 ⟨rfl, hw⟩; replace hw := hw.symm; subst hw)
        go_roundw
        case rel => exact ⟨k + 1, by omega, by go_num, by rw [HP2.out], hbw1⟩
        case measure => simp [intOf]; omega
      · rw [ha] at hA
        have HP2 : Hid (flatP (ts.take (k + 1)) = l ++ [toB y]) := by
          unfold Hid; rw [HP1.out]; unfold putB; simp [ha]
        clear HP1 ha
        go_wp2_with (go_at_call 26; refine hA.mono ?_; rintro e w2 ⟨rfl, hw⟩; replace hw := hw.symm; subst hw)
        go_roundw
        case rel => exact ⟨k + 1, by omega, by go_num, by rw [HP2.out], hbw1⟩
        case measure => simp [intOf]; omega
      · rw [ha] at hA
        have HP2 : Hid (flatP (ts.take (k + 1)) = l ++ [toB y] ++ [toB z]) := by
          unfold Hid; rw [HP1.out]; unfold putB; simp [ha]
        clear HP1 ha
        go_wp2_with (go_at_call 26; refine hA.mono ?_; rintro e w2 ⟨rfl, hw⟩; replace hw := hw.symm; subst hw)
        refine (l1One_any z _).mono ?_
        rintro e w3 ⟨rfl, hb3⟩
        have hbw3 : Below w.heap.size w w3 := hbw1.trans (hb3.mono hbw1.size)
        have e2 : bytesOf (l ++ [toB y]) ++ bytesOf [toB z] = bytesOf (l ++ [toB y] ++ [toB z]) := bytes_app _ _
        have hs4 : (bytesOf [toB z]).size ≤ 1 := hsu _
        clear hb3 hcb hcc hA
        go_wp2
        go_roundw
        case rel => exact ⟨k + 1, by omega, by go_num, by rw [HP2.out]; simp, hbw3⟩
        case measure => simp [intOf]; omega
      · rw [ha] at hA
        have hlow : low z = z % 65536 := by unfold low; omega
        have HP2 : Hid (flatP (ts.take (k + 1)) = l ++ [toB y] ++ [toB (z % 65536 / 256), toB (z % 65536 % 256)]) := by
          unfold Hid; rw [HP1.out, ← hlow]; unfold putB; simp [ha]
        clear HP1 ha hlow
        go_wp2_with (go_at_call 26; refine hA.mono ?_; rintro e w2 ⟨rfl, hw⟩; replace hw := hw.symm; subst hw)
        refine (l1Two_any (z % 65536) _ (by omega) (by omega)).mono ?_
        rintro e w3 ⟨rfl, hb3⟩
        have hbw3 : Below w.heap.size w w3 := hbw1.trans (hb3.mono hbw1.size)
        obtain ⟨two, HT2⟩ : ∃ two, Hid ([toB (z % 65536 / 256), toB (z % 65536 % 256)] = two) := ⟨_, rfl⟩
        rw [HT2.out] at HP2 ⊢
        have e2 : bytesOf (l ++ [toB y]) ++ bytesOf two = bytesOf (l ++ [toB y] ++ two) := bytes_app _ _
        have hs4 : (bytesOf two).size ≤ 2 := by rw [bytes_size, ← HT2.out]; simp
        clear hb3 hcb hcc hA
        go_wp2
        go_roundw
        case rel => exact ⟨k + 1, by omega, by go_num, by rw [HP2.out]; simp, hbw3⟩
        case measure => simp [intOf]; omega
    · have hk' : k = ts.length := by omega
      subst hk'
      rw [List.take_length]
      go_wp2
      go_ret
      exact ⟨rfl, hbel⟩

theorem cells3_inj {t u : Op3} (h1 : t.at_ = u.at_) (h2 : t.op = u.op) (h3 : t.num = u.num) : t = u := by
  cases t; cases u; simp_all

theorem neq_ins {x y z x' y' z' : Int} (h : (x == x') = false ∨ ((x == x') = true ∧ (y == y') = false) ∨ ((x == x') = true ∧ (y == y') = true ∧ (z == z') = false)) (W : World) :
    (binOp .neq 37 (.agg #[.int .i64 x, .int .i64 y, .int .i64 z]) (.agg #[.int .i64 x', .int .i64 y', .int .i64 z'])).run Tryd.prog W = .ok (.bool true) W := by
  rcases h with h | ⟨h1, h2⟩ | ⟨h1, h2, h3⟩
  · go_simp
  · go_simp
  · go_simp

/-- l3Same says whether two lists are one -/
theorem l3Same_any (v1 v2 : Value) (xs ts : List Op3) (B1 B2 : Nat) (w : World) (hx : xs.length ≤ 1000000) (hl : ts.length ≤ 1000000)
    (h1 : w.ownsRow B1 37 3 v1 xs.length (cellsL xs)) (h2 : w.ownsRow B2 37 3 v2 ts.length (cellsL ts)) :
    Calls Tryd.prog 20 #[v1, v2] w fun e w' => ∃ c : Bool, e = .returned (.bool c) ∧ (c = true ↔ xs = ts) ∧ ∃ q, w' = w.drewN q := by
  by_cases hn : xs.length = ts.length
  · obtain ⟨ao1, c1, hv1⟩ := own_len h1
    obtain ⟨ao2, c2, hv2⟩ := own_len h2
    subst hv1 hv2
    have H1 : Hid (w.ownsRow B1 37 3 (.slice ao1 xs.length c1) xs.length (cellsL xs)) := h1
    have H2 : Hid (w.ownsRow B2 37 3 (.slice ao2 ts.length c2) ts.length (cellsL ts)) := h2
    have HN : Hid (xs.length = ts.length) := hn
    have hn' : ((xs.length : Int) != (ts.length : Int)) = false := by simp; omega
    clear h1 h2 hn
    go_enter Tryd.func20, Tryd.ntmps20
    go_wp2
    go_loopw [5] (fun i wr => ∃ k : Nat, k ≤ xs.length ∧ i = .int .i64 k ∧ Hid (xs.take k = ts.take k) ∧ Hid (∃ q, wr = w.drewN q)) (fun i _ => xs.length - (intOf i).toNat)
    case atStart => exact ⟨0, by omega, rfl, rfl, 0, rfl⟩
    case round =>
      obtain ⟨k, hk, rfl, HE, HQ⟩ := hrel
      by_cases hlt : k < xs.length
      · have hlt2 : k < ts.length := by rw [← HN.out]; exact hlt
        obtain ⟨g1, hg1⟩ := own_some H1.out (by omega)
        obtain ⟨g2, hg2⟩ := own_some H2.out (by omega)
        subst hg1 hg2
        obtain ⟨q0, hq0⟩ := HQ.out
        obtain ⟨a1, a2, a3⟩ := cells3_at (w := wr) (by rw [hq0]; exact own_drewN H1.out q0) hlt
        obtain ⟨b1, b2, b3⟩ := cells3_at (w := wr) (by rw [hq0]; exact own_drewN H2.out q0) hlt2
        clear hq0
        by_cases he : xs[k] = ts[k]
        · have HE2 : Hid (xs.take (k + 1) = ts.take (k + 1)) := by
            unfold Hid; rw [take_next hlt, take_next hlt2, HE.out, he]
          rw [he] at a1 a2 a3
          clear he
          obtain ⟨x, y, z, hxyz⟩ : ∃ x y z, ts[k] = ⟨x, y, z⟩ := ⟨_, _, _, rfl⟩
          rw [hxyz] at a1 a2 a3 b1 b2 b3
          simp only at a1 a2 a3 b1 b2 b3
          clear hxyz
          go_wp2
          go_quiet (fail)
          go_wp2
          go_roundw
          case rel => exact ⟨k + 1, by omega, by go_num, HE2, drew_more HQ.out _⟩
          case measure => simp [intOf]; omega
        · have HF : Hid (¬ xs = ts) := fun e => he (by subst e; rfl)
          obtain ⟨x, y, z, hxyz⟩ : ∃ x y z, xs[k] = ⟨x, y, z⟩ := ⟨_, _, _, rfl⟩
          obtain ⟨x', y', z', hxyz'⟩ : ∃ x' y' z', ts[k] = ⟨x', y', z'⟩ := ⟨_, _, _, rfl⟩
          rw [hxyz, hxyz'] at he
          rw [hxyz] at a1 a2 a3
          rw [hxyz'] at b1 b2 b3
          simp only at a1 a2 a3 b1 b2 b3
          clear hxyz hxyz'
          have hne : (x == x') = false ∨ ((x == x') = true ∧ (y == y') = false) ∨ ((x == x') = true ∧ (y == y') = true ∧ (z == z') = false) := by
            by_cases hx1 : x = x'
            · by_cases hy1 : y = y'
              · by_cases hz1 : z = z'
                · exact absurd (by rw [hx1, hy1, hz1]) he
                · exact .inr (.inr ⟨by simpa using hx1, by simpa using hy1, by simpa using hz1⟩)
              · exact .inr (.inl ⟨by simpa using hx1, by simpa using hy1⟩)
            · exact .inl (by simpa using hx1)
          have hrun : ∀ W, (binOp .neq 37 (.agg #[.int .i64 x, .int .i64 y, .int .i64 z]) (.agg #[.int .i64 x', .int .i64 y', .int .i64 z'])).run Tryd.prog W = .ok (.bool true) W := neq_ins hne
          clear he hne
          go_wp2
          go_quiet (fail)
          go_wp2
          go_ret
          exact ⟨false, rfl, ⟨fun h => by simp at h, fun h => absurd h HF.out⟩, drew_more HQ.out _⟩
      · have HF : Hid (xs = ts) := by
          have := HE.out
          rw [List.take_of_length_le (by omega), List.take_of_length_le (by rw [← HN.out]; omega)] at this
          exact this
        go_wp2
        go_ret
        exact ⟨true, rfl, ⟨fun _ => HF.out, fun _ => rfl⟩, HQ.out⟩
  · obtain ⟨ao1, c1, hv1⟩ := own_len h1
    obtain ⟨ao2, c2, hv2⟩ := own_len h2
    subst hv1 hv2
    have HF : Hid (¬ xs = ts) := fun e => hn (by rw [e])
    have hn' : ((xs.length : Int) != (ts.length : Int)) = true := by simp; omega
    clear h1 h2 hn
    go_enter Tryd.func20, Tryd.ntmps20
    go_wp2
    go_ret
    exact ⟨false, rfl, ⟨fun h => by simp at h, fun h => absurd h HF.out⟩, 0, rfl⟩

theorem bytes_list (l : List UInt8) : (bytesOf l).data.toList = l := by simp [bytesOf]
theorem out_long {ts : List Op3} (h : 120 < ts.length) : outPut ts = ⟨#[]⟩ := by
  unfold outPut outGood
  have := flatP_len ts
  rw [decide_eq_false (p := (flatP ts).length ≤ 120) (by omega)]; simp
theorem valid_range : ∀ (ts : List Op3) (p : Nat), valid p ts = true → inRange ts := by
  intro ts
  induction ts with
  | nil => intro p _ t ht; cases ht
  | cons u r ih =>
    intro p hv t ht
    obtain ⟨_, h2, h3, h4, h5⟩ := valid_cons.1 hv
    rcases List.mem_cons.1 ht with rfl | ht
    · unfold fitsB at h4
      have ha := op_args h2 h3
      split at h4
      · simp at h4; omega
      · simp at h4
        obtain ⟨k1, k2⟩ := h4
        split at k2
        · omega
        · split at k2 <;> omega
    · exact ih _ h5 t ht
theorem out_range {ts : List Op3} {k : Nat} (hk : k < ts.length) (h : ¬ (-32768 ≤ ts[k].num ∧ ts[k].num ≤ 65535)) : outPut ts = ⟨#[]⟩ := by
  unfold outPut outGood
  cases hv : valid 0 ts with
  | false => rfl
  | true => exact absurd (valid_range ts 0 hv ts[k] (List.getElem_mem _)) h
theorem good_reads {ts : List Op3} (hg : outGood ts = true) : ops (bytesOf (flatP ts)) = some ts := by
  unfold outGood at hg
  simp at hg
  refine reads_back _ ts 0 _ hg.1 ?_ (by omega)
  rw [List.drop_zero, bytes_list]
theorem put_none {ts : List Op3} (h : oGood (bytesOf (flatP ts)) = false) : outPut ts = ⟨#[]⟩ := by
  unfold outPut
  cases hg : outGood ts with
  | false => rfl
  | true =>
    have ho := good_reads hg
    have hs := bytes_size (flatP ts)
    have hl : (flatP ts).length ≤ 120 := by unfold outGood at hg; simp at hg; exact hg.2
    by_cases h0 : (flatP ts).length = 0
    · have : flatP ts = [] := List.eq_nil_of_length_eq_zero h0
      rw [this]; rfl
    · rw [(ops_yes (by omega) (by omega) ho).1] at h; cases h
theorem put_yes {ts : List Op3} (h : oGood (bytesOf (flatP ts)) = true) (he : oList (bytesOf (flatP ts)) = ts) : outPut ts = bytesOf (flatP ts) := by
  have hs := bytes_size (flatP ts)
  have h' := h
  unfold oGood at h'
  simp at h'
  cases ho : ops (bytesOf (flatP ts)) with
  | none => rw [ho] at h'; simp at h'
  | some l =>
    have e := (ops_yes (by omega) (by omega) ho).2
    rw [he] at e
    subst e
    have hv := read_valid _ _ _ _ ho
    unfold outPut outGood
    rw [hv, decide_eq_true (by omega)]; rfl
theorem put_other {ts : List Op3} (h : oGood (bytesOf (flatP ts)) = true) (he : ¬ oList (bytesOf (flatP ts)) = ts) : outPut ts = ⟨#[]⟩ := by
  unfold outPut
  cases hg : outGood ts with
  | false => rfl
  | true =>
    have hs := bytes_size (flatP ts)
    have h' := h
    unfold oGood at h'
    simp at h'
    exact absurd (ops_yes (by omega) (by omega) (good_reads hg)).2 he

theorem specOpsPut_any (v : Value) (ts : List Op3) (Bv : Nat) (w : World) (hl : ts.length ≤ 1048576) (h1 : w.ownsRow Bv 37 3 v ts.length (cellsL ts)) :
    Calls Tryd.prog 11 #[v] w fun e w' => e = .returned (.string (outPut ts)) ∧ Below w.heap.size w w' := by
  obtain ⟨ao, cap, hv⟩ := own_len h1
  subst hv
  have H1 : Hid (w.ownsRow Bv 37 3 (.slice ao ts.length cap) ts.length (cellsL ts)) := h1
  clear h1
  by_cases hbig : 120 < ts.length
  · have HN : Hid (outPut ts = ⟨#[]⟩) := out_long hbig
    go_enter Tryd.func11, Tryd.ntmps11
    go_wp2
    go_ret
    exact ⟨ret_str HN.out.symm, Below.refl _ _⟩
  · go_enter Tryd.func11, Tryd.ntmps11
    go_wp2
    go_loop [3] (fun i => ∃ k : Nat, k ≤ ts.length ∧ i = .int .i64 k ∧ Hid (inRange (ts.take k))) (fun i => ts.length - (intOf i).toNat)
    case atStart => exact ⟨0, by omega, rfl, fun t ht => by simp at ht⟩
    case round =>
      obtain ⟨k, hk, rfl, HK⟩ := hrel
      by_cases hlt : k < ts.length
      · obtain ⟨g, hg⟩ := own_some H1.out (by omega)
        subst hg
        obtain ⟨_, _, cc⟩ := cells3_at H1.out hlt
        by_cases hrg : -32768 ≤ ts[k].num ∧ ts[k].num ≤ 65535
        · have HK2 : Hid (inRange (ts.take (k + 1))) := by
            intro t ht
            rw [take_next hlt] at ht
            rcases List.mem_append.1 ht with ht | ht
            · exact HK.out t ht
            · simp at ht; subst ht; exact hrg
          generalize ts[k].num = z at *
          have hI : ∀ w, Calls Tryd.prog 18 #[.int .i64 z, .int .i64 (-32768), .int .i64 65535] w fun e w' => e = .returned (.bool true) ∧ w' = w := fun w => by
            refine (l1In_any _ _ _ w).mono ?_
            rintro e w' ⟨rfl, rfl⟩
            exact ⟨ret_bool (by simp; omega), rfl⟩
          clear hrg
          go_wp2_with (go_at_call 18; refine (hI _).mono ?_; rintro e w2 ⟨rfl, hw⟩; replace hw := hw.symm; subst hw)
          go_round
          case rel => exact ⟨k + 1, by omega, by go_num, HK2⟩
          case measure => simp [intOf]; omega
        · have HN : Hid (outPut ts = ⟨#[]⟩) := out_range hlt hrg
          generalize ts[k].num = z at *
          have hI : ∀ w, Calls Tryd.prog 18 #[.int .i64 z, .int .i64 (-32768), .int .i64 65535] w fun e w' => e = .returned (.bool false) ∧ w' = w := fun w => by
            refine (l1In_any _ _ _ w).mono ?_
            rintro e w' ⟨rfl, rfl⟩
            refine ⟨ret_bool ?_, rfl⟩
            cases h : decide (-32768 ≤ z) && decide (z ≤ 65535) with
            | false => rfl
            | true => simp at h; exact absurd h hrg
          clear hrg
          go_wp2_with (go_at_call 18; refine (hI _).mono ?_; rintro e w2 ⟨rfl, hw⟩; replace hw := hw.symm; subst hw)
          go_ret
          exact ⟨ret_str HN.out.symm, Below.refl _ _⟩
      · have hk' : k = ts.length := by omega
        subst hk'
        have hr := HK.out
        rw [List.take_length] at hr
        clear HK
        go_wp2_with fail
        refine (l3Put_any _ ts Bv w (by omega) hr H1.out).mono ?_
        rintro e w1 ⟨rfl, hb1⟩
        have hszb : (bytesOf (flatP ts)).size ≤ maxLen := by
          rw [bytes_size]
          have := flatP_take_le ts ts.length
          rw [List.take_length] at this
          unfold maxLen; omega
        have PN := fun h => put_none (ts := ts) h
        have PY := fun h he => put_yes (ts := ts) h he
        have PO := fun h he => put_other (ts := ts) h he
        have hG := specOpsGet_any (bytesOf (flatP ts)) w1 hszb
        have hL := oList_len (bytesOf (flatP ts))
        unfold OpsPost at hG
        generalize oList (bytesOf (flatP ts)) = xs at *
        generalize oGood (bytesOf (flatP ts)) = good at *
        generalize bytesOf (flatP ts) = s at *
        clear hr hszb
        go_wp2_with fail
        refine hG.mono ?_
        rintro e w2 ⟨v2, rfl, ho2, hb2⟩
        have hb12 : Below w.heap.size w w2 := hb1.trans (hb2.mono hb1.size)
        cases good
        · have HN : Hid (outPut ts = ⟨#[]⟩) := PN rfl
          clear PN PY PO hG
          go_wp2_with fail
          go_ret
          exact ⟨ret_str HN.out.symm, hb12⟩
        · have PY' : Hid (xs = ts → outPut ts = s) := PY rfl
          have PO' : Hid (¬ xs = ts → outPut ts = ⟨#[]⟩) := PO rfl
          have hS := l3Same_any v2 _ xs ts _ _ w2 (by omega) (by omega) ho2 (own_below (own_below H1.out hb1) hb2)
          clear PN PY PO hG
          go_wp2_with fail
          refine hS.mono ?_
          rintro e w3 ⟨c, rfl, hc, q, rfl⟩
          have HB3 : Hid (Below w.heap.size w (w2.drewN q)) := below_drewN hb12 q
          cases c
          · have HN : Hid (outPut ts = ⟨#[]⟩) := PO'.out (fun h => by have := hc.2 h; cases this)
            clear hc hS ho2
            go_wp2
            go_ret
            exact ⟨ret_str HN.out.symm, HB3.out⟩
          · have HN : Hid (outPut ts = s) := PY'.out (hc.1 rfl)
            clear hc hS ho2
            go_wp2
            go_ret
            exact ⟨ret_str HN.out.symm, HB3.out⟩

end Go.Proofs.YtnimkkchpmlddaaDoor
