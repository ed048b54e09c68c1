/- Contract of FilePut of the specification. -/
import Derived.Test.YtnejkkaicnbkoaaGetSpec
import Derived.Test.YtnejkkaicnbkoaaSameClass
namespace Go.Proofs.Ytnejkkaicnbkoaa
open Go.RowKit Fm
set_option maxHeartbeats 4000000
set_option maxRecDepth 20000
set_option linter.unusedVariables false

/-- what FilePut answers -/
def PutOut (c : MClass) (r : ByteArray) : Prop := (fineC c ∧ (putC c).length ≤ 900 ∧ r = bytesOf (putC c)) ∨ (¬ (fineC c ∧ (putC c).length ≤ 900) ∧ r = ⟨#[]⟩)
theorem PutOut.one {c : MClass} {r r' : ByteArray} (h : PutOut c r) (h' : PutOut c r') : r = r' := by
  rcases h with ⟨h1, h2, rfl⟩ | ⟨h1, rfl⟩ <;> rcases h' with ⟨k1, k2, rfl⟩ | ⟨k1, rfl⟩
  · rfl
  · exact absurd ⟨h1, h2⟩ k1
  · exact absurd ⟨k1, k2⟩ h1
  · rfl
def lens (c : MClass) : Prop := c.pool.length ≤ 60 ∧ c.faces.length ≤ 3 ∧ c.fields.length ≤ 5 ∧ c.methods.length ≤ 6
theorem fine_lens {c : MClass} (h : fineC c) : lens c := by
  have f1 := h.1.1
  have f2 := h.2.2.2.2.1.1
  have f3 := h.2.2.2.2.2.1.1
  have f4 := h.2.2.2.2.2.2.1
  unfold lens
  omega
theorem bytes_back (l : List UInt8) : (bytesOf l).data.toList = l := by simp [bytesOf]

theorem l1Few_any (vp vi vf vm : Value) (f n u : Int) (a b c d : Nat) (w : World) (hp : ∃ o k, vp = .slice o a k) (hi : ∃ o k, vi = .slice o b k) (hf : ∃ o k, vf = .slice o c k) (hm : ∃ o k, vm = .slice o d k) :
    Calls Try.prog 32 #[.agg #[vp, .int .i64 f, .int .i64 n, .int .i64 u, vi, vf, vm]] w fun e w' => e = .returned (.bool (decide (a ≤ 60 ∧ b ≤ 3 ∧ c ≤ 5 ∧ d ≤ 6))) ∧ Below w.heap.size w w' := by
  obtain ⟨o1, k1, rfl⟩ := hp
  obtain ⟨o2, k2, rfl⟩ := hi
  obtain ⟨o3, k3, rfl⟩ := hf
  obtain ⟨o4, k4, rfl⟩ := hm
  obtain ⟨q, hq⟩ : ∃ q, decide (a ≤ 60 ∧ b ≤ 3 ∧ c ≤ 5 ∧ d ≤ 6) = q := ⟨_, rfl⟩
  have HQ := hid hq
  rw [hq]
  clear hq
  by_cases h1 : a ≤ 60
  · by_cases h2 : b ≤ 3
    · by_cases h3 : c ≤ 5
      · go_enter Try.func32, Try.ntmps32
        go_wp2
        go_ret
        refine ⟨ret_bool ?_, by go_grown⟩
        rw [← HQ.out, Bool.eq_iff_iff]
        simp
        omega
      · have HN := hid (show q = false from by rw [← HQ.out]; simp; omega)
        go_enter Try.func32, Try.ntmps32
        go_wp2
        go_ret
        exact ⟨ret_bool HN.out.symm, by go_grown⟩
    · have HN := hid (show q = false from by rw [← HQ.out]; simp; omega)
      go_enter Try.func32, Try.ntmps32
      go_wp2
      go_ret
      exact ⟨ret_bool HN.out.symm, by go_grown⟩
  · have HN := hid (show q = false from by rw [← HQ.out]; simp; omega)
    go_enter Try.func32, Try.ntmps32
    go_wp2
    go_ret
    exact ⟨ret_bool HN.out.symm, by go_grown⟩

theorem specFilePut_any (c : MClass) (vp vi vf vm : Value) (B : Nat) (w : World) (hc : c.few) (h : ClassW w B vp vi vf vm c) :
    Calls Try.prog 11 #[.agg #[vp, .int .i64 c.flags, .int .i64 c.name, .int .i64 c.super, vi, vf, vm]] w fun e w' => ∃ r, e = .returned (.string r) ∧ PutOut c r ∧ Below w.heap.size w w' := by
  obtain ⟨o1, k1, hv1⟩ := own_len h.p
  obtain ⟨o2, k2, hv2⟩ := own_len h.i
  obtain ⟨o3, k3, hv3⟩ := own_len h.f
  obtain ⟨o4, k4, hv4⟩ := h.m.len
  subst hv1 hv2 hv3 hv4
  have HW := hid h
  have HC := hid hc
  have P0 := PB.start w (arrC (.slice o1 c.pool.length k1) c.flags c.name c.super (.slice o2 c.faces.length k2) (.slice o3 c.fields.length k3) (.slice o4 c.methods.length k4)) 27
  have hFew := fun W => l1Few_any (.slice o1 c.pool.length k1) (.slice o2 c.faces.length k2) (.slice o3 c.fields.length k3) (.slice o4 c.methods.length k4) c.flags c.name c.super c.pool.length c.faces.length c.fields.length c.methods.length W ⟨_, _, rfl⟩ ⟨_, _, rfl⟩ ⟨_, _, rfl⟩ ⟨_, _, rfl⟩
  clear h hc
  by_cases hl : lens c
  · have hd : decide (c.pool.length ≤ 60 ∧ c.faces.length ≤ 3 ∧ c.fields.length ≤ 5 ∧ c.methods.length ≤ 6) = true := by simpa [lens] using hl
    rw [hd] at hFew
    have hPut := fun W (hW : Below w.heap.size w W) => putClass_any c _ _ _ _ B W HC.out hl.1 hl.2.1 hl.2.2.1 hl.2.2.2 (HW.out.keep hW)
    have HL := hid hl
    clear hd hl
    go_enter Try.func11, Try.ntmps11
    go_wp2_with fail
    refine (hFew _).mono ?_
    rintro e w1 ⟨rfl, hb1⟩
    have P1 := P0.keep hb1
    obtain ⟨⟨c0, c1, c2, c3, c4, c5, c6⟩, _⟩ := P1.lk.c7
    clear P0 hb1 hFew
    go_wp2_with fail
    refine (hPut _ P1.old).mono ?_
    rintro e w2 ⟨t, rfl, pt, hb2⟩
    have P2 := P1.keep hb2
    have HT := hid pt
    have hts := pt.1
    have hGet := l1Get_any t w2 (by omega)
    clear c0 c1 c2 c3 c4 c5 c6 P1 hb2 hPut pt
    go_wp2_with fail
    refine hGet.mono ?_
    rintro e w3 (⟨hn, rfl, hb3⟩ | ⟨x, up, ui, uf, um, hy, rfl, hxw, hxf, hb3⟩)
    · have P3 := P2.keep hb3
      have HR := hid (show PutOut c ⟨#[]⟩ from .inr ⟨(fun hf => by
        have e := HT.out.2 hf.1
        have : getC t = some c := (getC_iff t c).2 ⟨by rw [e, bytes_size]; exact hf.2, hf.1, by rw [e, bytes_back]⟩
        rw [hn] at this
        simp at this), rfl⟩)
      have HO := hid P3.old
      clear P2 hn hGet hb3
      go_wp2_with fail
      go_ret
      exact ⟨_, rfl, HR.out, HO.out.alloc HO.out.size _⟩
    · have P3 := P2.keep hb3
      have hal : ∀ o, (w3.alloc o).cell? ⟨w.heap.size, 0, none⟩ = some (.slice o1 c.pool.length k1) ∧ (w3.alloc o).cell? ⟨w.heap.size, 1, none⟩ = some (.int .i64 c.flags) ∧ (w3.alloc o).cell? ⟨w.heap.size, 2, none⟩ = some (.int .i64 c.name) ∧ (w3.alloc o).cell? ⟨w.heap.size, 3, none⟩ = some (.int .i64 c.super) ∧ (w3.alloc o).cell? ⟨w.heap.size, 4, none⟩ = some (.slice o2 c.faces.length k2) ∧ (w3.alloc o).cell? ⟨w.heap.size, 5, none⟩ = some (.slice o3 c.fields.length k3) ∧ (w3.alloc o).cell? ⟨w.heap.size, 6, none⟩ = some (.slice o4 c.methods.length k4) := fun o => (P3.lk.alloc o).c7.1
      have a0 := fun o => (hal o).1
      have a1 := fun o => (hal o).2.1
      have a2 := fun o => (hal o).2.2.1
      have a3 := fun o => (hal o).2.2.2.1
      have a4 := fun o => (hal o).2.2.2.2.1
      have a5 := fun o => (hal o).2.2.2.2.2.1
      have a6 := fun o => (hal o).2.2.2.2.2.2
      obtain ⟨q1, r1, hv1⟩ := own_len hxw.p
      obtain ⟨q2, r2, hv2⟩ := own_len hxw.i
      obtain ⟨q3, r3, hv3⟩ := own_len hxw.f
      obtain ⟨q4, r4, hv4⟩ := hxw.m.len
      subst hv1 hv2 hv3 hv4
      have hbo := fun o => ((Below.refl w3.heap.size w3).alloc (Nat.le_refl _) o)
      have hSame := fun o => l1Same_any x c _ _ _ _ _ _ _ _ w2.heap.size B (w3.alloc o) hxf HC.out (hxw.keep (hbo o)) (HW.out.keep (P3.old.trans ((hbo o).mono P3.old.size)))
      have HO := hid P3.old
      have HY := hid ((getC_iff t x).1 hy)
      clear P2 hy hGet hb3 hxw hxf hbo hal P3
      go_wp2_with fail
      refine (hSame _).mono ?_
      rintro e w4 ⟨d, rfl, hd, hb4⟩
      have HD := hid hd
      have HO4 := hid ((HO.out.alloc HO.out.size (.cells (arrC (.slice q1 x.pool.length r1) x.flags x.name x.super (.slice q2 x.faces.length r2) (.slice q3 x.fields.length r3) (.slice q4 x.methods.length r4)) 27)).trans (hb4.mono (by have := HO.out.size; simp; omega)))
      clear hSame hb4 hd a0 a1 a2 a3 a4 a5 a6
      cases d with
      | false =>
        have HR := hid (show PutOut c ⟨#[]⟩ from .inr ⟨(fun hf => by
          have e := HT.out.2 hf.1
          have h2 := HY.out.2.2
          rw [e, bytes_back] at h2
          have e1 := codecClass.back c [] hf.1
          have e2 := codecClass.back x [] HY.out.2.1
          rw [h2, e2] at e1
          have e3 : x = c := by simpa using e1
          have := HD.out.2 e3
          simp at this), rfl⟩)
        go_wp2_with fail
        go_ret
        exact ⟨_, rfl, HR.out, HO4.out⟩
      | true =>
        have HR := hid (show PutOut c t from by
          have e := HD.out.1 rfl
          subst e
          have h2 := HY.out.2.2
          refine .inl ⟨HY.out.2.1, ?_, ?_⟩
          · rw [← h2]; have := HY.out.1; simpa using this
          · rw [← h2, bytes_data])
        go_wp2_with fail
        go_ret
        exact ⟨_, rfl, HR.out, HO4.out⟩
  · have HR := hid (show PutOut c ⟨#[]⟩ from .inr ⟨fun hf => hl (fine_lens hf.1), rfl⟩)
    have hd : decide (c.pool.length ≤ 60 ∧ c.faces.length ≤ 3 ∧ c.fields.length ≤ 5 ∧ c.methods.length ≤ 6) = false := by simpa [lens] using hl
    rw [hd] at hFew
    clear hd hl
    go_enter Try.func11, Try.ntmps11
    go_wp2_with fail
    refine (hFew _).mono ?_
    rintro e w1 ⟨rfl, hb1⟩
    have HO := hid (P0.keep hb1).old
    clear P0 hb1 hFew
    go_wp2_with fail
    go_ret
    exact ⟨_, rfl, HR.out, HO.out⟩

end Go.Proofs.Ytnejkkaicnbkoaa
