/- Contracts of the specification's writer: bytes, kinds, entries. -/
import Derived.Test.YtnjfaikhiimdjaaFileMath
import Derived.Laws.IdiomStrings
namespace Go.Proofs.Ytnjfaikhiimdjaa
open Go.RowKit Fm
set_option maxHeartbeats 1000000
set_option maxRecDepth 20000
set_option linter.unusedVariables false

theorem conv_b (W : World) (cs : List UInt8) (vs : Array Value) (n : Nat) (hn : n = cs.length) (hv : vs.toList = cs.map fun c => Value.int .u8 (c.toNat : Int)) :
    (convert 59 9 (.slice (some ⟨W.heap.size, 0, none⟩) n n)).run Try.prog (W.alloc (.cells vs 5)) = .ok (.string (bytesOf cs)) (W.alloc (.cells vs 5)) := by
  subst hn
  refine run_convert_bytes_back (P := Try.prog) _ 59 9 5 ⟨W.heap.size, 0, none⟩ cs.length cs Try.underlying59 Try.underlying5 Try.underlying9 ?_
  intro j hj
  exact cells_new W vs 5 j _ (by rw [hv]; simp [hj])

/-- a text that is so long at the most, and that is these bytes where something holds -/
def Pt (t : ByteArray) (n : Nat) (P : Prop) (l : List UInt8) : Prop := t.size ≤ n ∧ (P → t = bytesOf l)
theorem Pt.app {t t' : ByteArray} {n n' : Nat} {P P' : Prop} {l l' : List UInt8} (h : Pt t n P l) (h' : Pt t' n' P' l') : Pt (t ++ t') (n + n') (P ∧ P') (l ++ l') := by
  refine ⟨by rw [ByteArray.size_append]; have := h.1; have := h'.1; omega, fun hp => ?_⟩
  rw [h.2 hp.1, h'.2 hp.2, bytes_app]
theorem Pt.mono {t : ByteArray} {n n' : Nat} {P P' : Prop} {l l' : List UInt8} (h : Pt t n P l) (hn : n ≤ n') (hp : P' → P) (hl : l = l') : Pt t n' P' l' := ⟨Nat.le_trans h.1 hn, fun q => by rw [← hl]; exact h.2 (hp q)⟩
theorem Pt.of (l : List UInt8) : Pt (bytesOf l) l.length True l := ⟨by rw [bytes_size]; exact Nat.le_refl _, fun _ => rfl⟩

theorem put1_any (n : Int) (w : World) :
    Calls Try.prog 56 #[.int .i64 n] w fun e w' => e = .returned (.string (bytesOf (one n))) ∧ Below w.heap.size w w' := by
  have hc := fun W => conv_b W [bt n] #[.int .u8 (n % 256)] 1 rfl (by simp [bt_toNat])
  go_enter Try.func56, Try.ntmps56
  go_wp2
  go_ret
  exact ⟨rfl, (Below.refl _ _).alloc (Nat.le_refl _) _⟩
theorem put2_any (n : Int) (w : World) :
    Calls Try.prog 58 #[.int .i64 n] w fun e w' => ∃ t, e = .returned (.string t) ∧ Pt t 2 (in2 n) (two n) ∧ Below w.heap.size w w' := by
  have hc := fun W => conv_b W [bt (wrap64 (n.tdiv 256)), bt (n.tmod 256)] #[.int .u8 (wrap64 (n.tdiv 256) % 256), .int .u8 (n.tmod 256 % 256)] 2 rfl (by simp [bt_toNat])
  go_enter Try.func58, Try.ntmps58
  go_wp2
  go_ret
  refine ⟨_, rfl, ⟨by rw [bytes_size]; simp, fun h => ?_⟩, (Below.refl _ _).alloc (Nat.le_refl _) _⟩
  unfold in2 at h
  rw [Int.tdiv_eq_ediv_of_nonneg (by omega), Int.tmod_eq_emod_of_nonneg (by omega)]
  unfold two
  rw [show wrap64 (n / 256) = n / 256 by unfold wrap64; omega]
  have : bt (n % 256) = bt n := by unfold bt; rw [Int.emod_emod_of_dvd _ (by omega)]
  rw [this]

theorem kind_at {w : World} {B g cap : Nat} {ts : List MKind} (h : w.ownsRow B 144 2 (.slice (some ⟨g, 0, none⟩) ts.length cap) ts.length (rowKind ts)) {k : Nat} (hk : k < ts.length) {x y : Int} (hx : ts[k] = ⟨x, y⟩) : w.cell? ⟨g, k * 2, none⟩ = some (.int .i64 x) ∧ w.cell? ⟨g, k * 2 + 1, none⟩ = some (.int .i64 y) := by
  obtain ⟨h1, h2⟩ := ownKind_at h hk
  rw [hx] at h1 h2
  exact ⟨h1, h2⟩

theorem putKinds_any (v : Value) (ts : List MKind) (B : Nat) (w : World) (hl : ts.length ≤ 1048576) (h : w.ownsRow B 144 2 v ts.length (rowKind ts)) :
    Calls Try.prog 91 #[v] w fun e w' => ∃ t, e = .returned (.string t) ∧ Pt t (1 + 3 * ts.length) (fineKs ts) (putKs ts) ∧ Below w.heap.size w w' := by
  obtain ⟨ao, cap, hv⟩ := own_len h
  subst hv
  have HO := hid h
  clear h
  go_enter Try.func91, Try.ntmps91
  go_wp2_with fail
  refine (put1_any _ _).mono ?_
  rintro e w1 ⟨rfl, hb1⟩
  go_wp2_with fail
  go_loopw [3, 4] (fun sv i wr => ∃ (k : Nat) (t : ByteArray), k ≤ ts.length ∧ i = .int .i64 k ∧ sv = .string t ∧ t.size ≤ 1 + 3 * k ∧ Hid (Pt t (1 + 3 * k) (∀ x ∈ ts.take k, fineK x) (one ts.length ++ (ts.take k).flatMap putK)) ∧ Below w.heap.size w wr) (fun _ i _ => ts.length - (intOf i).toNat)
  case atStart => exact ⟨0, _, by omega, rfl, rfl, by rw [bytes_size]; simp [one], (Pt.of (one ts.length)).mono (by simp [one]) (fun _ => trivial) (by simp), hb1⟩
  case round =>
    obtain ⟨k, t, hk, rfl, rfl, hts, hP, hbel⟩ := hrel
    by_cases hlt : k < ts.length
    · obtain ⟨g, hg⟩ := own_some HO.out (by omega)
      subst hg
      obtain ⟨x, y, hxy⟩ : ∃ x y, ts[k] = ⟨x, y⟩ := ⟨_, _, rfl⟩
      obtain ⟨ca, cb⟩ := kind_at (own_below HO.out hbel) hlt hxy
      have HX := hid hxy
      have HK := hid (List.take_succ_eq_append_getElem hlt)
      clear hb1 hxy
      go_wp2_with fail
      refine (put1_any _ _).mono ?_
      rintro e w2 ⟨rfl, hb2⟩
      have hbel2 := hbel.trans (hb2.mono hbel.size)
      obtain ⟨ca2, cb2⟩ := kind_at (own_below HO.out hbel2) hlt HX.out
      have P2 := hid (hP.out.app (Pt.of (one x)))
      have hs2 : (bytesOf (one x)).size ≤ 1 := by rw [bytes_size]; simp [one]
      clear hbel hb2 ca cb
      by_cases h3 : x = 3
      · subst h3
        go_wp2_with fail
        refine (put2_any _ _).mono ?_
        rintro e w3 ⟨u, rfl, pu, hb3⟩
        have hbel3 := hbel2.trans (hb3.mono hbel2.size)
        have hu := pu.1
        have P3 := hid ((P2.out.app pu).mono (n' := 1 + 3 * (k + 1)) (P' := ∀ x ∈ ts.take (k + 1), fineK x) (l' := one ts.length ++ (ts.take (k + 1)).flatMap putK) (by simp [one]; omega) (fun hq => by
          rw [HK.out, HX.out] at hq
          exact ⟨⟨fun q hm => hq q (by simp [hm]), trivial⟩, by have := hq ⟨3, y⟩ (by simp); simpa [fineK] using this.2⟩) (by
          rw [HK.out, HX.out]
          simp [putK]))
        clear P2 hP pu hb3
        go_wp2_with fail -- A
        go_roundw
        case rel => exact ⟨k + 1, _, by omega, by go_num, rfl, P3.out.1, P3, hbel3⟩
        case measure => simp [intOf]; omega
      · have h3' : (x == 3) = false := by simpa using h3
        have P3 := hid (P2.out.mono (n' := 1 + 3 * (k + 1)) (P' := ∀ x ∈ ts.take (k + 1), fineK x) (l' := one ts.length ++ (ts.take (k + 1)).flatMap putK) (by simp [one]; omega) (fun hq => by
          rw [HK.out, HX.out] at hq
          exact ⟨fun q hm => hq q (by simp [hm]), trivial⟩) (by
          rw [HK.out, HX.out]
          simp [putK, h3]))
        clear P2 hP h3
        go_wp2_with fail
        go_roundw
        case rel => exact ⟨k + 1, _, by omega, by go_num, rfl, P3.out.1, P3, hbel2⟩
        case measure => simp [intOf]; omega
    · have hke : k = ts.length := by omega
      have HF := hid (hP.out.mono (n' := 1 + 3 * ts.length) (P' := fineKs ts) (l' := putKs ts) (by omega) (fun hq x hm => hq.2 x (List.mem_of_mem_take hm)) (by rw [hke, List.take_length]; rfl))
      clear hP
      go_wp2_with fail
      go_ret
      exact ⟨t, rfl, HF.out, hbel⟩

end Go.Proofs.Ytnjfaikhiimdjaa
