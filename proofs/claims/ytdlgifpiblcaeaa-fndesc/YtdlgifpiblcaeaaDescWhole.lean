/- What DescOf reads puts together again to the text. Nothing of the program is named here. -/
import Derived.Test.YtdlgifpiblcaeaaDescMath
namespace Go.Proofs.Ytdlgifpiblcaeaa
namespace Mx

theorem sub_getD (l : List UInt8) (a m i : Nat) (h : i < m) : ((l.drop a).take m).getD i 0 = l.getD (a + i) 0 := by
  simp [List.getD_eq_getElem?_getD, h]

/-- a type that ends at b, taken by itself, is a type -/
theorem type_sub {l : List UInt8} {a b : Nat} (h : tend l a = (b : Int)) : typeB ((l.drop a).take (b - a)) = true := by
  have hc := tend_cases l a
  rw [h] at hc
  rcases hc with hc | ⟨hab, hbl⟩
  · omega
  have hlen : ((l.drop a).take (b - a)).length = b - a := by simp; omega
  by_cases hI : l.getD a 0 = 73
  · have hb : b = a + 1 := by rw [tend_I (by omega) hI] at h; omega
    subst hb
    unfold typeB
    rw [hlen, tend_I (by omega) (by rw [sub_getD _ _ _ _ (by omega)]; exact hI)]
    simp
  · by_cases hL : l.getD a 0 = 76
    · rw [tend_L (by omega) hL] at h
      rcases index_cases (l.drop a) 59 with ⟨h1, _⟩ | ⟨k, hk, h1, h2, h3⟩
      · rw [h1, if_pos (by omega)] at h; omega
      · rw [h1, if_neg (by omega)] at h
        rw [List.length_drop] at hk
        split at h
        · rename_i hn
          have hb : b = a + k + 1 := by omega
          have hk0 : 0 < k := by
            rcases Nat.eq_zero_or_pos k with h0 | h0
            · subst h0; rw [drop_getD, Nat.add_zero, hL] at h2; exact absurd h2 (by decide)
            · exact h0
          unfold typeB
          rw [hlen, tend_at (l := (l.drop a).take (b - a)) (a := 0) (i := k) (by rw [sub_getD _ _ _ _ (by omega)]; exact hL) hk0 (by omega) (by rw [sub_getD _ _ _ _ (by omega), ← drop_getD]; exact h2)
            (fun j h4 h5 => by rw [sub_getD _ _ _ _ (by omega), ← drop_getD]; exact h3 j h5)]
          have e : List.take (k - (0 + 1)) (List.drop (0 + 1) (List.take (b - a) (List.drop a l))) = List.take ((k : Int).toNat - 1) (List.drop (a + 1) l) := by
            rw [List.drop_take, List.take_take, List.drop_drop]
            congr 1
            omega
          rw [e, if_pos hn]
          simp; omega
        · omega
    · rw [tend_other hI hL] at h; omega

def flat (ts : List ByteArray) : List UInt8 := (ts.map fun t => t.data.toList).flatten
theorem flat_cons (t : ByteArray) (ts : List ByteArray) : flat (t :: ts) = t.data.toList ++ flat ts := by simp [flat]
theorem flat_snoc (ts : List ByteArray) (t : ByteArray) : flat (ts ++ [t]) = flat ts ++ t.data.toList := by simp [flat]

theorem descEnd_whole {s : ByteArray} {a : Nat} {x : List ByteArray × ByteArray} (h : descEnd s a = some x) :
    (∀ t ∈ x.1, typeB t.data.toList = true) ∧ flat x.1 ++ 41 :: x.2.data.toList = s.data.toList.drop a ∧ backB x.2 = true := by
  unfold descEnd at h
  split at h
  · rename_i hc
    obtain ⟨h1, h2, h3⟩ := hc
    cases h
    refine ⟨by simp, ?_, h3⟩
    have hl := len_of s
    rw [Lib.extract_to_end]
    simp only [flat, List.map_nil, List.flatten_nil, List.nil_append]
    rw [List.drop_eq_getElem_cons (i := a) (by omega)]
    have : s.data.toList[a]'(by omega) = 41 := by
      rw [← h2, List.getD_eq_getElem?_getD, List.getElem?_eq_getElem (by omega)]; rfl
    rw [this]
  · cases h

theorem descAt_whole {s : ByteArray} : ∀ {r a : Nat} {x : List ByteArray × ByteArray}, descAt s r a = some x →
    (∀ t ∈ x.1, typeB t.data.toList = true) ∧ flat x.1 ++ 41 :: x.2.data.toList = s.data.toList.drop a ∧ backB x.2 = true := by
  intro r
  induction r with
  | zero =>
    intro a x h
    simp only [descAt] at h
    split at h
    · exact descEnd_whole h
    · cases h
  | succ r ih =>
    intro a x h
    simp only [descAt] at h
    split at h
    · exact descEnd_whole h
    · rename_i hneg
      obtain ⟨b, hb⟩ : ∃ b : Nat, tend s.data.toList a = (b : Int) := ⟨(tend s.data.toList a).toNat, by omega⟩
      rw [hb, Int.toNat_natCast, Option.map_eq_some_iff] at h
      obtain ⟨y, hy, rfl⟩ := h
      obtain ⟨i1, i2, i3⟩ := ih hy
      have hab : a < b := by
        have := tend_cases s.data.toList a; rw [hb] at this; omega
      refine ⟨fun t ht => ?_, ?_, i3⟩
      · rcases List.mem_cons.1 ht with rfl | ht
        · rw [Lib.extract_data]; exact type_sub hb
        · exact i1 t ht
      · rw [flat_cons, List.append_assoc, i2, Lib.extract_data]
        have : s.data.toList.drop b = (s.data.toList.drop a).drop (b - a) := by rw [List.drop_drop]; congr 1; omega
        rw [this, List.take_append_drop]

theorem desc_whole {s : ByteArray} (h : dOk s = true) :
    (∀ t ∈ dTs s, typeB t.data.toList = true) ∧ 40 :: (flat (dTs s) ++ 41 :: (dBack s).data.toList) = s.data.toList ∧ backB (dBack s) = true := by
  unfold dOk at h
  cases hd : descOf s with
  | none => rw [hd] at h; cases h
  | some x =>
    obtain ⟨e1, e2, _⟩ := desc_yes (ts := x.1) (b := x.2) hd
    rw [e1, e2]
    unfold descOf at hd
    split at hd
    · rename_i hc
      obtain ⟨i1, i2, i3⟩ := descAt_whole hd
      refine ⟨i1, ?_, i3⟩
      rw [i2]
      have hl := len_of s
      have h0 : 0 < s.data.toList.length := by omega
      have hg : s.data.toList[0]'h0 = 40 := by
        rw [← hc.2, List.getD_eq_getElem?_getD, List.getElem?_eq_getElem h0]; rfl
      rw [← hg, ← List.drop_eq_getElem_cons h0, List.drop_zero]
    · cases hd

end Mx
end Go.Proofs.Ytdlgifpiblcaeaa
