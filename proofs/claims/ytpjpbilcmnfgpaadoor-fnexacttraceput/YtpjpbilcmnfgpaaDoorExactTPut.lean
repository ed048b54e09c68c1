/- Proved: the law FnExactTracePut returns true at every list of lines and leaves its argument as it was, where the tables that are read (the words of the ops, the powers of ten of strconv, and two of math/bits that are not read) hold what the program's text lays them (the card ties them): TracePut of the program answers as the specification's, at every argument, and writes into none. No other condition. -/
import Derived.Test.YtpjpbilcmnfgpaaDoorCards
import Derived.Test.YtpjpbilcmnfgpaaDoorTie
import Derived.Test.YtpjpbilcmnfgpaaDoorTPutSpec
import Derived.Test.YtpjpbilcmnfgpaaDoorTPutImpl
import Derived.Test.YtpjpbilcmnfgpaaDoorMkLine
import Derived.Deep.Slices
import Derived.Deep.Strs
import Derived.WalkKit
import Derived.ProofKit
import Derived.OpenShut
import Derived.OpenVars
import Derived.ShutString
import Derived.ChangeOld
import Derived.Deep.DeepHandedRow
import Derived.Lib.LaidTab
namespace Go.Proofs.YtpjpbilcmnfgpaaDoor.fnExactTracePut
open Go.ChangeShapes Go.WideShapes Go.ChangeAt Go.RowKit
open Go.ChangeMaps (open_string shut_string)
set_option linter.unusedVariables false
set_option maxHeartbeats 1000000
set_option maxRecDepth 20000

theorem own : ownKnob Tryd.prog.godebug = none := by kernel_rfl
theorem laidOut : laidOutB Tryd.prog = true := by kernel_rfl
def deB32 : List Int := [0, 1, 28, 2, 29, 14, 24, 3, 30, 22, 20, 15, 25, 17, 4, 8, 31, 27, 13, 23, 21, 19, 16, 7, 26, 12, 18, 6, 11, 5, 10, 9]
def deB64 : List Int := [0, 1, 56, 2, 57, 49, 28, 3, 61, 58, 42, 50, 38, 29, 17, 4, 62, 47, 59, 36, 45, 43, 51, 22, 53, 39, 33, 30, 24, 18, 12, 5, 63, 55, 48, 27, 60, 41, 37, 16, 46, 35, 44, 21, 52, 32, 23, 11, 54, 26, 40, 15, 34, 20, 31, 10, 25, 14, 19, 9, 13, 8, 7, 6]
def pow10L : List Int := [1, 10, 100, 1000, 10000, 100000, 1000000, 10000000, 100000000, 1000000000, 10000000000, 100000000000, 1000000000000, 10000000000000, 100000000000000, 1000000000000000, 10000000000000000, 100000000000000000, 1000000000000000000, 10000000000000000000]
theorem pow10L_eq : pow10L = Lib.pow10Tab := by decide
theorem gPow : Tryd.prog.globalNamed "internal/strconv.uint64pow10" = some 2 := by kernel_rfl
theorem gWords : Tryd.prog.globalNamed "loop.example/stowage/impl.opWords" = some 0 := by kernel_rfl
theorem tPow : (Tryd.prog.globals[2]?).map (·.type) = some 76 := by kernel_rfl
theorem tWords : (Tryd.prog.globals[0]?).map (·.type) = some 50 := by kernel_rfl
theorem rowed : varsRowed Tryd.prog ["loop.example/stowage/impl.opWords"] = true := by kernel_rfl

/-- an array of texts that reads as such a datum holds these texts, cell for cell -/
theorem cells_of_words {H : Type} {enc : TypeId × Value → H} {P : Program} {w : World} {base : Nat} {sp : Nat → Bool} {held : Bool} {fuel : Nat} {t e : TypeId} {n : Nat} {cs : List Value} {zs : List ByteArray} {p : List MemPlace}
    (ht : P.underlying t = some (.array n e)) (he : P.underlying e = some .string) (hce : P.cellsOf e = 1) (hct : P.cellsOf t = n)
    (h : DataW.trod enc P w base sp held fuel t cs = some (.agg (zs.map fun z => .lit (.string z.data.toList)), p)) : cs = zs.map Value.string := by
  cases fuel with
  | zero => simp [DataW.trod] at h
  | succ fuel =>
    simp only [DataW.trod, ht, hce, hct, Nat.mul_one] at h
    split at h
    · rename_i hl
      obtain ⟨xs, hm, hx⟩ := Option.map_eq_some_iff.1 h
      have hxs : xs.map (·.1) = zs.map fun z => (DataW.lit (.string z.data.toList) : DataW H) := by
        have := congrArg Prod.fst hx
        simpa using this
      have hxl : xs.length = n := by simpa using Lib.mapM_length hm
      have hzl : zs.length = n := by
        have := congrArg List.length hxs
        simp at this
        omega
      apply List.ext_getElem?
      intro i
      by_cases hi : i < n
      · obtain ⟨b, hb, hf⟩ := Lib.mapM_at hm i i (by simp [hi])
        obtain ⟨s, hc, rfl, _⟩ := DataW.trod_string he hf
        have h1 : cs[i]? = some (.string s) := by
          have := congrArg (·[0]?) hc
          simpa [List.getElem?_take, List.getElem?_drop] using this
        have h2 : (xs.map (·.1))[i]? = some (DataW.lit (.string s.data.toList) : DataW H) := by simp [hb]
        rw [hxs] at h2
        simp only [List.getElem?_map, Option.map_eq_some_iff, DataW.lit.injEq, Lit.string.injEq] at h2
        obtain ⟨z', hz', he'⟩ := h2
        have : z' = s := by
          cases z'; cases s
          simp only [ByteArray.mk.injEq]
          exact Array.toList_inj.1 he'
        subst this
        simp [h1, hz']
      · rw [List.getElem?_eq_none (by omega), List.getElem?_eq_none (by simp; omega)]
    · cases h
theorem tabOf {W : World} (h : laidMetH Tryd.prog Rows.fnExactTracePutRow.laid W) : TabP W := by
  have h' : laidMet Tryd.prog Rows.fnExactTracePutRow.laid W := h
  obtain ⟨ps, hv, _⟩ := h'
  obtain ⟨g1, t1, cs1, f1, p1, q1, _, _, _, _, hv, _⟩ := hv
  obtain ⟨g2, t2, cs2, f2, p2, q2, _, _, _, _, hv, _⟩ := hv
  obtain ⟨g3, t3, cs3, f3, p3, q3, hg3, ht3, hvar3, hd3, hv, _⟩ := hv
  obtain ⟨g4, t4, cs4, f4, p4, q4, hg4, ht4, hvar4, hd4, _⟩ := hv
  obtain rfl := Option.some.inj (gPow.symm.trans hg3)
  obtain rfl := Option.some.inj (tPow.symm.trans ht3)
  obtain rfl := Option.some.inj (gWords.symm.trans hg4)
  obtain rfl := Option.some.inj (tWords.symm.trans ht4)
  have e3 := Lib.cells_of_tab (k := .u64) (zs := pow10L) Tryd.underlying76 Tryd.underlying65 (by kernel_rfl) (by kernel_rfl) hd3
  have e4 := cells_of_words (zs := wordsL) Tryd.underlying50 Tryd.underlying9 (by kernel_rfl) (by kernel_rfl) hd4
  have hc : ∀ m : Nat, m < 35 → W.cell? ⟨0, m, none⟩ = some (.string (wordT (m : Int))) := fun m hm => by
    rw [World.var?_cell gWords hvar4 m, ← Array.getElem?_toList, e4, List.getElem?_map, wordT_op hm]
    rfl
  refine ⟨?_, ?_, hc⟩
  · refine ⟨World.block_lt_of_cell? W _ (hc 0 (by omega)), World.block_lt_of_cell? W (a := ⟨2, 0, none⟩) (u := .int .u64 1) ?_⟩
    rw [World.var?_cell gPow hvar3 0, ← Array.getElem?_toList, e3]
    try rfl
  · show W.var? Tryd.prog _ = _
    rw [hvar3, ← pow10L_eq, ← e3]

theorem walk (ts : List MLine) (al : Option Addr) (ll cl : Nat) (w : World) (hm : ll ≤ maxLen) (hA : ArgLine w al ll ts) (h64 : ∀ t ∈ ts, I64 t.loader ∧ I64 t.at_ ∧ I64 t.op ∧ I64 t.deep) (hT : TabP w) :
    Calls Tryd.prog 3 #[.slice al ll cl] w fun e w' => e = .returned (.bool true) ∧ Below w.heap.size w w' := by
  have hsz := szLineS_any al ll cl ts 1048576 w hm (by omega) (by omega) hA
  obtain rfl := hA.1
  have HA := hid hA
  have HT := hid hT
  have H64 := hid h64
  clear hA hT h64
  go_enter Tryd.func3, Tryd.ntmps3
  go_wp2_with fail
  refine hsz.mono ?_
  rintro e w1 ⟨r, rfl, hr, hb1⟩
  by_cases hneg : r < 0
  · have HO := hid hb1
    clear hr hb1
    go_wp2_with fail
    go_ret
    exact ⟨rfl, HO.out⟩
  have hc := hr.resolve_left hneg
  have HF := hid hc.2.2.2
  have hle := hc.2.2.1
  have HB1 := hid hb1
  have hto := fun W (hW : Below w.heap.size w W) => toLineS_any al ts.length cl ts W (by omega) (HA.out.keep hW)
  have HK : Hid (∀ t ∈ ts, OkLine t) := fun t ht => by
    have a := H64.out t ht
    have b := HF.out t ht
    exact ⟨a.1, a.2.1, a.2.2.2, b.1, b.2⟩
  clear hr hc hb1 H64
  go_wp2_with fail
  refine (hto _ HB1.out).mono ?_
  rintro e w2 ⟨v2, rfl, ho2, hb2⟩
  have HB2 := hid (HB1.out.trans (hb2.mono HB1.out.size))
  have hS := specTracePut_any v2 ts _ w2 hle HK.out ho2
  obtain ⟨R, HR⟩ : ∃ R, Hid (putT ts = R) := ⟨_, rfl⟩
  rw [HR.out] at hS
  obtain ⟨a2, c2, hv2⟩ := own_len ho2
  subst hv2
  clear hb2 HB1 ho2
  go_wp2_with fail
  refine hS.mono ?_
  rintro e w3 ⟨rfl, hb3⟩
  have HB3 := hid (HB2.out.trans (hb3.mono HB2.out.size))
  clear hS hb3 HB2
  go_wp2_with fail
  refine (hto _ HB3.out).mono ?_
  rintro e w4 ⟨v4, rfl, ho4, hb4⟩
  have HB4 := hid (HB3.out.trans (hb4.mono HB3.out.size))
  have HO4 := hid ho4
  have hI := implTracePut_any v4 ts _ w4 hle HK.out (HT.out.keep HB4.out (Nat.le_refl _)) ho4
  rw [HR.out] at hI
  obtain ⟨a4, c4, hv4⟩ := own_len ho4
  subst hv4
  clear hb4 ho4 HB3
  go_wp2_with fail
  refine hI.mono ?_
  rintro e w5 ⟨rfl, hb5⟩
  have HB5 := hid (HB4.out.trans (hb5.mono HB4.out.size))
  have HO5 := hid (own_below HO4.out hb5)
  clear hI hb5 HB4 HO4
  go_wp2_with fail
  refine (hto _ HB5.out).mono ?_
  rintro e w6 ⟨v6, rfl, ho6, hb6⟩
  have HB6 := hid (HB5.out.trans (hb6.mono HB5.out.size))
  have hq := eqLineS_same (.slice a4 ts.length c4) v6 ts _ _ w6 hle (own_below HO5.out hb6) ho6
  obtain ⟨a6, c6, hv6⟩ := own_len ho6
  subst hv6
  clear hb6 ho6 HB5 HO5
  go_wp2_with fail
  refine hq.mono ?_
  rintro e w7 ⟨rfl, hb7⟩
  have HB7 := hid (HB6.out.trans (hb7.mono HB6.out.size))
  clear hq hb7 HB6
  go_wp2_with fail
  go_ret
  exact ⟨rfl, HB7.out⟩

theorem contract (H : Type) (enc : TypeId × Value → H) (W : World) (base : Nat) (args : Array Value) (ds gs : List (DataW H)) (before : List MemPlace)
    (hval : ∀ (j : Nat) t v, Tryd.f3.params[j]? = some t → args[j]? = some v → Value.okWide Tryd.prog W .any base t v)
    (hW : DataW.Whole enc Tryd.prog Tryd.f3.params.toList Rows.fnExactTracePutSpec.vars false W args.toList ds gs before) (hL : laidMetH Tryd.prog Rows.fnExactTracePutRow.laid W) :
    Calls Tryd.prog 3 args W fun e W' => ∃ v, e = .returned v ∧ Rows.fnExactTracePutSpec.post enc Tryd.prog Tryd.f3 false true false false W args v W' := by
  have hW' := hW
  obtain ⟨p, q, hA0, hV, rfl, hfz, hnd⟩ := hW
  have hA : DataW.TrodAll enc Tryd.prog W 0 (fun _ => true) true Tryd.f3.params.toList args.toList ds p := hA0
  rw [Tryd.params3] at hA hval
  obtain ⟨v0, vs0, d0, ds0, p0, q0, hargs, rfl, rfl, h0, r0⟩ := trodAll_cons hA
  obtain ⟨rfl, rfl, rfl⟩ := trodAll_nil r0
  obtain rfl : args = #[v0] := by cases args; simp_all
  obtain ⟨ao, len, cap, rfl⟩ := okWide_slice Tryd.underlying22 (hval 0 22 v0 rfl rfl)
  have k0 := h0
  have lt0 : ∀ x ∈ p0, x.block < W.heap.size := by obtain ⟨m, hm⟩ := k0; exact DataW.trod_lt m _ _ _ hm
  obtain ⟨fuel0, hf0⟩ := h0
  obtain ⟨hm, ts, hA3, h64⟩ := lines_of (by simpa [Value.cells] using hf0)
  have hV2 : DataW.TrodVars enc Tryd.prog W (fun _ => true) ["loop.example/stowage/impl.opWords"] gs q := hV
  obtain ⟨g1, hg1⟩ : ∃ g1, gs = [g1] := by
    obtain ⟨_, _, _, _, d, _, h, _⟩ := trodVars_one hV2
    exact ⟨d, h⟩
  subst hg1
  clear hA0
  refine (walk ts ao len cap W hm hA3 h64 (tabOf hL)).mono fun e W' ⟨he, bel⟩ => ?_
  subst he
  exact ⟨_, rfl, _, _, _, [], _, q, hW', trodAll_mk1 (shut_bool Tryd.underlying4 _), (trodAll_cons_mk (Below.trod laidOut (by kernel_rfl) (of_decide_eq_true (by kernel_rfl)) k0 bel lt0) trodAll_mk0), Below.trodVars laidOut bel rowed hV2, bel.frame _, fun h => by cases h⟩

/- The world of the witness: the settled one, the table holding what its initialiser lays. -/
theorem laid_met (os : Os) : laidMet Tryd.prog Rows.fnExactTracePutRow.laid (({ World.holding Tryd.prog os ⟨#[], #[], []⟩ with heap := (((((World.holding Tryd.prog os ⟨#[], #[], []⟩).heap).modify 3 fun | .cells _ t frozen => .cells (deB32.map (Value.int .u8)).toArray t frozen | o => o).modify 4 fun | .cells _ t frozen => .cells (deB64.map (Value.int .u8)).toArray t frozen | o => o).modify 2 fun | .cells _ t frozen => .cells (pow10L.map (Value.int .u64)).toArray t frozen | o => o).modify 0 fun | .cells _ t frozen => .cells (wordsL.map Value.string).toArray t frozen | o => o } : World).forCall (fun _ _ => 0) ⟨#[], #[.slice none 0 0], []⟩).memory :=
  laidMet_of_run' 8 (by kernel_rfl) (by kernel_rfl)
theorem reads (os : Os) {H : Type} (enc : TypeId × Value → H) : ∃ places, DataW.whole enc Tryd.prog (({ World.holding Tryd.prog os ⟨#[], #[], []⟩ with heap := (((((World.holding Tryd.prog os ⟨#[], #[], []⟩).heap).modify 3 fun | .cells _ t frozen => .cells (deB32.map (Value.int .u8)).toArray t frozen | o => o).modify 4 fun | .cells _ t frozen => .cells (deB64.map (Value.int .u8)).toArray t frozen | o => o).modify 2 fun | .cells _ t frozen => .cells (pow10L.map (Value.int .u64)).toArray t frozen | o => o).modify 0 fun | .cells _ t frozen => .cells (wordsL.map Value.string).toArray t frozen | o => o } : World).forCall (fun _ _ => 0) ⟨#[], #[.slice none 0 0], []⟩).memory Tryd.f3.params.toList Rows.fnExactTracePutSpec.vars false #[Value.slice none 0 0].toList 8 = some ([.nil], [Rows.laid_loop_example_stowage_impl_opWords], places) :=
  ⟨MemPlace.row ⟨0, 0, none⟩ 35, by kernel_rfl⟩

set_option maxRecDepth 100000 in
theorem lifted (os : Os) (started : os.Started) (H : Type) (enc : TypeId × Value → H) (F : Stop.Interp) :
    ReturnsInHanded {} Tryd.checked os 3 .any ((OpenSpec.ofChange Rows.fnExactTracePutSpec).preRow enc Tryd.prog Tryd.f3 Rows.fnExactTracePutRow.domain false Rows.fnExactTracePutRow.laid) (((OpenSpec.ofChange Rows.fnExactTracePutSpec).at F).post enc Tryd.prog Tryd.f3 false true false false) := by
  obtain ⟨places, hx⟩ := reads os enc
  refine returnsInHanded_of_row (C := Tryd.checked) (s := OpenSpec.ofChange Rows.fnExactTracePutSpec) own started (by kernel_rfl) Tryd.func3
    (witness_row_at (enc := enc) (C := Tryd.checked) false ({ World.holding Tryd.prog os ⟨#[], #[], []⟩ with heap := (((((World.holding Tryd.prog os ⟨#[], #[], []⟩).heap).modify 3 fun | .cells _ t frozen => .cells (deB32.map (Value.int .u8)).toArray t frozen | o => o).modify 4 fun | .cells _ t frozen => .cells (deB64.map (Value.int .u8)).toArray t frozen | o => o).modify 2 fun | .cells _ t frozen => .cells (pow10L.map (Value.int .u64)).toArray t frozen | o => o).modify 0 fun | .cells _ t frozen => .cells (wordsL.map Value.string).toArray t frozen | o => o }) #[.slice none 0 0] rfl (by kernel_rfl) (by kernel_rfl) (by kernel_rfl)
      (OpenSpec.preRow_of_cond 8 hx (by kernel_rfl) (fun k hk => by cases hk) (by kernel_rfl) (laid_met os))) ?_
  intro W base args ds gs before hval hW _ _ _ hL _ _
  exact contract H enc W base args ds gs before hval hW hL

theorem said : Rows.FnExactTracePutSaid :=
  OpenClaim.holds_of_cond 3 Tryd.f3 rfl rfl rfl rfl rfl rfl rfl ⟨rfl, rfl, rfl, rfl, rfl⟩ rfl rfl rfl rfl rfl (by kernel_rfl) Tryd.func3 (by kernel_rfl)
    (of_decide_eq_true (by kernel_rfl)) (by unfold Func.isWrapper; first | (rw [if_pos (by decide +kernel)]; kernel_rfl) | (rw [if_neg (by decide +kernel)]; exact ⟨rfl, rfl⟩))
    (fun os started H enc _ F => by rw [OpenClaim.pre_eq_preRow]; exact lifted os started H enc F)

theorem plain (f : FuncId) (fn : Func) (hf : Tryd.pinned.checked.prog.funcNamed "loop.example/stowage/laws.FnExactTracePut" = some f) (hfn : Tryd.pinned.checked.prog.funcs[f]? = some fn) :
    false = Tryd.pinned.checked.prog.looks [] ∧ ∀ (j : Nat) t, fn.params[j]? = some t → Tryd.pinned.checked.prog.wantsStandIn t = false := by
  obtain rfl : f = 3 := Option.some.inj ((show Tryd.prog.funcNamed "loop.example/stowage/laws.FnExactTracePut" = some 3 by kernel_rfl).symm.trans hf) |>.symm
  obtain rfl : fn = Tryd.f3 := (Option.some.inj (Tryd.func3.symm.trans hfn)).symm
  refine ⟨by kernel_rfl, fun j t ht => ?_⟩
  rw [Tryd.params3] at ht
  obtain rfl : t = 22 := by simpa using Array.mem_of_getElem? ht
  exact (show Tryd.prog.wantsStandIn 22 = false by kernel_rfl)

theorem card : Rows.FnExactTracePutCardSaid :=
  Claim7.holds_tied_plain_at .later [] _ _ _ _ said (fun _ h => by cases h) (by kernel_rfl) (fun _ h => by cases h) fnExactTracePut_row_tie rfl ⟨rfl, rfl⟩ (by kernel_rfl) rfl plain (by kernel_rfl)

end Go.Proofs.YtpjpbilcmnfgpaaDoor.fnExactTracePut
namespace Go.Proofs.YtpjpbilcmnfgpaaDoor
theorem fnExactTracePutHolds : Rows.FnExactTracePutCardSaid := fnExactTracePut.card
end Go.Proofs.YtpjpbilcmnfgpaaDoor
