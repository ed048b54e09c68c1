/- Gathered: StrClone CpFlat CpConst. -/
import Derived.Test.YtecbcdfkedocbaaGreatDoorG03
import Derived.Test.YtecbcdfkedocbaaGreatDoorShelf
import Derived.Test.YtecbcdfkedocbaaGreatDoorG01
import Derived.Lib.BufferMore
import Derived.Test.YtecbcdfkedocbaaGreatDoorK01
import Derived.Test.YtecbcdfkedocbaaGreatDoorH02
import Derived.Deep.RegionHeld
namespace Go.Proofs.YtecbcdfkedocbaaGreatDoor
open Mx Go.RowKit
set_option maxHeartbeats 1000000
set_option linter.unusedVariables false
theorem sayClone_any (s:ByteArray) (w:World) (hs:s.size≤281474976710656) :
  Calls Tryz.prog 27 #[.string s] w fun e w'=>e=.returned (.string s)∧Below w.heap.size w w':=by
 have hA:=Tryz.stringslite_Clone s w hs
 go_enter Tryz.func27,Tryz.ntmps27
 go_wp2_with fail
 refine hA.mono ?_
 rintro e w1 ⟨rfl,hb⟩
 go_wp2
 go_ret
 exact ⟨rfl,hb⟩
set_option maxRecDepth 20000
theorem cloneField_any (v:Value) (n B:Nat) (xs:List Value) (w:World) (hn:n≤1048576) (h1:∀ u∈xs,u.oneCell'=true) (h:w.ownsRow B 79 3 v n xs) :
  Calls Tryz.prog 54 #[v] w fun e w'=>∃ v',e=.returned v'∧w'.ownsRow w.heap.size 79 3 v' n xs∧Below w.heap.size w w':=by
 rcases Joins.ownsRow_forms h with ⟨hv,hn0⟩|⟨g,cap,hv⟩
 ·subst hv hn0
  obtain rfl:xs=[]:=List.eq_nil_of_length_eq_zero (by have:=h.1;omega)
  clear h
  have hq:=fun W:World=>Lib.run_eql_slice_nil_nil (P:=Tryz.prog) W 0 0 Tryz.underlying33
  go_enter Tryz.func54,Tryz.ntmps54
  go_wp2
  go_ret
  exact ⟨_,rfl,World.ownsRow_nil _ _ _ _,Below.refl _ _⟩
 ·subst hv
  obtain ⟨i0,hi,hz0,hz1,hz2⟩:=info_parts infoField
  have hx:=h.cells (g:=g) rfl
  have hl:=h.1
  have hg:=(h.lt g rfl).2
  have hq:=fun W:World=>Lib.run_eql_slice_some_nil (P:=Tryz.prog) W ⟨g,0,none⟩ n cap Tryz.underlying33
  clear h
  go_enter Tryz.func54,Tryz.ntmps54
  go_wp2_with (at_builtin;refine wpList_append_own _ rfl _ _ 33 rfl w.heap.size 79 i0 (.agg #[.int .i64 0,.int .i64 0,.int .i64 0]) 3 24 Tryz.underlying33 hi hz0 hz1 hz2 rfl (by decide) _ 0 [] rfl (World.ownsRow_made w #[] 0 (Nat.le_refl _) (by unfold maxLen;omega) (by rfl)) ⟨g,0,none⟩ n cap xs rfl hl ?c1 h1 ?c3 ?c4 ?c5 ?_)
  case c1=>exact fun j u hj=>(((Below.refl w.heap.size w).alloc (Nat.le_refl _) _).cell (p:=(⟨g,0,none⟩:Addr).add j) (by rw [addr_add];exact hg)).trans (hx j u hj)
  case c3=>unfold maxLen;omega
  case c4=>omega
  case c5=>simp
  intro v' w' hown hgrow _
  have HB:=hid (below_grown ((Below.refl w.heap.size w).alloc (Nat.le_refl _) _) hgrow (by simp) (Nat.le_refl _))
  have HO:=hid (show w'.ownsRow w.heap.size 79 3 v' n xs from by simpa using hown)
  clear hown hgrow hx
  go_wp2
  go_ret
  exact ⟨v',rfl,HO.out,HB.out⟩
theorem cloneTrap_any (v:Value) (n B:Nat) (xs:List Value) (w:World) (hn:n≤1048576) (h1:∀ u∈xs,u.oneCell'=true) (h:w.ownsRow B 140 4 v n xs) :
  Calls Tryz.prog 98 #[v] w fun e w'=>∃ v',e=.returned v'∧w'.ownsRow w.heap.size 140 4 v' n xs∧Below w.heap.size w w':=by
 rcases Joins.ownsRow_forms h with ⟨hv,hn0⟩|⟨g,cap,hv⟩
 ·subst hv hn0
  obtain rfl:xs=[]:=List.eq_nil_of_length_eq_zero (by have:=h.1;omega)
  clear h
  have hq:=fun W:World=>Lib.run_eql_slice_nil_nil (P:=Tryz.prog) W 0 0 Tryz.underlying72
  go_enter Tryz.func98,Tryz.ntmps98
  go_wp2
  go_ret
  exact ⟨_,rfl,World.ownsRow_nil _ _ _ _,Below.refl _ _⟩
 ·subst hv
  obtain ⟨i0,hi,hz0,hz1,hz2⟩:=info_parts infoTrap
  have hx:=h.cells (g:=g) rfl
  have hl:=h.1
  have hg:=(h.lt g rfl).2
  have hq:=fun W:World=>Lib.run_eql_slice_some_nil (P:=Tryz.prog) W ⟨g,0,none⟩ n cap Tryz.underlying72
  clear h
  go_enter Tryz.func98,Tryz.ntmps98
  go_wp2_with (at_builtin;refine wpList_append_own _ rfl _ _ 72 rfl w.heap.size 140 i0 (.agg #[.int .i64 0,.int .i64 0,.int .i64 0,.int .i64 0]) 4 32 Tryz.underlying72 hi hz0 hz1 hz2 rfl (by decide) _ 0 [] rfl (World.ownsRow_made w #[] 0 (Nat.le_refl _) (by unfold maxLen;omega) (by rfl)) ⟨g,0,none⟩ n cap xs rfl hl ?c1 h1 ?c3 ?c4 ?c5 ?_)
  case c1=>exact fun j u hj=>(((Below.refl w.heap.size w).alloc (Nat.le_refl _) _).cell (p:=(⟨g,0,none⟩:Addr).add j) (by rw [addr_add];exact hg)).trans (hx j u hj)
  case c3=>unfold maxLen;omega
  case c4=>omega
  case c5=>simp
  intro v' w' hown hgrow _
  have HB:=hid (below_grown ((Below.refl w.heap.size w).alloc (Nat.le_refl _) _) hgrow (by simp) (Nat.le_refl _))
  have HO:=hid (show w'.ownsRow w.heap.size 140 4 v' n xs from by simpa using hown)
  clear hown hgrow hx
  go_wp2
  go_ret
  exact ⟨v',rfl,HO.out,HB.out⟩
theorem cloneKind_any (v:Value) (n B:Nat) (xs:List Value) (w:World) (hn:n≤1048576) (h1:∀ u∈xs,u.oneCell'=true) (h:w.ownsRow B 144 2 v n xs) :
  Calls Tryz.prog 101 #[v] w fun e w'=>∃ v',e=.returned v'∧w'.ownsRow w.heap.size 144 2 v' n xs∧Below w.heap.size w w':=by
 rcases Joins.ownsRow_forms h with ⟨hv,hn0⟩|⟨g,cap,hv⟩
 ·subst hv hn0
  obtain rfl:xs=[]:=List.eq_nil_of_length_eq_zero (by have:=h.1;omega)
  clear h
  have hq:=fun W:World=>Lib.run_eql_slice_nil_nil (P:=Tryz.prog) W 0 0 Tryz.underlying112
  go_enter Tryz.func101,Tryz.ntmps101
  go_wp2
  go_ret
  exact ⟨_,rfl,World.ownsRow_nil _ _ _ _,Below.refl _ _⟩
 ·subst hv
  obtain ⟨i0,hi,hz0,hz1,hz2⟩:=info_parts infoKind
  have hx:=h.cells (g:=g) rfl
  have hl:=h.1
  have hg:=(h.lt g rfl).2
  have hq:=fun W:World=>Lib.run_eql_slice_some_nil (P:=Tryz.prog) W ⟨g,0,none⟩ n cap Tryz.underlying112
  clear h
  go_enter Tryz.func101,Tryz.ntmps101
  go_wp2_with (at_builtin;refine wpList_append_own _ rfl _ _ 112 rfl w.heap.size 144 i0 (.agg #[.int .i64 0,.int .i64 0]) 2 16 Tryz.underlying112 hi hz0 hz1 hz2 rfl (by decide) _ 0 [] rfl (World.ownsRow_made w #[] 0 (Nat.le_refl _) (by unfold maxLen;omega) (by rfl)) ⟨g,0,none⟩ n cap xs rfl hl ?c1 h1 ?c3 ?c4 ?c5 ?_)
  case c1=>exact fun j u hj=>(((Below.refl w.heap.size w).alloc (Nat.le_refl _) _).cell (p:=(⟨g,0,none⟩:Addr).add j) (by rw [addr_add];exact hg)).trans (hx j u hj)
  case c3=>unfold maxLen;omega
  case c4=>omega
  case c5=>simp
  intro v' w' hown hgrow _
  have HB:=hid (below_grown ((Below.refl w.heap.size w).alloc (Nat.le_refl _) _) hgrow (by simp) (Nat.le_refl _))
  have HO:=hid (show w'.ownsRow w.heap.size 144 2 v' n xs from by simpa using hown)
  clear hown hgrow hx
  go_wp2
  go_ret
  exact ⟨v',rfl,HO.out,HB.out⟩
theorem cloneInt_any (v:Value) (n B:Nat) (xs:List Value) (w:World) (hn:n≤1048576) (h1:∀ u∈xs,u.oneCell'=true) (h:w.ownsRow B 3 1 v n xs) :
  Calls Tryz.prog 53 #[v] w fun e w'=>∃ v',e=.returned v'∧w'.ownsRow w.heap.size 3 1 v' n xs∧Below w.heap.size w w':=by
 rcases Joins.ownsRow_forms h with ⟨hv,hn0⟩|⟨g,cap,hv⟩
 ·subst hv hn0
  obtain rfl:xs=[]:=List.eq_nil_of_length_eq_zero (by have:=h.1;omega)
  clear h
  have hq:=fun W:World=>Lib.run_eql_slice_nil_nil (P:=Tryz.prog) W 0 0 Tryz.underlying23
  go_enter Tryz.func53,Tryz.ntmps53
  go_wp2
  go_ret
  exact ⟨_,rfl,World.ownsRow_nil _ _ _ _,Below.refl _ _⟩
 ·subst hv
  obtain ⟨i0,hi,hz0,hz1,hz2⟩:=info_parts infoInt
  have hx:=h.cells (g:=g) rfl
  have hl:=h.1
  have hg:=(h.lt g rfl).2
  have hq:=fun W:World=>Lib.run_eql_slice_some_nil (P:=Tryz.prog) W ⟨g,0,none⟩ n cap Tryz.underlying23
  clear h
  go_enter Tryz.func53,Tryz.ntmps53
  go_wp2_with (at_builtin;refine wpList_append_own _ rfl _ _ 23 rfl w.heap.size 3 i0 (.int .i64 0) 1 8 Tryz.underlying23 hi hz0 hz1 hz2 rfl (by decide) _ 0 [] rfl (World.ownsRow_made w #[] 0 (Nat.le_refl _) (by unfold maxLen;omega) (by rfl)) ⟨g,0,none⟩ n cap xs rfl hl ?c1 h1 ?c3 ?c4 ?c5 ?_)
  case c1=>exact fun j u hj=>(((Below.refl w.heap.size w).alloc (Nat.le_refl _) _).cell (p:=(⟨g,0,none⟩:Addr).add j) (by rw [addr_add];exact hg)).trans (hx j u hj)
  case c3=>unfold maxLen;omega
  case c4=>omega
  case c5=>simp
  intro v' w' hown hgrow _
  have HB:=hid (below_grown ((Below.refl w.heap.size w).alloc (Nat.le_refl _) _) hgrow (by simp) (Nat.le_refl _))
  have HO:=hid (show w'.ownsRow w.heap.size 3 1 v' n xs from by simpa using hown)
  clear hown hgrow hx
  go_wp2
  go_ret
  exact ⟨v',rfl,HO.out,HB.out⟩
set_option maxHeartbeats 2000000
theorem Lk.x4 {W:World} {g:Nat} {a b c d:Value} {T:TypeId} (h:Lk W g #[a,b,c,d] T):(W.cell? ⟨g,0,none⟩=some a∧W.cell? ⟨g,1,none⟩=some b∧W.cell? ⟨g,2,none⟩=some c∧W.cell? ⟨g,3,none⟩=some d)∧W.frozen? ⟨g,0,none⟩=false∧W.frozen? ⟨g,1,none⟩=false∧W.frozen? ⟨g,2,none⟩=false∧W.frozen? ⟨g,3,none⟩=false:=
 ⟨⟨h.c 0 _ rfl,h.c 1 _ rfl,h.c 2 _ rfl,h.c 3 _ rfl⟩,h.z 0,h.z 1,h.z 2,h.z 3⟩
theorem copyEntry_any (t:C4) (w:World) (hs:t.text.size≤1048576) :
  Calls Tryz.prog 52 #[.agg #[.int .i64 t.kind,.string t.text,.int .i64 t.a,.int .i64 t.b]] w fun e w'=>e=.returned (.agg #[.int .i64 t.kind,.string t.text,.int .i64 t.a,.int .i64 t.b])∧Below w.heap.size w w':=by
 have P0:=HB.two w #[.int .i64 t.kind,.string t.text,.int .i64 t.a,.int .i64 t.b] #[.int .i64 0,.string ⟨#[]⟩,.int .i64 0,.int .i64 0] 40 40
 have HC:=fun W (hW:HB w [(w.heap.size+1,#[.int .i64 0,.string ⟨#[]⟩,.int .i64 0,.int .i64 0],40),(w.heap.size,#[.int .i64 t.kind,.string t.text,.int .i64 t.a,.int .i64 t.b],40)] W)=>sayClone_any t.text W (by omega)
 go_enter Tryz.func52,Tryz.ntmps52
 go_upto_region 1 with fail
 have PD:=P0.keep (show Below _ _ _ from (Below.refl _ _).drew)
 clear P0
 obtain ⟨⟨e0,e1,e2,e3⟩, -⟩:=PD.tl.hd.x4
 obtain ⟨⟨m0,m1,m2,m3⟩,z0,z1,z2,z3⟩:=PD.hd.x4
 have hne:¬w.heap.size=w.heap.size+1:=by omega
 go_region_held (fun w'=>w'.cell? ⟨w.heap.size,0,none⟩=some (.int .i64 t.kind)∧w'.cell? ⟨w.heap.size,1,none⟩=some (.string t.text)∧w'.cell? ⟨w.heap.size,2,none⟩=some (.int .i64 t.a)∧w'.cell? ⟨w.heap.size,3,none⟩=some (.int .i64 t.b)) (refine ⟨?_, ?_, ?_, ?_⟩<;>first|with_reducible assumption|go_cell) (first
  | (go_at_call 27;refine (HC _ (by with_reducible assumption)).mono ?_;rintro e w8 ⟨rfl,hb8⟩;have P8:=HB.keep (by with_reducible assumption) hb8;obtain ⟨⟨e0,e1,e2,e3⟩, -⟩:=P8.tl.hd.x4;obtain ⟨⟨m0,m1,m2,m3⟩,z0,z1,z2,z3⟩:=P8.hd.x4))
 have HBX:=hid (HB.b (by assumption))
 clear PD
 go_wp2
 refine bodyPost_ret (v:=.agg #[.int .i64 t.kind,.string t.text,.int .i64 t.a,.int .i64 t.b]) (by simp [results,Tryz.results52,go_sem, *]) rfl ⟨rfl, ?_⟩
 exact (((HBX.out.setCell (by simp) _).setCell (by simp) _).setCell (by simp) _).setCell (by simp) _
theorem copyPool_any (v:Value) (ts:List C4) (B:Nat) (w:World) (hl:ts.length≤1048576) (hs:∀ t∈ts,t.text.size≤1048576) (h:w.ownsRow B 40 4 v ts.length (cellsC ts)) :
  Calls Tryz.prog 51 #[v,.func (.func 52) #[] #[]] w fun e w'=>∃ v',e=.returned v'∧w'.ownsRow w.heap.size 40 4 v' ts.length (cellsC ts)∧Below w.heap.size w w':=by
 have HC:=hid (fun k (hk:k<ts.length) W=>copyEntry_any ts[k] W (hs _ (List.getElem_mem hk)))
 obtain ⟨i0,hi,hz0,hz1,hz2⟩:=info_parts infoConst
 obtain ⟨ao,cap,rfl⟩:=own_len h
 have HO:=hid h
 clear h hs
 go_enter Tryz.func51,Tryz.ntmps51
 go_wp2
 go_loopw [5,10] (fun o i wr=>∃ k:Nat,k≤ts.length∧i=.int .i64 k∧wr.ownsRow w.heap.size 40 4 o k (cellsC (ts.take k))∧Below w.heap.size w wr) (fun _ i _=>ts.length - (intOf i).toNat)
 case atStart=>exact ⟨0,by omega,by first|rfl|go_num,World.ownsRow_nil _ _ _ _,Below.refl _ _⟩
 case round=>
  obtain ⟨k,hk,rfl,hown,hbel⟩:=hrel
  obtain ⟨ao',cap',rfl⟩:=own_len hown
  by_cases hlt:k<ts.length
  ·obtain ⟨g,hg⟩:=own_some HO.out (by omega)
   subst hg
   obtain ⟨c0,c1,c2,c3⟩:=cells4_at (own_below HO.out hbel) hlt
   have hgl:=((own_below HO.out hbel).lt g rfl).2
   have hC:=HC.out k hlt
   have HNX:=hid (show cellsC (ts.take (k+1))=cellsC (ts.take k)++cells4 ts[k] from by rw [List.take_succ_eq_append_getElem hlt];exact cellsC_snoc _ _)
   generalize ts[k]=t at c0 c1 c2 c3 hC HNX
   have z5:(k:Int)<(ts.length:Int):=by omega
   have HW:=hid hown
   have HBL:=hid hbel
   have hsz:=hbel.size
   clear hown hbel
   go_wp2_with fail
   refine (hC _).mono ?_
   rintro e w2 ⟨rfl,hb2⟩
   have hb3:Below wr.heap.size wr w2:=(by go_grown:Below wr.heap.size wr _).trans (hb2.mono (by simp))
   clear hC hb2 c0 c1 c2 c3
   have HO2:=hid (own_below HW.out hb3)
   have hs3:=hb3.size
   have HB3:=hid hb3
   clear hb3
   go_wp2_with (at_builtin;refine wpList_append_own _ rfl _ _ 32 rfl w.heap.size 40 i0 (.agg #[.int .i64 0,.string ⟨#[]⟩,.int .i64 0,.int .i64 0]) 4 40 Tryz.underlying32 hi hz0 hz1 hz2 rfl (by decide) _ _ _ rfl (HO2.out.alloc _) ⟨w2.heap.size,0,none⟩ 1 1 [.int .i64 t.kind,.string t.text,.int .i64 t.a,.int .i64 t.b] rfl rfl ?c1 ?c2 ?c3 ?c4 ?c5 ?_)
   case c1=>exact fun j u hj=>cells_new _ _ _ j u hj
   case c2=>intro u hu;simp at hu;rcases hu with rfl|rfl|rfl|rfl<;>rfl
   case c3=>unfold maxLen;omega
   case c4=>omega
   case c5=>simp;omega
   intro v' w4 hown' hgrow _
   obtain ⟨hn1,hn2⟩:=own_next HW.out HB3.out HBL.out hsz hown' hgrow
   have hn3:w4.ownsRow w.heap.size 40 4 v' (k+1) (cellsC (ts.take (k+1))):=by rw [HNX.out];exact hn1
   clear hown' hgrow hn1 HO2
   go_wp2
   go_roundw
   case rel=>exact ⟨k+1,by omega,by go_num,hn3,hn2⟩
   case measure=>simp [intOf];omega
  ·obtain rfl:k=ts.length:=by omega
   have HW:=hid (show wr.ownsRow w.heap.size 40 4 (.slice ao' ts.length cap') ts.length (cellsC ts) from by rw [List.take_length] at hown;exact hown)
   have HBL:=hid hbel
   clear hown hbel
   go_wp2
   go_ret
   exact ⟨_,rfl,HW.out,HBL.out⟩
end Go.Proofs.YtecbcdfkedocbaaGreatDoor
