/- Gathered: PoolEntryTwo PoolCode PoolList PoolFine PoolDoes PoolAll. -/
import Derived.Test.YtecbcdfkedocbaaGreatDoorH11
import Derived.Test.YtecbcdfkedocbaaGreatDoorG03
namespace Go.Proofs.YtecbcdfkedocbaaGreatDoor
open Mx Go.RowKit
set_option maxHeartbeats 1000000
set_option maxRecDepth 20000
set_option linter.unusedVariables false
theorem l2Entry_4 (v:Value) (ts:List C4) (k:Nat) (hk:k<ts.length) (w:World) (hl:ts.length≤1048576) (hs:∀ t∈ts,t.text.size≤1048576) (h:PoolW w v ts) (h1:ts[k].kind≠1) (h2:ts[k].kind≠2) (h3:ts[k].kind≠3) :
  Calls Tryz.prog 46 #[v,.int .i64 k] w fun e w'=>e=.returned (.bool (okC ts ts[k]))∧Below w.heap.size w w':=by
 have HP:Hid (PoolW w v ts):=h
 have hF:=fun W hW=>l2Ref_any v ts ((k:Int)+1) W hl hs hW
 rw [atC_in hk] at hF
 have HR:Hid (okC ts ts[k]=(decide (4≤ts[k].kind) && decide (ts[k].kind≤6) && ts[k].text.toList.isEmpty && !(clsT ts ts[k].a).toList.isEmpty && decide ((atC ts ts[k].b).kind=3) && (if ts[k].kind=4 then typeB (txtC ts (atC ts ts[k].b).b).data.toList else dOk (txtC ts (atC ts ts[k].b).b)))):=by
  unfold Hid okC
  rw [if_neg h1,if_neg h2,if_neg h3,clsT_iff,type_txt,desc_txt]
  by_cases h4:ts[k].kind=4
  ·simp [h4]
  ·rw [if_neg h4,if_neg h4]
   by_cases h5:ts[k].kind=5∨ts[k].kind=6
   ·rw [if_pos h5]
    have e1:decide (4≤ts[k].kind)=true:=by simp;omega
    have e2:decide (ts[k].kind≤6)=true:=by simp;omega
    rw [e1,e2];simp
   ·rw [if_neg h5]
    have e1:(decide (4≤ts[k].kind) && decide (ts[k].kind≤6))=false:=by simp;omega
    rw [e1];simp
 obtain ⟨g,cap,rfl,hg,c1,c2,c3,c4⟩:=entry_cells h hk
 generalize okC ts ts[k]=R at HR ⊢
 generalize ts[k]=t at c1 c2 c3 c4 h1 h2 h3 HR hF
 obtain ⟨kd,tx,a,b⟩:=t
 simp only at c1 c2 c3 c4 h1 h2 h3 HR hF
 have hne:¬g=w.heap.size:=by omega
 have hI:=fun w=>l1In_any kd 4 6 w
 have hC:∀ g' W,Ent w W (.slice (some ⟨g,0,none⟩) ts.length cap) ts g' kd tx a b→Calls Tryz.prog 81 #[.slice (some ⟨g,0,none⟩) ts.length cap,.int .i64 a] W fun e w'=>e=.returned (.string (clsT ts a))∧Ent w w' (.slice (some ⟨g,0,none⟩) ts.length cap) ts g' kd tx a b:=by
  intro g' W hE
  refine (l2Class_any _ ts a W hl hs hE.pool).mono ?_
  rintro e w' ⟨rfl,hb⟩
  exact ⟨rfl,hE.keep hb⟩
 have hK:∀ g' W,Ent w W (.slice (some ⟨g,0,none⟩) ts.length cap) ts g' kd tx a b→Calls Tryz.prog 85 #[.slice (some ⟨g,0,none⟩) ts.length cap,.int .i64 b,.int .i64 3] W fun e w'=>e=.returned (.bool (decide ((atC ts b).kind=3)))∧Ent w w' (.slice (some ⟨g,0,none⟩) ts.length cap) ts g' kd tx a b:=by
  intro g' W hE
  refine (l2Is_any _ ts b 3 W hl hE.pool).mono ?_
  rintro e w' ⟨rfl,hb⟩
  exact ⟨rfl,hE.keep hb⟩
 have z:=txtC_small hs (atC ts b).b
 generalize txtC ts (atC ts b).b=sc at hF HR z
 generalize clsT ts a=ct at hC HR
 generalize decide ((atC ts b).kind=3)=k3 at hK HR
 have hY:=fun w=>l2Type_any sc w (by omega)
 have hD:∀ g' W,Ent w W (.slice (some ⟨g,0,none⟩) ts.length cap) ts g' kd tx a b→Calls Tryz.prog 80 #[.string sc] W fun e w'=>e=.returned (.bool (dOk sc))∧Ent w w' (.slice (some ⟨g,0,none⟩) ts.length cap) ts g' kd tx a b:=by
  intro g' W hE
  refine (l2DescOk_any sc W z).mono ?_
  rintro e w' ⟨rfl,hb⟩
  exact ⟨rfl,hE.keep hb⟩
 generalize typeB sc.data.toList=ty at hY HR
 generalize dOk sc=dc at hD HR
 clear h hs
 have e1:(kd==1)=false:=by simpa using h1
 have e2:(kd==2)=false:=by simpa using h2
 have e3:(kd==3)=false:=by simpa using h3
 obtain ⟨q4,e4⟩:∃ q4,(kd==4)=q4:=⟨_,rfl⟩
 have HQ:Hid ((kd=4)↔q4=true):=by unfold Hid;rw [← e4];simp
 generalize (decide (4≤kd) && decide (kd≤6))=inn at hI HR
 clear h1 h2 h3
 go_enter Tryz.func46,Tryz.ntmps46
 go_wp2_with fail
 refine (hF _ (ent_new HP.out).pool).mono ?_
 rintro e w5 ⟨rx,ry,rfl,hb5⟩
 have hE:=(ent_new (kd:=kd) (tx:=tx) (a:=a) (b:=b) HP.out).keep hb5
 have f0:=hE.c0;have f1:=hE.c1;have f2:=hE.c2;have f3:=hE.c3;have HE:=hid hE;clear hE
 clear c1 c2 c3 c4 hF hb5
 generalize w.heap.size=gw at f0 f1 f2 f3 HE hne hg ⊢
 go_wp2_with (first
  | (go_at_call 84;refine (hI _).mono ?_;rintro e w1 ⟨rfl,hw⟩;replace hw:=hw.symm;subst hw)
  | (go_at_call 81;refine (hC _ _ HE.out).mono ?_;clear f0 f1 f2 f3 HE;rintro e w6 ⟨rfl,hE⟩;have f0:=hE.c0;have f1:=hE.c1;have f2:=hE.c2;have f3:=hE.c3;have HE:=hid hE;clear hE)
  | (go_at_call 85;refine (hK _ _ HE.out).mono ?_;clear f0 f1 f2 f3 HE;rintro e w6 ⟨rfl,hE⟩;have f0:=hE.c0;have f1:=hE.c1;have f2:=hE.c2;have f3:=hE.c3;have HE:=hid hE;clear hE)
  | (go_at_call 79;refine (hY _).mono ?_;rintro e w1 ⟨rfl,hw⟩;replace hw:=hw.symm;subst hw)
  | (go_at_call 80;refine (hD _ _ HE.out).mono ?_;clear f0 f1 f2 f3 HE;rintro e w6 ⟨rfl,hE⟩;have HE:=hid hE;clear hE))
 all_goals go_ret
 all_goals refine ⟨ret_bool ?_, ?_⟩
 all_goals first
  | (with_reducible exact HE.out.bel)
  | (rw [HR.out];clear hI hC hK hY hD HE HP;have hq:=HQ.out;simp_all;done)
  | trace_state
def ifc (t:C4):Value:=
 if t.kind=1 then .iface 212 (.agg #[.string t.text,.bool (decide (t.a=0) && decide (t.b=0))])
 else if t.kind=2 then .iface 214 (.agg #[.int .i64 t.a,.bool (t.text.toList.isEmpty && decide (t.b=0))])
 else if t.kind=3 then .iface 216 (.agg #[.int .i64 t.a,.int .i64 t.b,.bool t.text.toList.isEmpty])
 else if t.kind=4 then .iface 218 (.agg #[.int .i64 t.a,.int .i64 t.b,.bool t.text.toList.isEmpty])
 else if t.kind=5∨t.kind=6 then .iface 219 (.agg #[.int .i64 t.a,.int .i64 t.b,.bool t.text.toList.isEmpty])
 else .iface 221 (.agg #[])
theorem entryOf_any (t:C4) (w:World) :
  Calls Tryz.prog 102 #[.agg #[.int .i64 t.kind,.string t.text,.int .i64 t.a,.int .i64 t.b]] w fun e w'=>e=.returned (ifc t)∧Below w.heap.size w w':=by
 obtain ⟨R,HR⟩:∃ R,Hid (ifc t=R):=⟨_,rfl⟩
 rw [HR.out]
 go_enter Tryz.func102,Tryz.ntmps102
 go_wp2
 all_goals go_ret
 all_goals refine ⟨?_,by go_grown⟩
 all_goals (rw [← HR.out];unfold ifc;clear HR;simp_all)
 all_goals rfl
theorem below_made {w w1:World} {o:Obj} (hb:Below (w.alloc o).heap.size (w.alloc o) w1):Below w.heap.size w w1:=
 ((Below.refl w.heap.size w).alloc (Nat.le_refl _) o).trans (hb.mono (by simp))
theorem infoIfc:(Tryz.prog.info? 98).map (fun i=>(i.zero,i.size,i.bytes))=some (some .nilIface,1,16):=by kernel_rfl
theorem ifc_form (t:C4):∃ T y,ifc t=.iface T y:=by
 unfold ifc
 repeat' split
 all_goals exact ⟨_,_,rfl⟩
def ListW (w:World) (v:Value) (ts:List C4):Prop:=∃ B,w.ownsRow B 98 1 v ts.length (ts.map ifc)
theorem ListW.keep {w w':World} {v:Value} {ts:List C4} (h:ListW w v ts) (hb:Below w.heap.size w w'):ListW w' v ts:=by
 obtain ⟨B,h⟩:=h
 exact ⟨B,own_below h hb⟩
theorem ListW.len {w:World} {v:Value} {ts:List C4} (h:ListW w v ts):∃ ao cap,v=.slice ao ts.length cap:=by
 obtain ⟨B,h⟩:=h
 exact own_len h
theorem ListW.at {w:World} {v:Value} {ts:List C4} (h:ListW w v ts) {k:Nat} (hk:k<ts.length):∃ g cap,v=.slice (some ⟨g,0,none⟩) ts.length cap∧w.cell? ⟨g,k,none⟩=some (ifc ts[k]):=by
 obtain ⟨B,h⟩:=h
 obtain ⟨g,c,rfl⟩:=Joins.ownsRow_form h (by omega)
 refine ⟨g,c,rfl, ?_⟩
 rw [h.cellAt k (by omega)]
 simp [hk]
theorem entriesOf_any (v:Value) (ts:List C4) (w:World) (hl:ts.length≤1048576) (h:PoolW w v ts) :
  Calls Tryz.prog 59 #[v] w fun e w'=>∃ u,e=.returned u∧ListW w' u ts∧Below w.heap.size w w':=by
 obtain ⟨i0,hi,hz0,hz1,hz2⟩:=info_parts infoIfc
 have HP:Hid (PoolW w v ts):=h
 obtain ⟨ao,cap,rfl⟩:=h.len
 clear h
 go_enter Tryz.func59,Tryz.ntmps59
 go_wp2
 go_loopw [3,8] (fun u0 i wr=>∃ (k:Nat),k≤ts.length∧i=.int .i64 k∧wr.ownsRow w.heap.size 98 1 u0 k ((ts.map ifc).take k)∧Below w.heap.size w wr) (fun _ i _=>ts.length - (intOf i).toNat)
 case atStart=>exact ⟨0,by omega,rfl,World.ownsRow_nil _ _ _ _,Below.refl _ _⟩
 case round=>
  obtain ⟨k,hk,rfl,hown,hbel⟩:=hrel
  by_cases hlt:k<ts.length
  ·obtain ⟨B,hP⟩:=HP.out.keep hbel
   obtain ⟨g,c,hv⟩:=Joins.ownsRow_form hP (by omega)
   rw [hv] at hP
   obtain ⟨rfl,_,rfl⟩:ao=some ⟨g,0,none⟩∧True∧cap=c:=by simp at hv;exact ⟨hv.1,trivial,hv.2⟩
   obtain ⟨c1,c2,c3,c4⟩:=cells4_at hP hlt
   have hg:=(hP.lt g rfl).2
   have HN:Hid ((ts.map ifc).take k++[ifc ts[k]]=(ts.map ifc).take (k+1)):=by
    unfold Hid;rw [List.take_succ_eq_append_getElem (by simpa using hlt)];simp
   have hE:=fun W=>entryOf_any ts[k] W
   obtain ⟨T,y,hx⟩:=ifc_form ts[k]
   rw [hx] at hE HN
   clear hx
   generalize ts[k]=t at c1 c2 c3 c4 hE
   have hne:¬g=wr.heap.size:=by omega
   obtain ⟨ao',cap',hv'⟩:=own_len hown
   subst hv'
   clear hP hv
   go_wp2_with (first|(go_at_call 102;refine (hE _).mono ?_;rintro e w1 ⟨rfl,hb0⟩;have hb1:=below_made hb0;clear hb0;have ho1:=own_below hown hb1)|(at_builtin;refine wpList_append_own _ rfl _ _ 95 rfl w.heap.size 98 i0 .nilIface 1 16 Tryz.underlying95 hi hz0 hz1 hz2 rfl (by decide) _ _ _ rfl (ho1.alloc _) ⟨w1.heap.size,0,none⟩ 1 1 [.iface T y] rfl rfl ?c1 ?c2 ?c3 ?c4 ?c5 ?_))
   case c1=>exact cell_one_new _ _ _
   case c2=>intro u hu;simp at hu;subst hu;rfl
   case c3=>unfold maxLen;omega
   case c4=>omega
   case c5=>have:=hb1.size;have:=hbel.size;simp;omega
   ·intro v' w2 hown' hgrow _
    have R:=own_next hown hb1 hbel hbel.size hown' hgrow
    obtain ⟨R1,R2⟩:=R
    rw [HN.out] at R1
    clear hown' hgrow hown ho1 hb1 hbel
    go_wp2
    go_roundw
    case rel=>exact ⟨k+1,by omega,by go_num,R1,R2⟩
    case measure=>simp [intOf];omega
  ·have hk':k=ts.length:=by omega
   subst hk'
   rw [List.take_of_length_le (by simp)] at hown
   have HL:=hid (p:=ListW wr _ ts) ⟨_,hown⟩
   clear hown
   go_wp2
   go_ret
   exact ⟨_,rfl,HL.out,hbel⟩
theorem entryAt_any (v:Value) (ts:List C4) (i:Int) (w:World) (hl:ts.length≤1048576) (h:ListW w v ts) :
  Calls Tryz.prog 298 #[v,.int .i64 i] w fun e w'=>e=.returned (ifc (atC ts i))∧w'=w:=by
 by_cases hi:1≤i∧i≤ts.length
 ·obtain ⟨k,hk⟩:∃ k:Nat,i=(k:Int)+1:=⟨(i - 1).toNat,by omega⟩
  subst hk
  have hlt:k<ts.length:=by omega
  rw [atC_in hlt]
  obtain ⟨g,c,rfl,hc⟩:=h.at hlt
  obtain ⟨T,y,hx⟩:=ifc_form ts[k]
  rw [hx] at hc ⊢
  clear h hx
  go_enter Tryz.func298,Tryz.ntmps298
  go_wp2
  go_ret
  exact ⟨rfl,rfl⟩
 ·rw [atC_out hi]
  obtain ⟨ao,cap,rfl⟩:=h.len
  have e1:ifc zero4=.iface 221 (.agg #[]):=by rfl
  rw [e1]
  clear h e1
  by_cases h1:i<1
  ·go_enter Tryz.func298,Tryz.ntmps298
   go_wp2
   go_ret
   exact ⟨rfl,rfl⟩
  ·have h2:(ts.length:Int)<i:=by omega
   go_enter Tryz.func298,Tryz.ntmps298
   go_wp2
   go_ret
   exact ⟨rfl,rfl⟩
theorem as_name (t:C4) (w:World):(Instr.typeAssert (ifc t) 98 212 true).run Tryz.prog w=.ok (.tuple #[.agg #[.string (if t.kind=1 then t.text else ⟨#[]⟩),.bool (if t.kind=1 then (decide (t.a=0) && decide (t.b=0)) else false)],.bool (decide (t.kind=1))]) w:=by
 unfold ifc
 by_cases h1:t.kind=1
 ·simp only [h1,if_true,decide_true];kernel_rfl
 ·simp only [h1,if_false,decide_false]
  repeat' split
  all_goals kernel_rfl
theorem as_class (t:C4) (w:World):(Instr.typeAssert (ifc t) 98 214 true).run Tryz.prog w=.ok (.tuple #[.agg #[.int .i64 (if t.kind=2 then t.a else 0),.bool (if t.kind=2 then (t.text.toList.isEmpty && decide (t.b=0)) else false)],.bool (decide (t.kind=2))]) w:=by
 unfold ifc
 by_cases h1:t.kind=2
 ·simp only [h1,if_true,decide_true];kernel_rfl
 ·simp only [h1,if_false,decide_false]
  repeat' split
  all_goals kernel_rfl
theorem as_pair (t:C4) (w:World):(Instr.typeAssert (ifc t) 98 216 true).run Tryz.prog w=.ok (.tuple #[.agg #[.int .i64 (if t.kind=3 then t.a else 0),.int .i64 (if t.kind=3 then t.b else 0),.bool (if t.kind=3 then t.text.toList.isEmpty else false)],.bool (decide (t.kind=3))]) w:=by
 unfold ifc
 by_cases h1:t.kind=3
 ·simp only [h1,if_true,decide_true];kernel_rfl
 ·simp only [h1,if_false,decide_false]
  repeat' split
  all_goals kernel_rfl
theorem textAt_any (v:Value) (ts:List C4) (i:Int) (w:World) (hl:ts.length≤1048576) (h:ListW w v ts) :
  Calls Tryz.prog 297 #[v,.int .i64 i] w fun e w'=>e=.returned (.tuple #[.string (txtC ts i),.bool (decide ((atC ts i).kind=1))])∧Below w.heap.size w w':=by
 have hA:=entryAt_any v ts i w hl h
 have hT:=as_name (atC ts i)
 unfold txtC
 generalize (if (atC ts i).kind=1 then (atC ts i).text else ⟨#[]⟩:ByteArray)=sx at hT ⊢
 generalize (decide ((atC ts i).kind=1))=ok at hT ⊢
 generalize (if (atC ts i).kind=1 then (decide ((atC ts i).a=0) && decide ((atC ts i).b=0)) else false:Bool)=bx at hT
 generalize ifc (atC ts i)=x at hA hT
 obtain ⟨ao,cap,rfl⟩:=h.len
 clear h
 go_enter Tryz.func297,Tryz.ntmps297
 go_wp2_with (go_at_call 298;refine hA.mono ?_;rintro e w1 ⟨rfl,hw⟩;replace hw:=hw.symm;subst hw)
 go_ret2
 exact ⟨rfl,by go_grown⟩
theorem newN {w1 w2:World} {cs:Array Value} {t:TypeId} (hb:Below (w1.alloc (.cells cs t)).heap.size (w1.alloc (.cells cs t)) w2) :
  (∀ j u,cs.toList[j]? = some u→w2.cell? ⟨w1.heap.size,j,none⟩=some u)∧w1.heap.size<w2.heap.size∧Below w1.heap.size w1 w2:=by
 have hz:w1.heap.size<(w1.alloc (.cells cs t)).heap.size:=by simp
 refine ⟨fun j u hu=>?_,Nat.lt_of_lt_of_le hz hb.size,below_made hb⟩
 have h1:=cells_new w1 cs t j u hu
 rw [addr_add] at h1
 exact (hb.cell (p:=⟨w1.heap.size,j,none⟩) hz).trans h1
theorem nameAt_any (v:Value) (ts:List C4) (i:Int) (w:World) (hl:ts.length≤1048576) (hs:∀ t∈ts,t.text.size≤1048576) (h:ListW w v ts) :
  Calls Tryz.prog 296 #[v,.int .i64 i] w fun e w'=>e=.returned (.bool (nameC ts i))∧Below w.heap.size w w':=by
 have hA:=textAt_any v ts i w hl h
 have HR:Hid (nameC ts i=(decide ((atC ts i).kind=1) && nameB (txtC ts i).data.toList)):=by
  unfold Hid;rw [name_txt];unfold nameC;simp
 have hz:=txtC_small hs i
 generalize nameC ts i=R at HR ⊢
 generalize txtC ts i=sx at hA HR hz
 generalize decide ((atC ts i).kind=1)=ok at hA HR
 have hN:=fun w=>NameOk_any sx w (by unfold maxLen;omega)
 generalize nameB sx.data.toList=nm at hN HR
 obtain ⟨ao,cap,rfl⟩:=h.len
 clear h hs
 go_enter Tryz.func296,Tryz.ntmps296
 go_wp2_with (first|(go_at_call 297;refine hA.mono ?_;rintro e w1 ⟨rfl,hb1⟩)|(go_at_call 177;refine (hN _).mono ?_;rintro e w2 ⟨rfl,hw⟩;replace hw:=hw.symm;subst hw))
 all_goals go_ret
 all_goals exact ⟨ret_bool (by rw [HR.out];simp_all),by assumption⟩
theorem typed_any (v:Value) (ts:List C4) (a b:Int) (x:Bool) (w:World) (hl:ts.length≤1048576) (hs:∀ t∈ts,t.text.size≤1048576) (h:ListW w v ts) :
  Calls Tryz.prog 301 #[.agg #[.int .i64 a,.int .i64 b,.bool x],v] w fun e w'=>e=.returned (.bool (typeC ts b))∧Below w.heap.size w w':=by
 have hA:=fun W hW=>textAt_any v ts b W hl hW
 have HR:Hid (typeC ts b=(decide ((atC ts b).kind=1) && typeB (txtC ts b).data.toList)):=by
  unfold Hid;rw [type_txt];unfold typeC;simp
 have hz:=txtC_small hs b
 generalize typeC ts b=R at HR ⊢
 generalize txtC ts b=sx at hA HR hz
 generalize decide ((atC ts b).kind=1)=ok at hA HR
 have hN:=fun w=>TypeOk_any sx w (by omega)
 generalize typeB sx.data.toList=nm at hN HR
 have HL:=hid h
 obtain ⟨ao,cap,rfl⟩:=h.len
 clear h hs
 go_enter Tryz.func301,Tryz.ntmps301
 go_wp2_with (first|(go_at_call 297;refine (hA _ (HL.out.keep (by go_grown))).mono ?_;rintro e w1 ⟨rfl,hb0⟩;have hb1:=below_made hb0;clear hb0)|(go_at_call 178;refine (hN _).mono ?_;rintro e w2 ⟨rfl,hw⟩;replace hw:=hw.symm;subst hw))
 all_goals go_ret
 all_goals exact ⟨ret_bool (by rw [HR.out];simp_all),by assumption⟩
theorem called_any (v:Value) (ts:List C4) (a b:Int) (x:Bool) (w:World) (hl:ts.length≤1048576) (hs:∀ t∈ts,t.text.size≤1048576) (h:ListW w v ts) :
  Calls Tryz.prog 299 #[.agg #[.int .i64 a,.int .i64 b,.bool x],v] w fun e w'=>e=.returned (.bool (descC ts b))∧Below w.heap.size w w':=by
 have hA:=fun W hW=>textAt_any v ts b W hl hW
 have HR:Hid (descC ts b=(decide ((atC ts b).kind=1) && dOk (txtC ts b))):=by
  unfold Hid;rw [desc_txt];unfold descC;simp
 have hz:=txtC_small hs b
 generalize descC ts b=R at HR ⊢
 generalize txtC ts b=sx at hA HR hz
 generalize decide ((atC ts b).kind=1)=ok at hA HR
 have hN:=fun w=>isDesc_any sx w hz
 generalize dOk sx=nm at hN HR
 have HL:=hid h
 obtain ⟨ao,cap,rfl⟩:=h.len
 clear h hs
 go_enter Tryz.func299,Tryz.ntmps299
 go_wp2_with (first|(go_at_call 297;refine (hA _ (HL.out.keep (by go_grown))).mono ?_;rintro e w1 ⟨rfl,hb0⟩;have hb1:=below_made hb0;clear hb0)|(go_at_call 183;refine (hN _).mono ?_;rintro e w2 ⟨rfl,hb2⟩;replace hb1:=hb1.trans (hb2.mono hb1.size);clear hb2))
 all_goals go_ret
 all_goals exact ⟨ret_bool (by rw [HR.out];simp_all),by assumption⟩
theorem named_any (v:Value) (ts:List C4) (a:Int) (x:Bool) (w:World) (hl:ts.length≤1048576) (hs:∀ t∈ts,t.text.size≤1048576) (h:ListW w v ts) :
  Calls Tryz.prog 295 #[.agg #[.int .i64 a,.bool x],v] w fun e w'=>e=.returned (.bool (nameC ts a))∧Below w.heap.size w w':=by
 have hA:=fun W hW=>nameAt_any v ts a W hl hs hW
 generalize nameC ts a=R at hA ⊢
 have HL:=hid h
 obtain ⟨ao,cap,rfl⟩:=h.len
 clear h hs
 go_enter Tryz.func295,Tryz.ntmps295
 go_wp2_with (go_at_call 296;refine (hA _ (HL.out.keep (by go_grown))).mono ?_;rintro e w1 ⟨rfl,hb0⟩;have hb1:=below_made hb0;clear hb0)
 go_ret
 exact ⟨rfl,hb1⟩
theorem classAt_any (v:Value) (ts:List C4) (i:Int) (w:World) (hl:ts.length≤1048576) (hs:∀ t∈ts,t.text.size≤1048576) (h:ListW w v ts) :
  Calls Tryz.prog 304 #[v,.int .i64 i] w fun e w'=>e=.returned (.bool (clsC ts i))∧Below w.heap.size w w':=by
 have hA:=entryAt_any v ts i w hl h
 have hT:=as_class (atC ts i)
 have HR:Hid (clsC ts i=(decide ((atC ts i).kind=2) && nameC ts (if (atC ts i).kind=2 then (atC ts i).a else 0))):=by
  unfold Hid clsC;split<;>simp_all
 generalize (if (atC ts i).kind=2 then (atC ts i).a else 0:Int)=ax at hT HR
 generalize (decide ((atC ts i).kind=2))=ok at hT HR
 generalize (if (atC ts i).kind=2 then ((atC ts i).text.toList.isEmpty && decide ((atC ts i).b=0)) else false:Bool)=bx at hT
 generalize ifc (atC ts i)=x at hA hT
 generalize clsC ts i=R at HR ⊢
 have hN:=fun W hW=>named_any v ts ax bx W hl hs hW
 generalize nameC ts ax=nm at hN HR
 have HL:=hid h
 obtain ⟨ao,cap,rfl⟩:=h.len
 clear h hs
 go_enter Tryz.func304,Tryz.ntmps304
 go_wp2_with (first|(go_at_call 298;refine hA.mono ?_;rintro e w1 ⟨rfl,hw⟩;replace hw:=hw.symm;subst hw)|(go_at_call 295;refine (hN _ (HL.out.keep (by go_grown))).mono ?_;rintro e w2 ⟨rfl,hb0⟩;have hb1:=below_made hb0;clear hb0))
 all_goals go_ret
 all_goals exact ⟨ret_bool (by rw [HR.out];simp_all),by first|assumption|go_grown⟩
theorem pairAt_any (v:Value) (ts:List C4) (i:Int) (w:World) (hl:ts.length≤1048576) (h:ListW w v ts) :
  Calls Tryz.prog 303 #[v,.int .i64 i] w fun e w'=>∃ a x,e=.returned (.tuple #[.agg #[.int .i64 a,.int .i64 (if (atC ts i).kind=3 then (atC ts i).b else 0),.bool x],.bool (decide ((atC ts i).kind=3))])∧Below w.heap.size w w':=by
 have hA:=fun W hW=>entryAt_any v ts i W hl hW
 have hT:=as_pair (atC ts i)
 generalize (if (atC ts i).kind=3 then (atC ts i).a else 0:Int)=ax at hT
 generalize (if (atC ts i).kind=3 then (atC ts i).b else 0:Int)=bx at hT ⊢
 generalize (if (atC ts i).kind=3 then (atC ts i).text.toList.isEmpty else false:Bool)=cx at hT
 generalize (decide ((atC ts i).kind=3))=ok at hT ⊢
 generalize ifc (atC ts i)=x at hA hT
 have HL:=hid h
 obtain ⟨ao,cap,rfl⟩:=h.len
 clear h
 go_enter Tryz.func303,Tryz.ntmps303
 go_wp2_with (go_at_call 298;refine (hA _ (HL.out.keep (by go_grown))).mono ?_;rintro e w1 ⟨rfl,hw⟩;replace hw:=hw.symm;subst hw)
 refine bodyPost_ret (v:=.tuple #[.agg #[.int .i64 ax,.int .i64 bx,.bool cx],.bool ok]) (by simp [results,Tryz.results303,go_sem]) rfl ⟨ax,cx,rfl, ?_⟩
 go_grown
theorem fineName_any (v:Value) (tx:ByteArray) (x:Bool) (w:World) (hz:tx.size≤1048576) (hv:∃ ao n cap,v=.slice ao n cap) :
  Calls Tryz.prog 293 #[.agg #[.string tx,.bool x],v] w fun e w'=>e=.returned (.bool (x && (nameB tx.data.toList || typeB tx.data.toList || dOk tx)))∧Below w.heap.size w w':=by
 have hN:=fun w=>NameOk_any tx w (by unfold maxLen;omega)
 have hT:=fun w=>TypeOk_any tx w (by omega)
 have hD:=fun w=>isDesc_any tx w hz
 generalize nameB tx.data.toList=nm at hN ⊢
 generalize typeB tx.data.toList=ty at hT ⊢
 generalize dOk tx=dc at hD ⊢
 obtain ⟨R,HR⟩:∃ R,Hid ((x && (nm || ty || dc))=R):=⟨_,rfl⟩
 rw [HR.out]
 obtain ⟨ao,n,cap,rfl⟩:=hv
 go_enter Tryz.func293,Tryz.ntmps293
 go_wp2_with (first
  | (go_at_call 177;refine (hN _).mono ?_;rintro e w1 ⟨rfl,hw⟩;replace hw:=hw.symm;subst hw)
  | (go_at_call 178;refine (hT _).mono ?_;rintro e w1 ⟨rfl,hw⟩;replace hw:=hw.symm;subst hw)
  | (go_at_call 183;refine (hD _).mono ?_;rintro e w1 ⟨rfl,hb0⟩;have hb1:=below_made hb0;clear hb0))
 all_goals go_ret
 all_goals exact ⟨ret_bool (by rw [← HR.out];simp_all),by first|assumption|go_grown⟩
theorem fineClass_any (v:Value) (ts:List C4) (a:Int) (x:Bool) (w:World) (hl:ts.length≤1048576) (hs:∀ t∈ts,t.text.size≤1048576) (h:ListW w v ts) :
  Calls Tryz.prog 294 #[.agg #[.int .i64 a,.bool x],v] w fun e w'=>e=.returned (.bool (x && nameC ts a))∧Below w.heap.size w w':=by
 have hN:=fun W hW=>named_any v ts a x W hl hs hW
 generalize nameC ts a=nm at hN ⊢
 obtain ⟨R,HR⟩:∃ R,Hid ((x && nm)=R):=⟨_,rfl⟩
 rw [HR.out]
 have HL:=hid h
 obtain ⟨ao,cap,rfl⟩:=h.len
 clear h hs
 cases x
 ·go_enter Tryz.func294,Tryz.ntmps294
  go_wp2
  go_ret
  exact ⟨ret_bool (by rw [← HR.out];simp),by go_grown⟩
 ·go_enter Tryz.func294,Tryz.ntmps294
  go_wp2_with (go_at_call 295;refine (hN _ (HL.out.keep (by go_grown))).mono ?_;rintro e w1 ⟨rfl,hb0⟩;have hb1:=below_made hb0;clear hb0)
  go_ret
  exact ⟨ret_bool (by rw [← HR.out];simp),hb1⟩
theorem finePair_any (v:Value) (ts:List C4) (a b:Int) (x:Bool) (w:World) (hl:ts.length≤1048576) (hs:∀ t∈ts,t.text.size≤1048576) (h:ListW w v ts) :
  Calls Tryz.prog 300 #[.agg #[.int .i64 a,.int .i64 b,.bool x],v] w fun e w'=>e=.returned (.bool (x && nameC ts a && (typeC ts b || descC ts b)))∧Below w.heap.size w w':=by
 have hN:=fun W hW=>nameAt_any v ts a W hl hs hW
 have hT:=fun W hW=>typed_any v ts a b x W hl hs hW
 have hD:=fun W hW=>called_any v ts a b x W hl hs hW
 generalize nameC ts a=nm at hN ⊢
 generalize typeC ts b=ty at hT ⊢
 generalize descC ts b=dc at hD ⊢
 obtain ⟨R,HR⟩:∃ R,Hid ((x && nm && (ty || dc))=R):=⟨_,rfl⟩
 rw [HR.out]
 have HL:=hid h
 obtain ⟨ao,cap,rfl⟩:=h.len
 clear h hs
 cases x
 ·go_enter Tryz.func300,Tryz.ntmps300
  go_wp2
  go_ret
  exact ⟨ret_bool (by rw [← HR.out];simp),by go_grown⟩
 ·go_enter Tryz.func300,Tryz.ntmps300
  go_wp2_with fail
  refine (hN _ (HL.out.keep (by go_grown))).mono ?_
  rintro e w1 ⟨rfl,hb0⟩
  obtain ⟨hc,hlt,hb1⟩:=newN hb0
  have f0:=hc 0 _ rfl
  have f1:=hc 1 _ rfl
  have f2:=hc 2 _ rfl
  clear hb0 hc
  cases nm
  ·go_wp2
   go_ret
   exact ⟨ret_bool (by rw [← HR.out];simp),hb1⟩
  ·go_wp2_with fail
   refine (hT _ (HL.out.keep hb1)).mono ?_
   rintro e w2 ⟨rfl,hb2⟩
   have g0:=(hb2.cell (p:=⟨w.heap.size,0,none⟩) hlt).trans f0
   have g1:=(hb2.cell (p:=⟨w.heap.size,1,none⟩) hlt).trans f1
   have g2:=(hb2.cell (p:=⟨w.heap.size,2,none⟩) hlt).trans f2
   have hb3:=hb1.trans (hb2.mono hb1.size)
   clear hb2 hb1 f0 f1 f2
   cases ty
   ·go_wp2_with fail
    refine (hD _ (HL.out.keep hb3)).mono ?_
    rintro e w3 ⟨rfl,hb4⟩
    go_wp2
    go_ret
    exact ⟨ret_bool (by rw [← HR.out];simp),hb3.trans (hb4.mono hb3.size)⟩
   ·go_wp2
    go_ret
    exact ⟨ret_bool (by rw [← HR.out];simp),hb3⟩
theorem fineField_any (v:Value) (ts:List C4) (a b:Int) (x:Bool) (w:World) (hl:ts.length≤1048576) (hs:∀ t∈ts,t.text.size≤1048576) (h:ListW w v ts) :
  Calls Tryz.prog 302 #[.agg #[.int .i64 a,.int .i64 b,.bool x],v] w fun e w'=>e=.returned (.bool (x && clsC ts a && decide ((atC ts b).kind=3) && typeC ts (atC ts b).b))∧Below w.heap.size w w':=by
 have hP:=fun W hW=>pairAt_any v ts b W hl hW
 have hN:=fun W hW=>classAt_any v ts a W hl hs hW
 have hT:=fun pa px W hW=>typed_any v ts pa (if (atC ts b).kind=3 then (atC ts b).b else 0) px W hl hs hW
 have HR0:Hid (∀ y:Bool,(y && decide ((atC ts b).kind=3) && typeC ts (atC ts b).b)=(y && decide ((atC ts b).kind=3) && typeC ts (if (atC ts b).kind=3 then (atC ts b).b else 0))):=by
  intro y;split<;>simp_all
 rw [HR0.out]
 clear HR0
 generalize (if (atC ts b).kind=3 then (atC ts b).b else 0:Int)=bx at hP hT ⊢
 generalize decide ((atC ts b).kind=3)=ok at hP ⊢
 generalize clsC ts a=nm at hN ⊢
 generalize typeC ts bx=ty at hT ⊢
 obtain ⟨R,HR⟩:∃ R,Hid ((x && nm && ok && ty)=R):=⟨_,rfl⟩
 rw [HR.out]
 have HL:=hid h
 obtain ⟨ao,cap,rfl⟩:=h.len
 clear h hs
 go_enter Tryz.func302,Tryz.ntmps302
 go_wp2_with fail
 refine (hP _ (HL.out.keep (by go_grown))).mono ?_
 rintro e w1 ⟨pa,px,rfl,hb0⟩
 obtain ⟨hc,hlt,hb1⟩:=newN hb0
 have f0:=hc 0 _ rfl
 have f1:=hc 1 _ rfl
 have f2:=hc 2 _ rfl
 have hne:¬w.heap.size=w1.heap.size:=by omega
 have hT':=hT pa px
 clear hb0 hc hT
 cases x
 ·go_wp2
  go_ret
  exact ⟨ret_bool (by rw [← HR.out];simp),by have:=hb1.size;go_grown⟩
 ·go_wp2_with fail
  refine (hN _ (HL.out.keep (by have:=hb1.size;go_grown))).mono ?_
  rintro e w2 ⟨rfl,hb2⟩
  obtain ⟨hc,hlt2,hb3⟩:=newN hb2
  have g0:=hc 0 _ rfl
  have g1:=hc 1 _ rfl
  have g2:=hc 2 _ rfl
  have hb4:=hb1.trans (hb3.mono hb1.size)
  clear hb2 hb3 hb1 hc f0 f1 f2
  cases nm
  ·go_wp2
   go_ret
   exact ⟨ret_bool (by rw [← HR.out];simp),hb4⟩
  ·cases ok
   ·go_wp2
    go_ret
    exact ⟨ret_bool (by rw [← HR.out];simp),hb4⟩
   ·go_wp2_with fail
    refine (hT' _ (HL.out.keep hb4)).mono ?_
    rintro e w3 ⟨rfl,hb5⟩
    go_wp2
    go_ret
    exact ⟨ret_bool (by rw [← HR.out];simp),hb4.trans (hb5.mono hb4.size)⟩
theorem fineMethod_any (v:Value) (ts:List C4) (a b:Int) (x:Bool) (w:World) (hl:ts.length≤1048576) (hs:∀ t∈ts,t.text.size≤1048576) (h:ListW w v ts) :
  Calls Tryz.prog 305 #[.agg #[.int .i64 a,.int .i64 b,.bool x],v] w fun e w'=>e=.returned (.bool (x && clsC ts a && decide ((atC ts b).kind=3) && descC ts (atC ts b).b))∧Below w.heap.size w w':=by
 have hP:=fun W hW=>pairAt_any v ts b W hl hW
 have hN:=fun W hW=>classAt_any v ts a W hl hs hW
 have hT:=fun pa px W hW=>called_any v ts pa (if (atC ts b).kind=3 then (atC ts b).b else 0) px W hl hs hW
 have HR0:Hid (∀ y:Bool,(y && decide ((atC ts b).kind=3) && descC ts (atC ts b).b)=(y && decide ((atC ts b).kind=3) && descC ts (if (atC ts b).kind=3 then (atC ts b).b else 0))):=by
  intro y;split<;>simp_all
 rw [HR0.out]
 clear HR0
 generalize (if (atC ts b).kind=3 then (atC ts b).b else 0:Int)=bx at hP hT ⊢
 generalize decide ((atC ts b).kind=3)=ok at hP ⊢
 generalize clsC ts a=nm at hN ⊢
 generalize descC ts bx=ty at hT ⊢
 obtain ⟨R,HR⟩:∃ R,Hid ((x && nm && ok && ty)=R):=⟨_,rfl⟩
 rw [HR.out]
 have HL:=hid h
 obtain ⟨ao,cap,rfl⟩:=h.len
 clear h hs
 go_enter Tryz.func305,Tryz.ntmps305
 go_wp2_with fail
 refine (hP _ (HL.out.keep (by go_grown))).mono ?_
 rintro e w1 ⟨pa,px,rfl,hb0⟩
 obtain ⟨hc,hlt,hb1⟩:=newN hb0
 have f0:=hc 0 _ rfl
 have f1:=hc 1 _ rfl
 have f2:=hc 2 _ rfl
 have hne:¬w.heap.size=w1.heap.size:=by omega
 have hT':=hT pa px
 clear hb0 hc hT
 cases x
 ·go_wp2
  go_ret
  exact ⟨ret_bool (by rw [← HR.out];simp),by have:=hb1.size;go_grown⟩
 ·go_wp2_with fail
  refine (hN _ (HL.out.keep (by have:=hb1.size;go_grown))).mono ?_
  rintro e w2 ⟨rfl,hb2⟩
  obtain ⟨hc,hlt2,hb3⟩:=newN hb2
  have g0:=hc 0 _ rfl
  have g1:=hc 1 _ rfl
  have g2:=hc 2 _ rfl
  have hb4:=hb1.trans (hb3.mono hb1.size)
  clear hb2 hb3 hb1 hc f0 f1 f2
  cases nm
  ·go_wp2
   go_ret
   exact ⟨ret_bool (by rw [← HR.out];simp),hb4⟩
  ·cases ok
   ·go_wp2
    go_ret
    exact ⟨ret_bool (by rw [← HR.out];simp),hb4⟩
   ·go_wp2_with fail
    refine (hT' _ (HL.out.keep hb4)).mono ?_
    rintro e w3 ⟨rfl,hb5⟩
    go_wp2
    go_ret
    exact ⟨ret_bool (by rw [← HR.out];simp),hb4.trans (hb5.mono hb4.size)⟩
theorem fineStray_any (v:Value) (w:World) (hv:∃ ao n cap,v=.slice ao n cap) :
  Calls Tryz.prog 306 #[.agg #[],v] w fun e w'=>e=.returned (.bool false)∧Below w.heap.size w w':=by
 obtain ⟨ao,n,cap,rfl⟩:=hv
 go_enter Tryz.func306,Tryz.ntmps306
 go_wp2
 go_ret
 exact ⟨rfl,by go_grown⟩
theorem l2Entry_any (v:Value) (ts:List C4) (k:Nat) (hk:k<ts.length) (w:World) (hl:ts.length≤1048576) (hs:∀ t∈ts,t.text.size≤1048576) (h:PoolW w v ts) :
  Calls Tryz.prog 46 #[v,.int .i64 k] w fun e w'=>e=.returned (.bool (okC ts ts[k]))∧Below w.heap.size w w':=by
 by_cases h1:ts[k].kind=1
 ·exact l2Entry_1 v ts k hk w hl hs h h1
 ·by_cases h2:ts[k].kind=2
  ·exact l2Entry_2 v ts k hk w hl hs h h2
  ·by_cases h3:ts[k].kind=3
   ·exact l2Entry_3 v ts k hk w hl hs h h3
   ·exact l2Entry_4 v ts k hk w hl hs h h1 h2 h3
theorem pool_bad {ts:List C4} {n k:Nat} (hn:k+(n+1)=60) (h:k<ts.length) (hB:badC ts 60 0=badC ts (n+1) k) (ho:okC ts ts[k]=false):poolC ts=(k:Int)+1:=by
 unfold poolC
 rw [hB,badC_step hn h,ho]
 rfl
theorem pool_go {ts:List C4} {n k:Nat} (hn:k+(n+1)=60) (h:k<ts.length) (hB:badC ts 60 0=badC ts (n+1) k) (ho:okC ts ts[k]=true):badC ts 60 0=badC ts n (k+1):=by
 rw [hB,badC_step hn h,ho]
 rfl
theorem pool_end {ts:List C4} {n k:Nat} (hB:badC ts 60 0=badC ts n k) (h:¬k<ts.length∨¬k<60):poolC ts=if 60<ts.length then 61 else 0:=by
 unfold poolC
 rw [hB,badC_end h]
theorem specPoolCheck_any (v:Value) (ts:List C4) (w:World) (hl:ts.length≤1048576) (hs:∀ t∈ts,t.text.size≤1048576) (h:PoolW w v ts) :
  Calls Tryz.prog 19 #[v] w fun e w'=>e=.returned (.int .i64 (poolC ts))∧Below w.heap.size w w':=by
 have hE:=fun k hk W hW=>l2Entry_any v ts k hk W hl hs hW
 have HP:=hid h
 obtain ⟨ao,cap,rfl⟩:=h.len
 clear h hs
 go_enter Tryz.func19,Tryz.ntmps19
 go_wp2
 go_loopw [3] (fun i wr=>∃ (k n:Nat),k+n=60∧k≤ts.length∧i=.int .i64 k∧Hid (badC ts 60 0=badC ts n k)∧Below w.heap.size w wr) (fun i _=>60 - (intOf i).toNat)
 case atStart=>exact ⟨0,60,by omega,by omega,rfl,rfl,Below.refl _ _⟩
 case round=>
  obtain ⟨k,n,hkn,hk,rfl,HB,hbel⟩:=hrel
  by_cases hlt:k<ts.length
  ·by_cases h60:k<60
   ·obtain ⟨m,rfl⟩:∃ m,n=m+1:=⟨n - 1,by omega⟩
    have hE':=hE k hlt wr (HP.out.keep hbel)
    cases ho:okC ts ts[k] with
    | true=>
     rw [ho] at hE'
     have HN:=hid (pool_go hkn hlt HB.out ho)
     clear HB ho hE
     go_wp2_with (go_at_call 46;refine hE'.mono ?_;rintro e w1 ⟨rfl,hb1⟩)
     go_roundw
     case rel=>exact ⟨k+1,m,by omega,by omega,by go_num,HN.out,hbel.trans (hb1.mono hbel.size)⟩
     case measure=>simp [intOf];omega
    | false=>
     rw [ho] at hE'
     have HN:=hid (pool_bad hkn hlt HB.out ho)
     clear HB ho hE
     go_wp2_with (go_at_call 46;refine hE'.mono ?_;rintro e w1 ⟨rfl,hb1⟩)
     go_ret
     exact ⟨ret_i64 HN.out.symm,hbel.trans (hb1.mono hbel.size)⟩
   ·have HN:=hid (pool_end HB.out (.inr h60))
    clear HB hE
    have h6:(60:Int)<ts.length:=by omega
    go_wp2
    go_ret
    exact ⟨ret_i64 (by rw [HN.out,if_pos (by omega)]),hbel⟩
  ·have HN:=hid (pool_end HB.out (.inl hlt))
   clear HB hE
   have h6:¬(60:Int)<ts.length:=by omega
   go_wp2
   go_ret
   exact ⟨ret_i64 (by rw [HN.out,if_neg (by omega)]),hbel⟩
theorem PoolCheck_any (v:Value) (ts:List C4) (w:World) (hl:ts.length≤1048576) (hs:∀ t∈ts,t.text.size≤1048576) (h:PoolW w v ts) :
  Calls Tryz.prog 29 #[v] w fun e w'=>e=.returned (.int .i64 (poolC ts))∧Below w.heap.size w w':=by
 have hA:=entriesOf_any v ts w hl h
 obtain ⟨ao,cap,rfl⟩:=h.len
 clear h
 go_enter Tryz.func29,Tryz.ntmps29
 go_wp2_with fail
 refine hA.mono ?_
 rintro e w0 ⟨lv,rfl,hL,hb0⟩
 have HL:=hid hL
 obtain ⟨ao',cap',rfl⟩:=hL.len
 clear hL hA
 go_wp2
 obtain ⟨M,hM⟩:∃ M:Nat,M=min ts.length 60:=⟨_,rfl⟩
 have hm:min (ts.length:Int) 60=(M:Int):=by omega
 rw [hm]
 have hM1:M≤ts.length:=by omega
 have hM2:M≤60:=by omega
 have HM:Hid (M=ts.length∨M=60):=by unfold Hid;omega
 clear hm hM
 go_loopw [10] (fun i wr=>∃ (k n:Nat),k+n=60∧k≤M∧i=.int .i64 k∧Hid (badC ts 60 0=badC ts n k)∧Below w0.heap.size w0 wr) (fun i _=>60 - (intOf i).toNat)
 case atStart=>exact ⟨0,60,by omega,by omega,rfl,rfl,Below.refl _ _⟩
 case round=>
  obtain ⟨k,n,hkn,hk,rfl,HB,hbel⟩:=hrel
  by_cases hkM:k<M
  ·have hlt:k<ts.length:=by omega
   obtain ⟨m,rfl⟩:∃ m,n=m+1:=⟨n - 1,by omega⟩
   obtain ⟨g,c,hv,hc⟩:=(HL.out.keep hbel).at hlt
   obtain ⟨rfl,_,rfl⟩:ao'=some ⟨g,0,none⟩∧True∧cap'=c:=by simp at hv;exact ⟨hv.1,trivial,hv.2⟩
   clear hv
   by_cases h1:ts[k].kind=1
   ·have e1:ifc ts[k]=.iface 212 (.agg #[.string ts[k].text,.bool (decide (ts[k].a=0) && decide (ts[k].b=0))]):=by unfold ifc;rw [if_pos h1]
    rw [e1] at hc
    have hF:=fineName_any (.slice (some ⟨g,0,none⟩) ts.length cap') ts[k].text (decide (ts[k].a=0) && decide (ts[k].b=0)) wr (hs _ (List.getElem_mem _)) ⟨_,_,_,rfl⟩
    have ho:=(rfl:okC ts ts[k]=okC ts ts[k])
    conv at ho=>rhs;unfold okC;rw [if_pos h1]
    rw [← ho] at hF
    clear e1 ho
    cases ho:okC ts ts[k] with
    | true=>
     rw [ho] at hF
     have HN:=hid (pool_go hkn hlt HB.out ho)
     clear HB ho
     generalize ts[k].text=tx at hc hF
     generalize (decide (ts[k].a=0) && decide (ts[k].b=0))=bx at hc hF
     go_wp2_with (go_at_call 293;refine hF.mono ?_;rintro e w1 ⟨rfl,hb1⟩)
     go_roundw
     case rel=>exact ⟨k+1,m,by omega,by omega,by go_num,HN.out,hbel.trans (hb1.mono hbel.size)⟩
     case measure=>simp [intOf];omega
    | false=>
     rw [ho] at hF
     have HN:=hid (pool_bad hkn hlt HB.out ho)
     clear HB ho
     generalize ts[k].text=tx at hc hF
     generalize (decide (ts[k].a=0) && decide (ts[k].b=0))=bx at hc hF
     go_wp2_with (go_at_call 293;refine hF.mono ?_;rintro e w1 ⟨rfl,hb1⟩)
     go_ret
     exact ⟨ret_i64 HN.out.symm,hb0.trans ((hbel.trans (hb1.mono hbel.size)).mono hb0.size)⟩
   ·by_cases h2:ts[k].kind=2
    ·have e1:ifc ts[k]=.iface 214 (.agg #[.int .i64 ts[k].a,.bool (ts[k].text.toList.isEmpty && decide (ts[k].b=0))]):=by unfold ifc;rw [if_neg h1,if_pos h2]
     rw [e1] at hc
     have hF:=fineClass_any (.slice (some ⟨g,0,none⟩) ts.length cap') ts ts[k].a (ts[k].text.toList.isEmpty && decide (ts[k].b=0)) wr hl hs (HL.out.keep hbel)
     have ho:=(rfl:okC ts ts[k]=okC ts ts[k])
     conv at ho=>rhs;unfold okC;rw [if_neg h1,if_pos h2]
     rw [← ho] at hF
     clear e1 ho
     cases ho:okC ts ts[k] with
     | true=>
      rw [ho] at hF
      have HN:=hid (pool_go hkn hlt HB.out ho)
      clear HB ho
      generalize (ts[k].text.toList.isEmpty && decide (ts[k].b=0))=bx at hc hF
      generalize ts[k].a=a at hc hF
      go_wp2_with (go_at_call 294;refine hF.mono ?_;rintro e w1 ⟨rfl,hb1⟩)
      go_roundw
      case rel=>exact ⟨k+1,m,by omega,by omega,by go_num,HN.out,hbel.trans (hb1.mono hbel.size)⟩
      case measure=>simp [intOf];omega
     | false=>
      rw [ho] at hF
      have HN:=hid (pool_bad hkn hlt HB.out ho)
      clear HB ho
      generalize (ts[k].text.toList.isEmpty && decide (ts[k].b=0))=bx at hc hF
      generalize ts[k].a=a at hc hF
      go_wp2_with (go_at_call 294;refine hF.mono ?_;rintro e w1 ⟨rfl,hb1⟩)
      go_ret
      exact ⟨ret_i64 HN.out.symm,hb0.trans ((hbel.trans (hb1.mono hbel.size)).mono hb0.size)⟩
    ·by_cases h3:ts[k].kind=3
     ·have e1:ifc ts[k]=.iface 216 (.agg #[.int .i64 ts[k].a,.int .i64 ts[k].b,.bool ts[k].text.toList.isEmpty]):=by unfold ifc;rw [if_neg h1,if_neg h2,if_pos h3]
      rw [e1] at hc
      have hF:=finePair_any (.slice (some ⟨g,0,none⟩) ts.length cap') ts ts[k].a ts[k].b ts[k].text.toList.isEmpty wr hl hs (HL.out.keep hbel)
      have ho:=(rfl:okC ts ts[k]=okC ts ts[k])
      conv at ho=>rhs;unfold okC;rw [if_neg h1,if_neg h2,if_pos h3]
      rw [← ho] at hF
      clear e1 ho
      cases ho:okC ts ts[k] with
      | true=>
       rw [ho] at hF
       have HN:=hid (pool_go hkn hlt HB.out ho)
       clear HB ho
       generalize ts[k].text.toList.isEmpty=bx at hc hF
       generalize ts[k].a=a at hc hF
       generalize ts[k].b=b at hc hF
       go_wp2_with (go_at_call 300;refine hF.mono ?_;rintro e w1 ⟨rfl,hb1⟩)
       go_roundw
       case rel=>exact ⟨k+1,m,by omega,by omega,by go_num,HN.out,hbel.trans (hb1.mono hbel.size)⟩
       case measure=>simp [intOf];omega
      | false=>
       rw [ho] at hF
       have HN:=hid (pool_bad hkn hlt HB.out ho)
       clear HB ho
       generalize ts[k].text.toList.isEmpty=bx at hc hF
       generalize ts[k].a=a at hc hF
       generalize ts[k].b=b at hc hF
       go_wp2_with (go_at_call 300;refine hF.mono ?_;rintro e w1 ⟨rfl,hb1⟩)
       go_ret
       exact ⟨ret_i64 HN.out.symm,hb0.trans ((hbel.trans (hb1.mono hbel.size)).mono hb0.size)⟩
     ·by_cases h4:ts[k].kind=4
      ·have e1:ifc ts[k]=.iface 218 (.agg #[.int .i64 ts[k].a,.int .i64 ts[k].b,.bool ts[k].text.toList.isEmpty]):=by unfold ifc;rw [if_neg h1,if_neg h2,if_neg h3,if_pos h4]
       rw [e1] at hc
       have hF:=fineField_any (.slice (some ⟨g,0,none⟩) ts.length cap') ts ts[k].a ts[k].b ts[k].text.toList.isEmpty wr hl hs (HL.out.keep hbel)
       have ho:=(rfl:okC ts ts[k]=okC ts ts[k])
       conv at ho=>rhs;unfold okC;rw [if_neg h1,if_neg h2,if_neg h3,if_pos h4]
       rw [← ho] at hF
       clear e1 ho
       cases ho:okC ts ts[k] with
       | true=>
        rw [ho] at hF
        have HN:=hid (pool_go hkn hlt HB.out ho)
        clear HB ho
        generalize ts[k].text.toList.isEmpty=bx at hc hF
        generalize ts[k].a=a at hc hF
        generalize ts[k].b=b at hc hF
        go_wp2_with (go_at_call 302;refine hF.mono ?_;rintro e w1 ⟨rfl,hb1⟩)
        go_roundw
        case rel=>exact ⟨k+1,m,by omega,by omega,by go_num,HN.out,hbel.trans (hb1.mono hbel.size)⟩
        case measure=>simp [intOf];omega
       | false=>
        rw [ho] at hF
        have HN:=hid (pool_bad hkn hlt HB.out ho)
        clear HB ho
        generalize ts[k].text.toList.isEmpty=bx at hc hF
        generalize ts[k].a=a at hc hF
        generalize ts[k].b=b at hc hF
        go_wp2_with (go_at_call 302;refine hF.mono ?_;rintro e w1 ⟨rfl,hb1⟩)
        go_ret
        exact ⟨ret_i64 HN.out.symm,hb0.trans ((hbel.trans (hb1.mono hbel.size)).mono hb0.size)⟩
      ·by_cases h5:ts[k].kind=5∨ts[k].kind=6
       ·have e1:ifc ts[k]=.iface 219 (.agg #[.int .i64 ts[k].a,.int .i64 ts[k].b,.bool ts[k].text.toList.isEmpty]):=by unfold ifc;rw [if_neg h1,if_neg h2,if_neg h3,if_neg h4,if_pos h5]
        rw [e1] at hc
        have hF:=fineMethod_any (.slice (some ⟨g,0,none⟩) ts.length cap') ts ts[k].a ts[k].b ts[k].text.toList.isEmpty wr hl hs (HL.out.keep hbel)
        have ho:=(rfl:okC ts ts[k]=okC ts ts[k])
        conv at ho=>rhs;unfold okC;rw [if_neg h1,if_neg h2,if_neg h3,if_neg h4,if_pos h5]
        rw [← ho] at hF
        clear e1 ho
        cases ho:okC ts ts[k] with
        | true=>
         rw [ho] at hF
         have HN:=hid (pool_go hkn hlt HB.out ho)
         clear HB ho
         generalize ts[k].text.toList.isEmpty=bx at hc hF
         generalize ts[k].a=a at hc hF
         generalize ts[k].b=b at hc hF
         go_wp2_with (go_at_call 305;refine hF.mono ?_;rintro e w1 ⟨rfl,hb1⟩)
         go_roundw
         case rel=>exact ⟨k+1,m,by omega,by omega,by go_num,HN.out,hbel.trans (hb1.mono hbel.size)⟩
         case measure=>simp [intOf];omega
        | false=>
         rw [ho] at hF
         have HN:=hid (pool_bad hkn hlt HB.out ho)
         clear HB ho
         generalize ts[k].text.toList.isEmpty=bx at hc hF
         generalize ts[k].a=a at hc hF
         generalize ts[k].b=b at hc hF
         go_wp2_with (go_at_call 305;refine hF.mono ?_;rintro e w1 ⟨rfl,hb1⟩)
         go_ret
         exact ⟨ret_i64 HN.out.symm,hb0.trans ((hbel.trans (hb1.mono hbel.size)).mono hb0.size)⟩
       ·have e1:ifc ts[k]=.iface 221 (.agg #[]):=by unfold ifc;rw [if_neg h1,if_neg h2,if_neg h3,if_neg h4,if_neg h5]
        rw [e1] at hc
        have hF:=fineStray_any (.slice (some ⟨g,0,none⟩) ts.length cap') wr ⟨_,_,_,rfl⟩
        have ho:okC ts ts[k]=false:=by unfold okC;rw [if_neg h1,if_neg h2,if_neg h3,if_neg h4,if_neg h5]
        rw [← ho] at hF
        clear e1 ho
        cases ho:okC ts ts[k] with
        | true=>
         rw [ho] at hF
         have HN:=hid (pool_go hkn hlt HB.out ho)
         clear HB ho
         go_wp2_with (go_at_call 306;refine hF.mono ?_;rintro e w1 ⟨rfl,hb1⟩)
         go_roundw
         case rel=>exact ⟨k+1,m,by omega,by omega,by go_num,HN.out,hbel.trans (hb1.mono hbel.size)⟩
         case measure=>simp [intOf];omega
        | false=>
         rw [ho] at hF
         have HN:=hid (pool_bad hkn hlt HB.out ho)
         clear HB ho
         go_wp2_with (go_at_call 306;refine hF.mono ?_;rintro e w1 ⟨rfl,hb1⟩)
         go_ret
         exact ⟨ret_i64 HN.out.symm,hb0.trans ((hbel.trans (hb1.mono hbel.size)).mono hb0.size)⟩
  ·have HN:=hid (pool_end HB.out (by have:=HM.out;omega))
   clear HB
   by_cases h6:(60:Int)<ts.length
   ·go_wp2
    go_ret
    exact ⟨ret_i64 (by rw [HN.out,if_pos (by omega)]),hb0.trans (hbel.mono hb0.size)⟩
   ·go_wp2
    go_ret
    exact ⟨ret_i64 (by rw [HN.out,if_neg (by omega)]),hb0.trans (hbel.mono hb0.size)⟩
end Go.Proofs.YtecbcdfkedocbaaGreatDoor
