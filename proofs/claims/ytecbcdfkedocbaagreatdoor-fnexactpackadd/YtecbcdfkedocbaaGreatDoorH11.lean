/- Gathered: PoolEntry PoolRef. -/
import Derived.Test.YtecbcdfkedocbaaGreatDoorG03
namespace Go.Proofs.YtecbcdfkedocbaaGreatDoor
open Mx Go.RowKit
set_option maxHeartbeats 1000000
set_option maxRecDepth 20000
set_option linter.unusedVariables false
theorem entry_cells {v:Value} {ts:List C4} {k:Nat} {w:World} (h:PoolW w v ts) (hk:k<ts.length) :
  ∃ g cap,v=.slice (some ⟨g,0,none⟩) ts.length cap∧g<w.heap.size∧w.cell? ⟨g,k*4,none⟩=some (.int .i64 ts[k].kind)∧w.cell? ⟨g,k*4+1,none⟩=some (.string ts[k].text)∧w.cell? ⟨g,k*4+2,none⟩=some (.int .i64 ts[k].a)∧w.cell? ⟨g,k*4+3,none⟩=some (.int .i64 ts[k].b):=by
 obtain ⟨B,h⟩:=h
 obtain ⟨g,c,rfl⟩:=Joins.ownsRow_form h (by omega)
 exact ⟨g,c,rfl,(h.lt g rfl).2,cells4_at h hk⟩
theorem below_new {w w1:World} {o:Obj} (hb:Below (w.alloc o).heap.size (w.alloc o) w1):Below w.heap.size w w1:=
 ((Below.refl w.heap.size w).alloc (Nat.le_refl _) o).trans (hb.mono (by simp))
structure Ent (w W:World) (v:Value) (ts:List C4) (g:Nat) (kd:Int) (tx:ByteArray) (a b:Int):Prop where
 pool:PoolW W v ts
 bel:Below w.heap.size w W
 c0:W.cell? ⟨g,0,none⟩=some (.int .i64 kd)
 c1:W.cell? ⟨g,1,none⟩=some (.string tx)
 c2:W.cell? ⟨g,2,none⟩=some (.int .i64 a)
 c3:W.cell? ⟨g,3,none⟩=some (.int .i64 b)
 lt:g<W.heap.size
theorem Ent.keep {w W W':World} {v:Value} {ts:List C4} {g:Nat} {kd:Int} {tx:ByteArray} {a b:Int} (h:Ent w W v ts g kd tx a b) (hb:Below W.heap.size W W'):Ent w W' v ts g kd tx a b:=
 ⟨h.pool.keep hb,h.bel.trans (hb.mono h.bel.size),(hb.cell (p:=⟨g,0,none⟩) h.lt).trans h.c0,(hb.cell (p:=⟨g,1,none⟩) h.lt).trans h.c1,(hb.cell (p:=⟨g,2,none⟩) h.lt).trans h.c2,(hb.cell (p:=⟨g,3,none⟩) h.lt).trans h.c3,Nat.lt_of_lt_of_le h.lt hb.size⟩
theorem ent_new {w:World} {v:Value} {ts:List C4} {kd:Int} {tx:ByteArray} {a b:Int} (h:PoolW w v ts):Ent w (w.alloc (.cells #[.int .i64 kd,.string tx,.int .i64 a,.int .i64 b] 40)) v ts w.heap.size kd tx a b:=by
 obtain ⟨d0,d1,d2,d3,hl2,hB3⟩:=new4 (w1:=w) (t:=⟨kd,tx,a,b⟩) (Below.refl _ _)
 have hb3:=hB3 _ _ (Below.refl w.heap.size w) (Nat.le_refl _)
 exact ⟨h.keep hb3,hb3,d0,d1,d2,d3,hl2⟩
theorem l2Entry_1 (v:Value) (ts:List C4) (k:Nat) (hk:k<ts.length) (w:World) (hl:ts.length≤1048576) (hs:∀ t∈ts,t.text.size≤1048576) (h:PoolW w v ts) (h1:ts[k].kind=1) :
  Calls Tryz.prog 46 #[v,.int .i64 k] w fun e w'=>e=.returned (.bool (okC ts ts[k]))∧Below w.heap.size w w':=by
 obtain ⟨g,cap,rfl,hg,c1,c2,c3,c4⟩:=entry_cells h hk
 have hsz:=hs ts[k] (List.getElem_mem _)
 have HR:Hid (okC ts ts[k]=(decide (ts[k].a=0) && decide (ts[k].b=0) && (nameB ts[k].text.data.toList || typeB ts[k].text.data.toList || dOk ts[k].text))):=by
  unfold Hid okC;rw [if_pos h1]
 generalize okC ts ts[k]=R at HR ⊢
 generalize ts[k]=t at c1 c2 c3 c4 h1 hsz HR
 have hne:¬g=w.heap.size:=by omega
 clear h hs
 have hN:=fun w=>l2Name_any t.text w (by unfold maxLen;omega)
 have hT:=fun w=>l2Type_any t.text w (by omega)
 have hD:=fun w=>l2DescOk_any t.text w hsz
 generalize nameB t.text.data.toList=nm at hN HR
 generalize typeB t.text.data.toList=ty at hT HR
 generalize dOk t.text=dc at hD HR
 go_enter Tryz.func46,Tryz.ntmps46
 go_wp2_with (first
  | (go_at_call 78;refine (hN _).mono ?_;rintro e w1 ⟨rfl,hw⟩;replace hw:=hw.symm;subst hw)
  | (go_at_call 79;refine (hT _).mono ?_;rintro e w1 ⟨rfl,hw⟩;replace hw:=hw.symm;subst hw)
  | (go_at_call 80;refine (hD _).mono ?_;rintro e w1 ⟨rfl,hb1⟩))
 all_goals go_ret
 all_goals refine ⟨ret_bool ?_, ?_⟩
 all_goals first
  | (with_reducible exact below_new hb1)
  | (go_grown;done)
  | (rw [HR.out];simp_all;done)
theorem l2Entry_2 (v:Value) (ts:List C4) (k:Nat) (hk:k<ts.length) (w:World) (hl:ts.length≤1048576) (hs:∀ t∈ts,t.text.size≤1048576) (h:PoolW w v ts) (h1:ts[k].kind=2) :
  Calls Tryz.prog 46 #[v,.int .i64 k] w fun e w'=>e=.returned (.bool (okC ts ts[k]))∧Below w.heap.size w w':=by
 have HP:Hid (PoolW w v ts):=h
 have hC:=fun W hW=>l2Class_any v ts ((k:Int)+1) W hl hs hW
 have HR:Hid (okC ts ts[k]=(ts[k].text.toList.isEmpty && decide (ts[k].b=0) && !(clsT ts ((k:Int)+1)).toList.isEmpty)):=by
  unfold Hid okC;rw [if_neg (by omega),if_pos h1]
  have e1:clsC ts ((k:Int)+1)=nameC ts ts[k].a:=by unfold clsC;rw [atC_in hk,h1];simp
  rw [clsT_iff,e1]
  simp
 obtain ⟨g,cap,rfl,hg,c1,c2,c3,c4⟩:=entry_cells h hk
 generalize okC ts ts[k]=R at HR ⊢
 generalize clsT ts ((k:Int)+1)=ct at hC HR
 generalize ts[k]=t at c1 c2 c3 c4 h1 HR
 obtain ⟨kd,tx,a,b⟩:=t
 simp only at c1 c2 c3 c4 h1 HR
 subst h1
 have hne:¬g=w.heap.size:=by omega
 clear h hs
 go_enter Tryz.func46,Tryz.ntmps46
 go_wp2_with (go_at_call 81;refine (hC _ (ent_new HP.out).pool).mono ?_;rintro e w1 ⟨rfl,hb1⟩)
 all_goals go_ret
 all_goals refine ⟨ret_bool ?_, ?_⟩
 all_goals first
  | (with_reducible exact below_new hb1)
  | (go_grown;done)
  | (rw [HR.out];simp_all;done)
theorem l2Entry_3 (v:Value) (ts:List C4) (k:Nat) (hk:k<ts.length) (w:World) (hl:ts.length≤1048576) (hs:∀ t∈ts,t.text.size≤1048576) (h:PoolW w v ts) (h1:ts[k].kind=3) :
  Calls Tryz.prog 46 #[v,.int .i64 k] w fun e w'=>e=.returned (.bool (okC ts ts[k]))∧Below w.heap.size w w':=by
 have HP:Hid (PoolW w v ts):=h
 have HR:Hid (okC ts ts[k]=(ts[k].text.toList.isEmpty && nameB (txtC ts ts[k].a).data.toList && (typeB (txtC ts ts[k].b).data.toList || dOk (txtC ts ts[k].b)))):=by
  unfold Hid okC;rw [if_neg (by omega),if_neg (by omega),if_pos h1,name_txt,type_txt,desc_txt]
 obtain ⟨g,cap,rfl,hg,c1,c2,c3,c4⟩:=entry_cells h hk
 generalize okC ts ts[k]=R at HR ⊢
 generalize ts[k]=t at c1 c2 c3 c4 h1 HR
 obtain ⟨kd,tx,a,b⟩:=t
 simp only at c1 c2 c3 c4 h1 HR
 subst h1
 have hne:¬g=w.heap.size:=by omega
 have hT1:∀ g' W,Ent w W (.slice (some ⟨g,0,none⟩) ts.length cap) ts g' 3 tx a b→Calls Tryz.prog 82 #[.slice (some ⟨g,0,none⟩) ts.length cap,.int .i64 b] W fun e w'=>e=.returned (.string (txtC ts b))∧Ent w w' (.slice (some ⟨g,0,none⟩) ts.length cap) ts g' 3 tx a b:=by
  intro g' W hE
  refine (l2Text_any _ ts b W hl hE.pool).mono ?_
  rintro e w' ⟨rfl,hb⟩
  exact ⟨rfl,hE.keep hb⟩
 have hT2:∀ g' W,Ent w W (.slice (some ⟨g,0,none⟩) ts.length cap) ts g' 3 tx a b→Calls Tryz.prog 82 #[.slice (some ⟨g,0,none⟩) ts.length cap,.int .i64 a] W fun e w'=>e=.returned (.string (txtC ts a))∧Ent w w' (.slice (some ⟨g,0,none⟩) ts.length cap) ts g' 3 tx a b:=by
  intro g' W hE
  refine (l2Text_any _ ts a W hl hE.pool).mono ?_
  rintro e w' ⟨rfl,hb⟩
  exact ⟨rfl,hE.keep hb⟩
 have z1:=txtC_small hs a
 have z2:=txtC_small hs b
 generalize txtC ts a=sa at hT2 HR z1
 generalize txtC ts b=sb at hT1 HR z2
 have hN:=fun w=>l2Name_any sa w (by unfold maxLen;omega)
 have hY:=fun w=>l2Type_any sb w (by omega)
 have hD:∀ g' W,Ent w W (.slice (some ⟨g,0,none⟩) ts.length cap) ts g' 3 tx a b→Calls Tryz.prog 80 #[.string sb] W fun e w'=>e=.returned (.bool (dOk sb))∧Ent w w' (.slice (some ⟨g,0,none⟩) ts.length cap) ts g' 3 tx a b:=by
  intro g' W hE
  refine (l2DescOk_any sb W z2).mono ?_
  rintro e w' ⟨rfl,hb⟩
  exact ⟨rfl,hE.keep hb⟩
 generalize nameB sa.data.toList=nm at hN HR
 generalize typeB sb.data.toList=ty at hY HR
 generalize dOk sb=dc at hD HR
 clear h hs
 go_enter Tryz.func46,Tryz.ntmps46
 go_wp2_with fail
 refine (hT1 _ _ (ent_new HP.out)).mono ?_
 rintro e w5 ⟨rfl,hE⟩
 have f0:=hE.c0;have f1:=hE.c1;have f2:=hE.c2;have f3:=hE.c3;have HE:=hid hE;clear hE
 clear c1 c2 c3 c4 hT1
 generalize w.heap.size=gw at f0 f1 f2 f3 HE hne hg ⊢
 go_wp2_with (first
  | (go_at_call 82;refine (hT2 _ _ HE.out).mono ?_;clear f0 f1 f2 f3 HE;rintro e w6 ⟨rfl,hE⟩;have f0:=hE.c0;have f1:=hE.c1;have f2:=hE.c2;have f3:=hE.c3;have HE:=hid hE;clear hE)
  | (go_at_call 78;refine (hN _).mono ?_;rintro e w1 ⟨rfl,hw⟩;replace hw:=hw.symm;subst hw)
  | (go_at_call 79;refine (hY _).mono ?_;rintro e w1 ⟨rfl,hw⟩;replace hw:=hw.symm;subst hw)
  | (go_at_call 80;refine (hD _ _ HE.out).mono ?_;clear f0 f1 f2 f3 HE;rintro e w6 ⟨rfl,hE⟩;have HE:=hid hE;clear hE))
 all_goals go_ret
 all_goals refine ⟨ret_bool ?_, ?_⟩
 all_goals first
  | (with_reducible exact HE.out.bel)
  | (rw [HR.out];simp_all;done)
set_option maxHeartbeats 4000000
structure Ref (w W:World) (v:Value) (ts:List C4) (g1 g2:Nat) (t u:C4):Prop where
 pool:PoolW W v ts
 bel:Below w.heap.size w W
 c1:W.cell? ⟨g1,2,none⟩=some (.int .i64 t.a)
 c2:W.cell? ⟨g2,2,none⟩=some (.int .i64 u.a)
 c3:W.cell? ⟨g2,3,none⟩=some (.int .i64 u.b)
 l1:g1<W.heap.size
 l2:g2<W.heap.size
theorem Ref.keep {w W W':World} {v:Value} {ts:List C4} {g1 g2:Nat} {t u:C4} (h:Ref w W v ts g1 g2 t u) (hb:Below W.heap.size W W'):Ref w W' v ts g1 g2 t u:=
 ⟨h.pool.keep hb,h.bel.trans (hb.mono h.bel.size),(hb.cell (p:=⟨g1,2,none⟩) h.l1).trans h.c1,(hb.cell (p:=⟨g2,2,none⟩) h.l2).trans h.c2,(hb.cell (p:=⟨g2,3,none⟩) h.l2).trans h.c3,Nat.lt_of_lt_of_le h.l1 hb.size,Nat.lt_of_lt_of_le h.l2 hb.size⟩
theorem Ref.drawn {w W:World} {v:Value} {ts:List C4} {g1 g2:Nat} {t u:C4} (h:Ref w W v ts g1 g2 t u) (n:Nat):Ref w (W.drewN n) v ts g1 g2 t u:=
 h.keep (below_drewN (Below.refl _ _) n)
theorem l2RefX_any (v:Value) (ts:List C4) (i:Int) (w:World) (hl:ts.length≤1048576) (hs:∀ t∈ts,t.text.size≤1048576) (h:PoolW w v ts) :
  Calls Tryz.prog 83 #[v,.int .i64 i] w fun e w'=>e=.returned (.tuple #[.string (clsT ts (atC ts i).a),.string (txtC ts (atC ts (atC ts i).b).a),.string (txtC ts (atC ts (atC ts i).b).b)])∧Below w.heap.size w w':=by
 have hA:=l2At_any v ts i w hl h
 have hB:=fun W hW=>l2At_any v ts (atC ts i).b W hl hW
 generalize atC ts (atC ts i).b=u at hB ⊢
 generalize atC ts i=t at hA hB ⊢
 have HP:Hid (PoolW w v ts):=h
 have HC:∀ g1 g2 W,Ref w W v ts g1 g2 t u→Calls Tryz.prog 81 #[v,.int .i64 t.a] W fun e w'=>e=.returned (.string (clsT ts t.a))∧Ref w w' v ts g1 g2 t u:=by
  intro g1 g2 W hR
  refine (l2Class_any v ts t.a W hl hs hR.pool).mono ?_
  rintro e w' ⟨rfl,hb⟩
  exact ⟨rfl,hR.keep hb⟩
 have HT:∀ g1 g2 x W,Ref w W v ts g1 g2 t u→Calls Tryz.prog 82 #[v,.int .i64 x] W fun e w'=>e=.returned (.string (txtC ts x))∧Ref w w' v ts g1 g2 t u:=by
  intro g1 g2 x W hR
  refine (l2Text_any v ts x W hl hR.pool).mono ?_
  rintro e w' ⟨rfl,hb⟩
  exact ⟨rfl,hR.keep hb⟩
 generalize clsT ts t.a=sa at HC ⊢
 generalize txtC ts=F at HT ⊢
 obtain ⟨ao,cap,rfl⟩:=h.len
 clear h hs
 go_enter Tryz.func83,Tryz.ntmps83
 go_wp2_with fail
 refine hA.mono ?_
 rintro e w1 ⟨rfl,hb1⟩
 have hs1:=hb1.size
 go_wp2_with fail
 refine (hB _ (HP.out.keep (by go_grown))).mono ?_
 rintro e w2 ⟨rfl,hb2⟩
 obtain ⟨c0,c1,c2,c3,hlt,hB2⟩:=new4 hb2
 have hbw:=hB2 _ _ hb1 hs1
 have hs2:=hbw.size
 have HP2:Hid (PoolW w2 (.slice ao ts.length cap) ts):=HP.out.keep hbw
 clear hb2 hb1 hs1 hB2 hB hA c0 c1 c3
 go_wp2_with fail
 have HR:Hid (Ref w (w2.alloc (.cells #[.int .i64 u.kind,.string u.text,.int .i64 u.a,.int .i64 u.b] 40)) (.slice ao ts.length cap) ts w1.heap.size w2.heap.size t u):=by
  obtain ⟨d0,d1,d2,d3,hl2,hB3⟩:=new4 (w1:=w2) (t:=u) (Below.refl _ _)
  have hb3:=hB3 _ _ (Below.refl w2.heap.size w2) (Nat.le_refl _)
  exact ⟨HP2.out.keep hb3,hB3 _ _ hbw hs2,(hb3.cell (p:=⟨w1.heap.size,2,none⟩) hlt).trans c2,d2,d3,Nat.lt_trans hlt hl2,hl2⟩
 clear c2 hbw hs2 HP2 HP
 have f1:=HR.out.c1
 have f2:=HR.out.c2
 have f3:=HR.out.c3
 generalize w2.alloc (.cells #[.int .i64 u.kind,.string u.text,.int .i64 u.a,.int .i64 u.b] 40)=X at HR f1 f2 f3 ⊢
 generalize w2.heap.size=g2 at *
 generalize w1.heap.size=g1 at *
 go_region_with (first
  | (go_at_call 81;refine (HC g1 g2 _ (by first|(with_reducible exact HR.out)|exact HR.out.drawn 1)).mono ?_;clear f1 f2 f3 HR;rintro e w5 ⟨rfl,hR⟩;have f1:=hR.c1;have f2:=hR.c2;have f3:=hR.c3;have HR:=hid hR;clear hR)
  | (go_at_call 82;refine (HT g1 g2 _ _ (by first|(with_reducible exact HR.out)|exact HR.out.drawn 1)).mono ?_;clear f1 f2 f3 HR;rintro e w5 ⟨rfl,hR⟩;have f1:=hR.c1;have f2:=hR.c2;have f3:=hR.c3;have HR:=hid hR;clear hR))
 all_goals go_wp2
 all_goals go_ret3
 all_goals exact ⟨rfl,HR.out.bel⟩
theorem l2Ref_any (v:Value) (ts:List C4) (i:Int) (w:World) (hl:ts.length≤1048576) (hs:∀ t∈ts,t.text.size≤1048576) (h:PoolW w v ts) :
  Calls Tryz.prog 83 #[v,.int .i64 i] w fun e w'=>∃ x y,e=.returned (.tuple #[.string x,.string y,.string (txtC ts (atC ts (atC ts i).b).b)])∧Below w.heap.size w w':=
 (l2RefX_any v ts i w hl hs h).mono (by rintro e w' ⟨rfl,hb⟩;exact ⟨_,_,rfl,hb⟩)
end Go.Proofs.YtecbcdfkedocbaaGreatDoor
