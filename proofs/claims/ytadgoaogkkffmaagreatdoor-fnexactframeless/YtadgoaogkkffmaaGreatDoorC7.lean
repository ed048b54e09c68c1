/- Gathered: CpSpecC CpLessS. -/
import Derived.Test.YtadgoaogkkffmaaGreatDoorC6
import Derived.Test.YtadgoaogkkffmaaGreatDoorC3
import Derived.Deep.RegionLaw
import Derived.Test.YtadgoaogkkffmaaGreatDoorC5
namespace Go.Proofs.YtadgoaogkkffmaaGreatDoor
open Mx Go.RowKit
set_option maxHeartbeats 4000000
set_option maxRecDepth 20000
set_option linter.unusedVariables false
theorem one_const (ts:List C4):∀ u∈cellsC ts,u.oneCell'=true:=by
 intro u hu
 unfold cellsC at hu
 obtain ⟨t,_,ht⟩:=List.mem_flatMap.1 hu
 simp [cells4] at ht
 rcases ht with rfl|rfl|rfl|rfl<;>rfl
theorem CpM.rowk {W:World} {B k:Nat} {v:Value} {ms:List MMethod} {xs:List SMethod} (h:CpM W B v (ms.take k) xs) (hk:k≤ms.length):W.ownsRow B 74 8 v k (rowMethod xs):=by
 have:=h.row
 rwa [List.length_take,Nat.min_eq_left hk] at this
structure CFs (w:World) {cb:Array Value} (o1 o2 o3 o4:Value) (c:MClass) (k:Nat) (xs:List SMethod) (W:World):Prop where
 s:SM w 34 cb #[.slice none 0 0,.int .i64 0,.int .i64 0,.int .i64 0,.slice none 0 0,.slice none 0 0,.slice none 0 0] #[o1,.int .i64 c.flags,.int .i64 c.name,.int .i64 c.super,o2,o3,o4] W
 p:W.ownsRow (w.heap.size+3) 50 4 o1 c.pool.length (cellsC c.pool)
 i:W.ownsRow (w.heap.size+3) 3 1 o2 c.faces.length (rowI c.faces)
 f:W.ownsRow (w.heap.size+3) 99 3 o3 c.fields.length (rowField c.fields)
 m:CpM W (w.heap.size+3) o4 (c.methods.take k) xs
theorem CFs.keep {w W W':World} {cb:Array Value} {o1 o2 o3 o4:Value} {c:MClass} {k:Nat} {xs:List SMethod} (h:CFs w (cb:=cb) o1 o2 o3 o4 c k xs W) (hb:Below W.heap.size W W'):CFs w (cb:=cb) o1 o2 o3 o4 c k xs W':=
 ⟨h.s.keep hb,own_below h.p hb,own_below h.i hb,own_below h.f hb,h.m.keep hb⟩
theorem CFs.app {w W W':World} {cb:Array Value} {o1 o2 o3 o4 v' vt vf:Value} {c:MClass} {k H:Nat} {xs:List SMethod} {m:MMethod} {o:Obj} (h:CFs w (cb:=cb) o1 o2 o3 o4 c k xs W) (hk:k<c.methods.length) (hm:c.methods.take (k+1)=c.methods.take k++[m])
  (ht:W.ownsRow H 170 4 vt m.traps.length (rowTrap m.traps)) (hU:Under H (xs.map SMethod.traps)) (hH:w.heap.size+3≤H) (hf:∃ a n c,vf=.slice a n c)
  (hg:(W.alloc o).grownBy W' o4.ownBlock) (ho:W'.ownsRow (w.heap.size+3) 74 8 v' (k+1) (rowMethod xs++cellsMethod (shM m vt vf))) :
  SM w 34 cb #[.slice none 0 0,.int .i64 0,.int .i64 0,.int .i64 0,.slice none 0 0,.slice none 0 0,.slice none 0 0] #[o1,.int .i64 c.flags,.int .i64 c.name,.int .i64 c.super,o2,o3,o4] W'∧CFs w (cb:=cb) o1 o2 o3 v' c (k+1) (xs++[shM m vt vf]) (W'.setCell ⟨w.heap.size+2,6,none⟩ v'):=by
 have kp:Kp W W' (w.heap.size+3) 74:=Kp.grow h.m.row hg
 have hs:SM w 34 cb #[.slice none 0 0,.int .i64 0,.int .i64 0,.int .i64 0,.slice none 0 0,.slice none 0 0,.slice none 0 0] #[o1,.int .i64 c.flags,.int .i64 c.name,.int .i64 c.super,o2,o3,o4] W':=(h.s.keep ((Below.refl _ _).alloc (Nat.le_refl _) o)).grown hg (fun q hq=>by have:=(h.m.row.lt q hq).1;omega)
 refine ⟨hs,hs.set 6 v' rfl,ownsRow_setCell_below (kp _ _ _ _ _ (by decide) h.p) (by dsimp only;omega) _,ownsRow_setCell_below (kp _ _ _ _ _ (by decide) h.i) (by dsimp only;omega) _,ownsRow_setCell_below (kp _ _ _ _ _ (by decide) h.f) (by dsimp only;omega) _, ?_⟩
 rw [hm]
 refine CpM.set ?_ (by dsimp only;omega) _
 exact h.m.snoc ht hU hH hf hg (by rw [List.length_take,Nat.min_eq_left (by omega)];exact ho)
theorem l5CopyFile_any (c:MClass) (vp vi vf vm:Value) (B:Nat) (w:World) (hc:c.few) (h:ClassW w B vp vi vf vm c) :
  Calls Tryz.prog 46 #[.agg #[vp,.int .i64 c.flags,.int .i64 c.name,.int .i64 c.super,vi,vf,vm]] w fun e w'=>∃ up ui uf um xs,e=.returned (.agg #[up,.int .i64 c.flags,.int .i64 c.name,.int .i64 c.super,ui,uf,um])∧CpC w' w.heap.size up ui uf um c xs∧Below w.heap.size w w':=by
 obtain ⟨o1,j1,hv1⟩:=own_len h.p
 obtain ⟨o2,j2,hv2⟩:=own_len h.i
 obtain ⟨o3,j3,hv3⟩:=own_len h.f
 obtain ⟨o4,j4,hv4⟩:=h.m.len
 subst hv1 hv2 hv3 hv4
 have S0:=SM.new w 34 #[.slice o1 c.pool.length j1,.int .i64 c.flags,.int .i64 c.name,.int .i64 c.super,.slice o2 c.faces.length j2,.slice o3 c.fields.length j3,.slice o4 c.methods.length j4] #[.slice none 0 0,.int .i64 0,.int .i64 0,.int .i64 0,.slice none 0 0,.slice none 0 0,.slice none 0 0] #[.slice o1 c.pool.length j1,.int .i64 c.flags,.int .i64 c.name,.int .i64 c.super,.slice o2 c.faces.length j2,.slice o3 c.fields.length j3,.slice o4 c.methods.length j4]
 have hp0:=own_below h.p S0.b
 have HI:=hid (fun W (hW:Below w.heap.size w W)=>own_below h.i hW)
 have HF:=hid (fun W (hW:Below w.heap.size w W)=>own_below h.f hW)
 obtain ⟨zs,hyl,hyo,hye⟩:=h.m
 have HO:=hid hyo
 have HYL:=hid hyl
 have HC:=hid (fun k (hk:k<c.methods.length) (hk':k<zs.length)=>show ∃ a5 k5 a6 k6,zs[k]=shM c.methods[k] (.slice a5 c.methods[k].traps.length k5) (.slice a6 c.methods[k].frames.length k6)∧∀ W,Below w.heap.size w W→Calls Tryz.prog 88 #[.agg #[.int .i64 c.methods[k].flags,.int .i64 c.methods[k].name,.int .i64 c.methods[k].desc,.int .i64 c.methods[k].deep,.int .i64 c.methods[k].locals,.string c.methods[k].code,.slice a5 c.methods[k].traps.length k5,.slice a6 c.methods[k].frames.length k6]] W (fun e w'=>∃ b5 j5 b6 n6 j6,e=.returned (.agg #[.int .i64 c.methods[k].flags,.int .i64 c.methods[k].name,.int .i64 c.methods[k].desc,.int .i64 c.methods[k].deep,.int .i64 c.methods[k].locals,.string c.methods[k].code,.slice b5 c.methods[k].traps.length j5,.slice b6 n6 j6])∧w'.ownsRow W.heap.size 170 4 (.slice b5 c.methods[k].traps.length j5) c.methods[k].traps.length (rowTrap c.methods[k].traps)∧Below W.heap.size W w') from by
  obtain ⟨vt,vf,he,hw⟩:=hye k hk hk'
  obtain ⟨a5,k5,e1⟩:=own_len hw.t
  obtain ⟨a6,k6,e2⟩:=hw.f.len
  subst e1 e2
  exact ⟨a5,k5,a6,k6,he,fun W hW=>l5CopyMethod_any _ _ _ _ _ B W (hc.each _ (List.getElem_mem hk)) (hw.keep hW)⟩)
 have hpl:=hc.pool
 have hil:=hc.faces
 have hfl:=hc.fields
 have hml:=hc.methods
 obtain ⟨iP,hP,hP0,hP1,hP2⟩:=info_parts infoConst
 obtain ⟨iI,hI,hI0,hI1,hI2⟩:=info_parts infoInt
 obtain ⟨iF,hF,hF0,hF1,hF2⟩:=info_parts infoField
 obtain ⟨iM,hM,hM0,hM1,hM2⟩:=info_parts infoMethod
 obtain ⟨⟨c0,c1,c2,c3,c4,c5,c6⟩,z0,z1,z2,z3,z4,z5,z6⟩:=S0.box.x7
 obtain ⟨⟨d0,d1,d2,d3,d4,d5,d6⟩,e0,e1,e2,e3,e4,e5,e6⟩:=S0.out.x7
 clear h hc hyo hyl hye
 go_enter Tryz.func46,Tryz.ntmps46
 go_wp2_with (at_builtin;go_loud (refine app_copy _ rfl _ _ 30 rfl 50 iP (.agg #[.int .i64 0,.string ⟨#[]⟩,.int .i64 0,.int .i64 0]) 4 40 Tryz.underlying30 hP hP0 hP1 hP2 rfl (by decide) (by decide) _ (by simp) rfl (.slice o1 c.pool.length j1) c.pool.length B (cellsC c.pool) rfl hp0 (one_const _) hpl ?_))
 intro v1 w1 ho1 hb1
 obtain ⟨p1,k1,rfl⟩:=own_len ho1
 replace hb1:=below_sz hb1 (by simp)
 have T1:=S0.keep hb1
 have R1:=hid (show w1.ownsRow (w.heap.size+3) 50 4 (.slice p1 c.pool.length k1) c.pool.length (cellsC c.pool) from Joins.ownsRow_le ho1 (by omega))
 clear S0 hb1 ho1 hp0 c0 c1 c2 c3 c4 c5 c6 z0 z1 z2 z3 z4 z5 z6 d0 d1 d2 d3 d4 d5 d6 e0 e1 e2 e3 e4 e5 e6
 obtain ⟨⟨c0,c1,c2,c3,c4,c5,c6⟩,z0,z1,z2,z3,z4,z5,z6⟩:=T1.box.x7
 obtain ⟨⟨d0,d1,d2,d3,d4,d5,d6⟩,e0,e1,e2,e3,e4,e5,e6⟩:=T1.out.x7
 have S1:=T1.set (z':=#[.slice p1 c.pool.length k1,.int .i64 c.flags,.int .i64 c.name,.int .i64 c.super,.slice o2 c.faces.length j2,.slice o3 c.fields.length j3,.slice o4 c.methods.length j4]) 0 (.slice p1 c.pool.length k1) rfl
 have Q1:=hid (ownsRow_setCell_below R1.out (a:=⟨w.heap.size+2,0,none⟩) (by simp) (.slice p1 c.pool.length k1))
 have hi1:=HI.out _ S1.b
 have hs1:w.heap.size+3≤w1.heap.size:=by have:=T1.out.lt;omega
 have ha1:w.heap.size<w1.heap.size:=by omega
 have hb1':w.heap.size+1+1<w1.heap.size:=by omega
 clear T1 R1 HI
 go_wp2_with (at_builtin;go_loud (refine app_copy _ rfl _ _ 23 rfl 3 iI (.int .i64 0) 1 8 Tryz.underlying23 hI hI0 hI1 hI2 rfl (by decide) (by decide) _ (by simp) rfl (.slice o2 c.faces.length j2) c.faces.length B (rowI c.faces) rfl hi1 (one_int _) hil ?_))
 intro v2 w2 ho2 hb2
 obtain ⟨p2,k2,rfl⟩:=own_len ho2
 replace hb2:=below_sz hb2 (by simp)
 have T2:=S1.keep hb2
 have R1:=hid (own_below Q1.out hb2)
 have R2:=hid (show w2.ownsRow (w.heap.size+3) 3 1 (.slice p2 c.faces.length k2) c.faces.length (rowI c.faces) from Joins.ownsRow_le ho2 (by omega))
 clear S1 hb2 ho2 hi1 Q1 c0 c1 c2 c3 c4 c5 c6 z0 z1 z2 z3 z4 z5 z6 d0 d1 d2 d3 d4 d5 d6 e0 e1 e2 e3 e4 e5 e6
 obtain ⟨⟨c0,c1,c2,c3,c4,c5,c6⟩,z0,z1,z2,z3,z4,z5,z6⟩:=T2.box.x7
 obtain ⟨⟨d0,d1,d2,d3,d4,d5,d6⟩,e0,e1,e2,e3,e4,e5,e6⟩:=T2.out.x7
 have S2:=T2.set (z':=#[.slice p1 c.pool.length k1,.int .i64 c.flags,.int .i64 c.name,.int .i64 c.super,.slice p2 c.faces.length k2,.slice o3 c.fields.length j3,.slice o4 c.methods.length j4]) 4 (.slice p2 c.faces.length k2) rfl
 have Q1:=hid (ownsRow_setCell_below R1.out (a:=⟨w.heap.size+2,4,none⟩) (by simp) (.slice p2 c.faces.length k2))
 have Q2:=hid (ownsRow_setCell_below R2.out (a:=⟨w.heap.size+2,4,none⟩) (by simp) (.slice p2 c.faces.length k2))
 have hf2:=HF.out _ S2.b
 have hs2:w.heap.size+3≤w2.heap.size:=by have:=T2.out.lt;omega
 have ha2:w.heap.size<w2.heap.size:=by omega
 have hb2':w.heap.size+1+1<w2.heap.size:=by omega
 clear T2 R1 R2 HF
 go_wp2_with (at_builtin;go_loud (refine app_copy _ rfl _ _ 31 rfl 99 iF (.agg #[.int .i64 0,.int .i64 0,.int .i64 0]) 3 24 Tryz.underlying31 hF hF0 hF1 hF2 rfl (by decide) (by decide) _ (by simp) rfl (.slice o3 c.fields.length j3) c.fields.length B (rowField c.fields) rfl hf2 (one_field _) hfl ?_))
 intro v3 w3 ho3 hb3
 obtain ⟨p3,k3,rfl⟩:=own_len ho3
 replace hb3:=below_sz hb3 (by simp)
 have T3:=S2.keep hb3
 have R1:=hid (own_below Q1.out hb3)
 have R2:=hid (own_below Q2.out hb3)
 have R3:=hid (show w3.ownsRow (w.heap.size+3) 99 3 (.slice p3 c.fields.length k3) c.fields.length (rowField c.fields) from Joins.ownsRow_le ho3 (by omega))
 clear S2 hb3 ho3 hf2 Q1 Q2 c0 c1 c2 c3 c4 c5 c6 z0 z1 z2 z3 z4 z5 z6 d0 d1 d2 d3 d4 d5 d6 e0 e1 e2 e3 e4 e5 e6
 obtain ⟨⟨c0,c1,c2,c3,c4,c5,c6⟩,z0,z1,z2,z3,z4,z5,z6⟩:=T3.box.x7
 obtain ⟨⟨d0,d1,d2,d3,d4,d5,d6⟩,e0,e1,e2,e3,e4,e5,e6⟩:=T3.out.x7
 have S3:=(T3.set (z':=#[.slice p1 c.pool.length k1,.int .i64 c.flags,.int .i64 c.name,.int .i64 c.super,.slice p2 c.faces.length k2,.slice p3 c.fields.length k3,.slice o4 c.methods.length j4]) 5 (.slice p3 c.fields.length k3) rfl).set (z':=#[.slice p1 c.pool.length k1,.int .i64 c.flags,.int .i64 c.name,.int .i64 c.super,.slice p2 c.faces.length k2,.slice p3 c.fields.length k3,.slice none 0 0]) 6 (.slice none 0 0) rfl
 have Q1:=ownsRow_setCell_below (ownsRow_setCell_below R1.out (a:=⟨w.heap.size+2,5,none⟩) (by simp) (.slice p3 c.fields.length k3)) (a:=⟨w.heap.size+2,6,none⟩) (by simp) (.slice none 0 0)
 have Q2:=ownsRow_setCell_below (ownsRow_setCell_below R2.out (a:=⟨w.heap.size+2,5,none⟩) (by simp) (.slice p3 c.fields.length k3)) (a:=⟨w.heap.size+2,6,none⟩) (by simp) (.slice none 0 0)
 have Q3:=ownsRow_setCell_below (ownsRow_setCell_below R3.out (a:=⟨w.heap.size+2,5,none⟩) (by simp) (.slice p3 c.fields.length k3)) (a:=⟨w.heap.size+2,6,none⟩) (by simp) (.slice none 0 0)
 have CS0:=hid (show CFs w (cb:=#[.slice o1 c.pool.length j1,.int .i64 c.flags,.int .i64 c.name,.int .i64 c.super,.slice o2 c.faces.length j2,.slice o3 c.fields.length j3,.slice o4 c.methods.length j4]) (.slice p1 c.pool.length k1) (.slice p2 c.faces.length k2) (.slice p3 c.fields.length k3) (.slice none 0 0) c 0 [] _ from ⟨S3,Q1,Q2,Q3,CpM.nil _ _⟩)
 clear S3 Q1 Q2 Q3 T3 R1 R2 R3
 go_wp2
 go_loopw [4] (fun i wr=>∃ (k:Nat) (v:Value) (xs:List SMethod),k≤c.methods.length∧i=.int .i64 k∧Hid (CFs w (cb:=#[.slice o1 c.pool.length j1,.int .i64 c.flags,.int .i64 c.name,.int .i64 c.super,.slice o2 c.faces.length j2,.slice o3 c.fields.length j3,.slice o4 c.methods.length j4]) (.slice p1 c.pool.length k1) (.slice p2 c.faces.length k2) (.slice p3 c.fields.length k3) v c k xs wr)) (fun i _=>c.methods.length - (intOf i).toNat)
 case atStart=>exact ⟨0,.slice none 0 0,[],by omega,by first|rfl|go_num,CS0⟩
 case round=>
  obtain ⟨k,v,xs,hk,rfl,S⟩:=hrel
  clear CS0 c0 c1 c2 c3 c4 c5 c6 z0 z1 z2 z3 z4 z5 z6 d0 d1 d2 d3 d4 d5 d6 e0 e1 e2 e3 e4 e5 e6
  obtain ⟨ao,cap,rfl⟩:=own_len (S.out.m.rowk hk)
  obtain ⟨⟨c0,c1,c2,c3,c4,c5,c6⟩,z0,z1,z2,z3,z4,z5,z6⟩:=S.out.s.box.x7
  by_cases hlt:k<c.methods.length
  ·obtain ⟨g,hg⟩:=own_some HO.out (by omega)
   subst hg
   have hky:k<zs.length:=by rw [HYL.out];exact hlt
   have SD:=S.out.keep (show Below _ _ _ from (Below.refl _ _).drew)
   obtain ⟨g0,g1,g2,g3,g4,g5,g6,g7⟩:=ownMethod_at (own_below HO.out SD.s.b) (k:=k) HYL.out hky
   have hgl:=((own_below HO.out SD.s.b).lt g rfl).2
   obtain ⟨a5,k5,a6,k6,he,hC0⟩:=HC.out k hlt hky
   rw [he] at g0 g1 g2 g3 g4 g5 g6 g7
   simp only [shM] at g0 g1 g2 g3 g4 g5 g6 g7
   have hC:=hC0 _ SD.s.b
   have hTK:c.methods.take (k+1)=c.methods.take k++[c.methods[k]]:=List.take_succ_eq_append_getElem hlt
   have HU:=SD.m.under
   have how:=SD.m.rowk hk
   have hsz:w.heap.size+3≤wr.drew.heap.size:=by have:=SD.s.out.lt;omega
   generalize c.methods[k]=m at g0 g1 g2 g3 g4 g5 g6 g7 hC hTK
   have z5:(k:Int)<(c.methods.length:Int):=by omega
   clear he hC0
   go_upto_region 9 with fail
   clear c0 c1 c2 c3 c4 c5 c6 z0 z1 z2 z3 z4 z5 z6
   obtain ⟨⟨c0,c1,c2,c3,c4,c5,c6⟩,z0,z1,z2,z3,z4,z5,z6⟩:=SD.s.box.x7
   obtain ⟨⟨d0,d1,d2,d3,d4,d5,d6⟩,e0,e1,e2,e3,e4,e5,e6⟩:=SD.s.out.x7
   go_region_law (first
    | (go_simp;go_at_call 88;refine hC.mono ?_;rintro e w9 ⟨b5,j5,b6,n6,j6,rfl,ht9,hb9⟩;have S9:=SD.keep hb9;have how9:=S9.m.rowk hk;have hsz9:w.heap.size+3≤w9.heap.size:=Nat.le_trans hsz hb9.size;have hal9:∀ o,(w9.alloc o).cell? ⟨w.heap.size+2,6,none⟩=some (.slice ao k cap):=(fun o=>(S9.s.out.alloc o).c 6 _ rfl);obtain ⟨⟨_,_,_,_,_,_,m69⟩,_,_,_,_,_,_,z69⟩:=S9.s.out.x7)
    | (refine step_append_lies _ rfl (.tmp 30) (.tmp 37) 32 rfl (w.heap.size+3) 74 iM (.agg #[.int .i64 0,.int .i64 0,.int .i64 0,.int .i64 0,.int .i64 0,.string ⟨#[]⟩,.slice none 0 0,.slice none 0 0]) 8 104 Tryz.underlying32 hM hM0 hM1 hM2 rfl (by decide) _ _ _ rfl (World.ownsRow.alloc (by assumption) _) _ 1 1 _ rfl (by rfl) (World.news_of_block (heap_alloc_new _ _)) (by intro u hu;simp at hu;rcases hu with rfl|rfl|rfl|rfl|rfl|rfl|rfl|rfl<;>rfl) (by omega) (by unfold maxLen;omega) (by omega) (by simp;omega) _ rfl ?_;intro g9 cap9 w8 hown9 hgrow9 hat9 hlt9;have hboth:=CFs.app S9 hlt hTK ht9 HU hsz ⟨_,_,_,rfl⟩ hgrow9 hown9;obtain ⟨⟨_,_,_,_,_,_,m68⟩,_,_,_,_,_,_,z68⟩:=hboth.1.out.x7))
   all_goals
    have S4:=hid hboth.2
    clear hboth hown9 hgrow9 hat9 hlt9 how9 hal9 S9 ht9 hsz9 m69 z69 m68 z68 SD HU how hTK c0 c1 c2 c3 c4 c5 c6 z0 z1 z2 z3 z4 z5 z6 d0 d1 d2 d3 d4 d5 d6 e0 e1 e2 e3 e4 e5 e6 g0 g1 g2 g3 g4 g5 g6 g7
    go_wp2
    go_roundw
    case rel=>exact ⟨k+1,_,_,by omega,by go_num,S4⟩
    case measure=>simp [intOf];omega
  ·obtain rfl:k=c.methods.length:=by omega
   obtain ⟨⟨d0,d1,d2,d3,d4,d5,d6⟩,e0,e1,e2,e3,e4,e5,e6⟩:=S.out.s.out.x7
   obtain ⟨⟨r0,r1,r2,r3,r4,r5,r6⟩,q0,q1,q2,q3,q4,q5,q6⟩:=S.out.s.res.x7
   have HB3:=hid S.out.s.b
   have HCC:=hid (show CpC wr (w.heap.size+3) (.slice p1 c.pool.length k1) (.slice p2 c.faces.length k2) (.slice p3 c.fields.length k3) (.slice ao c.methods.length cap) c xs from ⟨S.out.p,S.out.i,S.out.f,by have:=S.out.m;rwa [List.take_length] at this⟩)
   clear S
   go_wp2
   refine bodyPost_ret (v:=.agg #[.slice p1 c.pool.length k1,.int .i64 c.flags,.int .i64 c.name,.int .i64 c.super,.slice p2 c.faces.length k2,.slice p3 c.fields.length k3,(.slice ao c.methods.length cap)]) (by simp [results,Tryz.results46,go_sem, *]) rfl ⟨_,_,_,_,xs,rfl, ?_, ?_⟩
   ·have s0:=HCC.out
    have s1:=s0.set (a:=⟨w.heap.size+1,0,none⟩) (by simp) (.slice p1 c.pool.length k1)
    have s2:=s1.set (a:=⟨w.heap.size+1,1,none⟩) (by simp) (.int .i64 c.flags)
    have s3:=s2.set (a:=⟨w.heap.size+1,2,none⟩) (by simp) (.int .i64 c.name)
    have s4:=s3.set (a:=⟨w.heap.size+1,3,none⟩) (by simp) (.int .i64 c.super)
    have s5:=s4.set (a:=⟨w.heap.size+1,4,none⟩) (by simp) (.slice p2 c.faces.length k2)
    have s6:=s5.set (a:=⟨w.heap.size+1,5,none⟩) (by simp) (.slice p3 c.fields.length k3)
    have s7:=s6.set (a:=⟨w.heap.size+1,6,none⟩) (by simp) (.slice ao c.methods.length cap)
    exact s7.mono (by omega)
   ·exact ((((((HB3.out.setCell (by simp) _).setCell (by simp) _).setCell (by simp) _).setCell (by simp) _).setCell (by simp) _).setCell (by simp) _).setCell (by simp) _
set_option maxHeartbeats 2000000
theorem specLess_any (c:MClass) (vp vi vf vm:Value) (B:Nat) (w:World) (Q:Int→Prop) (hc:c.few) (h:ClassW w B vp vi vf vm c)
  (hI:∀ W,Below w.heap.size w W→Calls Tryz.prog 10 #[.agg #[vp,.int .i64 c.flags,.int .i64 c.name,.int .i64 c.super,vi,vf,vm]] W fun e w'=>∃ n:Int,e=.returned (.int .i64 n)∧Q n∧Below W.heap.size W w') :
  Calls Tryz.prog 14 #[.agg #[vp,.int .i64 c.flags,.int .i64 c.name,.int .i64 c.super,vi,vf,vm]] w fun e w'=>∃ n up ui uf um xs,Q n∧e=.returned (.agg #[up,.int .i64 (lessR c n).flags,.int .i64 (lessR c n).name,.int .i64 (lessR c n).super,ui,uf,um])∧ClA w' w.heap.size up ui uf um (lessR c n) xs (xs.map fun _=>[])∧Below w.heap.size w w':=by
 obtain ⟨o1,j1,hv1⟩:=own_len h.p
 obtain ⟨o2,j2,hv2⟩:=own_len h.i
 obtain ⟨o3,j3,hv3⟩:=own_len h.f
 obtain ⟨o4,j4,hv4⟩:=h.m.len
 subst hv1 hv2 hv3 hv4
 have S0:=TwoB.new w 34 #[.slice o1 c.pool.length j1,.int .i64 c.flags,.int .i64 c.name,.int .i64 c.super,.slice o2 c.faces.length j2,.slice o3 c.fields.length j3,.slice o4 c.methods.length j4] #[.slice none 0 0,.int .i64 0,.int .i64 0,.int .i64 0,.slice none 0 0,.slice none 0 0,.slice none 0 0]
 have hX:=hI _ S0.b
 have HC:=hid (fun W (hW:Below w.heap.size w W)=>l5CopyFile_any c _ _ _ _ B W hc (h.keep hW))
 obtain ⟨⟨c0,c1,c2,c3,c4,c5,c6⟩,z0,z1,z2,z3,z4,z5,z6⟩:=S0.box.x7
 clear h hI
 go_enter Tryz.func14,Tryz.ntmps14
 go_wp2_with fail
 refine hX.mono ?_
 rintro e w1 ⟨n,rfl,hn,hb1⟩
 have T1:=S0.keep hb1
 have HN:=hid hn
 clear S0 hb1 hX hn c0 c1 c2 c3 c4 c5 c6 z0 z1 z2 z3 z4 z5 z6
 obtain ⟨⟨c0,c1,c2,c3,c4,c5,c6⟩,z0,z1,z2,z3,z4,z5,z6⟩:=T1.box.x7
 by_cases h0:n=0
 ·subst h0
  have hC:=HC.out _ T1.b
  have hml:=hc.methods
  clear HC hc
  go_wp2_with fail
  refine hC.mono ?_
  rintro e w2 ⟨v1,v2,v3,v4,xs,rfl,hcc,hb2⟩
  obtain ⟨p1,k1,rfl⟩:=own_len hcc.p
  obtain ⟨p2,k2,rfl⟩:=own_len hcc.i
  obtain ⟨p3,k3,rfl⟩:=own_len hcc.f
  obtain ⟨p4,k4,rfl⟩:=own_len hcc.m.row
  have T2:=T1.keep hb2
  have hsz1:w.heap.size+2≤w1.heap.size:=by have:=T1.res.lt;omega
  have ha:Below w2.heap.size w2 (w2.alloc (.cells #[.slice p1 c.pool.length k1,.int .i64 c.flags,.int .i64 c.name,.int .i64 c.super,.slice p2 c.faces.length k2,.slice p3 c.fields.length k3,.slice p4 c.methods.length k4] 34)):=(Below.refl _ _).alloc (Nat.le_refl _) _
  have L0:LE w w1.heap.size w2.heap.size (.slice p1 c.pool.length k1) (.slice p2 c.faces.length k2) (.slice p3 c.fields.length k3) (.slice p4 c.methods.length k4) c 0 xs (w2.alloc (.cells #[.slice p1 c.pool.length k1,.int .i64 c.flags,.int .i64 c.name,.int .i64 c.super,.slice p2 c.faces.length k2,.slice p3 c.fields.length k3,.slice p4 c.methods.length k4] 34)):=
   ⟨(T2.keep ha).b,(T2.keep ha).res,Lk.new _ _ _,hcc.keep ha,fun j _ hj=>by omega⟩
  have HXL:=hcc.m.len
  clear hcc hC hb2 T1 T2 ha c0 c1 c2 c3 c4 c5 c6 z0 z1 z2 z3 z4 z5 z6
  obtain ⟨⟨c0,c1,c2,c3,c4,c5,c6⟩,z0,z1,z2,z3,z4,z5,z6⟩:=L0.out.x7
  go_wp2
  go_loopw [4] (fun i wr=>∃ (k:Nat) (ys:List SMethod),k≤c.methods.length∧i=.int .i64 k∧ys.length=c.methods.length∧LE w w1.heap.size w2.heap.size (.slice p1 c.pool.length k1) (.slice p2 c.faces.length k2) (.slice p3 c.fields.length k3) (.slice p4 c.methods.length k4) c k ys wr) (fun i _=>c.methods.length - (intOf i).toNat)
  case atStart=>exact ⟨0,xs,by omega,by first|rfl|go_num,HXL,L0⟩
  case round=>
   obtain ⟨k,ys,hk,rfl,hyl,L⟩:=hrel
   clear L0 c0 c1 c2 c3 c4 c5 c6 z0 z1 z2 z3 z4 z5 z6
   obtain ⟨⟨c0,c1,c2,c3,c4,c5,c6⟩,z0,z1,z2,z3,z4,z5,z6⟩:=L.out.x7
   by_cases hlt:k<c.methods.length
   ·obtain ⟨gm,hg⟩:=own_some L.cc.m.row (by omega)
    subst hg
    obtain ⟨g0,g1,g2,g3,g4,g5,g6,g7⟩:=ownMethod_at L.cc.m.row (k:=k) hyl (by omega)
    obtain ⟨a9,n9,k9,e9⟩:=L.cc.m.fr k (by omega)
    rw [e9] at g7
    have zf:=L.cc.m.row.frozenAt (k*8+7)
    have L1:=L.step hsz1 (show k<ys.length by omega)
    have z5:(k:Int)<(c.methods.length:Int):=by omega
    have HYL:=hid (show (ys.set k { ys[k]'(by omega) with frames:=.slice none 0 0 }).length=c.methods.length by simpa using hyl)
    generalize ys.set k { ys[k]'(by omega) with frames:=.slice none 0 0 }=zs at L1 HYL
    have HL1:=hid L1
    clear L L1 e9 g0 g1 g2 g3 g4 g5 g6
    go_wp2
    go_roundw
    case rel=>exact ⟨k+1,zs,by omega,by go_num,HYL.out,HL1.out⟩
    case measure=>simp [intOf];omega
   ·obtain rfl:k=c.methods.length:=by omega
    obtain ⟨⟨r0,r1,r2,r3,r4,r5,r6⟩,q0,q1,q2,q3,q4,q5,q6⟩:=L.res.x7
    have HL:=hid L
    clear L
    go_wp2
    refine bodyPost_ret (v:=.agg #[.slice p1 c.pool.length k1,.int .i64 c.flags,.int .i64 c.name,.int .i64 c.super,.slice p2 c.faces.length k2,.slice p3 c.fields.length k3,.slice p4 c.methods.length k4]) (by simp [results,Tryz.results14,go_sem, *]) rfl ⟨0,_,_,_,_,ys,HN.out,rfl, ?_, ?_⟩
    ·have s0:=HL.out.cc
     have s1:=s0.set (a:=⟨w.heap.size+1,0,none⟩) (by dsimp only;omega) (.slice p1 c.pool.length k1)
     have s2:=s1.set (a:=⟨w.heap.size+1,1,none⟩) (by dsimp only;omega) (.int .i64 c.flags)
     have s3:=s2.set (a:=⟨w.heap.size+1,2,none⟩) (by dsimp only;omega) (.int .i64 c.name)
     have s4:=s3.set (a:=⟨w.heap.size+1,3,none⟩) (by dsimp only;omega) (.int .i64 c.super)
     have s5:=s4.set (a:=⟨w.heap.size+1,4,none⟩) (by dsimp only;omega) (.slice p2 c.faces.length k2)
     have s6:=s5.set (a:=⟨w.heap.size+1,5,none⟩) (by dsimp only;omega) (.slice p3 c.fields.length k3)
     have s7:=s6.set (a:=⟨w.heap.size+1,6,none⟩) (by dsimp only;omega) (.slice p4 c.methods.length k4)
     exact (s7.mono (show w.heap.size≤w1.heap.size by omega)).less fun j hj=>HL.out.no j hj (by omega)
    ·exact ((((((HL.out.b.setCell (by simp) _).setCell (by simp) _).setCell (by simp) _).setCell (by simp) _).setCell (by simp) _).setCell (by simp) _).setCell (by simp) _
 ·obtain ⟨⟨r0,r1,r2,r3,r4,r5,r6⟩,q0,q1,q2,q3,q4,q5,q6⟩:=T1.res.x7
  have HB:=hid T1.b
  have e1:lessR c n=noneC:=by unfold lessR;rw [if_neg h0]
  clear T1 HC
  go_wp2
  refine bodyPost_ret (v:=.agg #[.slice none 0 0,.int .i64 0,.int .i64 0,.int .i64 0,.slice none 0 0,.slice none 0 0,.slice none 0 0]) (by simp [results,Tryz.results14,go_sem, *]) rfl ⟨n,_,_,_,_,[],HN.out,by rw [e1];rfl,by rw [e1];exact ClA.nothing _ _, ?_⟩
  exact ((((((HB.out.setCell (by simp) _).setCell (by simp) _).setCell (by simp) _).setCell (by simp) _).setCell (by simp) _).setCell (by simp) _).setCell (by simp) _
end Go.Proofs.YtadgoaogkkffmaaGreatDoor
