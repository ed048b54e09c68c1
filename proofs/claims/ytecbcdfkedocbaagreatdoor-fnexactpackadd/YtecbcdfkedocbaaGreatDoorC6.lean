/- The specification's copy of a class; whole. Printed by tools/gen/axspec.py. -/
import Derived.Test.YtecbcdfkedocbaaGreatDoorC5
import Derived.Test.YtecbcdfkedocbaaGreatDoorC3
import Derived.Deep.RegionLaw
namespace Go.Proofs.YtecbcdfkedocbaaGreatDoor
open Mx Go.RowKit
set_option maxHeartbeats 4000000
set_option maxRecDepth 20000
set_option linter.unusedVariables false
theorem one_const (ts:List C4):∀ u∈cellsC ts,u.oneCell'=true:=by
 intro u hu
 unfold cellsC at hu
 obtain ⟨t,_,ht⟩:=List.mem_flatMap.1 hu
 simp [cells4] at ht
 rcases ht with rfl|rfl|rfl|rfl<;>rfl
theorem MX.rowk {W:World} {B k:Nat} {v:Value} {ms:List MMethod} {xs:List SMethod} (h:MX W B v (ms.take k) xs) (hk:k≤ms.length):W.ownsRow B 75 8 v k (rowMethod xs):=by
 have:=h.row
 rwa [List.length_take,Nat.min_eq_left hk] at this
theorem MX.keep {W W':World} {B:Nat} {v:Value} {ms:List MMethod} {xs:List SMethod} (h:MX W B v ms xs) (hb:Below W.heap.size W W'):MX W' B v ms xs:=
 ⟨h.len,own_below h.row hb,fun k a b=>by obtain ⟨vt,vf,e,q⟩:=h.each k a b;exact ⟨vt,vf,e,q.keep hb⟩⟩
theorem MX.low {W:World} {B:Nat} {v:Value} {ms:List MMethod} {xs:List SMethod} (h:MX W B v ms xs) {a:Addr} (ha:a.block<B) (u:Value):MX (W.setCell a u) B v ms xs:=
 ⟨h.len,ownsRow_setCell_below h.row ha u,fun k p q=>by obtain ⟨vt,vf,e,r⟩:=h.each k p q;exact ⟨vt,vf,e,r.set ha u⟩⟩
theorem ClassW.low {W:World} {B:Nat} {vp vi vf vm:Value} {c:MClass} (h:ClassW W B vp vi vf vm c) {a:Addr} (ha:a.block<B) (u:Value):ClassW (W.setCell a u) B vp vi vf vm c:=
 ⟨ownsRow_setCell_below h.p ha u,ownsRow_setCell_below h.i ha u,ownsRow_setCell_below h.f ha u,h.m.set ha u⟩
theorem ClassW.less {W:World} {B B':Nat} {vp vi vf vm:Value} {c:MClass} (h:ClassW W B vp vi vf vm c) (hb:B'≤B):ClassW W B' vp vi vf vm c:=
 ⟨Joins.ownsRow_le h.p hb,Joins.ownsRow_le h.i hb,Joins.ownsRow_le h.f hb,h.m.mono hb⟩
structure CFs (w:World) {cb:Array Value} (o1 o2 o3 o4:Value) (c:MClass) (k:Nat) (xs:List SMethod) (W:World):Prop where
 s:SM w 36 cb #[.slice none 0 0,.int .i64 0,.int .i64 0,.int .i64 0,.slice none 0 0,.slice none 0 0,.slice none 0 0] #[o1,.int .i64 c.flags,.int .i64 c.name,.int .i64 c.super,o2,o3,o4] W
 p:W.ownsRow (w.heap.size+3) 40 4 o1 c.pool.length (cellsC c.pool)
 i:W.ownsRow (w.heap.size+3) 3 1 o2 c.faces.length (rowI c.faces)
 f:W.ownsRow (w.heap.size+3) 79 3 o3 c.fields.length (rowField c.fields)
 m:MX W (w.heap.size+3) o4 (c.methods.take k) xs
theorem CFs.keep {w W W':World} {cb:Array Value} {o1 o2 o3 o4:Value} {c:MClass} {k:Nat} {xs:List SMethod} (h:CFs w (cb:=cb) o1 o2 o3 o4 c k xs W) (hb:Below W.heap.size W W'):CFs w (cb:=cb) o1 o2 o3 o4 c k xs W':=
 ⟨h.s.keep hb,own_below h.p hb,own_below h.i hb,own_below h.f hb,h.m.keep hb⟩
theorem CFs.app {w W W':World} {cb:Array Value} {o1 o2 o3 o4 v' vt vf:Value} {c:MClass} {k H:Nat} {xs:List SMethod} {m:MMethod} {o:Obj} (h:CFs w (cb:=cb) o1 o2 o3 o4 c k xs W) (hk:k<c.methods.length) (hm:c.methods.take (k+1)=c.methods.take k++[m])
  (hm1:MethodW W H vt vf m) (hH:w.heap.size+3≤H)
  (hg:(W.alloc o).grownBy W' o4.ownBlock) (ho:W'.ownsRow (w.heap.size+3) 75 8 v' (k+1) (rowMethod xs++cellsMethod (shM m vt vf))) :
  SM w 36 cb #[.slice none 0 0,.int .i64 0,.int .i64 0,.int .i64 0,.slice none 0 0,.slice none 0 0,.slice none 0 0] #[o1,.int .i64 c.flags,.int .i64 c.name,.int .i64 c.super,o2,o3,o4] W'∧CFs w (cb:=cb) o1 o2 o3 v' c (k+1) (xs++[shM m vt vf]) (W'.setCell ⟨w.heap.size+2,6,none⟩ v'):=by
 have kp:Kp W W' (w.heap.size+3) 75:=Kp.grow h.m.row hg
 have hs:SM w 36 cb #[.slice none 0 0,.int .i64 0,.int .i64 0,.int .i64 0,.slice none 0 0,.slice none 0 0,.slice none 0 0] #[o1,.int .i64 c.flags,.int .i64 c.name,.int .i64 c.super,o2,o3,o4] W':=(h.s.keep ((Below.refl _ _).alloc (Nat.le_refl _) o)).grown hg (fun q hq=>by have:=(h.m.row.lt q hq).1;omega)
 refine ⟨hs,hs.set 6 v' rfl,ownsRow_setCell_below (kp _ _ _ _ _ (by decide) h.p) (by dsimp only;omega) _,ownsRow_setCell_below (kp _ _ _ _ _ (by decide) h.i) (by dsimp only;omega) _,ownsRow_setCell_below (kp _ _ _ _ _ (by decide) h.f) (by dsimp only;omega) _, ?_⟩
 rw [hm]
 refine MX.low ?_ (by dsimp only;omega) _
 exact h.m.snoc ⟨Joins.ownsRow_le hm1.t hH,hm1.f.mono hH⟩ hg (by rw [List.length_take,Nat.min_eq_left (by omega)];exact ho)
theorem l5CopyFile_any (c:MClass) (vp vi vf vm:Value) (B:Nat) (w:World) (hc:c.few) (h:ClassW w B vp vi vf vm c) :
  Calls Tryz.prog 18 #[.agg #[vp,.int .i64 c.flags,.int .i64 c.name,.int .i64 c.super,vi,vf,vm]] w fun e w'=>∃ up ui uf um,e=.returned (.agg #[up,.int .i64 c.flags,.int .i64 c.name,.int .i64 c.super,ui,uf,um])∧ClassW w' w.heap.size up ui uf um c∧Below w.heap.size w w':=by
 obtain ⟨o1,j1,hv1⟩:=own_len h.p
 obtain ⟨o2,j2,hv2⟩:=own_len h.i
 obtain ⟨o3,j3,hv3⟩:=own_len h.f
 obtain ⟨o4,j4,hv4⟩:=h.m.len
 subst hv1 hv2 hv3 hv4
 have S0:=SM.new w 36 #[.slice o1 c.pool.length j1,.int .i64 c.flags,.int .i64 c.name,.int .i64 c.super,.slice o2 c.faces.length j2,.slice o3 c.fields.length j3,.slice o4 c.methods.length j4] #[.slice none 0 0,.int .i64 0,.int .i64 0,.int .i64 0,.slice none 0 0,.slice none 0 0,.slice none 0 0] #[.slice o1 c.pool.length j1,.int .i64 c.flags,.int .i64 c.name,.int .i64 c.super,.slice o2 c.faces.length j2,.slice o3 c.fields.length j3,.slice o4 c.methods.length j4]
 have hp0:=own_below h.p S0.b
 have HI:=hid (fun W (hW:Below w.heap.size w W)=>own_below h.i hW)
 have HF:=hid (fun W (hW:Below w.heap.size w W)=>own_below h.f hW)
 obtain ⟨zs,hyl,hyo,hye⟩:=h.m
 have HO:=hid hyo
 have HYL:=hid hyl
 have HC:=hid (fun k (hk:k<c.methods.length) (hk':k<zs.length)=>show ∃ a5 k5 a6 k6,zs[k]=shM c.methods[k] (.slice a5 c.methods[k].traps.length k5) (.slice a6 c.methods[k].frames.length k6)∧∀ W,Below w.heap.size w W→Calls Tryz.prog 45 #[.agg #[.int .i64 c.methods[k].flags,.int .i64 c.methods[k].name,.int .i64 c.methods[k].desc,.int .i64 c.methods[k].deep,.int .i64 c.methods[k].locals,.string c.methods[k].code,.slice a5 c.methods[k].traps.length k5,.slice a6 c.methods[k].frames.length k6]] W (fun e w'=>∃ b5 j5 b6 j6,e=.returned (.agg #[.int .i64 c.methods[k].flags,.int .i64 c.methods[k].name,.int .i64 c.methods[k].desc,.int .i64 c.methods[k].deep,.int .i64 c.methods[k].locals,.string c.methods[k].code,.slice b5 c.methods[k].traps.length j5,.slice b6 c.methods[k].frames.length j6])∧MethodW w' W.heap.size (.slice b5 c.methods[k].traps.length j5) (.slice b6 c.methods[k].frames.length j6) c.methods[k]∧Below W.heap.size W w') from by
  obtain ⟨vt,vf,he,hw⟩:=hye k hk hk'
  obtain ⟨a5,k5,e1⟩:=own_len hw.t
  obtain ⟨a6,k6,e2⟩:=hw.f.len
  subst e1 e2
  exact ⟨a5,k5,a6,k6,he,fun W hW=>l5CopyMethod_any _ _ _ _ _ B W (hc.each _ (List.getElem_mem hk)) (hw.keep hW)⟩)
 have hpl:=hc.pool
 have hil:=hc.faces
 have hfl:=hc.fields
 have hml:=hc.methods
 obtain ⟨iP,hP,hP0,hP1,hP2⟩:=info_parts infoConst
 obtain ⟨iI,hI,hI0,hI1,hI2⟩:=info_parts infoInt
 obtain ⟨iF,hF,hF0,hF1,hF2⟩:=info_parts infoField
 obtain ⟨iM,hM,hM0,hM1,hM2⟩:=info_parts infoMethod
 obtain ⟨⟨c0,c1,c2,c3,c4,c5,c6⟩,z0,z1,z2,z3,z4,z5,z6⟩:=S0.box.x7
 obtain ⟨⟨d0,d1,d2,d3,d4,d5,d6⟩,e0,e1,e2,e3,e4,e5,e6⟩:=S0.out.x7
 clear h hc hyo hyl hye
 go_enter Tryz.func18,Tryz.ntmps18
 go_wp2_with (at_builtin;go_loud (refine app_copy _ rfl _ _ 32 rfl 40 iP (.agg #[.int .i64 0,.string ⟨#[]⟩,.int .i64 0,.int .i64 0]) 4 40 Tryz.underlying32 hP hP0 hP1 hP2 rfl (by decide) (by decide) _ (by simp) rfl (.slice o1 c.pool.length j1) c.pool.length B (cellsC c.pool) rfl hp0 (one_const _) hpl ?_))
 intro v1 w1 ho1 hb1
 obtain ⟨p1,k1,rfl⟩:=own_len ho1
 replace hb1:=below_sz hb1 (by simp)
 have T1:=S0.keep hb1
 have R1:=hid (show w1.ownsRow (w.heap.size+3) 40 4 (.slice p1 c.pool.length k1) c.pool.length (cellsC c.pool) from Joins.ownsRow_le ho1 (by omega))
 clear S0 hb1 ho1 hp0 c0 c1 c2 c3 c4 c5 c6 z0 z1 z2 z3 z4 z5 z6 d0 d1 d2 d3 d4 d5 d6 e0 e1 e2 e3 e4 e5 e6
 obtain ⟨⟨c0,c1,c2,c3,c4,c5,c6⟩,z0,z1,z2,z3,z4,z5,z6⟩:=T1.box.x7
 obtain ⟨⟨d0,d1,d2,d3,d4,d5,d6⟩,e0,e1,e2,e3,e4,e5,e6⟩:=T1.out.x7
 have S1:=T1.set (z':=#[.slice p1 c.pool.length k1,.int .i64 c.flags,.int .i64 c.name,.int .i64 c.super,.slice o2 c.faces.length j2,.slice o3 c.fields.length j3,.slice o4 c.methods.length j4]) 0 (.slice p1 c.pool.length k1) rfl
 have Q1:=hid (ownsRow_setCell_below R1.out (a:=⟨w.heap.size+2,0,none⟩) (by simp) (.slice p1 c.pool.length k1))
 have hi1:=HI.out _ S1.b
 have hs1:w.heap.size+3≤w1.heap.size:=by have:=T1.out.lt;omega
 have ha1:w.heap.size<w1.heap.size:=by omega
 have hb1':w.heap.size+1+1<w1.heap.size:=by omega
 clear T1 R1 HI
 go_wp2_with (at_builtin;go_loud (refine app_copy _ rfl _ _ 23 rfl 3 iI (.int .i64 0) 1 8 Tryz.underlying23 hI hI0 hI1 hI2 rfl (by decide) (by decide) _ (by simp) rfl (.slice o2 c.faces.length j2) c.faces.length B (rowI c.faces) rfl hi1 (one_int _) hil ?_))
 intro v2 w2 ho2 hb2
 obtain ⟨p2,k2,rfl⟩:=own_len ho2
 replace hb2:=below_sz hb2 (by simp)
 have T2:=S1.keep hb2
 have R1:=hid (own_below Q1.out hb2)
 have R2:=hid (show w2.ownsRow (w.heap.size+3) 3 1 (.slice p2 c.faces.length k2) c.faces.length (rowI c.faces) from Joins.ownsRow_le ho2 (by omega))
 clear S1 hb2 ho2 hi1 Q1 c0 c1 c2 c3 c4 c5 c6 z0 z1 z2 z3 z4 z5 z6 d0 d1 d2 d3 d4 d5 d6 e0 e1 e2 e3 e4 e5 e6
 obtain ⟨⟨c0,c1,c2,c3,c4,c5,c6⟩,z0,z1,z2,z3,z4,z5,z6⟩:=T2.box.x7
 obtain ⟨⟨d0,d1,d2,d3,d4,d5,d6⟩,e0,e1,e2,e3,e4,e5,e6⟩:=T2.out.x7
 have S2:=T2.set (z':=#[.slice p1 c.pool.length k1,.int .i64 c.flags,.int .i64 c.name,.int .i64 c.super,.slice p2 c.faces.length k2,.slice o3 c.fields.length j3,.slice o4 c.methods.length j4]) 4 (.slice p2 c.faces.length k2) rfl
 have Q1:=hid (ownsRow_setCell_below R1.out (a:=⟨w.heap.size+2,4,none⟩) (by simp) (.slice p2 c.faces.length k2))
 have Q2:=hid (ownsRow_setCell_below R2.out (a:=⟨w.heap.size+2,4,none⟩) (by simp) (.slice p2 c.faces.length k2))
 have hf2:=HF.out _ S2.b
 have hs2:w.heap.size+3≤w2.heap.size:=by have:=T2.out.lt;omega
 have ha2:w.heap.size<w2.heap.size:=by omega
 have hb2':w.heap.size+1+1<w2.heap.size:=by omega
 clear T2 R1 R2 HF
 go_wp2_with (at_builtin;go_loud (refine app_copy _ rfl _ _ 33 rfl 79 iF (.agg #[.int .i64 0,.int .i64 0,.int .i64 0]) 3 24 Tryz.underlying33 hF hF0 hF1 hF2 rfl (by decide) (by decide) _ (by simp) rfl (.slice o3 c.fields.length j3) c.fields.length B (rowField c.fields) rfl hf2 (one_field _) hfl ?_))
 intro v3 w3 ho3 hb3
 obtain ⟨p3,k3,rfl⟩:=own_len ho3
 replace hb3:=below_sz hb3 (by simp)
 have T3:=S2.keep hb3
 have R1:=hid (own_below Q1.out hb3)
 have R2:=hid (own_below Q2.out hb3)
 have R3:=hid (show w3.ownsRow (w.heap.size+3) 79 3 (.slice p3 c.fields.length k3) c.fields.length (rowField c.fields) from Joins.ownsRow_le ho3 (by omega))
 clear S2 hb3 ho3 hf2 Q1 Q2 c0 c1 c2 c3 c4 c5 c6 z0 z1 z2 z3 z4 z5 z6 d0 d1 d2 d3 d4 d5 d6 e0 e1 e2 e3 e4 e5 e6
 obtain ⟨⟨c0,c1,c2,c3,c4,c5,c6⟩,z0,z1,z2,z3,z4,z5,z6⟩:=T3.box.x7
 obtain ⟨⟨d0,d1,d2,d3,d4,d5,d6⟩,e0,e1,e2,e3,e4,e5,e6⟩:=T3.out.x7
 have S3:=(T3.set (z':=#[.slice p1 c.pool.length k1,.int .i64 c.flags,.int .i64 c.name,.int .i64 c.super,.slice p2 c.faces.length k2,.slice p3 c.fields.length k3,.slice o4 c.methods.length j4]) 5 (.slice p3 c.fields.length k3) rfl).set (z':=#[.slice p1 c.pool.length k1,.int .i64 c.flags,.int .i64 c.name,.int .i64 c.super,.slice p2 c.faces.length k2,.slice p3 c.fields.length k3,.slice none 0 0]) 6 (.slice none 0 0) rfl
 have Q1:=ownsRow_setCell_below (ownsRow_setCell_below R1.out (a:=⟨w.heap.size+2,5,none⟩) (by simp) (.slice p3 c.fields.length k3)) (a:=⟨w.heap.size+2,6,none⟩) (by simp) (.slice none 0 0)
 have Q2:=ownsRow_setCell_below (ownsRow_setCell_below R2.out (a:=⟨w.heap.size+2,5,none⟩) (by simp) (.slice p3 c.fields.length k3)) (a:=⟨w.heap.size+2,6,none⟩) (by simp) (.slice none 0 0)
 have Q3:=ownsRow_setCell_below (ownsRow_setCell_below R3.out (a:=⟨w.heap.size+2,5,none⟩) (by simp) (.slice p3 c.fields.length k3)) (a:=⟨w.heap.size+2,6,none⟩) (by simp) (.slice none 0 0)
 have CS0:=hid (show CFs w (cb:=#[.slice o1 c.pool.length j1,.int .i64 c.flags,.int .i64 c.name,.int .i64 c.super,.slice o2 c.faces.length j2,.slice o3 c.fields.length j3,.slice o4 c.methods.length j4]) (.slice p1 c.pool.length k1) (.slice p2 c.faces.length k2) (.slice p3 c.fields.length k3) (.slice none 0 0) c 0 [] _ from ⟨S3,Q1,Q2,Q3,MX.nil _ _⟩)
 clear S3 Q1 Q2 Q3 T3 R1 R2 R3
 go_wp2
 go_loopw [4] (fun i wr=>∃ (k:Nat) (v:Value) (xs:List SMethod),k≤c.methods.length∧i=.int .i64 k∧Hid (CFs w (cb:=#[.slice o1 c.pool.length j1,.int .i64 c.flags,.int .i64 c.name,.int .i64 c.super,.slice o2 c.faces.length j2,.slice o3 c.fields.length j3,.slice o4 c.methods.length j4]) (.slice p1 c.pool.length k1) (.slice p2 c.faces.length k2) (.slice p3 c.fields.length k3) v c k xs wr)) (fun i _=>c.methods.length - (intOf i).toNat)
 case atStart=>exact ⟨0,.slice none 0 0,[],by omega,by first|rfl|go_num,CS0⟩
 case round=>
  obtain ⟨k,v,xs,hk,rfl,S⟩:=hrel
  clear CS0 c0 c1 c2 c3 c4 c5 c6 z0 z1 z2 z3 z4 z5 z6 d0 d1 d2 d3 d4 d5 d6 e0 e1 e2 e3 e4 e5 e6
  obtain ⟨ao,cap,rfl⟩:=own_len (S.out.m.rowk hk)
  obtain ⟨⟨c0,c1,c2,c3,c4,c5,c6⟩,z0,z1,z2,z3,z4,z5,z6⟩:=S.out.s.box.x7
  by_cases hlt:k<c.methods.length
  ·obtain ⟨g,hg⟩:=own_some HO.out (by omega)
   subst hg
   have hky:k<zs.length:=by rw [HYL.out];exact hlt
   have SD:=S.out.keep (show Below _ _ _ from (Below.refl _ _).drew)
   obtain ⟨g0,g1,g2,g3,g4,g5,g6,g7⟩:=ownMethod_at (own_below HO.out SD.s.b) (k:=k) HYL.out hky
   have hgl:=((own_below HO.out SD.s.b).lt g rfl).2
   obtain ⟨a5,k5,a6,k6,he,hC0⟩:=HC.out k hlt hky
   rw [he] at g0 g1 g2 g3 g4 g5 g6 g7
   simp only [shM] at g0 g1 g2 g3 g4 g5 g6 g7
   have hC:=hC0 _ SD.s.b
   have hTK:c.methods.take (k+1)=c.methods.take k++[c.methods[k]]:=List.take_succ_eq_append_getElem hlt
   have how:=SD.m.rowk hk
   have hsz:w.heap.size+3≤wr.drew.heap.size:=by have:=SD.s.out.lt;omega
   generalize c.methods[k]=m at g0 g1 g2 g3 g4 g5 g6 g7 hC hTK
   have z5:(k:Int)<(c.methods.length:Int):=by omega
   clear he hC0
   go_upto_region 9 with fail
   clear c0 c1 c2 c3 c4 c5 c6 z0 z1 z2 z3 z4 z5 z6
   obtain ⟨⟨c0,c1,c2,c3,c4,c5,c6⟩,z0,z1,z2,z3,z4,z5,z6⟩:=SD.s.box.x7
   obtain ⟨⟨d0,d1,d2,d3,d4,d5,d6⟩,e0,e1,e2,e3,e4,e5,e6⟩:=SD.s.out.x7
   go_region_law (first
    | (go_simp;go_at_call 45;refine hC.mono ?_;rintro e w9 ⟨b5,j5,b6,j6,rfl,ht9,hb9⟩;have S9:=SD.keep hb9;have how9:=S9.m.rowk hk;have hsz9:w.heap.size+3≤w9.heap.size:=Nat.le_trans hsz hb9.size;have hal9:∀ o,(w9.alloc o).cell? ⟨w.heap.size+2,6,none⟩=some (.slice ao k cap):=(fun o=>(S9.s.out.alloc o).c 6 _ rfl);obtain ⟨⟨_,_,_,_,_,_,m69⟩,_,_,_,_,_,_,z69⟩:=S9.s.out.x7)
    | (refine step_append_lies _ rfl (.tmp 30) (.tmp 37) 34 rfl (w.heap.size+3) 75 iM (.agg #[.int .i64 0,.int .i64 0,.int .i64 0,.int .i64 0,.int .i64 0,.string ⟨#[]⟩,.slice none 0 0,.slice none 0 0]) 8 104 Tryz.underlying34 hM hM0 hM1 hM2 rfl (by decide) _ _ _ rfl (World.ownsRow.alloc (by assumption) _) _ 1 1 _ rfl (by rfl) (World.news_of_block (heap_alloc_new _ _)) (by intro u hu;simp at hu;rcases hu with rfl|rfl|rfl|rfl|rfl|rfl|rfl|rfl<;>rfl) (by omega) (by unfold maxLen;omega) (by omega) (by simp;omega) _ rfl ?_;intro g9 cap9 w8 hown9 hgrow9 hat9 hlt9;have hboth:=CFs.app S9 hlt hTK ht9 hsz hgrow9 hown9;obtain ⟨⟨_,_,_,_,_,_,m68⟩,_,_,_,_,_,_,z68⟩:=hboth.1.out.x7))
   all_goals
    have S4:=hid hboth.2
    clear hboth hown9 hgrow9 hat9 hlt9 how9 hal9 S9 ht9 hsz9 m69 z69 m68 z68 SD how hTK c0 c1 c2 c3 c4 c5 c6 z0 z1 z2 z3 z4 z5 z6 d0 d1 d2 d3 d4 d5 d6 e0 e1 e2 e3 e4 e5 e6 g0 g1 g2 g3 g4 g5 g6 g7
    go_wp2
    go_roundw
    case rel=>exact ⟨k+1,_,_,by omega,by go_num,S4⟩
    case measure=>simp [intOf];omega
  ·obtain rfl:k=c.methods.length:=by omega
   obtain ⟨⟨d0,d1,d2,d3,d4,d5,d6⟩,e0,e1,e2,e3,e4,e5,e6⟩:=S.out.s.out.x7
   obtain ⟨⟨r0,r1,r2,r3,r4,r5,r6⟩,q0,q1,q2,q3,q4,q5,q6⟩:=S.out.s.res.x7
   have HB3:=hid S.out.s.b
   have HCC:=hid (show ClassW wr (w.heap.size+3) (.slice p1 c.pool.length k1) (.slice p2 c.faces.length k2) (.slice p3 c.fields.length k3) (.slice ao c.methods.length cap) c from ⟨S.out.p,S.out.i,S.out.f,by have:=S.out.m.all;rwa [List.take_length] at this⟩)
   clear S
   go_wp2
   refine bodyPost_ret (v:=.agg #[.slice p1 c.pool.length k1,.int .i64 c.flags,.int .i64 c.name,.int .i64 c.super,.slice p2 c.faces.length k2,.slice p3 c.fields.length k3,(.slice ao c.methods.length cap)]) (by simp [results,Tryz.results18,go_sem, *]) rfl ⟨_,_,_,_,rfl, ?_, ?_⟩
   ·have s0:=HCC.out
    have s1:=s0.low (a:=⟨w.heap.size+1,0,none⟩) (by simp) (.slice p1 c.pool.length k1)
    have s2:=s1.low (a:=⟨w.heap.size+1,1,none⟩) (by simp) (.int .i64 c.flags)
    have s3:=s2.low (a:=⟨w.heap.size+1,2,none⟩) (by simp) (.int .i64 c.name)
    have s4:=s3.low (a:=⟨w.heap.size+1,3,none⟩) (by simp) (.int .i64 c.super)
    have s5:=s4.low (a:=⟨w.heap.size+1,4,none⟩) (by simp) (.slice p2 c.faces.length k2)
    have s6:=s5.low (a:=⟨w.heap.size+1,5,none⟩) (by simp) (.slice p3 c.fields.length k3)
    have s7:=s6.low (a:=⟨w.heap.size+1,6,none⟩) (by simp) (.slice ao c.methods.length cap)
    exact s7.less (by omega)
   ·exact ((((((HB3.out.setCell (by simp) _).setCell (by simp) _).setCell (by simp) _).setCell (by simp) _).setCell (by simp) _).setCell (by simp) _).setCell (by simp) _
end Go.Proofs.YtecbcdfkedocbaaGreatDoor
