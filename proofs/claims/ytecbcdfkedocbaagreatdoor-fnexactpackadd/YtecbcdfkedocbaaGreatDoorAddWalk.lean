/- The law FnExactPackAdd, walked. Printed by tools/gen/addwalk.py. -/
import Derived.Test.YtecbcdfkedocbaaGreatDoorC9
import Derived.Test.YtecbcdfkedocbaaGreatDoorC8
import Derived.Test.YtecbcdfkedocbaaGreatDoorM2
import Derived.Test.YtecbcdfkedocbaaGreatDoorM6
import Derived.Test.YtecbcdfkedocbaaGreatDoorG02
import Derived.Test.YtecbcdfkedocbaaGreatDoorK12
import Derived.Deep.Slices
namespace Go.Proofs.YtecbcdfkedocbaaGreatDoor.fnExactPackAdd
open Go.ChangeShapes Go.WideShapes Go.ChangeAt Go.RowKit
open Mx Fm
set_option linter.unusedVariables false
set_option maxHeartbeats 1500000
set_option maxRecDepth 20000
theorem of_first {p1 p2 p3 p4 p5 p6:Prop} (h:firstP p1 p2 p3 p4 p5 p6 0):p1∧p3:=by
 unfold firstP at h
 rcases h with h|h|h|h|h|h|h
 ·exact absurd h.2 (by decide)
 ·exact absurd h.2.2 (by decide)
 ·exact absurd h.2.2.2 (by decide)
 all_goals exact ⟨h.1,h.2.2.1⟩
theorem pool_pos {ts:List C4} {i:Int} (h:(atC ts i).kind=2):0<ts.length:=by
 cases ts with
 | nil=>exact absurd h (by unfold atC;rw [if_neg (by simp;omega)];decide)
 | cons a l=>simp
theorem posS {c:MClass} {p2 p4 p5 p6:Prop} (h:firstP (fileP c) p2 (headP c) p4 p5 p6 0):0<c.pool.length∧c.pool.length≤60:=by
 obtain ⟨h1,h2⟩:=of_first h
 refine ⟨pool_pos (i:=c.name) ?_,fine_pool h1.1⟩
 have:=h2.nm
 unfold clsC at this
 simp at this
 exact this.1
theorem posI {c:MClass} {p2 p4 p5 p6:Prop} (h:firstP (fileP c) p2 (headNI c∧headFI c) p4 p5 p6 0):0<c.pool.length∧c.pool.length≤60:=by
 obtain ⟨h1,h2⟩:=of_first h
 exact ⟨pool_pos h2.1.nm,fine_pool h1.1⟩
def SpecD (c:MClass) (t:C4) (d:MClass) (p:Int):Prop:=∃ n,firstP (fileP c) (poolC c.pool=0) (headP c) (fieldsP c) (methodsP c) (codesP c) n∧AddOut c t n d p
def ImplD (c:MClass) (t:C4) (d:MClass) (p:Int):Prop:=∃ n,firstP (fileP c) (poolC c.pool=0) (headNI c∧headFI c) (fieldsI c) (methodsI c) (codesI c) n∧AddOut c t n d p
theorem specAddD (c:MClass) (t:C4) (vp vi vf vm:Value) (B:Nat) (w:World) (hc:c.few) (ht:t.text.size≤1048576) (h:ClassW w B vp vi vf vm c) :
  Calls Tryz.prog 6 #[.agg #[vp,.int .i64 c.flags,.int .i64 c.name,.int .i64 c.super,vi,vf,vm],.agg (arr4 t)] w fun e w'=>∃ (d:MClass) (p:Int) (up ui uf um:Value),SpecD c t d p∧e=.returned (.tuple #[.agg #[up,.int .i64 d.flags,.int .i64 d.name,.int .i64 d.super,ui,uf,um],.int .i64 p])∧ClassW w' w.heap.size up ui uf um d∧Below w.heap.size w w':=
 (specAdd_any c t _ _ _ _ _ w _ hc ht h (fun hq=>posS hq) (fun W hW=>specClassCheck_any c _ _ _ _ _ W hc (h.keep hW))).mono (by
  rintro e w' ⟨n,d,p,up,ui,uf,um,hq,ha,rfl,hcl,hb⟩
  exact ⟨_,_,_,_,_,_,⟨n,hq,ha⟩,rfl,hcl,hb⟩)
theorem implAddD (c:MClass) (t:C4) (vp vi vf vm:Value) (B:Nat) (w:World) (hc:c.few) (ht:t.text.size≤1048576) (h:ClassW w B vp vi vf vm c) (hT:Tab w) (hE:ErrW w) :
  Calls Tryz.prog 9 #[.agg #[vp,.int .i64 c.flags,.int .i64 c.name,.int .i64 c.super,vi,vf,vm],.agg (arr4 t)] w fun e w'=>∃ (d:MClass) (p:Int) (up ui uf um:Value) (xs:List SMethod) (ys:List (List SFrame)),ImplD c t d p∧e=.returned (.tuple #[.agg #[up,.int .i64 d.flags,.int .i64 d.name,.int .i64 d.super,ui,uf,um],.int .i64 p])∧ClA w' w.heap.size up ui uf um d xs ys∧Below w.heap.size w w':=
 (implAdd_any c t _ _ _ _ _ w _ hc ht h (fun hq=>posI hq) (fun W hW=>implClassCheck_any c _ _ _ _ _ W hc (hT.keep hW hT.1) (hE.keep hW) (h.keep hW))).mono (by
  rintro e w' ⟨n,d,p,up,ui,uf,um,xs,ys,hq,ha,rfl,hcl,hb⟩
  exact ⟨_,_,_,_,_,_,_,_,⟨n,hq,ha⟩,rfl,hcl,hb⟩)
theorem add_join {c d d':MClass} {t:C4} {p p':Int} (h1:ImplD c t d' p') (h2:SpecD c t d p):d=d'∧p=p':=by
 obtain ⟨n,h1,a1⟩:=h1
 obtain ⟨k,h2,a2⟩:=h2
 obtain rfl:=form_join h1 h2
 exact a2.one a1
theorem SpecD.few {c d:MClass} {t:C4} {p:Int} (h:SpecD c t d p) (hc:c.few) (ht:t.text.size≤1048576):d.few:=by
 obtain ⟨n,h1,a1⟩:=h
 exact a1.few hc ht
theorem SpecD.short {c d:MClass} {t:C4} {p:Int} (h:SpecD c t d p):shortC d:=by
 obtain ⟨n,h1,a1⟩:=h
 exact a1.short (fun h0=>by subst h0;exact (of_first h1).1.1)
theorem ClA.chg {W W':World} {B b k:Nat} {vp vi vf vm:Value} {c:MClass} {xs:List SMethod} {ys:List (List SFrame)} (h:ClA W B vp vi vf vm c xs ys) (g:Chg b k W W') (hk:k≤B):ClA W' B vp vi vf vm c xs ys:=by
 have kp:Kp W W' B 0:=fun e z v n xs _ ho=>g.own ho (fun q hq=>.inr (by have:=(ho.lt q hq).1;omega))
 exact h.kp kp (by decide) (by decide) (by decide) (by decide) (by decide) (by decide) (by decide)
theorem walk (c:MClass) (t:C4) (ap:Option Addr) (lp cp:Nat) (ai:Option Addr) (li ci:Nat) (af:Option Addr) (lf cf:Nat) (am:Option Addr) (lm cm:Nat) (w:World) (hT:Tab w) (hE:ErrW w) (hA:ArgCl w ap lp ai li af lf am lm c) (ht:t.text.size≤maxLen) :
  Calls Tryz.prog 3 #[.agg #[.slice ap lp cp,.int .i64 c.flags,.int .i64 c.name,.int .i64 c.super,.slice ai li ci,.slice af lf cf,.slice am lm cm],.agg (arr4 t)] w fun e w'=>e=.returned (.bool true)∧Below w.heap.size w w':=by
 have P0:=AP.new w (arrC (.slice ap lp cp) c.flags c.name c.super (.slice ai li ci) (.slice af lf cf) (.slice am lm cm)) (arr4 t)
 have hsz:=szClassN_any c ap lp cp ai li ci af lf cf am lm cm _ (hA.keep P0.old)
 have HA:=hid hA
 have HT:=hid (fun W (hW:Below w.heap.size w W)=>hT.keep hW hT.1)
 have HE:=hid (fun W (hW:Below w.heap.size w W)=>hE.keep hW)
 have HZ:=hid (fun n W h1 h2=>szConst_any t n W h1 h2 ht)
 clear hA hT hE ht
 go_enter Tryz.func3,Tryz.ntmps3
 go_wp2_with fail
 refine hsz.mono ?_
 rintro e w0 ⟨n,rfl,hn,hb0⟩
 have P1:=P0.keep hb0
 clear P0 hb0 hsz
 by_cases hneg:n<0
 ·have HO:=hid P1.old
  clear hn P1 HZ
  go_wp2
  go_ret
  exact ⟨rfl,HO.out⟩
 obtain ⟨hc,n0,n1⟩:=hn.resolve_left hneg
 have HC:=hid hc
 have HTO:=hid (fun W (hW:Below w.heap.size w W)=>toClass_any c ap lp cp ai li ci af lf cf am lm cm W (HA.out.keep hW) hc)
 have hzn:=HZ.out n w0 n0 n1
 obtain ⟨⟨e0,e1,e2,e3⟩,_⟩:=P1.le.x4
 clear hn hc HZ
 by_cases htx:(t.text.size:Int)≤n
 rotate_left
 ·simp only [htx,if_false] at hzn
  go_wp2_with fail
  refine hzn.mono ?_
  rintro e w1 ⟨rfl,hb1⟩
  have HO:=hid (P1.keep hb1).old
  clear P1 hb1 hzn e0 e1 e2 e3
  go_wp2
  go_ret
  exact ⟨rfl,HO.out⟩
 simp only [htx,if_true] at hzn
 have ht:t.text.size≤1048576:=by omega
 have HTX:=hid ht
 go_wp2_with fail
 refine hzn.mono ?_
 rintro e w1 ⟨rfl,hb1⟩
 have P2:=P1.keep hb1
 have hm0:¬n - (t.text.size:Int)<0:=by omega
 have HCo:=hid (fun W=>toConst_any t W)
 have HS:=hid (fun W vp vi vf vm B (hy:ClassW W B vp vi vf vm c)=>specAddD c t vp vi vf vm B W HC.out HTX.out hy)
 have HD:=hid (fun W (hW:Below w1.heap.size w1 W)=>show AP w (arrC (.slice ap lp cp) c.flags c.name c.super (.slice ai li ci) (.slice af lf cf) (.slice am lm cm)) (arr4 t) W from P2.keep hW)
 have z1:w.heap.size+2≤w1.heap.size:=by have:=P2.le.lt;omega
 have HDS:=hid (fun W (hW:Below w1.heap.size w1 W)=>show Below w1.heap.size w1 W∧W.cell? ⟨w.heap.size,0,none⟩=some (.slice ap lp cp)∧W.cell? ⟨w.heap.size,1,none⟩=some (.int .i64 c.flags)∧W.cell? ⟨w.heap.size,2,none⟩=some (.int .i64 c.name)∧W.cell? ⟨w.heap.size,3,none⟩=some (.int .i64 c.super)∧W.cell? ⟨w.heap.size,4,none⟩=some (.slice ai li ci)∧W.cell? ⟨w.heap.size,5,none⟩=some (.slice af lf cf)∧W.cell? ⟨w.heap.size,6,none⟩=some (.slice am lm cm)∧W.cell? ⟨w.heap.size+1,0,none⟩=some (.int .i64 t.kind)∧W.cell? ⟨w.heap.size+1,1,none⟩=some (.string t.text)∧W.cell? ⟨w.heap.size+1,2,none⟩=some (.int .i64 t.a)∧W.cell? ⟨w.heap.size+1,3,none⟩=some (.int .i64 t.b) from by
   have P:=HD.out W hW;obtain ⟨⟨c0,c1,c2,c3,c4,c5,c6⟩,_⟩:=P.lk.c7;obtain ⟨⟨e0,e1,e2,e3⟩,_⟩:=P.le.x4
   exact ⟨hW,by assumption,by assumption,by assumption,by assumption,by assumption,by assumption,by assumption,by assumption,by assumption,by assumption,by assumption⟩)
 have hdr:Below w1.heap.size w1 w1.drew:=(Below.refl _ _).drew
 clear P1 hb1 hzn e0 e1 e2 e3 ht P2 htx n0 n1
 go_upto_region 8 with fail
 go_cut [6,7] (fun q pv wc=>∃ (d:MClass) (p:Int) (C:Nat) (u1 u2 u3 u4:Value),q=.pointer (some ⟨C,0,none⟩)∧pv=.int .i64 p∧Hid (SpecD c t d p)∧Hid (VB w1 (fun W=>∃ B,ClassW W B u1 u2 u3 u4 d) C #[u1,.int .i64 d.flags,.int .i64 d.name,.int .i64 d.super,u2,u3,u4] wc))
 case first=>
  go_region_held (fun w'=>Below w1.heap.size w1 w'∧w'.cell? ⟨w.heap.size,0,none⟩=some (.slice ap lp cp)∧w'.cell? ⟨w.heap.size,1,none⟩=some (.int .i64 c.flags)∧w'.cell? ⟨w.heap.size,2,none⟩=some (.int .i64 c.name)∧w'.cell? ⟨w.heap.size,3,none⟩=some (.int .i64 c.super)∧w'.cell? ⟨w.heap.size,4,none⟩=some (.slice ai li ci)∧w'.cell? ⟨w.heap.size,5,none⟩=some (.slice af lf cf)∧w'.cell? ⟨w.heap.size,6,none⟩=some (.slice am lm cm)∧w'.cell? ⟨w.heap.size+1,0,none⟩=some (.int .i64 t.kind)∧w'.cell? ⟨w.heap.size+1,1,none⟩=some (.string t.text)∧w'.cell? ⟨w.heap.size+1,2,none⟩=some (.int .i64 t.a)∧w'.cell? ⟨w.heap.size+1,3,none⟩=some (.int .i64 t.b)) (first|(refine HDS.out _ ?_;first
   | with_reducible assumption
   | with_reducible exact Below.al (And.left (by with_reducible assumption)) _
   | with_reducible exact Below.al (by with_reducible assumption) _
   | with_reducible exact Below.drew (Below.al (Below.refl _ _) _)
   | with_reducible exact Below.al (Below.refl _ _) _
   | (repeat' (first|with_reducible assumption|refine Below.setCell ?_ (by dsimp only;first|exact Nat.le_refl _|omega|(simp;omega)) _))
   | go_grown)) (first
   | (go_at_call 7;refine (HTO.out _ (HD.out _ (And.left (by assumption))).old).mono ?_;rintro e wa ⟨vpa,via,vfa,vma,rfl,hoa,hba⟩;have hXa:Below w1.heap.size w1 wa:=Below.ext (And.left (by assumption)) hba;have za:=hXa.size)
   | (go_at_call 8;refine (HCo.out _).mono ?_;rintro e wb ⟨rfl,hbb⟩;have hXb:Below w1.heap.size w1 wb:=Below.ext (And.left (by assumption)) hbb;have zb:=hXb.size)
   | (go_at_call 6;refine (HS.out _ _ _ _ _ _ (by first|exact hoa.keep hbb|exact (hoa.keep (Below.new _ _)).keep hbb|exact (hoa.keep hbb).keep (Below.new _ _))).mono ?_;rintro e w2 ⟨d,p,u1,u2,u3,u4,hq,rfl,hcl,hb2⟩;obtain ⟨o1,j1,rfl⟩:=own_len hcl.p;obtain ⟨o2,j2,rfl⟩:=own_len hcl.i;obtain ⟨o3,j3,rfl⟩:=own_len hcl.f;obtain ⟨o4,j4,rfl⟩:=hcl.m.len;have hX2:Below w1.heap.size w1 w2:=Below.ext (And.left (by assumption)) hb2;have z2:=hX2.size;(first|(have hLv:Lk w2 w1.heap.size #[.slice none 0 0,.int .i64 0,.int .i64 0,.int .i64 0,.slice none 0 0,.slice none 0 0,.slice none 0 0] 36:=(by refine Lk.keep (Lk.keep (Lk.keep ?_ hba) hbb) hb2;exact Lk.new _ _ _);obtain ⟨⟨vv0,vv1,vv2,vv3,vv4,vv5,vv6⟩,ww0,ww1,ww2,ww3,ww4,ww5,ww6⟩:=hLv.x7)|(have hLv:Lk w2 wa.heap.size #[.slice none 0 0,.int .i64 0,.int .i64 0,.int .i64 0,.slice none 0 0,.slice none 0 0,.slice none 0 0] 36:=(by refine Lk.keep (Lk.keep ?_ hbb) hb2;exact Lk.new _ _ _);obtain ⟨⟨vv0,vv1,vv2,vv3,vv4,vv5,vv6⟩,ww0,ww1,ww2,ww3,ww4,ww5,ww6⟩:=hLv.x7)|(have hLv:Lk w2 wb.heap.size #[.slice none 0 0,.int .i64 0,.int .i64 0,.int .i64 0,.slice none 0 0,.slice none 0 0,.slice none 0 0] 36:=(by refine Lk.keep ?_ hb2;exact Lk.new _ _ _);obtain ⟨⟨vv0,vv1,vv2,vv3,vv4,vv5,vv6⟩,ww0,ww1,ww2,ww3,ww4,ww5,ww6⟩:=hLv.x7)|skip)))
  all_goals
   have HF:=hid (show ∃ B,ClassW w2 B (.slice o1 d.pool.length j1) (.slice o2 d.faces.length j2) (.slice o3 d.fields.length j3) (.slice o4 d.methods.length j4) d from ⟨_,hcl⟩)
   have HQ:=hid hq
   clear hcl hq hoa
   go_wp2_with fail
   go_meet
   case rel=>
    refine ⟨d,p,_,.slice o1 d.pool.length j1,.slice o2 d.faces.length j2,.slice o3 d.fields.length j3,.slice o4 d.methods.length j4,rfl,rfl,HQ, ?_⟩
    first
     | exact hid (VB.last hX2 HF.out (specF _ _ _ _ _) _)
     | exact hid (VB.put ⟨hX2,(by first|exact Nat.le_refl _|omega|(simp;omega)),hLv,HF.out,(specF _ _ _ _ _)⟩)
 case rest=>
 obtain ⟨d,p,C4,u1,u2,u3,u4,rfl,rfl,HQ,HV⟩:=hcut
 obtain ⟨hB2,hC4,hL4,⟨B4,hcl⟩,_⟩:=HV.out
 obtain ⟨o1,j1,rfl⟩:=own_len hcl.p
 obtain ⟨o2,j2,rfl⟩:=own_len hcl.i
 obtain ⟨o3,j3,rfl⟩:=own_len hcl.f
 obtain ⟨o4,j4,rfl⟩:=hcl.m.len
 have HQ:=HQ
 have hf:d.few:=HQ.out.few HC.out HTX.out
 have hsh:shortC d:=HQ.out.short
 have HFw:=hid hf
 have HSh:=hid hsh
 have hkz:=kAll_le hsh
 obtain ⟨kk,hkk⟩:∃ k:Nat,Hid (kAll d=k):=⟨_,hid rfl⟩
 rw [hkk.out] at hkz
 obtain ⟨w2,hw2⟩:∃ W,Hid (W=wc):=⟨_,hid rfl⟩
 have hw2:=hw2.out
 subst hw2
 have HK:=hid (fun W (hW:Below w2.heap.size w2 W)=>show AP w (arrC (.slice ap lp cp) c.flags c.name c.super (.slice ai li ci) (.slice af lf cf) (.slice am lm cm)) (arr4 t) W∧Lk W C4 (arrC (.slice o1 d.pool.length j1) d.flags d.name d.super (.slice o2 d.faces.length j2) (.slice o3 d.fields.length j3) (.slice o4 d.methods.length j4)) 36∧ClassW W B4 (.slice o1 d.pool.length j1) (.slice o2 d.faces.length j2) (.slice o3 d.fields.length j3) (.slice o4 d.methods.length j4) d from ⟨HD.out W (hB2.trans (hW.mono hB2.size)),hL4.keep hW,hcl.keep hW⟩)
 have P4:=(HK.out _ (Below.refl _ _)).1
 have zC4:=hL4.lt
 have HTO4:=HTO.out _ P4.old
 obtain ⟨⟨c0,c1,c2,c3,c4,c5,c6⟩,_⟩:=P4.lk.c7
 clear hf hsh hcl hB2 HV HD HDS hdr P4 hL4 hm0
 go_wp2_with fail
 refine HTO4.mono ?_
 rintro e w5 ⟨vp5,vi5,vf5,vm5,rfl,ho5,hb5⟩
 obtain ⟨x1,y1,rfl⟩:=own_len ho5.p
 obtain ⟨x2,y2,rfl⟩:=own_len ho5.i
 obtain ⟨x3,y3,rfl⟩:=own_len ho5.f
 obtain ⟨x4,y4,rfl⟩:=ho5.m.len
 have hx5:=clX_of HC.out ho5
 have hal:Below w5.heap.size w5 (w5.alloc (.cells (arrC (.slice x1 c.pool.length y1) c.flags c.name c.super (.slice x2 c.faces.length y2) (.slice x3 c.fields.length y3) (.slice x4 c.methods.length y4)) 36)):=(Below.refl _ _).alloc (Nat.le_refl _) _
 have hz5:=hb5.size
 have B45:Below w2.heap.size w2 (w5.alloc (.cells (arrC (.slice x1 c.pool.length y1) c.flags c.name c.super (.slice x2 c.faces.length y2) (.slice x3 c.fields.length y3) (.slice x4 c.methods.length y4)) 36)):=hb5.trans (hal.mono hb5.size)
 have HX5:=hid (fun W (hW:Below (w5.alloc (.cells (arrC (.slice x1 c.pool.length y1) c.flags c.name c.super (.slice x2 c.faces.length y2) (.slice x3 c.fields.length y3) (.slice x4 c.methods.length y4)) 36)).heap.size (w5.alloc (.cells (arrC (.slice x1 c.pool.length y1) c.flags c.name c.super (.slice x2 c.faces.length y2) (.slice x3 c.fields.length y3) (.slice x4 c.methods.length y4)) 36)) W)=>show Lk W w5.heap.size (arrC (.slice x1 c.pool.length y1) c.flags c.name c.super (.slice x2 c.faces.length y2) (.slice x3 c.fields.length y3) (.slice x4 c.methods.length y4)) 36∧ClassW W w2.heap.size (.slice x1 c.pool.length y1) (.slice x2 c.faces.length y2) (.slice x3 c.fields.length y3) (.slice x4 c.methods.length y4) c∧ClX W w2.heap.size w5.heap.size (.slice x1 c.pool.length y1) (.slice x2 c.faces.length y2) (.slice x3 c.fields.length y3) (.slice x4 c.methods.length y4) c∧Below w2.heap.size w2 W from ⟨(Lk.new _ _ _).keep hW,(ho5.keep hal).keep hW,(hx5.keep hal).keep hW,B45.trans (hW.mono B45.size)⟩)
 have HD:=hid (fun W (hW:Below (w5.alloc (.cells (arrC (.slice x1 c.pool.length y1) c.flags c.name c.super (.slice x2 c.faces.length y2) (.slice x3 c.fields.length y3) (.slice x4 c.methods.length y4)) 36)).heap.size (w5.alloc (.cells (arrC (.slice x1 c.pool.length y1) c.flags c.name c.super (.slice x2 c.faces.length y2) (.slice x3 c.fields.length y3) (.slice x4 c.methods.length y4)) 36)) W)=>show AP w (arrC (.slice ap lp cp) c.flags c.name c.super (.slice ai li ci) (.slice af lf cf) (.slice am lm cm)) (arr4 t) W∧Lk W w5.heap.size (arrC (.slice x1 c.pool.length y1) c.flags c.name c.super (.slice x2 c.faces.length y2) (.slice x3 c.fields.length y3) (.slice x4 c.methods.length y4)) 36∧Tab W∧ErrW W∧ClassW W w2.heap.size (.slice x1 c.pool.length y1) (.slice x2 c.faces.length y2) (.slice x3 c.fields.length y3) (.slice x4 c.methods.length y4) c from by
  obtain ⟨K5,X5,R5,B4⟩:=HX5.out _ hW
  obtain ⟨P6,K4,D4⟩:=HK.out _ B4
  exact ⟨P6,K5,HT.out _ P6.old,HE.out _ P6.old,X5⟩)
 have HI:=hid (fun W (hW:Below (w5.alloc (.cells (arrC (.slice x1 c.pool.length y1) c.flags c.name c.super (.slice x2 c.faces.length y2) (.slice x3 c.fields.length y3) (.slice x4 c.methods.length y4)) 36)).heap.size (w5.alloc (.cells (arrC (.slice x1 c.pool.length y1) c.flags c.name c.super (.slice x2 c.faces.length y2) (.slice x3 c.fields.length y3) (.slice x4 c.methods.length y4)) 36)) W)=>implAddD c t _ _ _ _ _ W HC.out HTX.out (HD.out W hW).2.2.2.2 (HD.out W hW).2.2.1 (HD.out W hW).2.2.2.1)
 have HDS:=hid (fun W (hW:Below (w5.alloc (.cells (arrC (.slice x1 c.pool.length y1) c.flags c.name c.super (.slice x2 c.faces.length y2) (.slice x3 c.fields.length y3) (.slice x4 c.methods.length y4)) 36)).heap.size (w5.alloc (.cells (arrC (.slice x1 c.pool.length y1) c.flags c.name c.super (.slice x2 c.faces.length y2) (.slice x3 c.fields.length y3) (.slice x4 c.methods.length y4)) 36)) W)=>show Below (w5.alloc (.cells (arrC (.slice x1 c.pool.length y1) c.flags c.name c.super (.slice x2 c.faces.length y2) (.slice x3 c.fields.length y3) (.slice x4 c.methods.length y4)) 36)).heap.size (w5.alloc (.cells (arrC (.slice x1 c.pool.length y1) c.flags c.name c.super (.slice x2 c.faces.length y2) (.slice x3 c.fields.length y3) (.slice x4 c.methods.length y4)) 36)) W∧W.cell? ⟨w.heap.size+1,0,none⟩=some (.int .i64 t.kind)∧W.cell? ⟨w.heap.size+1,1,none⟩=some (.string t.text)∧W.cell? ⟨w.heap.size+1,2,none⟩=some (.int .i64 t.a)∧W.cell? ⟨w.heap.size+1,3,none⟩=some (.int .i64 t.b)∧W.cell? ⟨w5.heap.size,0,none⟩=some (.slice x1 c.pool.length y1)∧W.cell? ⟨w5.heap.size,1,none⟩=some (.int .i64 c.flags)∧W.cell? ⟨w5.heap.size,2,none⟩=some (.int .i64 c.name)∧W.cell? ⟨w5.heap.size,3,none⟩=some (.int .i64 c.super)∧W.cell? ⟨w5.heap.size,4,none⟩=some (.slice x2 c.faces.length y2)∧W.cell? ⟨w5.heap.size,5,none⟩=some (.slice x3 c.fields.length y3)∧W.cell? ⟨w5.heap.size,6,none⟩=some (.slice x4 c.methods.length y4) from by
  obtain ⟨P,K,_⟩:=HD.out W hW;obtain ⟨⟨e0,e1,e2,e3⟩,_⟩:=P.le.x4;obtain ⟨⟨s0,s1,s2,s3,s4,s5,s6⟩,_⟩:=K.c7
  exact ⟨hW,by assumption,by assumption,by assumption,by assumption,by assumption,by assumption,by assumption,by assumption,by assumption,by assumption,by assumption⟩)
 have hdr:Below (w5.alloc (.cells (arrC (.slice x1 c.pool.length y1) c.flags c.name c.super (.slice x2 c.faces.length y2) (.slice x3 c.fields.length y3) (.slice x4 c.methods.length y4)) 36)).heap.size (w5.alloc (.cells (arrC (.slice x1 c.pool.length y1) c.flags c.name c.super (.slice x2 c.faces.length y2) (.slice x3 c.fields.length y3) (.slice x4 c.methods.length y4)) 36)) (w5.alloc (.cells (arrC (.slice x1 c.pool.length y1) c.flags c.name c.super (.slice x2 c.faces.length y2) (.slice x3 c.fields.length y3) (.slice x4 c.methods.length y4)) 36)).drew:=(Below.refl _ _).drew
 have hw5:(w5.alloc (.cells (arrC (.slice x1 c.pool.length y1) c.flags c.name c.super (.slice x2 c.faces.length y2) (.slice x3 c.fields.length y3) (.slice x4 c.methods.length y4)) 36)).heap.size=w5.heap.size+1:=by simp
 have LW5:=hid (show Lk ((w5.alloc (.cells (arrC (.slice x1 c.pool.length y1) c.flags c.name c.super (.slice x2 c.faces.length y2) (.slice x3 c.fields.length y3) (.slice x4 c.methods.length y4)) 36)).alloc (.cells #[.slice none 0 0,.int .i64 0,.int .i64 0,.int .i64 0,.slice none 0 0,.slice none 0 0,.slice none 0 0] 36)) (w5.heap.size+1) #[.slice none 0 0,.int .i64 0,.int .i64 0,.int .i64 0,.slice none 0 0,.slice none 0 0,.slice none 0 0] 36 from by simpa using Lk.new (w5.alloc (.cells (arrC (.slice x1 c.pool.length y1) c.flags c.name c.super (.slice x2 c.faces.length y2) (.slice x3 c.fields.length y3) (.slice x4 c.methods.length y4)) 36)) #[.slice none 0 0,.int .i64 0,.int .i64 0,.int .i64 0,.slice none 0 0,.slice none 0 0,.slice none 0 0] 36)
 clear HTO4 ho5 hx5 hb5 hal B45 c0 c1 c2 c3 c4 c5 c6
 go_upto_region 10 with fail
 go_cut [9,10] (fun q pv wc=>∃ (C:Nat) (u1 u2 u3 u4:Value) (us:List SMethod) (ys:List (List SFrame)),q=.pointer (some ⟨C,0,none⟩)∧pv=.int .i64 p∧Hid (VB (w5.alloc (.cells (arrC (.slice x1 c.pool.length y1) c.flags c.name c.super (.slice x2 c.faces.length y2) (.slice x3 c.fields.length y3) (.slice x4 c.methods.length y4)) 36)) (fun W=>ClA W (w5.heap.size+1) u1 u2 u3 u4 d us ys) C #[u1,.int .i64 d.flags,.int .i64 d.name,.int .i64 d.super,u2,u3,u4] wc))
 case first=>
  go_region_held (fun w'=>Below (w5.alloc (.cells (arrC (.slice x1 c.pool.length y1) c.flags c.name c.super (.slice x2 c.faces.length y2) (.slice x3 c.fields.length y3) (.slice x4 c.methods.length y4)) 36)).heap.size (w5.alloc (.cells (arrC (.slice x1 c.pool.length y1) c.flags c.name c.super (.slice x2 c.faces.length y2) (.slice x3 c.fields.length y3) (.slice x4 c.methods.length y4)) 36)) w'∧w'.cell? ⟨w.heap.size+1,0,none⟩=some (.int .i64 t.kind)∧w'.cell? ⟨w.heap.size+1,1,none⟩=some (.string t.text)∧w'.cell? ⟨w.heap.size+1,2,none⟩=some (.int .i64 t.a)∧w'.cell? ⟨w.heap.size+1,3,none⟩=some (.int .i64 t.b)∧w'.cell? ⟨w5.heap.size,0,none⟩=some (.slice x1 c.pool.length y1)∧w'.cell? ⟨w5.heap.size,1,none⟩=some (.int .i64 c.flags)∧w'.cell? ⟨w5.heap.size,2,none⟩=some (.int .i64 c.name)∧w'.cell? ⟨w5.heap.size,3,none⟩=some (.int .i64 c.super)∧w'.cell? ⟨w5.heap.size,4,none⟩=some (.slice x2 c.faces.length y2)∧w'.cell? ⟨w5.heap.size,5,none⟩=some (.slice x3 c.fields.length y3)∧w'.cell? ⟨w5.heap.size,6,none⟩=some (.slice x4 c.methods.length y4)) (first|(refine HDS.out _ ?_;first
   | with_reducible assumption
   | with_reducible exact Below.al (And.left (by with_reducible assumption)) _
   | with_reducible exact Below.al (by with_reducible assumption) _
   | with_reducible exact Below.drew (Below.al (Below.refl _ _) _)
   | with_reducible exact Below.al (Below.refl _ _) _
   | (repeat' (first|with_reducible assumption|refine Below.setCell ?_ (by dsimp only;first|exact Nat.le_refl _|omega|(simp;omega)) _))
   | go_grown)) (first
   | (go_at_call 8;refine (HCo.out _).mono ?_;rintro e wd ⟨rfl,hbd⟩;have hXd:Below (w5.alloc (.cells (arrC (.slice x1 c.pool.length y1) c.flags c.name c.super (.slice x2 c.faces.length y2) (.slice x3 c.fields.length y3) (.slice x4 c.methods.length y4)) 36)).heap.size (w5.alloc (.cells (arrC (.slice x1 c.pool.length y1) c.flags c.name c.super (.slice x2 c.faces.length y2) (.slice x3 c.fields.length y3) (.slice x4 c.methods.length y4)) 36)) wd:=Below.ext (And.left (by assumption)) hbd;have zd:=hXd.size;rw [hw5] at zd)
   | (go_at_call 9;refine (HI.out _ (And.left (by assumption))).mono ?_;rintro e w6 ⟨d',p',v1,v2,v3,v4,us,ys,hq',rfl,hg,hb6⟩;obtain ⟨g1,l1,rfl⟩:=own_len hg.p;obtain ⟨g2,l2,rfl⟩:=own_len hg.i;obtain ⟨g3,l3,rfl⟩:=own_len hg.f;obtain ⟨g4,l4,rfl⟩:=own_len hg.m.row;have hX6:Below (w5.alloc (.cells (arrC (.slice x1 c.pool.length y1) c.flags c.name c.super (.slice x2 c.faces.length y2) (.slice x3 c.fields.length y3) (.slice x4 c.methods.length y4)) 36)).heap.size (w5.alloc (.cells (arrC (.slice x1 c.pool.length y1) c.flags c.name c.super (.slice x2 c.faces.length y2) (.slice x3 c.fields.length y3) (.slice x4 c.methods.length y4)) 36)) w6:=Below.ext (And.left (by assumption)) hb6;have z6:=hX6.size;rw [hw5] at z6;(first|(have hLv:Lk w6 (w5.heap.size+1) #[.slice none 0 0,.int .i64 0,.int .i64 0,.int .i64 0,.slice none 0 0,.slice none 0 0,.slice none 0 0] 36:=(by refine Lk.keep (Lk.keep ?_ hbd) hb6;exact LW5.out);obtain ⟨⟨vv0,vv1,vv2,vv3,vv4,vv5,vv6⟩,ww0,ww1,ww2,ww3,ww4,ww5,ww6⟩:=hLv.x7)|(have hLv:Lk w6 wd.heap.size #[.slice none 0 0,.int .i64 0,.int .i64 0,.int .i64 0,.slice none 0 0,.slice none 0 0,.slice none 0 0] 36:=(by refine Lk.keep ?_ hb6;exact Lk.new _ _ _);obtain ⟨⟨vv0,vv1,vv2,vv3,vv4,vv5,vv6⟩,ww0,ww1,ww2,ww3,ww4,ww5,ww6⟩:=hLv.x7)|skip)))
  all_goals
   obtain ⟨rfl,rfl⟩:=add_join hq' HQ.out
   have HG6:=hid (show ClA w6 (w5.heap.size+1) (.slice g1 d.pool.length l1) (.slice g2 d.faces.length l2) (.slice g3 d.fields.length l3) (.slice g4 d.methods.length l4) d us ys from hg.mono (by first|omega|(simp;omega)))
   clear hq' hg
   go_wp2_with fail
   go_meet
   case rel=>
    refine ⟨_,.slice g1 d.pool.length l1,.slice g2 d.faces.length l2,.slice g3 d.fields.length l3,.slice g4 d.methods.length l4,us,ys,rfl,rfl, ?_⟩
    first
      | exact hid (VB.last hX6 HG6.out (implF _ _ _ _ _ _ _ _) _)
      | exact hid (VB.put ⟨hX6,(by first|exact Nat.le_refl _|omega|(simp;omega)),hLv,HG6.out,(implF _ _ _ _ _ _ _ _)⟩)
 case rest=>
 obtain ⟨C6,v1,v2,v3,v4,us,ys,rfl,rfl,HV⟩:=hcut
 obtain ⟨hb6,hC6,hL6,hg,_⟩:=HV.out
 rw [hw5] at hC6
 obtain ⟨g1,l1,rfl⟩:=own_len hg.p
 obtain ⟨g2,l2,rfl⟩:=own_len hg.i
 obtain ⟨g3,l3,rfl⟩:=own_len hg.f
 obtain ⟨g4,l4,rfl⟩:=own_len hg.m.row
 obtain ⟨w6,hw6⟩:∃ W,Hid (W=wc):=⟨_,hid rfl⟩
 have hw6:=hw6.out
 subst hw6
 have zC6:=hL6.lt
 have HU:=hid (show ∀ u∈(((.slice g1 d.pool.length l1) :: (.slice g2 d.faces.length l2) :: (.slice g3 d.fields.length l3) :: mods (.slice g4 d.methods.length l4) us ys)),u.ownBlock≠some C6 from by
  intro u hu
  rcases List.mem_cons.1 hu with rfl|hu
  ·exact own_ne hg.p hL6 (by decide)
  ·rcases List.mem_cons.1 hu with rfl|hu
   ·exact own_ne hg.i hL6 (by decide)
   ·rcases List.mem_cons.1 hu with rfl|hu
    ·exact own_ne hg.f hL6 (by decide)
    ·obtain ⟨e',z',n',xs',hu',q⟩:=(hg.m.mk0 0).rows u hu
     exact own_ne hu' hL6 (by rcases q with rfl|rfl|rfl|rfl<;>decide))
 have HG:=hid (fun W (hW:Below w6.heap.size w6 W)=>show Lk W C6 (arrC (.slice g1 d.pool.length l1) d.flags d.name d.super (.slice g2 d.faces.length l2) (.slice g3 d.fields.length l3) (.slice g4 d.methods.length l4)) 36∧ClA W (w5.heap.size+1) (.slice g1 d.pool.length l1) (.slice g2 d.faces.length l2) (.slice g3 d.fields.length l3) (.slice g4 d.methods.length l4) d us ys∧Below (w5.alloc (.cells (arrC (.slice x1 c.pool.length y1) c.flags c.name c.super (.slice x2 c.faces.length y2) (.slice x3 c.fields.length y3) (.slice x4 c.methods.length y4)) 36)).heap.size (w5.alloc (.cells (arrC (.slice x1 c.pool.length y1) c.flags c.name c.super (.slice x2 c.faces.length y2) (.slice x3 c.fields.length y3) (.slice x4 c.methods.length y4)) 36)) W from ⟨hL6.keep hW,hg.below hW,hb6.trans (hW.mono hb6.size)⟩)
 obtain ⟨K6,A6,B6⟩:=HG.out _ (Below.refl _ _)
 obtain ⟨K5,X5,R5,B4⟩:=HX5.out _ B6
 obtain ⟨P6,K4,D4⟩:=HK.out _ B4
 have hEq:=eqClass_same d _ _ _ _ _ _ _ _ _ _ _ HFw.out A6.all D4
 obtain ⟨⟨t0,t1,t2,t3,t4,t5,t6⟩,_⟩:=K6.c7
 obtain ⟨⟨r0,r1,r2,r3,r4,r5,r6⟩,_⟩:=K4.c7
 clear HV hb6 hL6 hg K6 A6 B6 K5 X5 R5 B4 P6 K4 D4 HDS HI HD hdr
 go_wp2_with fail
 refine hEq.mono ?_
 rintro e w7 ⟨rfl,hb7⟩
 have HB7:=hid hb7
 clear hb7 hEq t0 t1 t2 t3 t4 t5 t6 r0 r1 r2 r3 r4 r5 r6
 go_upto_region 13 with fail
 go_cut [56] (fun q wc=>q=.bool false∧Hid (Below w6.heap.size w6 wc))
 case first=>
  have hbd:Below w6.heap.size w6 w7.drew:=HB7.out.drew
  obtain ⟨K6,A6,B6⟩:=HG.out _ hbd
  obtain ⟨K5,X5,R5,B4⟩:=HX5.out _ B6
  obtain ⟨P6,K4,D4⟩:=HK.out _ B4
  have hto7:=HTO.out _ P6.old
  obtain ⟨⟨c0,c1,c2,c3,c4,c5,c6⟩,_⟩:=P6.lk.c7
  obtain ⟨⟨s0,s1,s2,s3,s4,s5,s6⟩,_⟩:=K5.c7
  have hq8:=fun (W:World) (hW:Below w7.drew.heap.size w7.drew W) vp vi vf vm B (hy:ClassW W B vp vi vf vm c)=>eqClass_same c _ _ _ _ vp vi vf vm _ B W HC.out (X5.keep hW) hy
  have HK5:=hid (fun W (hW:Below w7.drew.heap.size w7.drew W)=>show Lk W w5.heap.size (arrC (.slice x1 c.pool.length y1) c.flags c.name c.super (.slice x2 c.faces.length y2) (.slice x3 c.fields.length y3) (.slice x4 c.methods.length y4)) 36∧AP w (arrC (.slice ap lp cp) c.flags c.name c.super (.slice ai li ci) (.slice af lf cf) (.slice am lm cm)) (arr4 t) W from ⟨K5.keep hW,P6.keep hW⟩)
  clear K6 A6 B6 K5 X5 R5 B4 P6 K4 D4 HG HX5 HK HQ HFw HSh HA HT HE HU hkz hkk HTX HCo HS HTO
  go_region_held (fun w'=>w'.cell? ⟨w.heap.size,0,none⟩=some (.slice ap lp cp)∧w'.cell? ⟨w.heap.size,1,none⟩=some (.int .i64 c.flags)∧w'.cell? ⟨w.heap.size,2,none⟩=some (.int .i64 c.name)∧w'.cell? ⟨w.heap.size,3,none⟩=some (.int .i64 c.super)∧w'.cell? ⟨w.heap.size,4,none⟩=some (.slice ai li ci)∧w'.cell? ⟨w.heap.size,5,none⟩=some (.slice af lf cf)∧w'.cell? ⟨w.heap.size,6,none⟩=some (.slice am lm cm)∧w'.cell? ⟨w5.heap.size,0,none⟩=some (.slice x1 c.pool.length y1)∧w'.cell? ⟨w5.heap.size,1,none⟩=some (.int .i64 c.flags)∧w'.cell? ⟨w5.heap.size,2,none⟩=some (.int .i64 c.name)∧w'.cell? ⟨w5.heap.size,3,none⟩=some (.int .i64 c.super)∧w'.cell? ⟨w5.heap.size,4,none⟩=some (.slice x2 c.faces.length y2)∧w'.cell? ⟨w5.heap.size,5,none⟩=some (.slice x3 c.fields.length y3)∧w'.cell? ⟨w5.heap.size,6,none⟩=some (.slice x4 c.methods.length y4)) (refine ⟨?_, ?_, ?_, ?_, ?_, ?_, ?_, ?_, ?_, ?_, ?_, ?_, ?_, ?_⟩<;>assumption) (first
   | (go_at_call 7;refine hto7.mono ?_;rintro e w8 ⟨vp8,vi8,vf8,vm8,rfl,ho8,hb8⟩;obtain ⟨K8,P8⟩:=HK5.out _ hb8;obtain ⟨⟨e0,e1,e2,e3,e4,e5,e6⟩,_⟩:=P8.lk.c7;obtain ⟨⟨f0,f1,f2,f3,f4,f5,f6⟩,_⟩:=K8.c7)
   | (go_at_call 10;refine (hq8 _ (by assumption) _ _ _ _ _ (by assumption)).mono ?_;rintro e w9 ⟨rfl,hb9⟩;have hb79:=Below.trans hb8 (hb9.mono hb8.size);obtain ⟨K9,P9⟩:=HK5.out _ hb79;obtain ⟨⟨g0,g1,g2,g3,g4,g5,g6⟩,_⟩:=P9.lk.c7;obtain ⟨⟨h0,h1,h2,h3,h4,h5,h6⟩,_⟩:=K9.c7))
  go_wp2_with fail
  go_meet
  case rel=>exact ⟨rfl,hid (hbd.trans (hb79.mono hbd.size))⟩
 case rest=>
 obtain ⟨rfl,HO⟩:=hcut
 obtain ⟨K6,A6,B6⟩:=HG.out _ HO.out
 obtain ⟨K5,X5,R5,B4⟩:=HX5.out _ B6
 have hwc:w6.heap.size≤wc.heap.size:=HO.out.size
 have hMw:=markClass_weak c _ _ _ _ w2.heap.size w5.heap.size wc HC.out hz5 (by omega) R5
 obtain ⟨⟨s0,s1,s2,s3,s4,s5,s6⟩,_⟩:=K5.c7
 have H1:=hid (show Lk wc C6 (arrC (.slice g1 d.pool.length l1) d.flags d.name d.super (.slice g2 d.faces.length l2) (.slice g3 d.fields.length l3) (.slice g4 d.methods.length l4)) 36∧ClA wc (w5.heap.size+1) (.slice g1 d.pool.length l1) (.slice g2 d.faces.length l2) (.slice g3 d.fields.length l3) (.slice g4 d.methods.length l4) d us ys∧Below w2.heap.size w2 wc from ⟨K6,A6,B4⟩)
 clear K6 A6 B6 K5 X5 R5 B4 HO HB7 HG HX5
 go_wp2_with fail
 refine hMw.mono ?_
 rintro e w8 ⟨k,rfl,hch⟩
 obtain ⟨K6,A6,B4⟩:=H1.out
 have K8:=K6.chgd hch (by omega)
 have A8:=ClA.chg A6 hch (by omega)
 have B8:Below w2.heap.size w2 w8:=B4.trans (hch.up (Nat.le_refl _) B4.size)
 obtain ⟨P8,K48,D8⟩:=HK.out _ B8
 have hEq:=eqClass_same d _ _ _ _ _ _ _ _ _ _ _ HFw.out A8.all D8
 have H2:=hid (show Lk w8 C6 (arrC (.slice g1 d.pool.length l1) d.flags d.name d.super (.slice g2 d.faces.length l2) (.slice g3 d.fields.length l3) (.slice g4 d.methods.length l4)) 36∧ClA w8 (w5.heap.size+1) (.slice g1 d.pool.length l1) (.slice g2 d.faces.length l2) (.slice g3 d.fields.length l3) (.slice g4 d.methods.length l4) d us ys∧Below w2.heap.size w2 w8 from ⟨K8,A8,B8⟩)
 obtain ⟨⟨t0,t1,t2,t3,t4,t5,t6⟩,_⟩:=K8.c7
 obtain ⟨⟨r0,r1,r2,r3,r4,r5,r6⟩,_⟩:=K48.c7
 have hk0:¬(k:Int)<0:=by omega
 have hz8:wc.heap.size≤w8.heap.size:=hch.size
 clear hMw hch K6 A6 B4 K8 A8 B8 P8 K48 D8 H1 s0 s1 s2 s3 s4 s5 s6
 go_wp2_with fail
 refine hEq.mono ?_
 rintro e w9 ⟨rfl,hb9⟩
 obtain ⟨K8,A8,B8⟩:=H2.out
 have K9:=K8.keep hb9
 have A9:=A8.below hb9
 have B9:Below w2.heap.size w2 w9:=B8.trans (hb9.mono B8.size)
 have hz9:=hb9.size
 have hMk:=markClass_any d _ _ _ _ us ys (w5.heap.size+1) w9 HSh.out (by omega) A9
 rw [hkk.out] at hMk
 have H3:=hid (show Lk w9 C6 (arrC (.slice g1 d.pool.length l1) d.flags d.name d.super (.slice g2 d.faces.length l2) (.slice g3 d.fields.length l3) (.slice g4 d.methods.length l4)) 36∧Below w2.heap.size w2 w9 from ⟨K9,B9⟩)
 obtain ⟨⟨s0,s1,s2,s3,s4,s5,s6⟩,_⟩:=K9.c7
 clear hEq hb9 K8 A8 B8 K9 A9 B9 H2 t0 t1 t2 t3 t4 t5 t6 r0 r1 r2 r3 r4 r5 r6
 go_wp2_with fail
 refine hMk.mono ?_
 rintro e w10 ⟨rfl,⟨us',ys',C10⟩,hb10,m10⟩
 obtain ⟨K9,B9⟩:=H3.out
 have K10:=K9.modT m10 HU.out
 have B10:Below w2.heap.size w2 w10:=B9.trans (hb10.mono (by omega))
 have hHd:=heldClass_any d _ _ _ _ us' ys' (w5.heap.size+1) w10 HSh.out C10
 rw [hkk.out] at hHd
 have H4:=hid (show Lk w10 C6 (arrC (.slice g1 d.pool.length l1) d.flags d.name d.super (.slice g2 d.faces.length l2) (.slice g3 d.fields.length l3) (.slice g4 d.methods.length l4)) 36∧CKm w10 (w5.heap.size+1) (.slice g1 d.pool.length l1) (.slice g2 d.faces.length l2) (.slice g3 d.fields.length l3) (.slice g4 d.methods.length l4) d us' ys'∧Below w2.heap.size w2 w10 from ⟨K10,C10,B10⟩)
 obtain ⟨⟨t0,t1,t2,t3,t4,t5,t6⟩,_⟩:=K10.c7
 clear hMk hb10 m10 K9 B9 H3 K10 B10 C10 HU s0 s1 s2 s3 s4 s5 s6
 go_wp2_with fail
 refine hHd.mono ?_
 rintro e w11 ⟨rfl,hb11⟩
 obtain ⟨K10,C10,B10⟩:=H4.out
 have B11:Below w2.heap.size w2 w11:=B10.trans (hb11.mono B10.size)
 have P11:=(HK.out _ B11).1
 have H5:=hid (show Lk w11 C6 (arrC (.slice g1 d.pool.length l1) d.flags d.name d.super (.slice g2 d.faces.length l2) (.slice g3 d.fields.length l3) (.slice g4 d.methods.length l4)) 36∧CKm w11 (w5.heap.size+1) (.slice g1 d.pool.length l1) (.slice g2 d.faces.length l2) (.slice g3 d.fields.length l3) (.slice g4 d.methods.length l4) d us' ys'∧Below w2.heap.size w2 w11 from ⟨K10.keep hb11,C10.below hb11,B11⟩)
 have HD:=hid (fun W (hW:Below w11.heap.size w11 W)=>show AP w (arrC (.slice ap lp cp) c.flags c.name c.super (.slice ai li ci) (.slice af lf cf) (.slice am lm cm)) (arr4 t) W∧Tab W∧ErrW W from by
  have Q:=P11.keep hW
  exact ⟨Q,HT.out _ Q.old,HE.out _ Q.old⟩)
 have HI:=hid (fun W (hW:Below w11.heap.size w11 W) vp vi vf vm B (hy:ClassW W B vp vi vf vm c)=>implAddD c t vp vi vf vm B W HC.out HTX.out hy (HD.out W hW).2.1 (HD.out W hW).2.2)
 have HDS:=hid (fun W (hW:Below w11.heap.size w11 W)=>show Below w11.heap.size w11 W∧W.cell? ⟨w.heap.size,0,none⟩=some (.slice ap lp cp)∧W.cell? ⟨w.heap.size,1,none⟩=some (.int .i64 c.flags)∧W.cell? ⟨w.heap.size,2,none⟩=some (.int .i64 c.name)∧W.cell? ⟨w.heap.size,3,none⟩=some (.int .i64 c.super)∧W.cell? ⟨w.heap.size,4,none⟩=some (.slice ai li ci)∧W.cell? ⟨w.heap.size,5,none⟩=some (.slice af lf cf)∧W.cell? ⟨w.heap.size,6,none⟩=some (.slice am lm cm)∧W.cell? ⟨w.heap.size+1,0,none⟩=some (.int .i64 t.kind)∧W.cell? ⟨w.heap.size+1,1,none⟩=some (.string t.text)∧W.cell? ⟨w.heap.size+1,2,none⟩=some (.int .i64 t.a)∧W.cell? ⟨w.heap.size+1,3,none⟩=some (.int .i64 t.b) from by
   obtain ⟨P,_⟩:=HD.out W hW;obtain ⟨⟨c0,c1,c2,c3,c4,c5,c6⟩,_⟩:=P.lk.c7;obtain ⟨⟨e0,e1,e2,e3⟩,_⟩:=P.le.x4
   exact ⟨hW,by assumption,by assumption,by assumption,by assumption,by assumption,by assumption,by assumption,by assumption,by assumption,by assumption,by assumption⟩)
 have hdr:Below w11.heap.size w11 w11.drew:=(Below.refl _ _).drew
 clear hHd hb11 K10 C10 B10 P11 B11 H4 t0 t1 t2 t3 t4 t5 t6
 go_upto_region 27 with fail
 go_cut [14,15] (fun q pv wc=>∃ (C:Nat) (u1 u2 u3 u4:Value),q=.pointer (some ⟨C,0,none⟩)∧pv=.int .i64 p∧Hid (VB w11 (fun W=>∃ B,ClassW W B u1 u2 u3 u4 d) C #[u1,.int .i64 d.flags,.int .i64 d.name,.int .i64 d.super,u2,u3,u4] wc))
 case first=>
  go_region_held (fun w'=>Below w11.heap.size w11 w'∧w'.cell? ⟨w.heap.size,0,none⟩=some (.slice ap lp cp)∧w'.cell? ⟨w.heap.size,1,none⟩=some (.int .i64 c.flags)∧w'.cell? ⟨w.heap.size,2,none⟩=some (.int .i64 c.name)∧w'.cell? ⟨w.heap.size,3,none⟩=some (.int .i64 c.super)∧w'.cell? ⟨w.heap.size,4,none⟩=some (.slice ai li ci)∧w'.cell? ⟨w.heap.size,5,none⟩=some (.slice af lf cf)∧w'.cell? ⟨w.heap.size,6,none⟩=some (.slice am lm cm)∧w'.cell? ⟨w.heap.size+1,0,none⟩=some (.int .i64 t.kind)∧w'.cell? ⟨w.heap.size+1,1,none⟩=some (.string t.text)∧w'.cell? ⟨w.heap.size+1,2,none⟩=some (.int .i64 t.a)∧w'.cell? ⟨w.heap.size+1,3,none⟩=some (.int .i64 t.b)) (first|(refine HDS.out _ ?_;first
   | with_reducible assumption
   | with_reducible exact Below.al (And.left (by with_reducible assumption)) _
   | with_reducible exact Below.al (by with_reducible assumption) _
   | with_reducible exact Below.drew (Below.al (Below.refl _ _) _)
   | with_reducible exact Below.al (Below.refl _ _) _
   | (repeat' (first|with_reducible assumption|refine Below.setCell ?_ (by dsimp only;first|exact Nat.le_refl _|omega|(simp;omega)) _))
   | go_grown)) (first
   | (go_at_call 7;refine (HTO.out _ (HD.out _ (And.left (by assumption))).1.old).mono ?_;rintro e wf ⟨q1,q2,q3,q4,rfl,hof,hbf⟩;have hXf:Below w11.heap.size w11 wf:=Below.ext (And.left (by assumption)) hbf;have zf:=hXf.size)
   | (go_at_call 8;refine (HCo.out _).mono ?_;rintro e wg ⟨rfl,hbg⟩;have hXg:Below w11.heap.size w11 wg:=Below.ext (And.left (by assumption)) hbg;have zg:=hXg.size)
   | (go_at_call 9;refine (HI.out _ (And.left (by assumption)) _ _ _ _ _ (by first|exact hof.keep hbg|exact (hof.keep (Below.new _ _)).keep hbg|exact (hof.keep hbg).keep (Below.new _ _))).mono ?_;rintro e w13 ⟨d2,p2,v1,v2,v3,v4,us2,ys2,hq2,rfl,hh,hb13⟩;obtain ⟨h1,m1,rfl⟩:=own_len hh.p;obtain ⟨h2,m2,rfl⟩:=own_len hh.i;obtain ⟨h3,m3,rfl⟩:=own_len hh.f;obtain ⟨h4,m4,rfl⟩:=own_len hh.m.row;have hX13:Below w11.heap.size w11 w13:=Below.ext (And.left (by assumption)) hb13;have z13:=hX13.size;(first|(have hLv:Lk w13 w11.heap.size #[.slice none 0 0,.int .i64 0,.int .i64 0,.int .i64 0,.slice none 0 0,.slice none 0 0,.slice none 0 0] 36:=(by refine Lk.keep (Lk.keep (Lk.keep ?_ hbf) hbg) hb13;exact Lk.new _ _ _);obtain ⟨⟨vv0,vv1,vv2,vv3,vv4,vv5,vv6⟩,ww0,ww1,ww2,ww3,ww4,ww5,ww6⟩:=hLv.x7)|(have hLv:Lk w13 wf.heap.size #[.slice none 0 0,.int .i64 0,.int .i64 0,.int .i64 0,.slice none 0 0,.slice none 0 0,.slice none 0 0] 36:=(by refine Lk.keep (Lk.keep ?_ hbg) hb13;exact Lk.new _ _ _);obtain ⟨⟨vv0,vv1,vv2,vv3,vv4,vv5,vv6⟩,ww0,ww1,ww2,ww3,ww4,ww5,ww6⟩:=hLv.x7)|(have hLv:Lk w13 wg.heap.size #[.slice none 0 0,.int .i64 0,.int .i64 0,.int .i64 0,.slice none 0 0,.slice none 0 0,.slice none 0 0] 36:=(by refine Lk.keep ?_ hb13;exact Lk.new _ _ _);obtain ⟨⟨vv0,vv1,vv2,vv3,vv4,vv5,vv6⟩,ww0,ww1,ww2,ww3,ww4,ww5,ww6⟩:=hLv.x7)|skip)))
  all_goals
   obtain ⟨rfl,rfl⟩:=add_join hq2 HQ.out
   have HF:=hid (show ∃ B,ClassW w13 B (.slice h1 d.pool.length m1) (.slice h2 d.faces.length m2) (.slice h3 d.fields.length m3) (.slice h4 d.methods.length m4) d from ⟨_,hh.all⟩)
   clear hq2 hh hof
   go_wp2_with fail
   go_meet
   case rel=>
    refine ⟨_,.slice h1 d.pool.length m1,.slice h2 d.faces.length m2,.slice h3 d.fields.length m3,.slice h4 d.methods.length m4,rfl,rfl, ?_⟩
    first
      | exact hid (VB.last hX13 HF.out (specF _ _ _ _ _) _)
      | exact hid (VB.put ⟨hX13,(by first|exact Nat.le_refl _|omega|(simp;omega)),hLv,HF.out,(specF _ _ _ _ _)⟩)
 case rest=>
 obtain ⟨C13,v1,v2,v3,v4,rfl,rfl,HV⟩:=hcut
 obtain ⟨hb13,hC13,K13,⟨B13,hh⟩,_⟩:=HV.out
 obtain ⟨h1,m1,rfl⟩:=own_len hh.p
 obtain ⟨h2,m2,rfl⟩:=own_len hh.i
 obtain ⟨h3,m3,rfl⟩:=own_len hh.f
 obtain ⟨h4,m4,rfl⟩:=hh.m.len
 obtain ⟨K12,C12,B12⟩:=H5.out
 have B13':Below w2.heap.size w2 wc:=B12.trans (hb13.mono B12.size)
 obtain ⟨P13,K413,D13⟩:=HK.out _ B13'
 have hEq:=eqClass_same d _ _ _ _ _ _ _ _ _ _ _ HFw.out hh D13
 have H7:=hid (show Lk wc C6 (arrC (.slice g1 d.pool.length l1) d.flags d.name d.super (.slice g2 d.faces.length l2) (.slice g3 d.fields.length l3) (.slice g4 d.methods.length l4)) 36∧CKm wc (w5.heap.size+1) (.slice g1 d.pool.length l1) (.slice g2 d.faces.length l2) (.slice g3 d.fields.length l3) (.slice g4 d.methods.length l4) d us' ys'∧Below w2.heap.size w2 wc from ⟨K12.keep hb13,C12.below hb13,B13'⟩)
 obtain ⟨⟨t0,t1,t2,t3,t4,t5,t6⟩,_⟩:=K13.c7
 obtain ⟨⟨r0,r1,r2,r3,r4,r5,r6⟩,_⟩:=K413.c7
 clear HV hh hb13 K12 C12 B12 H5 B13' P13 K413 D13 K13 HDS HD HI hdr
 go_wp2_with fail
 refine hEq.mono ?_
 rintro e w14 ⟨rfl,hb14⟩
 obtain ⟨K13,C13',B13⟩:=H7.out
 have K14:=K13.keep hb14
 have hHd:=heldClass_any d _ _ _ _ us' ys' (w5.heap.size+1) w14 HSh.out (C13'.below hb14)
 rw [hkk.out] at hHd
 have HZ:=hid (show Below w2.heap.size w2 w14 from B13.trans (hb14.mono B13.size))
 obtain ⟨⟨s0,s1,s2,s3,s4,s5,s6⟩,_⟩:=K14.c7
 clear hEq hb14 K13 C13' B13 K14 H7 t0 t1 t2 t3 t4 t5 t6 r0 r1 r2 r3 r4 r5 r6
 go_wp2_with fail
 refine hHd.mono ?_
 rintro e w15 ⟨rfl,hb15⟩
 have HEnd:=hid ((HK.out _ (HZ.out.trans (hb15.mono HZ.out.size))).1.old)
 clear hHd hb15 HZ HK s0 s1 s2 s3 s4 s5 s6
 go_wp2
 go_ret
 exact ⟨rfl,HEnd.out⟩
end Go.Proofs.YtecbcdfkedocbaaGreatDoor.fnExactPackAdd
