/- The law FnExactFrameLess, walked. Printed by tools/gen/lesswalk.py. -/
import Derived.Test.YtadgoaogkkffmaaGreatDoorC7
import Derived.Test.YtadgoaogkkffmaaGreatDoorM2
import Derived.Test.YtadgoaogkkffmaaGreatDoorM6
import Derived.Test.YtadgoaogkkffmaaGreatDoorG02
import Derived.Test.YtadgoaogkkffmaaGreatDoorK12
import Derived.Deep.Slices
namespace Go.Proofs.YtadgoaogkkffmaaGreatDoor.fnExactFrameLess
open Go.ChangeShapes Go.WideShapes Go.ChangeAt Go.RowKit
open Mx Fm
set_option linter.unusedVariables false
set_option maxHeartbeats 4000000
set_option maxRecDepth 20000
theorem less_few {c:MClass} (h:c.few):(lessC c).few:=
 ⟨h.pool,h.texts,h.faces,h.fields,by simpa [lessC] using h.methods,fun m hm=>by
  obtain ⟨x,hx,rfl⟩:=List.mem_map.1 (show m∈c.methods.map lessM from hm)
  have:=h.each x hx
  exact ⟨this.1,this.2.1,by simp [lessM],fun f hf=>by simp [lessM] at hf⟩⟩
theorem none_few:noneC.few:=⟨by simp [noneC],by simp [noneC],by simp [noneC],by simp [noneC],by simp [noneC],by simp [noneC]⟩
theorem lessR_few {c:MClass} (h:c.few) (n:Int):(lessR c n).few:=by
 unfold lessR
 split
 ·exact less_few h
 ·exact none_few
theorem less_short {c:MClass} (h:fineC c):shortC (lessC c):=by
 obtain ⟨h1,_,_,_,h2,h3,h4⟩:=h
 refine ⟨by have:=h1.1;simp [lessC];omega,by have:=h2.1;simp [lessC];omega,by have:=h3.1;simp [lessC];omega,by have:=h4.1;simp [lessC];omega,fun m hm=>?_⟩
 obtain ⟨x,hx,rfl⟩:=List.mem_map.1 (show m∈c.methods.map lessM from hm)
 obtain ⟨_,_,_,hb⟩:=h4.2 x hx
 unfold fineM2 at hb
 unfold shortM
 split at hb
 ·obtain ⟨_,_,_,e1,e2⟩:=hb
  simp [lessM,e1]
 ·obtain ⟨_,_,_,q1,q2⟩:=hb
  exact ⟨by have:=q1.1;simp [lessM];omega,by simp [lessM],fun f hf=>by simp [lessM] at hf⟩
theorem lessR_short {c:MClass} {n:Int} (h:firstP (fileP c) (poolC c.pool=0) (headP c) (fieldsP c) (methodsP c) (codesP c) n):shortC (lessR c n):=by
 unfold lessR
 split
 ·rename_i h0
  subst h0
  unfold firstP at h
  rcases h with h|h|h|h|h|h|h
  ·exact absurd h.2 (by decide)
  all_goals exact less_short h.1.1
 ·exact ⟨by simp [noneC],by simp [noneC],by simp [noneC],by simp [noneC],by simp [noneC]⟩
theorem specLessD (c:MClass) (vp vi vf vm:Value) (B:Nat) (w:World) (hc:c.few) (h:ClassW w B vp vi vf vm c) :
  Calls Tryz.prog 14 #[.agg #[vp,.int .i64 c.flags,.int .i64 c.name,.int .i64 c.super,vi,vf,vm]] w fun e w'=>∃ (d:MClass) (up ui uf um:Value),(∃ n,firstP (fileP c) (poolC c.pool=0) (headP c) (fieldsP c) (methodsP c) (codesP c) n∧d=lessR c n)∧e=.returned (.agg #[up,.int .i64 d.flags,.int .i64 d.name,.int .i64 d.super,ui,uf,um])∧ClassW w' w.heap.size up ui uf um d∧Below w.heap.size w w':=
 (specLess_any c _ _ _ _ _ w _ hc h (fun W hW=>specClassCheck_any c _ _ _ _ _ W hc (h.keep hW))).mono (by
  rintro e w' ⟨n,up,ui,uf,um,xs,hq,rfl,hcl,hb⟩
  exact ⟨_,_,_,_,_,⟨n,hq,rfl⟩,rfl,hcl.all,hb⟩)
theorem implLessD (c:MClass) (vp vi vf vm:Value) (B:Nat) (w:World) (hc:c.few) (h:ClassW w B vp vi vf vm c) (hT:Tab w) (hE:ErrW w) :
  Calls Tryz.prog 15 #[.agg #[vp,.int .i64 c.flags,.int .i64 c.name,.int .i64 c.super,vi,vf,vm]] w fun e w'=>∃ (d:MClass) (up ui uf um:Value) (xs:List SMethod) (ys:List (List SFrame)),(∃ n,firstP (fileP c) (poolC c.pool=0) (headNI c∧headFI c) (fieldsI c) (methodsI c) (codesI c) n∧d=lessR c n)∧e=.returned (.agg #[up,.int .i64 d.flags,.int .i64 d.name,.int .i64 d.super,ui,uf,um])∧ClA w' w.heap.size up ui uf um d xs ys∧Below w.heap.size w w':=
 (implLess_any c _ _ _ _ _ w _ hc h (fun W hW=>implClassCheck_any c _ _ _ _ _ W hc (hT.keep hW hT.1) (hE.keep hW) (h.keep hW))).mono (by
  rintro e w' ⟨n,up,ui,uf,um,xs,hq,rfl,hcl,hb⟩
  exact ⟨_,_,_,_,_,_,_,⟨n,hq,rfl⟩,rfl,hcl,hb⟩)
theorem less_join {c d d':MClass} (h1:∃ n,firstP (fileP c) (poolC c.pool=0) (headNI c∧headFI c) (fieldsI c) (methodsI c) (codesI c) n∧d'=lessR c n) (h2:∃ n,firstP (fileP c) (poolC c.pool=0) (headP c) (fieldsP c) (methodsP c) (codesP c) n∧d=lessR c n):d'=d:=by
 obtain ⟨n,h1,rfl⟩:=h1
 obtain ⟨k,h2,rfl⟩:=h2
 rw [form_join h1 h2]
theorem ClA.chg {W W':World} {B b k:Nat} {vp vi vf vm:Value} {c:MClass} {xs:List SMethod} {ys:List (List SFrame)} (h:ClA W B vp vi vf vm c xs ys) (g:Chg b k W W') (hk:k≤B):ClA W' B vp vi vf vm c xs ys:=by
 have kp:Kp W W' B 0:=fun e z v n xs _ ho=>g.own ho (fun q hq=>.inr (by have:=(ho.lt q hq).1;omega))
 exact h.kp kp (by decide) (by decide) (by decide) (by decide) (by decide) (by decide) (by decide)
theorem walk (c:MClass) (ap:Option Addr) (lp cp:Nat) (ai:Option Addr) (li ci:Nat) (af:Option Addr) (lf cf:Nat) (am:Option Addr) (lm cm:Nat) (w:World) (hT:Tab w) (hE:ErrW w) (hA:ArgCl w ap lp ai li af lf am lm c) :
  Calls Tryz.prog 4 #[.agg #[.slice ap lp cp,.int .i64 c.flags,.int .i64 c.name,.int .i64 c.super,.slice ai li ci,.slice af lf cf,.slice am lm cm]] w fun e w'=>e=.returned (.bool true)∧Below w.heap.size w w':=by
 have P0:=PB.start w (arrC (.slice ap lp cp) c.flags c.name c.super (.slice ai li ci) (.slice af lf cf) (.slice am lm cm)) 27
 have hsz:=szClass_any c ap lp cp ai li ci af lf cf am lm cm _ (hA.keep P0.old)
 have HA:=hid hA
 have HT:=hid (fun W (hW:Below w.heap.size w W)=>hT.keep hW hT.1)
 have HE:=hid (fun W (hW:Below w.heap.size w W)=>hE.keep hW)
 clear hA hT hE
 go_enter Tryz.func4,Tryz.ntmps4
 go_wp2_with fail
 refine hsz.mono ?_
 rintro e w0 ⟨n,rfl,hn,hb0⟩
 have P1:=P0.keep hb0
 clear P0 hb0 hsz
 by_cases hneg:n<0
 ·have HO:=hid P1.old
  clear hn P1
  go_wp2
  go_ret
  exact ⟨rfl,HO.out⟩
 ·have hc:c.few:=hn.resolve_left hneg
  have HC:=hid hc
  have hto:=fun W (hW:Below w.heap.size w W)=>toClass_any c ap lp cp ai li ci af lf cf am lm cm W (HA.out.keep hW) hc
  obtain ⟨⟨c0,c1,c2,c3,c4,c5,c6⟩,_⟩:=P1.lk.c7
  clear hn hc
  go_wp2_with fail
  refine (hto _ P1.old).mono ?_
  rintro e w1 ⟨vp1,vi1,vf1,vm1,rfl,ho1,hb1⟩
  have P2:=P1.keep hb1
  have hS:=specLessD c _ _ _ _ _ w1 HC.out ho1
  clear P1 hb1 ho1 c0 c1 c2 c3 c4 c5 c6
  go_wp2_with fail
  refine hS.mono ?_
  rintro e w2 ⟨d,u1,u2,u3,u4,hq,rfl,hcl,hb2⟩
  have P3:=P2.keep hb2
  have HQ:=hid hq
  have hf:d.few:=by obtain ⟨n,_,rfl⟩:=hq;exact lessR_few HC.out n
  have hsh:shortC d:=by obtain ⟨n,hn,rfl⟩:=hq;exact lessR_short hn
  have HFw:=hid hf
  have HSh:=hid hsh
  have hkz:=kAll_le hsh
  obtain ⟨kk,hkk⟩:∃ k:Nat,Hid (kAll d=k):=⟨_,hid rfl⟩
  rw [hkk.out] at hkz
  obtain ⟨o1,j1,hv1⟩:=own_len hcl.p
  obtain ⟨o2,j2,hv2⟩:=own_len hcl.i
  obtain ⟨o3,j3,hv3⟩:=own_len hcl.f
  obtain ⟨o4,j4,hv4⟩:=hcl.m.len
  subst hv1 hv2 hv3 hv4
  have hal:Below w2.heap.size w2 (w2.alloc (.cells (arrC (.slice o1 d.pool.length j1) d.flags d.name d.super (.slice o2 d.faces.length j2) (.slice o3 d.fields.length j3) (.slice o4 d.methods.length j4)) 34)):=(Below.refl _ _).alloc (Nat.le_refl _) _
  have HK:=hid (fun W (hW:Below (w2.alloc (.cells (arrC (.slice o1 d.pool.length j1) d.flags d.name d.super (.slice o2 d.faces.length j2) (.slice o3 d.fields.length j3) (.slice o4 d.methods.length j4)) 34)).heap.size (w2.alloc (.cells (arrC (.slice o1 d.pool.length j1) d.flags d.name d.super (.slice o2 d.faces.length j2) (.slice o3 d.fields.length j3) (.slice o4 d.methods.length j4)) 34)) W)=>show PB w (arrC (.slice ap lp cp) c.flags c.name c.super (.slice ai li ci) (.slice af lf cf) (.slice am lm cm)) 27 W∧Lk W w2.heap.size (arrC (.slice o1 d.pool.length j1) d.flags d.name d.super (.slice o2 d.faces.length j2) (.slice o3 d.fields.length j3) (.slice o4 d.methods.length j4)) 34∧ClassW W w1.heap.size (.slice o1 d.pool.length j1) (.slice o2 d.faces.length j2) (.slice o3 d.fields.length j3) (.slice o4 d.methods.length j4) d from ⟨(P3.keep hal).keep hW,(Lk.new _ _ _).keep hW,(hcl.keep hal).keep hW⟩)
  have P4:=P3.keep hal
  obtain ⟨⟨c0,c1,c2,c3,c4,c5,c6⟩,_⟩:=P4.lk.c7
  clear P2 P3 hb2 hq hS hcl hf hsh hal
  go_wp2_with fail
  refine (hto _ P4.old).mono ?_
  rintro e w5 ⟨vp5,vi5,vf5,vm5,rfl,ho5,hb5⟩
  replace hb5:=below_sz hb5 (by simp)
  obtain ⟨x1,y1,hv1⟩:=own_len ho5.p
  obtain ⟨x2,y2,hv2⟩:=own_len ho5.i
  obtain ⟨x3,y3,hv3⟩:=own_len ho5.f
  obtain ⟨x4,y4,hv4⟩:=ho5.m.len
  subst hv1 hv2 hv3 hv4
  have hs4:(w2.alloc (.cells (arrC (.slice o1 d.pool.length j1) d.flags d.name d.super (.slice o2 d.faces.length j2) (.slice o3 d.fields.length j3) (.slice o4 d.methods.length j4)) 34)).heap.size=w2.heap.size+1:=by simp
  have ho5':ClassW w5 (w2.heap.size+1) (.slice x1 c.pool.length y1) (.slice x2 c.faces.length y2) (.slice x3 c.fields.length y3) (.slice x4 c.methods.length y4) c:=ho5.mono (by first|exact Nat.le_refl _|(simp))
  have hx5:=clX_of HC.out ho5'
  have hal:Below w5.heap.size w5 (w5.alloc (.cells (arrC (.slice x1 c.pool.length y1) c.flags c.name c.super (.slice x2 c.faces.length y2) (.slice x3 c.fields.length y3) (.slice x4 c.methods.length y4)) 34)):=(Below.refl _ _).alloc (Nat.le_refl _) _
  have hz5:=hb5.size
  rw [hs4] at hz5
  have B45:Below (w2.alloc (.cells (arrC (.slice o1 d.pool.length j1) d.flags d.name d.super (.slice o2 d.faces.length j2) (.slice o3 d.fields.length j3) (.slice o4 d.methods.length j4)) 34)).heap.size (w2.alloc (.cells (arrC (.slice o1 d.pool.length j1) d.flags d.name d.super (.slice o2 d.faces.length j2) (.slice o3 d.fields.length j3) (.slice o4 d.methods.length j4)) 34)) (w5.alloc (.cells (arrC (.slice x1 c.pool.length y1) c.flags c.name c.super (.slice x2 c.faces.length y2) (.slice x3 c.fields.length y3) (.slice x4 c.methods.length y4)) 34)):=hb5.trans (hal.mono hb5.size)
  have P5:=(HK.out _ B45).1
  have K5:=Lk.new w5 (arrC (.slice x1 c.pool.length y1) c.flags c.name c.super (.slice x2 c.faces.length y2) (.slice x3 c.fields.length y3) (.slice x4 c.methods.length y4)) 34
  have hI:=implLessD c _ _ _ _ _ _ HC.out (ho5'.keep hal) (HT.out _ P5.old) (HE.out _ P5.old)
  have HX5:=hid (fun W (hW:Below (w5.alloc (.cells (arrC (.slice x1 c.pool.length y1) c.flags c.name c.super (.slice x2 c.faces.length y2) (.slice x3 c.fields.length y3) (.slice x4 c.methods.length y4)) 34)).heap.size (w5.alloc (.cells (arrC (.slice x1 c.pool.length y1) c.flags c.name c.super (.slice x2 c.faces.length y2) (.slice x3 c.fields.length y3) (.slice x4 c.methods.length y4)) 34)) W)=>show Lk W w5.heap.size (arrC (.slice x1 c.pool.length y1) c.flags c.name c.super (.slice x2 c.faces.length y2) (.slice x3 c.fields.length y3) (.slice x4 c.methods.length y4)) 34∧ClassW W (w2.heap.size+1) (.slice x1 c.pool.length y1) (.slice x2 c.faces.length y2) (.slice x3 c.fields.length y3) (.slice x4 c.methods.length y4) c∧ClX W (w2.heap.size+1) w5.heap.size (.slice x1 c.pool.length y1) (.slice x2 c.faces.length y2) (.slice x3 c.fields.length y3) (.slice x4 c.methods.length y4) c∧Below (w2.alloc (.cells (arrC (.slice o1 d.pool.length j1) d.flags d.name d.super (.slice o2 d.faces.length j2) (.slice o3 d.fields.length j3) (.slice o4 d.methods.length j4)) 34)).heap.size (w2.alloc (.cells (arrC (.slice o1 d.pool.length j1) d.flags d.name d.super (.slice o2 d.faces.length j2) (.slice o3 d.fields.length j3) (.slice o4 d.methods.length j4)) 34)) W from ⟨(Lk.new _ _ _).keep hW,(ho5'.keep hal).keep hW,(hx5.keep hal).keep hW,B45.trans (hW.mono B45.size)⟩)
  obtain ⟨⟨s0,s1,s2,s3,s4,s5,s6⟩,_⟩:=K5.c7
  clear P4 ho5 ho5' hx5 hb5 K5 P5 B45 c0 c1 c2 c3 c4 c5 c6 hs4
  go_wp2_with fail
  refine hI.mono ?_
  rintro e w6 ⟨d',v1,v2,v3,v4,us,ys,hq',rfl,hg,hb6⟩
  obtain rfl:d=d':=(less_join hq' HQ.out).symm
  replace hb6:=below_sz hb6 (by simp)
  obtain ⟨g1,l1,hv1⟩:=own_len hg.p
  obtain ⟨g2,l2,hv2⟩:=own_len hg.i
  obtain ⟨g3,l3,hv3⟩:=own_len hg.f
  obtain ⟨g4,l4,hv4⟩:=own_len hg.m.row
  subst hv1 hv2 hv3 hv4
  have hg':ClA w6 (w5.heap.size+1) (.slice g1 d.pool.length l1) (.slice g2 d.faces.length l2) (.slice g3 d.fields.length l3) (.slice g4 d.methods.length l4) d us ys:=by simpa using hg
  have hz6:=hb6.size
  rw [show (w5.alloc (.cells (arrC (.slice x1 c.pool.length y1) c.flags c.name c.super (.slice x2 c.faces.length y2) (.slice x3 c.fields.length y3) (.slice x4 c.methods.length y4)) 34)).heap.size=w5.heap.size+1 by simp] at hz6
  have hal6:Below w6.heap.size w6 (w6.alloc (.cells (arrC (.slice g1 d.pool.length l1) d.flags d.name d.super (.slice g2 d.faces.length l2) (.slice g3 d.fields.length l3) (.slice g4 d.methods.length l4)) 34)):=(Below.refl _ _).alloc (Nat.le_refl _) _
  have B56:Below (w5.alloc (.cells (arrC (.slice x1 c.pool.length y1) c.flags c.name c.super (.slice x2 c.faces.length y2) (.slice x3 c.fields.length y3) (.slice x4 c.methods.length y4)) 34)).heap.size (w5.alloc (.cells (arrC (.slice x1 c.pool.length y1) c.flags c.name c.super (.slice x2 c.faces.length y2) (.slice x3 c.fields.length y3) (.slice x4 c.methods.length y4)) 34)) (w6.alloc (.cells (arrC (.slice g1 d.pool.length l1) d.flags d.name d.super (.slice g2 d.faces.length l2) (.slice g3 d.fields.length l3) (.slice g4 d.methods.length l4)) 34)):=hb6.trans (hal6.mono hb6.size)
  have HU:=hid (show Under w6.heap.size ((.slice g1 d.pool.length l1) :: (.slice g2 d.faces.length l2) :: (.slice g3 d.fields.length l3) :: mods (.slice g4 d.methods.length l4) us ys) from by
   intro u hu i hi
   rcases List.mem_cons.1 hu with rfl|hu
   ·exact (hg'.p.lt i hi).2
   ·rcases List.mem_cons.1 hu with rfl|hu
    ·exact (hg'.i.lt i hi).2
    ·rcases List.mem_cons.1 hu with rfl|hu
     ·exact (hg'.f.lt i hi).2
     ·obtain ⟨e',z',n',xs',hu',_⟩:=(hg'.m.mk0 0).rows u hu
      exact (hu'.lt i hi).2)
  have HG:=hid (fun W (hW:Below (w6.alloc (.cells (arrC (.slice g1 d.pool.length l1) d.flags d.name d.super (.slice g2 d.faces.length l2) (.slice g3 d.fields.length l3) (.slice g4 d.methods.length l4)) 34)).heap.size (w6.alloc (.cells (arrC (.slice g1 d.pool.length l1) d.flags d.name d.super (.slice g2 d.faces.length l2) (.slice g3 d.fields.length l3) (.slice g4 d.methods.length l4)) 34)) W)=>show Lk W w6.heap.size (arrC (.slice g1 d.pool.length l1) d.flags d.name d.super (.slice g2 d.faces.length l2) (.slice g3 d.fields.length l3) (.slice g4 d.methods.length l4)) 34∧ClA W (w5.heap.size+1) (.slice g1 d.pool.length l1) (.slice g2 d.faces.length l2) (.slice g3 d.fields.length l3) (.slice g4 d.methods.length l4) d us ys∧Below (w5.alloc (.cells (arrC (.slice x1 c.pool.length y1) c.flags c.name c.super (.slice x2 c.faces.length y2) (.slice x3 c.fields.length y3) (.slice x4 c.methods.length y4)) 34)).heap.size (w5.alloc (.cells (arrC (.slice x1 c.pool.length y1) c.flags c.name c.super (.slice x2 c.faces.length y2) (.slice x3 c.fields.length y3) (.slice x4 c.methods.length y4)) 34)) W from ⟨(Lk.new _ _ _).keep hW,(hg'.below hal6).below hW,B56.trans (hW.mono B56.size)⟩)
  obtain ⟨K6,A6,B6⟩:=HG.out _ (Below.refl _ _)
  obtain ⟨K5,X5,R5,B4⟩:=HX5.out _ B6
  obtain ⟨P6,K4,D4⟩:=HK.out _ B4
  have hEq:=eqClass_same d _ _ _ _ _ _ _ _ _ _ _ HFw.out A6.all D4
  obtain ⟨⟨t0,t1,t2,t3,t4,t5,t6⟩,_⟩:=K6.c7
  obtain ⟨⟨r0,r1,r2,r3,r4,r5,r6⟩,_⟩:=K4.c7
  have n46:¬w2.heap.size=w6.heap.size:=by omega
  have n56:¬w5.heap.size=w6.heap.size:=by omega
  clear hI hq' hg hg' hb6 hal6 B56 s0 s1 s2 s3 s4 s5 s6 K6 A6 B6 K5 X5 R5 B4 P6 K4 D4 hal
  go_wp2_with fail
  refine hEq.mono ?_
  rintro e w7 ⟨rfl,hb7⟩
  replace hb7:=below_sz hb7 (by simp)
  obtain ⟨K6,A6,B6⟩:=HG.out _ hb7
  obtain ⟨K5,X5,R5,B4⟩:=HX5.out _ B6
  obtain ⟨P6,K4,D4⟩:=HK.out _ B4
  have HB7:=hid (show Below (w6.alloc (.cells (arrC (.slice g1 d.pool.length l1) d.flags d.name d.super (.slice g2 d.faces.length l2) (.slice g3 d.fields.length l3) (.slice g4 d.methods.length l4)) 34)).heap.size (w6.alloc (.cells (arrC (.slice g1 d.pool.length l1) d.flags d.name d.super (.slice g2 d.faces.length l2) (.slice g3 d.fields.length l3) (.slice g4 d.methods.length l4)) 34)) w7 from hb7)
  clear hb7 hEq t0 t1 t2 t3 t4 t5 t6 r0 r1 r2 r3 r4 r5 r6 K6 A6 B6 K5 X5 R5 B4 P6 K4 D4
  go_upto_region 10 with fail
  go_cut [31] (fun t wc=>t=.bool false∧Hid (Below (w6.alloc (.cells (arrC (.slice g1 d.pool.length l1) d.flags d.name d.super (.slice g2 d.faces.length l2) (.slice g3 d.fields.length l3) (.slice g4 d.methods.length l4)) 34)).heap.size (w6.alloc (.cells (arrC (.slice g1 d.pool.length l1) d.flags d.name d.super (.slice g2 d.faces.length l2) (.slice g3 d.fields.length l3) (.slice g4 d.methods.length l4)) 34)) wc))
  case first=>
   have hbd:Below (w6.alloc (.cells (arrC (.slice g1 d.pool.length l1) d.flags d.name d.super (.slice g2 d.faces.length l2) (.slice g3 d.fields.length l3) (.slice g4 d.methods.length l4)) 34)).heap.size (w6.alloc (.cells (arrC (.slice g1 d.pool.length l1) d.flags d.name d.super (.slice g2 d.faces.length l2) (.slice g3 d.fields.length l3) (.slice g4 d.methods.length l4)) 34)) w7.drew:=HB7.out.drew
   obtain ⟨K6,A6,B6⟩:=HG.out _ hbd
   obtain ⟨K5,X5,R5,B4⟩:=HX5.out _ B6
   obtain ⟨P6,K4,D4⟩:=HK.out _ B4
   have hO:=P6.old
   obtain ⟨⟨c0,c1,c2,c3,c4,c5,c6⟩,_⟩:=P6.lk.c7
   obtain ⟨⟨s0,s1,s2,s3,s4,s5,s6⟩,_⟩:=K5.c7
   have hto7:=hto _ hO
   have hq8:=fun (W:World) (hW:Below w7.drew.heap.size w7.drew W) vp vi vf vm B (hy:ClassW W B vp vi vf vm c)=>eqClass_same c _ _ _ _ vp vi vf vm _ B W HC.out (X5.keep hW) hy
   have HK5:=hid (fun W (hW:Below w7.drew.heap.size w7.drew W)=>show Lk W w5.heap.size (arrC (.slice x1 c.pool.length y1) c.flags c.name c.super (.slice x2 c.faces.length y2) (.slice x3 c.fields.length y3) (.slice x4 c.methods.length y4)) 34∧PB w (arrC (.slice ap lp cp) c.flags c.name c.super (.slice ai li ci) (.slice af lf cf) (.slice am lm cm)) 27 W from ⟨K5.keep hW,P6.keep hW⟩)
   clear K6 A6 B6 K5 X5 R5 B4 P6 K4 D4 hO hto HG HX5 HK HQ HFw HSh HA HT HE HU hkz hkk n46 n56
   go_region_held (fun w'=>w'.cell? ⟨w.heap.size,0,none⟩=some (.slice ap lp cp)∧w'.cell? ⟨w.heap.size,1,none⟩=some (.int .i64 c.flags)∧w'.cell? ⟨w.heap.size,2,none⟩=some (.int .i64 c.name)∧w'.cell? ⟨w.heap.size,3,none⟩=some (.int .i64 c.super)∧w'.cell? ⟨w.heap.size,4,none⟩=some (.slice ai li ci)∧w'.cell? ⟨w.heap.size,5,none⟩=some (.slice af lf cf)∧w'.cell? ⟨w.heap.size,6,none⟩=some (.slice am lm cm)∧w'.cell? ⟨w5.heap.size,0,none⟩=some (.slice x1 c.pool.length y1)∧w'.cell? ⟨w5.heap.size,1,none⟩=some (.int .i64 c.flags)∧w'.cell? ⟨w5.heap.size,2,none⟩=some (.int .i64 c.name)∧w'.cell? ⟨w5.heap.size,3,none⟩=some (.int .i64 c.super)∧w'.cell? ⟨w5.heap.size,4,none⟩=some (.slice x2 c.faces.length y2)∧w'.cell? ⟨w5.heap.size,5,none⟩=some (.slice x3 c.fields.length y3)∧w'.cell? ⟨w5.heap.size,6,none⟩=some (.slice x4 c.methods.length y4)) (refine ⟨?_, ?_, ?_, ?_, ?_, ?_, ?_, ?_, ?_, ?_, ?_, ?_, ?_, ?_⟩<;>assumption) (first
    | (go_at_call 11;refine hto7.mono ?_;rintro e w8 ⟨vp8,vi8,vf8,vm8,rfl,ho8,hb8⟩;obtain ⟨K8,P8⟩:=HK5.out _ hb8;obtain ⟨⟨e0,e1,e2,e3,e4,e5,e6⟩,_⟩:=P8.lk.c7;obtain ⟨⟨f0,f1,f2,f3,f4,f5,f6⟩,_⟩:=K8.c7)
    | (go_at_call 13;refine (hq8 _ (by assumption) _ _ _ _ _ (by assumption)).mono ?_;rintro e w9 ⟨rfl,hb9⟩;have hb79:=Below.trans hb8 (hb9.mono hb8.size);obtain ⟨K9,P9⟩:=HK5.out _ hb79;obtain ⟨⟨g0,g1,g2,g3,g4,g5,g6⟩,_⟩:=P9.lk.c7;obtain ⟨⟨h0,h1,h2,h3,h4,h5,h6⟩,_⟩:=K9.c7))
   go_wp2_with fail
   go_meet
   case rel=>exact ⟨rfl,hid (hbd.trans (hb79.mono hbd.size))⟩
  case rest=>
   obtain ⟨rfl,HO⟩:=hcut
   obtain ⟨K6,A6,B6⟩:=HG.out _ HO.out
   obtain ⟨K5,X5,R5,B4⟩:=HX5.out _ B6
   have hwc:(w6.alloc (.cells (arrC (.slice g1 d.pool.length l1) d.flags d.name d.super (.slice g2 d.faces.length l2) (.slice g3 d.fields.length l3) (.slice g4 d.methods.length l4)) 34)).heap.size≤wc.heap.size:=HO.out.size
   rw [show (w6.alloc (.cells (arrC (.slice g1 d.pool.length l1) d.flags d.name d.super (.slice g2 d.faces.length l2) (.slice g3 d.fields.length l3) (.slice g4 d.methods.length l4)) 34)).heap.size=w6.heap.size+1 by simp] at hwc
   have hMw:=markClass_weak c _ _ _ _ (w2.heap.size+1) w5.heap.size wc HC.out hz5 (by omega) R5
   obtain ⟨⟨s0,s1,s2,s3,s4,s5,s6⟩,_⟩:=K5.c7
   have H1:=hid (show Lk wc w6.heap.size (arrC (.slice g1 d.pool.length l1) d.flags d.name d.super (.slice g2 d.faces.length l2) (.slice g3 d.fields.length l3) (.slice g4 d.methods.length l4)) 34∧ClA wc (w5.heap.size+1) (.slice g1 d.pool.length l1) (.slice g2 d.faces.length l2) (.slice g3 d.fields.length l3) (.slice g4 d.methods.length l4) d us ys∧Below (w2.alloc (.cells (arrC (.slice o1 d.pool.length j1) d.flags d.name d.super (.slice o2 d.faces.length j2) (.slice o3 d.fields.length j3) (.slice o4 d.methods.length j4)) 34)).heap.size (w2.alloc (.cells (arrC (.slice o1 d.pool.length j1) d.flags d.name d.super (.slice o2 d.faces.length j2) (.slice o3 d.fields.length j3) (.slice o4 d.methods.length j4)) 34)) wc from ⟨K6,A6,B4⟩)
   clear K6 A6 B6 K5 X5 R5 B4 HO HB7 HG HX5
   go_wp2_with fail
   refine hMw.mono ?_
   rintro e w8 ⟨k,rfl,hch⟩
   obtain ⟨K6,A6,B4⟩:=H1.out
   have K8:=K6.chgd hch (by omega)
   have A8:=ClA.chg A6 hch (by omega)
   have hs4:(w2.alloc (.cells (arrC (.slice o1 d.pool.length j1) d.flags d.name d.super (.slice o2 d.faces.length j2) (.slice o3 d.fields.length j3) (.slice o4 d.methods.length j4)) 34)).heap.size=w2.heap.size+1:=by simp
   have B8:Below (w2.alloc (.cells (arrC (.slice o1 d.pool.length j1) d.flags d.name d.super (.slice o2 d.faces.length j2) (.slice o3 d.fields.length j3) (.slice o4 d.methods.length j4)) 34)).heap.size (w2.alloc (.cells (arrC (.slice o1 d.pool.length j1) d.flags d.name d.super (.slice o2 d.faces.length j2) (.slice o3 d.fields.length j3) (.slice o4 d.methods.length j4)) 34)) w8:=B4.trans (hch.up (by rw [hs4];exact Nat.le_refl _) B4.size)
   obtain ⟨P8,K48,D8⟩:=HK.out _ B8
   have hEq:=eqClass_same d _ _ _ _ _ _ _ _ _ _ _ HFw.out A8.all D8
   have H2:=hid (show Lk w8 w6.heap.size (arrC (.slice g1 d.pool.length l1) d.flags d.name d.super (.slice g2 d.faces.length l2) (.slice g3 d.fields.length l3) (.slice g4 d.methods.length l4)) 34∧ClA w8 (w5.heap.size+1) (.slice g1 d.pool.length l1) (.slice g2 d.faces.length l2) (.slice g3 d.fields.length l3) (.slice g4 d.methods.length l4) d us ys∧Below (w2.alloc (.cells (arrC (.slice o1 d.pool.length j1) d.flags d.name d.super (.slice o2 d.faces.length j2) (.slice o3 d.fields.length j3) (.slice o4 d.methods.length j4)) 34)).heap.size (w2.alloc (.cells (arrC (.slice o1 d.pool.length j1) d.flags d.name d.super (.slice o2 d.faces.length j2) (.slice o3 d.fields.length j3) (.slice o4 d.methods.length j4)) 34)) w8 from ⟨K8,A8,B8⟩)
   obtain ⟨⟨t0,t1,t2,t3,t4,t5,t6⟩,_⟩:=K8.c7
   obtain ⟨⟨r0,r1,r2,r3,r4,r5,r6⟩,_⟩:=K48.c7
   have hk0:¬(k:Int)<0:=by omega
   have hz8:wc.heap.size≤w8.heap.size:=hch.size
   clear hMw hch K6 A6 B4 K8 A8 B8 P8 K48 D8 H1 s0 s1 s2 s3 s4 s5 s6 hs4
   go_wp2_with fail
   refine hEq.mono ?_
   rintro e w9 ⟨rfl,hb9⟩
   obtain ⟨K8,A8,B8⟩:=H2.out
   have K9:=K8.keep hb9
   have A9:=A8.below hb9
   have B9:Below (w2.alloc (.cells (arrC (.slice o1 d.pool.length j1) d.flags d.name d.super (.slice o2 d.faces.length j2) (.slice o3 d.fields.length j3) (.slice o4 d.methods.length j4)) 34)).heap.size (w2.alloc (.cells (arrC (.slice o1 d.pool.length j1) d.flags d.name d.super (.slice o2 d.faces.length j2) (.slice o3 d.fields.length j3) (.slice o4 d.methods.length j4)) 34)) w9:=B8.trans (hb9.mono B8.size)
   have hz9:=hb9.size
   have hMk:=markClass_any d _ _ _ _ us ys (w5.heap.size+1) w9 HSh.out (by omega) A9
   rw [hkk.out] at hMk
   have H3:=hid (show Lk w9 w6.heap.size (arrC (.slice g1 d.pool.length l1) d.flags d.name d.super (.slice g2 d.faces.length l2) (.slice g3 d.fields.length l3) (.slice g4 d.methods.length l4)) 34∧Below (w2.alloc (.cells (arrC (.slice o1 d.pool.length j1) d.flags d.name d.super (.slice o2 d.faces.length j2) (.slice o3 d.fields.length j3) (.slice o4 d.methods.length j4)) 34)).heap.size (w2.alloc (.cells (arrC (.slice o1 d.pool.length j1) d.flags d.name d.super (.slice o2 d.faces.length j2) (.slice o3 d.fields.length j3) (.slice o4 d.methods.length j4)) 34)) w9 from ⟨K9,B9⟩)
   obtain ⟨⟨s0,s1,s2,s3,s4,s5,s6⟩,_⟩:=K9.c7
   clear hEq hb9 K8 A8 B8 K9 A9 B9 H2 t0 t1 t2 t3 t4 t5 t6 r0 r1 r2 r3 r4 r5 r6
   go_wp2_with fail
   refine hMk.mono ?_
   rintro e w10 ⟨rfl,⟨us',ys',C10⟩,hb10,m10⟩
   obtain ⟨K9,B9⟩:=H3.out
   have K10:=K9.mod m10 HU.out
   have hs4:(w2.alloc (.cells (arrC (.slice o1 d.pool.length j1) d.flags d.name d.super (.slice o2 d.faces.length j2) (.slice o3 d.fields.length j3) (.slice o4 d.methods.length j4)) 34)).heap.size=w2.heap.size+1:=by simp
   have B10:Below (w2.alloc (.cells (arrC (.slice o1 d.pool.length j1) d.flags d.name d.super (.slice o2 d.faces.length j2) (.slice o3 d.fields.length j3) (.slice o4 d.methods.length j4)) 34)).heap.size (w2.alloc (.cells (arrC (.slice o1 d.pool.length j1) d.flags d.name d.super (.slice o2 d.faces.length j2) (.slice o3 d.fields.length j3) (.slice o4 d.methods.length j4)) 34)) w10:=B9.trans (hb10.mono (by omega))
   have hHd:=heldClass_any d _ _ _ _ us' ys' (w5.heap.size+1) w10 HSh.out C10
   rw [hkk.out] at hHd
   have H4:=hid (show Lk w10 w6.heap.size (arrC (.slice g1 d.pool.length l1) d.flags d.name d.super (.slice g2 d.faces.length l2) (.slice g3 d.fields.length l3) (.slice g4 d.methods.length l4)) 34∧CKm w10 (w5.heap.size+1) (.slice g1 d.pool.length l1) (.slice g2 d.faces.length l2) (.slice g3 d.fields.length l3) (.slice g4 d.methods.length l4) d us' ys'∧Below (w2.alloc (.cells (arrC (.slice o1 d.pool.length j1) d.flags d.name d.super (.slice o2 d.faces.length j2) (.slice o3 d.fields.length j3) (.slice o4 d.methods.length j4)) 34)).heap.size (w2.alloc (.cells (arrC (.slice o1 d.pool.length j1) d.flags d.name d.super (.slice o2 d.faces.length j2) (.slice o3 d.fields.length j3) (.slice o4 d.methods.length j4)) 34)) w10 from ⟨K10,C10,B10⟩)
   obtain ⟨⟨t0,t1,t2,t3,t4,t5,t6⟩,_⟩:=K10.c7
   clear hMk hb10 m10 K9 B9 H3 K10 B10 C10 HU s0 s1 s2 s3 s4 s5 s6 hs4
   go_wp2_with fail
   refine hHd.mono ?_
   rintro e w11 ⟨rfl,hb11⟩
   obtain ⟨K10,C10,B10⟩:=H4.out
   have B11:Below (w2.alloc (.cells (arrC (.slice o1 d.pool.length j1) d.flags d.name d.super (.slice o2 d.faces.length j2) (.slice o3 d.fields.length j3) (.slice o4 d.methods.length j4)) 34)).heap.size (w2.alloc (.cells (arrC (.slice o1 d.pool.length j1) d.flags d.name d.super (.slice o2 d.faces.length j2) (.slice o3 d.fields.length j3) (.slice o4 d.methods.length j4)) 34)) w11:=B10.trans (hb11.mono B10.size)
   have P11:=(HK.out _ B11).1
   have H5:=hid (show Lk w11 w6.heap.size (arrC (.slice g1 d.pool.length l1) d.flags d.name d.super (.slice g2 d.faces.length l2) (.slice g3 d.fields.length l3) (.slice g4 d.methods.length l4)) 34∧CKm w11 (w5.heap.size+1) (.slice g1 d.pool.length l1) (.slice g2 d.faces.length l2) (.slice g3 d.fields.length l3) (.slice g4 d.methods.length l4) d us' ys'∧Below (w2.alloc (.cells (arrC (.slice o1 d.pool.length j1) d.flags d.name d.super (.slice o2 d.faces.length j2) (.slice o3 d.fields.length j3) (.slice o4 d.methods.length j4)) 34)).heap.size (w2.alloc (.cells (arrC (.slice o1 d.pool.length j1) d.flags d.name d.super (.slice o2 d.faces.length j2) (.slice o3 d.fields.length j3) (.slice o4 d.methods.length j4)) 34)) w11 from ⟨K10.keep hb11,C10.below hb11,B11⟩)
   obtain ⟨⟨c0,c1,c2,c3,c4,c5,c6⟩,_⟩:=P11.lk.c7
   have hto11:=hto _ P11.old
   clear hHd hb11 K10 C10 B10 B11 P11 H4 t0 t1 t2 t3 t4 t5 t6 hto
   go_wp2_with fail
   refine hto11.mono ?_
   rintro e w12 ⟨q1,q2,q3,q4,rfl,ho12,hb12⟩
   obtain ⟨K11,C11,B11⟩:=H5.out
   have B12:Below (w2.alloc (.cells (arrC (.slice o1 d.pool.length j1) d.flags d.name d.super (.slice o2 d.faces.length j2) (.slice o3 d.fields.length j3) (.slice o4 d.methods.length j4)) 34)).heap.size (w2.alloc (.cells (arrC (.slice o1 d.pool.length j1) d.flags d.name d.super (.slice o2 d.faces.length j2) (.slice o3 d.fields.length j3) (.slice o4 d.methods.length j4)) 34)) w12:=B11.trans (hb12.mono B11.size)
   have P12:=(HK.out _ B12).1
   have hI2:=implLessD c _ _ _ _ _ w12 HC.out ho12 (HT.out _ P12.old) (HE.out _ P12.old)
   have H6:=hid (show Lk w12 w6.heap.size (arrC (.slice g1 d.pool.length l1) d.flags d.name d.super (.slice g2 d.faces.length l2) (.slice g3 d.fields.length l3) (.slice g4 d.methods.length l4)) 34∧CKm w12 (w5.heap.size+1) (.slice g1 d.pool.length l1) (.slice g2 d.faces.length l2) (.slice g3 d.fields.length l3) (.slice g4 d.methods.length l4) d us' ys'∧Below (w2.alloc (.cells (arrC (.slice o1 d.pool.length j1) d.flags d.name d.super (.slice o2 d.faces.length j2) (.slice o3 d.fields.length j3) (.slice o4 d.methods.length j4)) 34)).heap.size (w2.alloc (.cells (arrC (.slice o1 d.pool.length j1) d.flags d.name d.super (.slice o2 d.faces.length j2) (.slice o3 d.fields.length j3) (.slice o4 d.methods.length j4)) 34)) w12 from ⟨K11.keep hb12,C11.below hb12,B12⟩)
   clear hto11 hb12 ho12 K11 C11 B11 B12 P12 H5 c0 c1 c2 c3 c4 c5 c6
   go_wp2_with fail
   refine hI2.mono ?_
   rintro e w13 ⟨d2,v1,v2,v3,v4,us2,ys2,hq2,rfl,hh,hb13⟩
   obtain rfl:d=d2:=(less_join hq2 HQ.out).symm
   obtain ⟨h1,m1,hv1⟩:=own_len hh.p
   obtain ⟨h2,m2,hv2⟩:=own_len hh.i
   obtain ⟨h3,m3,hv3⟩:=own_len hh.f
   obtain ⟨h4,m4,hv4⟩:=own_len hh.m.row
   subst hv1 hv2 hv3 hv4
   obtain ⟨K12,C12,B12⟩:=H6.out
   have hal:Below w13.heap.size w13 (w13.alloc (.cells (arrC (.slice h1 d.pool.length m1) d.flags d.name d.super (.slice h2 d.faces.length m2) (.slice h3 d.fields.length m3) (.slice h4 d.methods.length m4)) 34)):=(Below.refl _ _).alloc (Nat.le_refl _) _
   have hb13':Below w12.heap.size w12 (w13.alloc (.cells (arrC (.slice h1 d.pool.length m1) d.flags d.name d.super (.slice h2 d.faces.length m2) (.slice h3 d.fields.length m3) (.slice h4 d.methods.length m4)) 34)):=hb13.trans (hal.mono hb13.size)
   have B13:Below (w2.alloc (.cells (arrC (.slice o1 d.pool.length j1) d.flags d.name d.super (.slice o2 d.faces.length j2) (.slice o3 d.fields.length j3) (.slice o4 d.methods.length j4)) 34)).heap.size (w2.alloc (.cells (arrC (.slice o1 d.pool.length j1) d.flags d.name d.super (.slice o2 d.faces.length j2) (.slice o3 d.fields.length j3) (.slice o4 d.methods.length j4)) 34)) (w13.alloc (.cells (arrC (.slice h1 d.pool.length m1) d.flags d.name d.super (.slice h2 d.faces.length m2) (.slice h3 d.fields.length m3) (.slice h4 d.methods.length m4)) 34)):=B12.trans (hb13'.mono B12.size)
   obtain ⟨P13,K413,D13⟩:=HK.out _ B13
   have hEq:=eqClass_same d _ _ _ _ _ _ _ _ _ _ _ HFw.out (hh.below hal).all D13
   have K13:=Lk.new w13 (arrC (.slice h1 d.pool.length m1) d.flags d.name d.super (.slice h2 d.faces.length m2) (.slice h3 d.fields.length m3) (.slice h4 d.methods.length m4)) 34
   have H7:=hid (show Lk (w13.alloc (.cells (arrC (.slice h1 d.pool.length m1) d.flags d.name d.super (.slice h2 d.faces.length m2) (.slice h3 d.fields.length m3) (.slice h4 d.methods.length m4)) 34)) w6.heap.size (arrC (.slice g1 d.pool.length l1) d.flags d.name d.super (.slice g2 d.faces.length l2) (.slice g3 d.fields.length l3) (.slice g4 d.methods.length l4)) 34∧CKm (w13.alloc (.cells (arrC (.slice h1 d.pool.length m1) d.flags d.name d.super (.slice h2 d.faces.length m2) (.slice h3 d.fields.length m3) (.slice h4 d.methods.length m4)) 34)) (w5.heap.size+1) (.slice g1 d.pool.length l1) (.slice g2 d.faces.length l2) (.slice g3 d.fields.length l3) (.slice g4 d.methods.length l4) d us' ys'∧Below (w2.alloc (.cells (arrC (.slice o1 d.pool.length j1) d.flags d.name d.super (.slice o2 d.faces.length j2) (.slice o3 d.fields.length j3) (.slice o4 d.methods.length j4)) 34)).heap.size (w2.alloc (.cells (arrC (.slice o1 d.pool.length j1) d.flags d.name d.super (.slice o2 d.faces.length j2) (.slice o3 d.fields.length j3) (.slice o4 d.methods.length j4)) 34)) (w13.alloc (.cells (arrC (.slice h1 d.pool.length m1) d.flags d.name d.super (.slice h2 d.faces.length m2) (.slice h3 d.fields.length m3) (.slice h4 d.methods.length m4)) 34)) from ⟨K12.keep hb13',C12.below hb13',B13⟩)
   obtain ⟨⟨t0,t1,t2,t3,t4,t5,t6⟩,_⟩:=K13.c7
   obtain ⟨⟨r0,r1,r2,r3,r4,r5,r6⟩,_⟩:=K413.c7
   have hz13:(w2.alloc (.cells (arrC (.slice o1 d.pool.length j1) d.flags d.name d.super (.slice o2 d.faces.length j2) (.slice o3 d.fields.length j3) (.slice o4 d.methods.length j4)) 34)).heap.size≤w13.heap.size:=Nat.le_trans B12.size hb13.size
   rw [show (w2.alloc (.cells (arrC (.slice o1 d.pool.length j1) d.flags d.name d.super (.slice o2 d.faces.length j2) (.slice o3 d.fields.length j3) (.slice o4 d.methods.length j4)) 34)).heap.size=w2.heap.size+1 by simp] at hz13
   have n413:¬w2.heap.size=w13.heap.size:=by omega
   clear hI2 hq2 hh hb13 K12 C12 B12 H6 hal hb13' B13 P13 K413 D13 K13
   go_wp2_with fail
   refine hEq.mono ?_
   rintro e w14 ⟨rfl,hb14⟩
   replace hb14:=below_sz hb14 (by simp)
   obtain ⟨K13,C13,B13⟩:=H7.out
   have K14:=K13.keep hb14
   have hHd:=heldClass_any d _ _ _ _ us' ys' (w5.heap.size+1) w14 HSh.out (C13.below hb14)
   rw [hkk.out] at hHd
   have HZ:=hid (show Below (w2.alloc (.cells (arrC (.slice o1 d.pool.length j1) d.flags d.name d.super (.slice o2 d.faces.length j2) (.slice o3 d.fields.length j3) (.slice o4 d.methods.length j4)) 34)).heap.size (w2.alloc (.cells (arrC (.slice o1 d.pool.length j1) d.flags d.name d.super (.slice o2 d.faces.length j2) (.slice o3 d.fields.length j3) (.slice o4 d.methods.length j4)) 34)) w14 from B13.trans (hb14.mono B13.size))
   obtain ⟨⟨s0,s1,s2,s3,s4,s5,s6⟩,_⟩:=K14.c7
   clear hEq hb14 K13 C13 B13 K14 H7 t0 t1 t2 t3 t4 t5 t6 r0 r1 r2 r3 r4 r5 r6
   go_wp2_with fail
   refine hHd.mono ?_
   rintro e w15 ⟨rfl,hb15⟩
   have HEnd:=hid ((HK.out _ (HZ.out.trans (hb15.mono HZ.out.size))).1.old)
   clear hHd hb15 HZ HK s0 s1 s2 s3 s4 s5 s6
   go_wp2
   go_ret
   exact ⟨rfl,HEnd.out⟩
end Go.Proofs.YtadgoaogkkffmaaGreatDoor.fnExactFrameLess
