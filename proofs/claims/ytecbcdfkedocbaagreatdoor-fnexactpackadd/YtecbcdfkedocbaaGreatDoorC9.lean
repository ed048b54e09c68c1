/- Gathered: AddImpl AddSpec. -/
import Derived.Test.YtecbcdfkedocbaaGreatDoorC8
import Derived.Test.YtecbcdfkedocbaaGreatDoorC7
import Derived.Test.YtecbcdfkedocbaaGreatDoorC1
import Derived.Test.YtecbcdfkedocbaaGreatDoorH12
import Derived.Test.YtecbcdfkedocbaaGreatDoorG01
namespace Go.Proofs.YtecbcdfkedocbaaGreatDoor
open Mx Go.RowKit
set_option maxHeartbeats 4000000
set_option maxRecDepth 20000
set_option linter.unusedVariables false
theorem implAdd_any (c:MClass) (t:C4) (vp vi vf vm:Value) (B:Nat) (w:World) (Q:Int→Prop) (hc:c.few) (ht:t.text.size≤1048576) (h:ClassW w B vp vi vf vm c) (hQ:Q 0→0<c.pool.length∧c.pool.length≤60)
  (hI:∀ W,Below w.heap.size w W→Calls Tryz.prog 24 #[.agg #[vp,.int .i64 c.flags,.int .i64 c.name,.int .i64 c.super,vi,vf,vm]] W fun e w'=>∃ n:Int,e=.returned (.int .i64 n)∧Q n∧Below W.heap.size W w') :
  Calls Tryz.prog 9 #[.agg #[vp,.int .i64 c.flags,.int .i64 c.name,.int .i64 c.super,vi,vf,vm],.agg (arr4 t)] w fun e w'=>∃ n d p up ui uf um xs ys,Q n∧AddOut c t n d p∧e=.returned (.tuple #[.agg #[up,.int .i64 d.flags,.int .i64 d.name,.int .i64 d.super,ui,uf,um],.int .i64 p])∧ClA w' w.heap.size up ui uf um d xs ys∧Below w.heap.size w w':=by
 obtain ⟨o1,j1,hv1⟩:=own_len h.p
 obtain ⟨o2,j2,hv2⟩:=own_len h.i
 obtain ⟨o3,j3,hv3⟩:=own_len h.f
 obtain ⟨o4,j4,hv4⟩:=h.m.len
 subst hv1 hv2 hv3 hv4
 have S0:=AB.new w #[.slice o1 c.pool.length j1,.int .i64 c.flags,.int .i64 c.name,.int .i64 c.super,.slice o2 c.faces.length j2,.slice o3 c.fields.length j3,.slice o4 c.methods.length j4] (arr4 t) #[.slice none 0 0,.int .i64 0,.int .i64 0,.int .i64 0,.slice none 0 0,.slice none 0 0,.slice none 0 0]
 have hX:=hI _ S0.b
 have HC:=hid (fun W (hW:Below w.heap.size w W)=>copyClass_any c _ _ _ _ B W hc (h.keep hW))
 have HIX:=hid (fun W (hW:Below w.heap.size w W)=>indexC_any c.pool t B _ W hc.pool (own_below h.p hW))
 have HTX:=hid hc.texts
 obtain ⟨⟨c0,c1,c2,c3,c4,c5,c6⟩,z0,z1,z2,z3,z4,z5,z6⟩:=S0.box.x7
 clear h hI
 go_enter Tryz.func9,Tryz.ntmps9
 go_wp2_with fail
 refine hX.mono ?_
 rintro e w1 ⟨n,rfl,hn,hb1⟩
 have T1:=S0.keep hb1
 have HN:=hid hn
 clear S0 hb1 hX hn c0 c1 c2 c3 c4 c5 c6 z0 z1 z2 z3 z4 z5 z6
 obtain ⟨⟨c0,c1,c2,c3,c4,c5,c6⟩,z0,z1,z2,z3,z4,z5,z6⟩:=T1.box.x7
 by_cases h0:n=0
 ·subst h0
  have hC:=HC.out _ T1.b
  obtain ⟨hp0,hpl⟩:=hQ HN.out
  clear HC hc hQ
  go_wp2_with fail
  refine hC.mono ?_
  rintro e w2 ⟨v1,v2,v3,v4,xs,ys,rfl,hcc,hb2⟩
  obtain ⟨p1,k1,rfl⟩:=own_len hcc.p
  obtain ⟨p2,k2,rfl⟩:=own_len hcc.i
  obtain ⟨p3,k3,rfl⟩:=own_len hcc.f
  obtain ⟨p4,k4,rfl⟩:=own_len hcc.m.row
  have hsz1:w.heap.size+3≤w1.heap.size:=by have:=T1.res.lt;omega
  have ha:Below w2.heap.size w2 (w2.alloc (.cells #[.slice p1 c.pool.length k1,.int .i64 c.flags,.int .i64 c.name,.int .i64 c.super,.slice p2 c.faces.length k2,.slice p3 c.fields.length k3,.slice p4 c.methods.length k4] 36)):=(Below.refl _ _).alloc (Nat.le_refl _) _
  have T2:=(T1.keep hb2).keep ha
  have L2:=Lk.new w2 #[.slice p1 c.pool.length k1,.int .i64 c.flags,.int .i64 c.name,.int .i64 c.super,.slice p2 c.faces.length k2,.slice p3 c.fields.length k3,.slice p4 c.methods.length k4] 36
  have CC:=hid ((hcc.keep ha).mono hsz1)
  have hsz2:w.heap.size+3≤w2.heap.size:=Nat.le_trans hsz1 hb2.size
  clear hcc hC hb2 T1 ha c0 c1 c2 c3 c4 c5 c6 z0 z1 z2 z3 z4 z5 z6
  obtain ⟨⟨c0,c1,c2,c3,c4,c5,c6⟩,z0,z1,z2,z3,z4,z5,z6⟩:=T2.box.x7
  obtain ⟨⟨e0,e1,e2,e3⟩,y0,y1,y2,y3⟩:=T2.eb.x4
  have hIX:=HIX.out _ T2.b
  clear HIX
  go_wp2_with fail
  refine hIX.mono ?_
  rintro e w3 hor
  have hb3:Below (w2.alloc (.cells #[.slice p1 c.pool.length k1,.int .i64 c.flags,.int .i64 c.name,.int .i64 c.super,.slice p2 c.faces.length k2,.slice p3 c.fields.length k3,.slice p4 c.methods.length k4] 36)).heap.size (w2.alloc (.cells #[.slice p1 c.pool.length k1,.int .i64 c.flags,.int .i64 c.name,.int .i64 c.super,.slice p2 c.faces.length k2,.slice p3 c.fields.length k3,.slice p4 c.methods.length k4] 36)) w3:=by rcases hor with hor|hor<;>exact hor.2
  have T3:=T2.keep hb3
  have L3:=L2.keep hb3
  have CC3:=hid (CC.out.keep hb3)
  have hsz3:w2.heap.size<w3.heap.size:=L3.lt
  clear hIX T2 L2 CC c0 c1 c2 c3 c4 c5 c6 z0 z1 z2 z3 z4 z5 z6 e0 e1 e2 e3 y0 y1 y2 y3
  obtain ⟨⟨l0,l1,l2,l3,l4,l5,l6⟩,u0,u1,u2,u3,u4,u5,u6⟩:=L3.x7
  obtain ⟨⟨r0,r1,r2,r3,r4,r5,r6⟩,q0,q1,q2,q3,q4,q5,q6⟩:=T3.res.x7
  rcases hor with ⟨⟨k,hk,rfl,hk1,hk2⟩, -⟩|⟨⟨rfl,hno⟩, -⟩
  ·have HA:=hid (show AddOut c t 0 c ((k:Int)+1) from .inr (.inl ⟨rfl,rfl,k,hk,hk1,hk2,rfl⟩))
   have HB:=hid T3.b
   clear T3 L3 hb3 hk1 hk2
   go_wp2
   refine bodyPost_ret (v:=.tuple #[.agg #[.slice p1 c.pool.length k1,.int .i64 c.flags,.int .i64 c.name,.int .i64 c.super,.slice p2 c.faces.length k2,.slice p3 c.fields.length k3,.slice p4 c.methods.length k4],.int .i64 ((k:Int)+1)]) (by simp [results,Tryz.results9,go_sem, *]) rfl ⟨0,c,_,_,_,_,_,xs,ys,HN.out,HA.out,rfl, ?_, ?_⟩
   ·have s0:=CC3.out.set (a:=⟨w.heap.size+2,0,none⟩) (by simp) (.slice p1 c.pool.length k1)
    have s1:=s0.set (a:=⟨w.heap.size+2,1,none⟩) (by simp) (.int .i64 c.flags)
    have s2:=s1.set (a:=⟨w.heap.size+2,2,none⟩) (by simp) (.int .i64 c.name)
    have s3:=s2.set (a:=⟨w.heap.size+2,3,none⟩) (by simp) (.int .i64 c.super)
    have s4:=s3.set (a:=⟨w.heap.size+2,4,none⟩) (by simp) (.slice p2 c.faces.length k2)
    have s5:=s4.set (a:=⟨w.heap.size+2,5,none⟩) (by simp) (.slice p3 c.fields.length k3)
    have s6:=s5.set (a:=⟨w.heap.size+2,6,none⟩) (by simp) (.slice p4 c.methods.length k4)
    exact s6.mono (by omega)
   ·exact (((((((HB.out.setCell (by dsimp only;omega) _).setCell (by dsimp only;omega) _).setCell (by dsimp only;omega) _).setCell (by dsimp only;omega) _).setCell (by dsimp only;omega) _).setCell (by dsimp only;omega) _).setCell (by dsimp only;omega) _)
  ·obtain ⟨⟨e0,e1,e2,e3⟩,y0,y1,y2,y3⟩:=T3.eb.x4
   have hs0:=sayClone_any t.text w3 (by omega)
   have HNO:=hid hno
   clear hb3 hno
   go_wp2_with fail
   refine hs0.mono ?_
   rintro e w4 ⟨rfl,hb4⟩
   have T4:=(T3.keep hb4).setE (e':=arr4 t) 1 (.string t.text) rfl
   have L4:=(L3.keep hb4).other (a:=⟨w.heap.size+1,1,none⟩) (.string t.text) (by dsimp only;omega)
   have CC4:=hid ((CC3.out.keep hb4).set (a:=⟨w.heap.size+1,1,none⟩) (by simp) (.string t.text))
   have hE4:=(T3.keep hb4).eb
   have hL4:=L3.keep hb4
   have hsz4:w2.heap.size<w4.heap.size:=hL4.lt
   clear T3 L3 CC3 hs0 hb4 l0 l1 l2 l3 l4 l5 l6 u0 u1 u2 u3 u4 u5 u6 r0 r1 r2 r3 r4 r5 r6 q0 q1 q2 q3 q4 q5 q6 e0 e1 e2 e3 y0 y1 y2 y3
   obtain ⟨⟨e0,e1,e2,e3⟩,y0,y1,y2,y3⟩:=hE4.x4
   obtain ⟨⟨l0,l1,l2,l3,l4,l5,l6⟩,u0,u1,u2,u3,u4,u5,u6⟩:=hL4.x7
   have hBk:=behindC_any c.pool t (w.heap.size+3) _ _ hp0 (by omega) CC4.out.p
   clear hE4 hL4
   go_wp2_with fail
   refine hBk.mono ?_
   rintro e w5 ⟨v5,rfl,ho5,hb5⟩
   obtain ⟨n1,m1,rfl⟩:=own_len ho5
   have T5:=T4.keep hb5
   have L5:=L4.keep hb5
   have CC5:=hid (CC4.out.keep hb5)
   have HP5:=hid ho5
   clear T4 L4 CC4 hBk hb5 ho5 l0 l1 l2 l3 l4 l5 l6 u0 u1 u2 u3 u4 u5 u6 e0 e1 e2 e3 y0 y1 y2 y3
   have hPC:=PoolCheck_any (.slice n1 (c.pool.length+1) m1) (c.pool++[t]) w5 (by simp;omega) (fun u hu=>by
    rcases List.mem_append.1 hu with hu|hu
    ·exact HTX.out u hu
    ·simp at hu;subst hu;exact ht) ⟨_,by simpa using HP5.out⟩
   go_wp2_with fail
   refine hPC.mono ?_
   rintro e w6 ⟨rfl,hb6⟩
   have T6:=T5.keep hb6
   have L6:=L5.keep hb6
   have CC6:=hid (CC5.out.keep hb6)
   have HP6:=hid (own_below HP5.out hb6)
   clear T5 L5 CC5 HP5 hPC hb6
   obtain ⟨⟨l0,l1,l2,l3,l4,l5,l6⟩,u0,u1,u2,u3,u4,u5,u6⟩:=L6.x7
   obtain ⟨⟨r0,r1,r2,r3,r4,r5,r6⟩,q0,q1,q2,q3,q4,q5,q6⟩:=T6.res.x7
   have HB:=hid T6.b
   have hsz6:=L6.lt
   by_cases hz:poolC (c.pool++[t])=0
   ·have HA:=hid (show AddOut c t 0 (putP c t) ((c.pool.length:Int)+1) from .inr (.inr (.inl ⟨rfl,HNO.out,hz,rfl,rfl⟩)))
    have L7:=L6.set (cs':=#[.slice n1 (c.pool.length+1) m1,.int .i64 c.flags,.int .i64 c.name,.int .i64 c.super,.slice p2 c.faces.length k2,.slice p3 c.fields.length k3,.slice p4 c.methods.length k4]) 0 (.slice n1 (c.pool.length+1) m1) rfl
    have CL:=hid (show ClA (w6.setCell ⟨w2.heap.size,0,none⟩ (.slice n1 (c.pool.length+1) m1)) (w.heap.size+3) (.slice n1 (c.pool.length+1) m1) (.slice p2 c.faces.length k2) (.slice p3 c.fields.length k3) (.slice p4 c.methods.length k4) (putP c t) xs ys from by
     have kp:Kp w6 (w6.setCell ⟨w2.heap.size,0,none⟩ (.slice n1 (c.pool.length+1) m1)) (w.heap.size+3) 36:=Kp.set L6 0 _
     have q:=CC6.out.kp kp (by decide) (by decide) (by decide) (by decide) (by decide) (by decide) (by decide)
     refine ⟨?_,q.i,q.f,q.m⟩
     have hp:=HP6.out
     have:=kp _ _ _ _ _ (by decide) (Joins.ownsRow_le hp (by simp;omega))
     simpa [putP] using this)
    clear T6 L6 L7 CC6 HP6
    go_wp2
    refine bodyPost_ret (v:=.tuple #[.agg #[.slice n1 (c.pool.length+1) m1,.int .i64 c.flags,.int .i64 c.name,.int .i64 c.super,.slice p2 c.faces.length k2,.slice p3 c.fields.length k3,.slice p4 c.methods.length k4],.int .i64 ((c.pool.length:Int)+1)]) (by simp [results,Tryz.results9,go_sem, *]) rfl ⟨0,putP c t,_,_,_,_,_,xs,ys,HN.out,HA.out,rfl, ?_, ?_⟩
    ·have s0:=CL.out.set (a:=⟨w.heap.size+2,0,none⟩) (by simp) (.slice n1 (c.pool.length+1) m1)
     have s1:=s0.set (a:=⟨w.heap.size+2,1,none⟩) (by simp) (.int .i64 c.flags)
     have s2:=s1.set (a:=⟨w.heap.size+2,2,none⟩) (by simp) (.int .i64 c.name)
     have s3:=s2.set (a:=⟨w.heap.size+2,3,none⟩) (by simp) (.int .i64 c.super)
     have s4:=s3.set (a:=⟨w.heap.size+2,4,none⟩) (by simp) (.slice p2 c.faces.length k2)
     have s5:=s4.set (a:=⟨w.heap.size+2,5,none⟩) (by simp) (.slice p3 c.fields.length k3)
     have s6:=s5.set (a:=⟨w.heap.size+2,6,none⟩) (by simp) (.slice p4 c.methods.length k4)
     exact s6.mono (by omega)
    ·exact ((((((((HB.out.setCell (by dsimp only;omega) _).setCell (by dsimp only;omega) _).setCell (by dsimp only;omega) _).setCell (by dsimp only;omega) _).setCell (by dsimp only;omega) _).setCell (by dsimp only;omega) _).setCell (by dsimp only;omega) _).setCell (by dsimp only;omega) _)
   ·have HA:=hid (show AddOut c t 0 c 0 from .inr (.inr (.inr ⟨rfl,HNO.out,hz,rfl,rfl⟩)))
    clear T6 L6 HP6
    go_wp2
    refine bodyPost_ret (v:=.tuple #[.agg #[.slice p1 c.pool.length k1,.int .i64 c.flags,.int .i64 c.name,.int .i64 c.super,.slice p2 c.faces.length k2,.slice p3 c.fields.length k3,.slice p4 c.methods.length k4],.int .i64 0]) (by simp [results,Tryz.results9,go_sem, *]) rfl ⟨0,c,_,_,_,_,_,xs,ys,HN.out,HA.out,rfl, ?_, ?_⟩
    ·have s0:=CC6.out.set (a:=⟨w.heap.size+2,0,none⟩) (by simp) (.slice p1 c.pool.length k1)
     have s1:=s0.set (a:=⟨w.heap.size+2,1,none⟩) (by simp) (.int .i64 c.flags)
     have s2:=s1.set (a:=⟨w.heap.size+2,2,none⟩) (by simp) (.int .i64 c.name)
     have s3:=s2.set (a:=⟨w.heap.size+2,3,none⟩) (by simp) (.int .i64 c.super)
     have s4:=s3.set (a:=⟨w.heap.size+2,4,none⟩) (by simp) (.slice p2 c.faces.length k2)
     have s5:=s4.set (a:=⟨w.heap.size+2,5,none⟩) (by simp) (.slice p3 c.fields.length k3)
     have s6:=s5.set (a:=⟨w.heap.size+2,6,none⟩) (by simp) (.slice p4 c.methods.length k4)
     exact s6.mono (by omega)
    ·exact (((((((HB.out.setCell (by dsimp only;omega) _).setCell (by dsimp only;omega) _).setCell (by dsimp only;omega) _).setCell (by dsimp only;omega) _).setCell (by dsimp only;omega) _).setCell (by dsimp only;omega) _).setCell (by dsimp only;omega) _)
 ·obtain ⟨⟨r0,r1,r2,r3,r4,r5,r6⟩,q0,q1,q2,q3,q4,q5,q6⟩:=T1.res.x7
  have HB:=hid T1.b
  have HA:=hid (show AddOut c t n noneC 0 from .inl ⟨h0,rfl,rfl⟩)
  clear T1 HC HIX
  go_wp2
  refine bodyPost_ret (v:=.tuple #[.agg #[.slice none 0 0,.int .i64 0,.int .i64 0,.int .i64 0,.slice none 0 0,.slice none 0 0,.slice none 0 0],.int .i64 0]) (by simp [results,Tryz.results9,go_sem, *]) rfl ⟨n,noneC,_,_,_,_,_,[],[],HN.out,HA.out,rfl,ClA.none _ _, ?_⟩
  exact (((((((HB.out.setCell (by dsimp only;omega) _).setCell (by dsimp only;omega) _).setCell (by dsimp only;omega) _).setCell (by dsimp only;omega) _).setCell (by dsimp only;omega) _).setCell (by dsimp only;omega) _).setCell (by dsimp only;omega) _)
theorem specAdd_any (c:MClass) (t:C4) (vp vi vf vm:Value) (B:Nat) (w:World) (Q:Int→Prop) (hc:c.few) (ht:t.text.size≤1048576) (h:ClassW w B vp vi vf vm c) (hQ:Q 0→0<c.pool.length∧c.pool.length≤60)
  (hI:∀ W,Below w.heap.size w W→Calls Tryz.prog 17 #[.agg #[vp,.int .i64 c.flags,.int .i64 c.name,.int .i64 c.super,vi,vf,vm]] W fun e w'=>∃ n:Int,e=.returned (.int .i64 n)∧Q n∧Below W.heap.size W w') :
  Calls Tryz.prog 6 #[.agg #[vp,.int .i64 c.flags,.int .i64 c.name,.int .i64 c.super,vi,vf,vm],.agg (arr4 t)] w fun e w'=>∃ n d p up ui uf um,Q n∧AddOut c t n d p∧e=.returned (.tuple #[.agg #[up,.int .i64 d.flags,.int .i64 d.name,.int .i64 d.super,ui,uf,um],.int .i64 p])∧ClassW w' w.heap.size up ui uf um d∧Below w.heap.size w w':=by
 obtain ⟨o1,j1,hv1⟩:=own_len h.p
 obtain ⟨o2,j2,hv2⟩:=own_len h.i
 obtain ⟨o3,j3,hv3⟩:=own_len h.f
 obtain ⟨o4,j4,hv4⟩:=h.m.len
 subst hv1 hv2 hv3 hv4
 have S0:=AB.new w #[.slice o1 c.pool.length j1,.int .i64 c.flags,.int .i64 c.name,.int .i64 c.super,.slice o2 c.faces.length j2,.slice o3 c.fields.length j3,.slice o4 c.methods.length j4] (arr4 t) #[.slice none 0 0,.int .i64 0,.int .i64 0,.int .i64 0,.slice none 0 0,.slice none 0 0,.slice none 0 0]
 have hX:=hI _ S0.b
 have HC:=hid (fun W (hW:Below w.heap.size w W)=>l5CopyFile_any c _ _ _ _ B W hc (h.keep hW))
 have HTX:=hid hc.texts
 obtain ⟨iP,hP,hP0,hP1,hP2⟩:=info_parts infoConst
 obtain ⟨⟨c0,c1,c2,c3,c4,c5,c6⟩,z0,z1,z2,z3,z4,z5,z6⟩:=S0.box.x7
 clear h hI
 go_enter Tryz.func6,Tryz.ntmps6
 go_wp2_with fail
 refine hX.mono ?_
 rintro e w1 ⟨n,rfl,hn,hb1⟩
 have T1:=S0.keep hb1
 have HN:=hid hn
 clear S0 hb1 hX hn c0 c1 c2 c3 c4 c5 c6 z0 z1 z2 z3 z4 z5 z6
 obtain ⟨⟨c0,c1,c2,c3,c4,c5,c6⟩,z0,z1,z2,z3,z4,z5,z6⟩:=T1.box.x7
 by_cases h0:n=0
 ·subst h0
  have hC:=HC.out _ T1.b
  obtain ⟨hp0,hpl⟩:=hQ HN.out
  clear HC hc hQ
  go_wp2_with fail
  refine hC.mono ?_
  rintro e w2 ⟨v1,v2,v3,v4,rfl,hcc,hb2⟩
  obtain ⟨p1,k1,rfl⟩:=own_len hcc.p
  obtain ⟨p2,k2,rfl⟩:=own_len hcc.i
  obtain ⟨p3,k3,rfl⟩:=own_len hcc.f
  obtain ⟨p4,k4,rfl⟩:=hcc.m.len
  have hsz1:w.heap.size+3≤w1.heap.size:=by have:=T1.res.lt;omega
  have ha:Below w2.heap.size w2 (w2.alloc (.cells #[.slice p1 c.pool.length k1,.int .i64 c.flags,.int .i64 c.name,.int .i64 c.super,.slice p2 c.faces.length k2,.slice p3 c.fields.length k3,.slice p4 c.methods.length k4] 36)):=(Below.refl _ _).alloc (Nat.le_refl _) _
  have T2:=(T1.keep hb2).keep ha
  have L2:=Lk.new w2 #[.slice p1 c.pool.length k1,.int .i64 c.flags,.int .i64 c.name,.int .i64 c.super,.slice p2 c.faces.length k2,.slice p3 c.fields.length k3,.slice p4 c.methods.length k4] 36
  have CC:=(hcc.keep ha).mono hsz1
  have hsz2:w.heap.size+3≤w2.heap.size:=Nat.le_trans hsz1 hb2.size
  have HK:=hid (fun W (hW:Below (w2.alloc (.cells #[.slice p1 c.pool.length k1,.int .i64 c.flags,.int .i64 c.name,.int .i64 c.super,.slice p2 c.faces.length k2,.slice p3 c.fields.length k3,.slice p4 c.methods.length k4] 36)).heap.size (w2.alloc (.cells #[.slice p1 c.pool.length k1,.int .i64 c.flags,.int .i64 c.name,.int .i64 c.super,.slice p2 c.faces.length k2,.slice p3 c.fields.length k3,.slice p4 c.methods.length k4] 36)) W)=>show AB w #[.slice o1 c.pool.length j1,.int .i64 c.flags,.int .i64 c.name,.int .i64 c.super,.slice o2 c.faces.length j2,.slice o3 c.fields.length j3,.slice o4 c.methods.length j4] (arr4 t) #[.slice none 0 0,.int .i64 0,.int .i64 0,.int .i64 0,.slice none 0 0,.slice none 0 0,.slice none 0 0] W∧Lk W w2.heap.size #[.slice p1 c.pool.length k1,.int .i64 c.flags,.int .i64 c.name,.int .i64 c.super,.slice p2 c.faces.length k2,.slice p3 c.fields.length k3,.slice p4 c.methods.length k4] 36∧ClassW W (w.heap.size+3) (.slice p1 c.pool.length k1) (.slice p2 c.faces.length k2) (.slice p3 c.fields.length k3) (.slice p4 c.methods.length k4) c from ⟨T2.keep hW,L2.keep hW,CC.keep hW⟩)
  clear hcc hC hb2 T1 T2 L2 CC ha c0 c1 c2 c3 c4 c5 c6 z0 z1 z2 z3 z4 z5 z6
  go_wp2_with fail
  go_loopw [7] (fun i wr=>∃ (k:Nat),k≤c.pool.length∧i=.int .i64 k∧Hid (∀ j,(hj:j<k)→(hj2:j<c.pool.length)→c.pool[j]≠t)∧Hid (Below (w2.alloc (.cells #[.slice p1 c.pool.length k1,.int .i64 c.flags,.int .i64 c.name,.int .i64 c.super,.slice p2 c.faces.length k2,.slice p3 c.fields.length k3,.slice p4 c.methods.length k4] 36)).heap.size (w2.alloc (.cells #[.slice p1 c.pool.length k1,.int .i64 c.flags,.int .i64 c.name,.int .i64 c.super,.slice p2 c.faces.length k2,.slice p3 c.fields.length k3,.slice p4 c.methods.length k4] 36)) wr)) (fun i _=>c.pool.length - (intOf i).toNat)
  case atStart=>exact ⟨0,by omega,by first|rfl|go_num,hid (fun j hj=>by omega),hid (Below.refl _ _)⟩
  case round=>
   obtain ⟨k,hk,rfl,HNO,HB⟩:=hrel
   by_cases hlt:k<c.pool.length
   ·obtain ⟨T,L,C⟩:=HK.out _ HB.out
    obtain ⟨T2,L2,C2⟩:=HK.out _ HB.out.drew
    obtain ⟨g,hg⟩:=own_some C.p (by omega)
    subst hg
    obtain ⟨⟨c0,c1,c2,c3,c4,c5,c6⟩,z0,z1,z2,z3,z4,z5,z6⟩:=L.x7
    obtain ⟨⟨b0,b1,b2,b3,b4,b5,b6⟩,x0,x1,x2,x3,x4,x5,x6⟩:=L2.x7
    obtain ⟨⟨e0,e1,e2,e3⟩,_⟩:=T.eb.x4
    obtain ⟨⟨f0,f1,f2,f3⟩,_⟩:=T2.eb.x4
    obtain ⟨d0,d1,d2,d3⟩:=cells4_at C.p hlt
    obtain ⟨g0,g1,g2,g3⟩:=cells4_at C2.p hlt
    generalize hT:c.pool[k]=s at d0 d1 d2 d3 g0 g1 g2 g3
    have HT:=hid hT
    clear hT C C2
    rcases eqC_or t s with ⟨q1,q2,q3,q4,q5⟩|⟨hne,hq⟩
    ·have HQ:=hid (show AddOut c t 0 c ((k:Int)+1) from .inr (.inl ⟨rfl,rfl,k,hlt,HT.out.trans q5,fun j hj=>HNO.out j hj (by omega),rfl⟩))
     have HKD:=hid (HK.out _ HB.out)
     obtain ⟨⟨r0,r1,r2,r3,r4,r5,r6⟩,y0,y1,y2,y3,y4,y5,y6⟩:=T.res.x7
     clear q5 T L T2 L2
     go_wp2_with fail
     go_region_law fail
     all_goals
      go_wp2_with fail
      refine bodyPost_ret (v:=.tuple #[.agg #[.slice (some ⟨g,0,none⟩) c.pool.length k1,.int .i64 c.flags,.int .i64 c.name,.int .i64 c.super,.slice p2 c.faces.length k2,.slice p3 c.fields.length k3,.slice p4 c.methods.length k4],.int .i64 ((k:Int)+1)]) (by simp [results,Tryz.results6,go_sem, *]) rfl ⟨0,c,_,_,_,_,_,HN.out,HQ.out,rfl, ?_, ?_⟩
      ·have s0:=HKD.out.2.2.low (a:=⟨w.heap.size+2,0,none⟩) (by simp) (.slice (some ⟨g,0,none⟩) c.pool.length k1)
       have s1:=s0.low (a:=⟨w.heap.size+2,1,none⟩) (by simp) (.int .i64 c.flags)
       have s2:=s1.low (a:=⟨w.heap.size+2,2,none⟩) (by simp) (.int .i64 c.name)
       have s3:=s2.low (a:=⟨w.heap.size+2,3,none⟩) (by simp) (.int .i64 c.super)
       have s4:=s3.low (a:=⟨w.heap.size+2,4,none⟩) (by simp) (.slice p2 c.faces.length k2)
       have s5:=s4.low (a:=⟨w.heap.size+2,5,none⟩) (by simp) (.slice p3 c.fields.length k3)
       have s6:=s5.low (a:=⟨w.heap.size+2,6,none⟩) (by simp) (.slice p4 c.methods.length k4)
       exact (s6.less (by omega)).keep (Below.refl _ _).drew
      ·exact (((((((HKD.out.1.b.setCell (by dsimp only;omega) _).setCell (by dsimp only;omega) _).setCell (by dsimp only;omega) _).setCell (by dsimp only;omega) _).setCell (by dsimp only;omega) _).setCell (by dsimp only;omega) _).setCell (by dsimp only;omega) _).drew
    ·have HQ:=hid hne
     clear hne T L T2 L2
     have HNN:=hid (show ∀ j,(hj:j<k+1)→(hj2:j<c.pool.length)→c.pool[j]≠t from fun j hj hj2=>by
      by_cases hjk:j=k
      ·subst hjk
       rw [HT.out]
       exact HQ.out
      ·exact HNO.out j (by omega) hj2)
     rcases hq with q1|⟨q1,q2⟩|⟨q1,q2,q3⟩|⟨q1,q2,q3,q4⟩
     ·have n1:=Ne.symm q1
      go_wp2_with fail
      go_region_law fail
      all_goals
       go_wp2_with fail
       first
        | (refine ⟨⟨k+1,by omega,by go_num,HNN,hid HB.out.drew⟩, ?_⟩;simp [intOf];omega)
        | (go_roundw;(case rel=>exact ⟨k+1,by omega,by go_num,HNN,hid HB.out.drew⟩);(case measure=>(simp [intOf];omega)))
     ·have n1:=Ne.symm q2
      go_wp2_with fail
      go_region_law fail
      all_goals
       go_wp2_with fail
       first
        | (refine ⟨⟨k+1,by omega,by go_num,HNN,hid HB.out.drew⟩, ?_⟩;simp [intOf];omega)
        | (go_roundw;(case rel=>exact ⟨k+1,by omega,by go_num,HNN,hid HB.out.drew⟩);(case measure=>(simp [intOf];omega)))
     ·have n1:=Ne.symm q3
      go_wp2_with fail
      go_region_law fail
      all_goals
       go_wp2_with fail
       first
        | (refine ⟨⟨k+1,by omega,by go_num,HNN,hid HB.out.drew⟩, ?_⟩;simp [intOf];omega)
        | (go_roundw;(case rel=>exact ⟨k+1,by omega,by go_num,HNN,hid HB.out.drew⟩);(case measure=>(simp [intOf];omega)))
     ·have n1:=Ne.symm q4
      go_wp2_with fail
      go_region_law fail
      all_goals
       go_wp2_with fail
       first
        | (refine ⟨⟨k+1,by omega,by go_num,HNN,hid HB.out.drew⟩, ?_⟩;simp [intOf];omega)
        | (go_roundw;(case rel=>exact ⟨k+1,by omega,by go_num,HNN,hid HB.out.drew⟩);(case measure=>(simp [intOf];omega)))
   ·obtain rfl:k=c.pool.length:=by omega
    have HNA:=hid (show ∀ u∈c.pool,u≠t from fun u hu=>by
     obtain ⟨j,hj,rfl⟩:=List.mem_iff_getElem.1 hu
     exact HNO.out j hj hj)
    obtain ⟨T3,L3,C3⟩:=HK.out _ HB.out
    have hsz3:w2.heap.size<wr.heap.size:=L3.lt
    have hp3:=C3.p
    have HC3:=hid C3
    have HB0:=hid HB.out
    obtain ⟨⟨c0,c1,c2,c3,c4,c5,c6⟩,z0,z1,z2,z3,z4,z5,z6⟩:=L3.x7
    obtain ⟨⟨e0,e1,e2,e3⟩,y0,y1,y2,y3⟩:=T3.eb.x4
    have HD:=hid (HK.out _ HB.out.drew)
    have hs3:w2.heap.size<wr.drew.heap.size:=HD.out.2.1.lt
    have HR3:=hid (show ∀ W,Below wr.heap.size wr W→AB w #[.slice o1 c.pool.length j1,.int .i64 c.flags,.int .i64 c.name,.int .i64 c.super,.slice o2 c.faces.length j2,.slice o3 c.fields.length j3,.slice o4 c.methods.length j4] (arr4 t) #[.slice none 0 0,.int .i64 0,.int .i64 0,.int .i64 0,.slice none 0 0,.slice none 0 0,.slice none 0 0] W∧Lk W w2.heap.size #[.slice p1 c.pool.length k1,.int .i64 c.flags,.int .i64 c.name,.int .i64 c.super,.slice p2 c.faces.length k2,.slice p3 c.fields.length k3,.slice p4 c.methods.length k4] 36∧ClassW W (w.heap.size+3) (.slice p1 c.pool.length k1) (.slice p2 c.faces.length k2) (.slice p3 c.fields.length k3) (.slice p4 c.methods.length k4) c from fun W hW=>⟨T3.keep hW,L3.keep hW,C3.keep hW⟩)
    have hlen:=C3.p.1
    obtain ⟨g,hg⟩:=own_some C3.p (by omega)
    subst hg
    have z8:w.heap.size+1<wr.heap.size:=by omega
    have hgl:=(C3.p.lt g rfl).2
    go_upto_region 9 with fail
    go_cut [8] (fun v wc=>∃ (ao:Option Addr) (cap:Nat),v=.slice ao (c.pool.length+1) cap∧Hid (wc.ownsRow wr.heap.size 40 4 v (c.pool.length+1) (cellsC (c.pool++[t])))∧Hid (Below wr.heap.size wr wc))
    case first=>
     have HP3:=hid (fun W (hW:Below wr.heap.size wr W)=>(HR3.out W hW).2.2.p)
     have HSN:=hid (show cellsC (c.pool++[t])=cellsC c.pool++[.int .i64 t.kind,.string t.text,.int .i64 t.a,.int .i64 t.b] from cellsC_snoc _ _)
     obtain ⟨⟨f0,f1,f2,f3⟩,_⟩:=HD.out.1.eb.x4
     obtain ⟨⟨b0,b1,b2,b3,b4,b5,b6⟩,_⟩:=HD.out.2.1.x7
     clear T3 L3 C3
     have HX1:=hid (show Lk ((wr.alloc (.cells #[] 40)).alloc (.cells (arr4 t) 40)) (wr.heap.size+1) (arr4 t) 40 from by simpa using Lk.new (wr.alloc (.cells #[] 40)) (arr4 t) 40)
     have HX2:=hid (show Lk ((wr.alloc (.cells (arr4 t) 40)).alloc (.cells #[] 40)) wr.heap.size (arr4 t) 40 from (Lk.new wr (arr4 t) _).alloc _)
     have HDS:=hid (fun W (hW:Below wr.heap.size wr W)=>show Below wr.heap.size wr W∧W.cell? ⟨w2.heap.size,0,none⟩=some (.slice (some ⟨g,0,none⟩) c.pool.length k1)∧W.cell? ⟨w.heap.size+1,0,none⟩=some (.int .i64 t.kind)∧W.cell? ⟨w.heap.size+1,1,none⟩=some (.string t.text)∧W.cell? ⟨w.heap.size+1,2,none⟩=some (.int .i64 t.a)∧W.cell? ⟨w.heap.size+1,3,none⟩=some (.int .i64 t.b) from by
      obtain ⟨T,L,_⟩:=HR3.out W hW
      obtain ⟨⟨h0,h1,h2,h3⟩,_⟩:=T.eb.x4
      exact ⟨hW,L.c 0 _ rfl,h0,h1,h2,h3⟩)
     refine wp_region_held_drew (S:=fun w'=>Below wr.heap.size wr w'∧w'.cell? ⟨w2.heap.size,0,none⟩=some (.slice (some ⟨g,0,none⟩) c.pool.length k1)∧w'.cell? ⟨w.heap.size+1,0,none⟩=some (.int .i64 t.kind)∧w'.cell? ⟨w.heap.size+1,1,none⟩=some (.string t.text)∧w'.cell? ⟨w.heap.size+1,2,none⟩=some (.int .i64 t.a)∧w'.cell? ⟨w.heap.size+1,3,none⟩=some (.int .i64 t.b)) (by kernel_rfl) (HDS.out _ (Below.refl _ _).drew) (fun hHeld=>?_)
     refine tkw 1 ⟨some 33,.fieldAddr 36 (.tmp 6) 0,0,"l28_pack.go:221",#[],none⟩ ?_
     refine tkw 2 ⟨some 34,.load 32 (.tmp 33),32,"l28_pack.go:221",#[⟨1,.data⟩],none⟩ ?_
     refine tkw 4 ⟨some 36,.load 40 (.tmp 3),40,"l28_pack.go:221",#[],none⟩ ?_
     refine wpAnyH_ready (rs:=[0,5]) (by kernel_rfl) (by simp) ?_
     refine AllReadyH.cons rfl (fun K hK=>?_) (AllReadyH.cons rfl (fun K hK=>?_) AllReadyH.nil)
     ·go_simp
      refine hK.out _ _ (HDS.out _ (by go_grown)) (fun hHeld1=>?_)
      clear hK K
      refine wpAnyH_ready (rs:=[3,5]) (by kernel_rfl) (by simp) ?_
      refine AllReadyH.cons rfl (fun K hK=>?_) (AllReadyH.cons rfl (fun K hK=>?_) AllReadyH.nil)
      ·refine step_append_clip _ rfl (.tmp 32) (.tmp 34) 32 rfl 40 iP (.agg #[.int .i64 0,.string ⟨#[]⟩,.int .i64 0,.int .i64 0]) 4 40 Tryz.underlying32 hP hP0 hP1 hP2 rfl _ 0 [] rfl rfl (fun j u hj=>by simp at hj) ⟨g,0,none⟩ c.pool.length k1 (cellsC c.pool) rfl hlen (fun j u hj=>(HP3.out _ (by go_grown)).cells (g:=g) rfl j u hj) hp0 (by unfold maxLen;omega) (by omega) (wr.heap.size+1) (by simp) c.pool.length (Nat.zero_add _) (cellsC c.pool) rfl ?_
       intro cap8 w8 hown8 hb8 hlt8
       have q8:Below wr.heap.size wr w8:=Below.trans (by go_grown) (hb8.mono (by omega))
       have O8:=Joins.ownsRow_le hown8 (show wr.heap.size≤_ by omega)
       refine hK.out _ _ (HDS.out _ q8) (fun hHeld2=>?_)
       clear hK K hown8
       refine wpAnyH_ready (rs:=[5]) (by kernel_rfl) (by simp) ?_
       refine AllReadyH.cons rfl (fun K hK=>?_) AllReadyH.nil
       go_simp
       refine hK.out _ _ (HDS.out _ (by exact Below.trans q8 (Below.mono (by go_grown) q8.size))) (fun hHeld8=>?_)
       clear hK K
       refine wpAnyH_ready (rs:=[6]) (by kernel_rfl) (by simp) ?_
       refine AllReadyH.cons rfl (fun K hK=>?_) AllReadyH.nil
       refine step_append_lies _ rfl (.tmp 35) (.tmp 37) 32 rfl wr.heap.size 40 iP (.agg #[.int .i64 0,.string ⟨#[]⟩,.int .i64 0,.int .i64 0]) 4 40 Tryz.underlying32 hP hP0 hP1 hP2 rfl (by decide) (.slice (some ⟨wr.heap.size+1,0,none⟩) c.pool.length cap8) c.pool.length (cellsC c.pool) rfl (O8.alloc _) _ 1 1 [.int .i64 t.kind,.string t.text,.int .i64 t.a,.int .i64 t.b] rfl (by rfl) (World.news_of_block (heap_alloc_new _ _)) (by intro u hu;simp at hu;rcases hu with rfl|rfl|rfl|rfl<;>rfl) (by omega) (by unfold maxLen;omega) (by omega) (by have:=q8.size;first|omega|(simp;omega)) _ rfl ?_
       intro g9 cap9 w9 hown9 hgrow9 hat9 hlt9
       have HBB:=hid (show Below wr.heap.size wr w9 from below_grown (q8.alloc q8.size _) hgrow9 (by have:=q8.size;first|omega|(simp;omega)) (by first|omega|(simp;done)|(simp;omega)))
       have HW:=hid (show w9.ownsRow wr.heap.size 40 4 (.slice (some ⟨g9,0,none⟩) (c.pool.length+1) cap9) (c.pool.length+1) (cellsC (c.pool++[t])) from by rw [HSN.out];exact hown9)
       refine hK.out _ _ (HDS.out _ HBB.out) (fun hHeld9=>?_)
       clear hK K hown9 hgrow9 hat9
       refine wpAnyH_ready (rs:=[7]) (by kernel_rfl) (by simp) ?_
       refine AllReadyH.cons rfl (fun K hK=>?_) AllReadyH.nil
       go_simp
       refine hK.out _ _ (HDS.out _ HBB.out) (fun hHeld10=>?_)
       clear hK K
       refine wpAnyH_done (by kernel_rfl) ?_ _
       go_wp2_with fail
       go_meet
       case rel=>exact ⟨_,_,rfl,HW,HBB⟩
      ·go_simp
       refine hK.out _ _ (HDS.out _ (by go_grown)) (fun hHeld3=>?_)
       clear hK K
       refine wpAnyH_ready (rs:=[3]) (by kernel_rfl) (by simp) ?_
       refine AllReadyH.cons rfl (fun K hK=>?_) AllReadyH.nil
       refine step_append_clip _ rfl (.tmp 32) (.tmp 34) 32 rfl 40 iP (.agg #[.int .i64 0,.string ⟨#[]⟩,.int .i64 0,.int .i64 0]) 4 40 Tryz.underlying32 hP hP0 hP1 hP2 rfl _ 0 [] rfl rfl (fun j u hj=>by simp at hj) ⟨g,0,none⟩ c.pool.length k1 (cellsC c.pool) rfl hlen (fun j u hj=>(HP3.out _ (by go_grown)).cells (g:=g) rfl j u hj) hp0 (by unfold maxLen;omega) (by omega) (wr.heap.size+1+1) (by simp) c.pool.length (Nat.zero_add _) (cellsC c.pool) rfl ?_
       intro cap8 w8 hown8 hb8 hlt8
       have q8:Below wr.heap.size wr w8:=Below.trans (by go_grown) (hb8.mono (by omega))
       have O8:=Joins.ownsRow_le hown8 (show wr.heap.size≤_ by omega)
       have LY:Lk w8 (wr.heap.size+1) (arr4 t) 40:=by refine Lk.keep ?_ (below_sz hb8 (by simp));exact HX1.out
       refine hK.out _ _ (HDS.out _ q8) (fun hHeld2=>?_)
       clear hK K hown8
       refine wpAnyH_ready (rs:=[6]) (by kernel_rfl) (by simp) ?_
       refine AllReadyH.cons rfl (fun K hK=>?_) AllReadyH.nil
       refine step_append_lies _ rfl (.tmp 35) (.tmp 37) 32 rfl wr.heap.size 40 iP (.agg #[.int .i64 0,.string ⟨#[]⟩,.int .i64 0,.int .i64 0]) 4 40 Tryz.underlying32 hP hP0 hP1 hP2 rfl (by decide) (.slice (some ⟨wr.heap.size+1+1,0,none⟩) c.pool.length cap8) c.pool.length (cellsC c.pool) rfl (O8) _ 1 1 [.int .i64 t.kind,.string t.text,.int .i64 t.a,.int .i64 t.b] rfl (by rfl) (LY.news) (by intro u hu;simp at hu;rcases hu with rfl|rfl|rfl|rfl<;>rfl) (by omega) (by unfold maxLen;omega) (by omega) (by have:=q8.size;first|omega|(simp;omega)) _ rfl ?_
       intro g9 cap9 w9 hown9 hgrow9 hat9 hlt9
       have HBB:=hid (show Below wr.heap.size wr w9 from below_grown q8 hgrow9 (by have:=q8.size;first|omega|(simp;omega)) (by first|omega|(simp;done)|(simp;omega)))
       have HW:=hid (show w9.ownsRow wr.heap.size 40 4 (.slice (some ⟨g9,0,none⟩) (c.pool.length+1) cap9) (c.pool.length+1) (cellsC (c.pool++[t])) from by rw [HSN.out];exact hown9)
       refine hK.out _ _ (HDS.out _ HBB.out) (fun hHeld9=>?_)
       clear hK K hown9 hgrow9 hat9
       refine wpAnyH_ready (rs:=[7]) (by kernel_rfl) (by simp) ?_
       refine AllReadyH.cons rfl (fun K hK=>?_) AllReadyH.nil
       go_simp
       refine hK.out _ _ (HDS.out _ HBB.out) (fun hHeld10=>?_)
       clear hK K
       refine wpAnyH_done (by kernel_rfl) ?_ _
       go_wp2_with fail
       go_meet
       case rel=>exact ⟨_,_,rfl,HW,HBB⟩
     ·go_simp
      refine hK.out _ _ (HDS.out _ (by go_grown)) (fun hHeld4=>?_)
      clear hK K
      refine wpAnyH_ready (rs:=[0]) (by kernel_rfl) (by simp) ?_
      refine AllReadyH.cons rfl (fun K hK=>?_) AllReadyH.nil
      go_simp
      refine hK.out _ _ (HDS.out _ (by go_grown)) (fun hHeld5=>?_)
      clear hK K
      refine wpAnyH_ready (rs:=[3]) (by kernel_rfl) (by simp) ?_
      refine AllReadyH.cons rfl (fun K hK=>?_) AllReadyH.nil
      refine step_append_clip _ rfl (.tmp 32) (.tmp 34) 32 rfl 40 iP (.agg #[.int .i64 0,.string ⟨#[]⟩,.int .i64 0,.int .i64 0]) 4 40 Tryz.underlying32 hP hP0 hP1 hP2 rfl _ 0 [] rfl rfl (fun j u hj=>by simp at hj) ⟨g,0,none⟩ c.pool.length k1 (cellsC c.pool) rfl hlen (fun j u hj=>(HP3.out _ (by go_grown)).cells (g:=g) rfl j u hj) hp0 (by unfold maxLen;omega) (by omega) (wr.heap.size+1+1) (by simp) c.pool.length (Nat.zero_add _) (cellsC c.pool) rfl ?_
      intro cap8 w8 hown8 hb8 hlt8
      have q8:Below wr.heap.size wr w8:=Below.trans (by go_grown) (hb8.mono (by omega))
      have O8:=Joins.ownsRow_le hown8 (show wr.heap.size≤_ by omega)
      have LY:Lk w8 wr.heap.size (arr4 t) 40:=by refine Lk.keep ?_ (below_sz hb8 (by simp));exact HX2.out
      refine hK.out _ _ (HDS.out _ q8) (fun hHeld2=>?_)
      clear hK K hown8
      refine wpAnyH_ready (rs:=[6]) (by kernel_rfl) (by simp) ?_
      refine AllReadyH.cons rfl (fun K hK=>?_) AllReadyH.nil
      refine step_append_lies _ rfl (.tmp 35) (.tmp 37) 32 rfl wr.heap.size 40 iP (.agg #[.int .i64 0,.string ⟨#[]⟩,.int .i64 0,.int .i64 0]) 4 40 Tryz.underlying32 hP hP0 hP1 hP2 rfl (by decide) (.slice (some ⟨wr.heap.size+1+1,0,none⟩) c.pool.length cap8) c.pool.length (cellsC c.pool) rfl (O8) _ 1 1 [.int .i64 t.kind,.string t.text,.int .i64 t.a,.int .i64 t.b] rfl (by rfl) (LY.news) (by intro u hu;simp at hu;rcases hu with rfl|rfl|rfl|rfl<;>rfl) (by omega) (by unfold maxLen;omega) (by omega) (by have:=q8.size;first|omega|(simp;omega)) _ rfl ?_
      intro g9 cap9 w9 hown9 hgrow9 hat9 hlt9
      have HBB:=hid (show Below wr.heap.size wr w9 from below_grown q8 hgrow9 (by have:=q8.size;first|omega|(simp;omega)) (by first|omega|(simp;done)|(simp;omega)))
      have HW:=hid (show w9.ownsRow wr.heap.size 40 4 (.slice (some ⟨g9,0,none⟩) (c.pool.length+1) cap9) (c.pool.length+1) (cellsC (c.pool++[t])) from by rw [HSN.out];exact hown9)
      refine hK.out _ _ (HDS.out _ HBB.out) (fun hHeld9=>?_)
      clear hK K hown9 hgrow9 hat9
      refine wpAnyH_ready (rs:=[7]) (by kernel_rfl) (by simp) ?_
      refine AllReadyH.cons rfl (fun K hK=>?_) AllReadyH.nil
      go_simp
      refine hK.out _ _ (HDS.out _ HBB.out) (fun hHeld10=>?_)
      clear hK K
      refine wpAnyH_done (by kernel_rfl) ?_ _
      go_wp2_with fail
      go_meet
      case rel=>exact ⟨_,_,rfl,HW,HBB⟩
    case rest=>
     obtain ⟨n1,m1,rfl,HP5,HB5⟩:=hcut
     clear T3 L3 C3 c0 c1 c2 c3 c4 c5 c6 z0 z1 z2 z3 z4 z5 z6 e0 e1 e2 e3 y0 y1 y2 y3
     obtain ⟨T5,L5,C5⟩:=HR3.out _ HB5.out
     have hPC:=specPoolCheck_any (.slice n1 (c.pool.length+1) m1) (c.pool++[t]) wc (by simp;omega) (fun u hu=>by
      rcases List.mem_append.1 hu with hu|hu
      ·exact HTX.out u hu
      ·simp at hu;subst hu;exact ht) ⟨_,by simpa using HP5.out⟩
     clear T5 L5 C5
     go_wp2_with fail
     refine hPC.mono ?_
     rintro e w6 ⟨rfl,hb6⟩
     have hb56:Below wr.heap.size wr w6:=HB5.out.trans (hb6.mono HB5.out.size)
     obtain ⟨T6,L6,C6⟩:=HR3.out _ hb56
     have HP6:=hid (own_below HP5.out hb6)
     have CC6:=hid C6
     clear hPC hb6 HP5 HB5 hb56
     obtain ⟨⟨l0,l1,l2,l3,l4,l5,l6⟩,u0,u1,u2,u3,u4,u5,u6⟩:=L6.x7
     obtain ⟨⟨r0,r1,r2,r3,r4,r5,r6⟩,q0,q1,q2,q3,q4,q5,q6⟩:=T6.res.x7
     have HB:=hid T6.b
     have hsz6:=L6.lt
     by_cases hz:poolC (c.pool++[t])=0
     ·have HA:=hid (show AddOut c t 0 (putP c t) ((c.pool.length:Int)+1) from .inr (.inr (.inl ⟨rfl,HNA.out,hz,rfl,rfl⟩)))
      have CL:=hid (show ClassW (w6.setCell ⟨w2.heap.size,0,none⟩ (.slice n1 (c.pool.length+1) m1)) (w.heap.size+3) (.slice n1 (c.pool.length+1) m1) (.slice p2 c.faces.length k2) (.slice p3 c.fields.length k3) (.slice p4 c.methods.length k4) (putP c t) from by
       have kp:Kp w6 (w6.setCell ⟨w2.heap.size,0,none⟩ (.slice n1 (c.pool.length+1) m1)) (w.heap.size+3) 36:=Kp.set L6 0 _
       have q:=CC6.out.kp kp (by decide) (by decide) (by decide) (by decide) (by decide) (by decide) (by decide)
       refine ⟨?_,q.i,q.f,q.m⟩
       have hp:=HP6.out
       have:=kp _ _ _ _ _ (by decide) (Joins.ownsRow_le hp (by simp at *;omega))
       simpa [putP] using this)
      clear T6 L6 C6 CC6 HP6
      go_wp2
      refine bodyPost_ret (v:=.tuple #[.agg #[.slice n1 (c.pool.length+1) m1,.int .i64 c.flags,.int .i64 c.name,.int .i64 c.super,.slice p2 c.faces.length k2,.slice p3 c.fields.length k3,.slice p4 c.methods.length k4],.int .i64 ((c.pool.length:Int)+1)]) (by simp [results,Tryz.results6,go_sem, *]) rfl ⟨0,putP c t,_,_,_,_,_,HN.out,HA.out,rfl, ?_, ?_⟩
      ·have s0:=CL.out.low (a:=⟨w.heap.size+2,0,none⟩) (by simp) (.slice n1 (c.pool.length+1) m1)
       have s1:=s0.low (a:=⟨w.heap.size+2,1,none⟩) (by simp) (.int .i64 c.flags)
       have s2:=s1.low (a:=⟨w.heap.size+2,2,none⟩) (by simp) (.int .i64 c.name)
       have s3:=s2.low (a:=⟨w.heap.size+2,3,none⟩) (by simp) (.int .i64 c.super)
       have s4:=s3.low (a:=⟨w.heap.size+2,4,none⟩) (by simp) (.slice p2 c.faces.length k2)
       have s5:=s4.low (a:=⟨w.heap.size+2,5,none⟩) (by simp) (.slice p3 c.fields.length k3)
       have s6:=s5.low (a:=⟨w.heap.size+2,6,none⟩) (by simp) (.slice p4 c.methods.length k4)
       exact s6.less (by omega)
      ·exact ((((((((HB.out.setCell (by dsimp only;omega) _).setCell (by dsimp only;omega) _).setCell (by dsimp only;omega) _).setCell (by dsimp only;omega) _).setCell (by dsimp only;omega) _).setCell (by dsimp only;omega) _).setCell (by dsimp only;omega) _).setCell (by dsimp only;omega) _)
     ·have HA:=hid (show AddOut c t 0 c 0 from .inr (.inr (.inr ⟨rfl,HNA.out,hz,rfl,rfl⟩)))
      clear T6 L6 C6 HP6
      go_wp2
      refine bodyPost_ret (v:=.tuple #[.agg #[.slice (some ⟨g,0,none⟩) c.pool.length k1,.int .i64 c.flags,.int .i64 c.name,.int .i64 c.super,.slice p2 c.faces.length k2,.slice p3 c.fields.length k3,.slice p4 c.methods.length k4],.int .i64 0]) (by simp [results,Tryz.results6,go_sem, *]) rfl ⟨0,c,_,_,_,_,_,HN.out,HA.out,rfl, ?_, ?_⟩
      ·have s0:=CC6.out.low (a:=⟨w.heap.size+2,0,none⟩) (by simp) (.slice (some ⟨g,0,none⟩) c.pool.length k1)
       have s1:=s0.low (a:=⟨w.heap.size+2,1,none⟩) (by simp) (.int .i64 c.flags)
       have s2:=s1.low (a:=⟨w.heap.size+2,2,none⟩) (by simp) (.int .i64 c.name)
       have s3:=s2.low (a:=⟨w.heap.size+2,3,none⟩) (by simp) (.int .i64 c.super)
       have s4:=s3.low (a:=⟨w.heap.size+2,4,none⟩) (by simp) (.slice p2 c.faces.length k2)
       have s5:=s4.low (a:=⟨w.heap.size+2,5,none⟩) (by simp) (.slice p3 c.fields.length k3)
       have s6:=s5.low (a:=⟨w.heap.size+2,6,none⟩) (by simp) (.slice p4 c.methods.length k4)
       exact s6.less (by omega)
      ·exact (((((((HB.out.setCell (by dsimp only;omega) _).setCell (by dsimp only;omega) _).setCell (by dsimp only;omega) _).setCell (by dsimp only;omega) _).setCell (by dsimp only;omega) _).setCell (by dsimp only;omega) _).setCell (by dsimp only;omega) _)
 ·obtain ⟨⟨r0,r1,r2,r3,r4,r5,r6⟩,q0,q1,q2,q3,q4,q5,q6⟩:=T1.res.x7
  have HB:=hid T1.b
  have HA:=hid (show AddOut c t n noneC 0 from .inl ⟨h0,rfl,rfl⟩)
  clear T1 HC
  go_wp2
  refine bodyPost_ret (v:=.tuple #[.agg #[.slice none 0 0,.int .i64 0,.int .i64 0,.int .i64 0,.slice none 0 0,.slice none 0 0,.slice none 0 0],.int .i64 0]) (by simp [results,Tryz.results6,go_sem, *]) rfl ⟨n,noneC,_,_,_,_,_,HN.out,HA.out,rfl,ClassW.none _ _, ?_⟩
  exact (((((((HB.out.setCell (by dsimp only;omega) _).setCell (by dsimp only;omega) _).setCell (by dsimp only;omega) _).setCell (by dsimp only;omega) _).setCell (by dsimp only;omega) _).setCell (by dsimp only;omega) _).setCell (by dsimp only;omega) _)
end Go.Proofs.YtecbcdfkedocbaaGreatDoor
