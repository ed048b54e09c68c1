/- Gathered: SameMethod SameClass. -/
import Derived.Test.YtecbcdfkedocbaaGreatDoorH05
import Derived.Test.YtecbcdfkedocbaaGreatDoorH03
import Derived.Deep.RegionHeld
namespace Go.Proofs.YtecbcdfkedocbaaGreatDoor
open Go.RowKit
set_option maxHeartbeats 4000000
set_option maxRecDepth 20000
set_option linter.unusedVariables false
theorem neq_trap {x0 y0 x1 y1 x2 y2 x3 y3:Int} (h:((x0==y0)=false)∨((x0==y0)=true∧(x1==y1)=false)∨((x0==y0)=true∧(x1==y1)=true∧(x2==y2)=false)∨((x0==y0)=true∧(x1==y1)=true∧(x2==y2)=true∧(x3==y3)=false)) (W:World) :
  (binOp .neq 140 (.agg #[.int .i64 x0,.int .i64 x1,.int .i64 x2,.int .i64 x3]) (.agg #[.int .i64 y0,.int .i64 y1,.int .i64 y2,.int .i64 y3])).run Tryz.prog W=.ok (.bool true) W:=by
 rcases h with h0|⟨h0,h1⟩|⟨h0,h1,h2⟩|⟨h0,h1,h2,h3⟩
 ·go_simp
 ·go_simp
 ·go_simp
 ·go_simp
theorem str_ne {a b:ByteArray} (h:¬a=b):(a.toList==b.toList)=false:=by
 rw [beq_eq_false_iff_ne,ByteArray.toList_eq,ByteArray.toList_eq]
 exact fun e=>h (ByteArray.ext (Array.ext' e))
theorem lk_drewN {W:World} {C:Nat} {cs:Array Value} {T:TypeId} (h:Lk W C cs T) (q:Nat):Lk (W.drewN q) C cs T:=h.keep (below_drewN (Below.refl _ _) q)
theorem l1Method_any (m m':MMethod) (vt vf ut uf:Value) (B1 B2:Nat) (w:World) (hm:m.few) (hm':m'.few) (h1:MethodW w B1 vt vf m) (h2:MethodW w B2 ut uf m') :
  Calls Tryz.prog 114 #[.agg #[.int .i64 m.flags,.int .i64 m.name,.int .i64 m.desc,.int .i64 m.deep,.int .i64 m.locals,.string m.code,vt,vf],.agg #[.int .i64 m'.flags,.int .i64 m'.name,.int .i64 m'.desc,.int .i64 m'.deep,.int .i64 m'.locals,.string m'.code,ut,uf]] w fun e w'=>∃ c:Bool,e=.returned (.bool c)∧(c=true↔m=m')∧Below w.heap.size w w':=by
 obtain ⟨x0,x1,x2,x3,x4,x5,ts,fs⟩:=m
 obtain ⟨y0,y1,y2,y3,y4,y5,us,gs⟩:=m'
 obtain ⟨o1,k1,hv1⟩:=own_len h1.t
 obtain ⟨o3,k3,hv3⟩:=own_len h2.t
 obtain ⟨xs,hxs⟩:=FX.of h1.f
 obtain ⟨ys,hys⟩:=FX.of h2.f
 obtain ⟨o2,k2,hv2⟩:=own_len hxs.row
 obtain ⟨o4,k4,hv4⟩:=own_len hys.row
 have H1:=hid h1.t
 have H2:=hid h2.t
 simp only at hv1 hv2 hv3 hv4 hxs hys H1 H2
 subst hv1 hv2 hv3 hv4
 obtain ⟨_,f2,f3,f4⟩:=hm
 obtain ⟨_,f6,f7,f8⟩:=hm'
 simp only at f2 f3 f4 f6 f7 f8
 have H3:=hid hxs
 have H4:=hid hys
 have HF:=hid f4
 have HG:=hid f8
 clear h1 h2 hxs hys f4 f8
 obtain ⟨P,hP⟩:∃ P:Prop,Hid (P↔MMethod.mk x0 x1 x2 x3 x4 x5 ts fs=MMethod.mk y0 y1 y2 y3 y4 y5 us gs):=⟨_,Iff.rfl⟩
 have key:Calls Tryz.prog 114 #[.agg #[.int .i64 x0,.int .i64 x1,.int .i64 x2,.int .i64 x3,.int .i64 x4,.string x5,.slice o1 ts.length k1,.slice o2 fs.length k2],.agg #[.int .i64 y0,.int .i64 y1,.int .i64 y2,.int .i64 y3,.int .i64 y4,.string y5,.slice o3 us.length k3,.slice o4 gs.length k4]] w fun e w'=>∃ c:Bool,e=.returned (.bool c)∧(c=true↔P)∧Below w.heap.size w w':=by
  by_cases g0:x0=y0
  ·subst g0
   by_cases g1:x1=y1
   ·subst g1
    by_cases g2:x2=y2
    ·subst g2
     by_cases g3:x3=y3
     ·subst g3
      by_cases g4:x4=y4
      ·subst g4
       by_cases g5:x5=y5
       ·subst g5
        by_cases g6:ts.length=us.length
        ·have e6:((ts.length:Int) != (us.length:Int))=false:=by simp;omega
         have HN:=hid g6
         clear g6
         have K1:=((Lk.new w #[.int .i64 x0,.int .i64 x1,.int .i64 x2,.int .i64 x3,.int .i64 x4,.string x5,.slice o1 ts.length k1,.slice o2 fs.length k2] 75).alloc (.cells #[.int .i64 x0,.int .i64 x1,.int .i64 x2,.int .i64 x3,.int .i64 x4,.string x5,.slice o3 us.length k3,.slice o4 gs.length k4] 75))
         have K2:=(show Lk ((w.alloc (.cells #[.int .i64 x0,.int .i64 x1,.int .i64 x2,.int .i64 x3,.int .i64 x4,.string x5,.slice o1 ts.length k1,.slice o2 fs.length k2] 75)).alloc (.cells #[.int .i64 x0,.int .i64 x1,.int .i64 x2,.int .i64 x3,.int .i64 x4,.string x5,.slice o3 us.length k3,.slice o4 gs.length k4] 75)) (w.heap.size+1) #[.int .i64 x0,.int .i64 x1,.int .i64 x2,.int .i64 x3,.int .i64 x4,.string x5,.slice o3 us.length k3,.slice o4 gs.length k4] 75 from by have:=Lk.new (w.alloc (.cells #[.int .i64 x0,.int .i64 x1,.int .i64 x2,.int .i64 x3,.int .i64 x4,.string x5,.slice o1 ts.length k1,.slice o2 fs.length k2] 75)) #[.int .i64 x0,.int .i64 x1,.int .i64 x2,.int .i64 x3,.int .i64 x4,.string x5,.slice o3 us.length k3,.slice o4 gs.length k4] 75;simpa using this)
         obtain ⟨W0,hW0⟩:∃ W0,(w.alloc (.cells #[.int .i64 x0,.int .i64 x1,.int .i64 x2,.int .i64 x3,.int .i64 x4,.string x5,.slice o1 ts.length k1,.slice o2 fs.length k2] 75)).alloc (.cells #[.int .i64 x0,.int .i64 x1,.int .i64 x2,.int .i64 x3,.int .i64 x4,.string x5,.slice o3 us.length k3,.slice o4 gs.length k4] 75)=W0:=⟨_,rfl⟩
         have hb0:Below w.heap.size w W0:=by rw [← hW0];exact ((Below.refl _ _).alloc (Nat.le_refl _) _).alloc (by simp) _
         rw [hW0] at K1
         rw [hW0] at K2
         have HK1:=hid K1
         have HK2:=hid K2
         have HW0:=hid hW0
         have HB0:=hid hb0
         clear K1 K2 hW0 hb0
         go_enter Tryz.func114,Tryz.ntmps114
         go_wp2_with fail
         rw [HW0.out]
         go_loopw [5] (fun i wr=>∃ k:Nat,k≤ts.length∧i=.int .i64 k∧Hid (ts.take k=us.take k)∧Hid (∃ q,wr=W0.drewN q)) (fun i _=>ts.length - (intOf i).toNat)
         case atStart=>exact ⟨0,by omega,rfl,rfl,0,rfl⟩
         case round=>
          obtain ⟨k,hk,rfl,HE,HQ⟩:=hrel
          obtain ⟨q0,hq0⟩:=HQ.out
          obtain ⟨⟨p0,p1,p2,p3,p4,p5,p6,p7⟩,_⟩:=(show Lk wr _ _ _ from by rw [hq0];exact lk_drewN HK1.out q0).c8
          obtain ⟨⟨r0,r1,r2,r3,r4,r5,r6,r7⟩,_⟩:=(show Lk wr _ _ _ from by rw [hq0];exact lk_drewN HK2.out q0).c8
          have hbw:Below w.heap.size w wr:=by rw [hq0];exact below_drewN HB0.out q0
          by_cases hlt:k<ts.length
          ·have hlt2:k<us.length:=by rw [← HN.out];exact hlt
           obtain ⟨g1,hg1⟩:=own_some H1.out (by omega)
           obtain ⟨g2,hg2⟩:=own_some H2.out (by omega)
           subst hg1 hg2
           obtain ⟨a1,a2,a3,a4⟩:=ownTrap_at (own_below H1.out hbw) hlt
           obtain ⟨b1,b2,b3,b4⟩:=ownTrap_at (own_below H2.out hbw) hlt2
           clear hq0
           by_cases he:ts[k]=us[k]
           ·have HE2:=hid (show ts.take (k+1)=us.take (k+1) from by rw [List.take_succ_eq_append_getElem hlt,List.take_succ_eq_append_getElem hlt2,HE.out,he])
            rw [he] at a1 a2 a3 a4
            clear he
            obtain ⟨z0,z1,z2,z3,hxyz⟩:∃ a b c d,us[k]=⟨a,b,c,d⟩:=⟨_,_,_,_,rfl⟩
            rw [hxyz] at a1 a2 a3 a4 b1 b2 b3 b4
            simp only at a1 a2 a3 a4 b1 b2 b3 b4
            clear hxyz
            go_wp2_with fail
            go_quiet (fail)
            go_wp2_with fail
            go_roundw
            case rel=>exact ⟨k+1,by omega,by go_num,HE2,drew_more HQ.out _⟩
            case measure=>simp [intOf];omega
           ·have HNe:=hid (show ¬P from fun p=>(fun e=>he (by injection e with _ _ _ _ _ _ e;subst e;rfl)) (hP.out.1 p))
            obtain ⟨z0,z1,z2,z3,hxyz⟩:∃ a b c d,ts[k]=⟨a,b,c,d⟩:=⟨_,_,_,_,rfl⟩
            obtain ⟨v0,v1,v2,v3,hxyz'⟩:∃ a b c d,us[k]=⟨a,b,c,d⟩:=⟨_,_,_,_,rfl⟩
            rw [hxyz,hxyz'] at he
            rw [hxyz] at a1 a2 a3 a4
            rw [hxyz'] at b1 b2 b3 b4
            simp only at a1 a2 a3 a4 b1 b2 b3 b4
            clear hxyz hxyz'
            have hne:((z0==v0)=false)∨((z0==v0)=true∧(z1==v1)=false)∨((z0==v0)=true∧(z1==v1)=true∧(z2==v2)=false)∨((z0==v0)=true∧(z1==v1)=true∧(z2==v2)=true∧(z3==v3)=false):=by
             by_cases q0:z0=v0
             ·by_cases q1:z1=v1
              ·by_cases q2:z2=v2
               ·by_cases q3:z3=v3
                ·exact absurd (by rw [q0,q1,q2,q3]) he
                ·exact .inr (.inr (.inr ⟨by simpa using q0,by simpa using q1,by simpa using q2,by simpa using q3⟩))
               ·exact .inr (.inr (.inl ⟨by simpa using q0,by simpa using q1,by simpa using q2⟩))
              ·exact .inr (.inl ⟨by simpa using q0,by simpa using q1⟩)
             ·exact .inl (by simpa using q0)
            have hrun:=neq_trap hne
            clear he hne
            go_wp2_with fail
            go_quiet (fail)
            go_wp2_with fail
            go_ret
            exact ⟨false,rfl,⟨fun h=>by simp at h,fun h=>absurd h HNe.out⟩,below_drewN hbw _⟩
          ·have HT:=hid (show ts=us from by
            have:=HE.out
            rw [List.take_of_length_le (by omega),List.take_of_length_le (by rw [← HN.out];omega)] at this
            exact this)
           have hk1:=(show FX wr B1 (.slice o2 fs.length k2) fs xs from ⟨H3.out.len,own_below H3.out.row hbw,fun k q1 q2=>(H3.out.each k q1 q2).keep hbw⟩)
           have hk2:=(show FX wr B2 (.slice o4 gs.length k4) gs ys from ⟨H4.out.len,own_below H4.out.row hbw,fun k q1 q2=>(H4.out.each k q1 q2).keep hbw⟩)
           have HFr:=l1Frames_any _ _ fs gs xs ys B1 B2 wr f3 f7 HF.out HG.out hk1 hk2
           clear hk1 hk2 hq0
           go_wp2_with fail
           refine HFr.mono ?_
           rintro e w2 ⟨c,rfl,hc,q,hq⟩
           have HC:=hid hc
           have hbw2:Below w.heap.size w w2:=by rw [hq];exact below_drewN hbw q
           clear hc hq HFr
           go_wp2_with fail
           go_ret
           refine ⟨c,rfl, ?_,hbw2⟩
           rw [HC.out,hP.out]
           constructor
           ·intro e;rw [e,HT.out]
           ·intro e;injection e
        ·have HNe:=hid (show ¬P from fun p=>(fun e=>g6 (by injection e with _ _ _ _ _ _ e;rw [e])) (hP.out.1 p))
         have e6:((ts.length:Int) != (us.length:Int))=true:=by simp;omega
         clear g6 H1 H2 H3 H4 HF HG
         go_enter Tryz.func114,Tryz.ntmps114
         go_wp2_with fail
         go_ret
         exact .inl ⟨rfl,HNe.out,by go_grown⟩
       ·have HNe:=hid (show ¬P from fun p=>(fun e=>g5 (by injection e)) (hP.out.1 p))
        have e5:=str_ne g5
        clear g5 H1 H2 H3 H4 HF HG
        go_enter Tryz.func114,Tryz.ntmps114
        go_wp2_with fail
        go_ret
        exact .inl ⟨rfl,HNe.out,by go_grown⟩
      ·have HNe:=hid (show ¬P from fun p=>(fun e=>g4 (by injection e)) (hP.out.1 p))
       have e4:(x4 != y4)=true:=by simpa using g4
       clear g4 H1 H2 H3 H4 HF HG
       go_enter Tryz.func114,Tryz.ntmps114
       go_wp2_with fail
       go_ret
       exact .inl ⟨rfl,HNe.out,by go_grown⟩
     ·have HNe:=hid (show ¬P from fun p=>(fun e=>g3 (by injection e)) (hP.out.1 p))
      have e3:(x3 != y3)=true:=by simpa using g3
      clear g3 H1 H2 H3 H4 HF HG
      go_enter Tryz.func114,Tryz.ntmps114
      go_wp2_with fail
      go_ret
      exact .inl ⟨rfl,HNe.out,by go_grown⟩
    ·have HNe:=hid (show ¬P from fun p=>(fun e=>g2 (by injection e)) (hP.out.1 p))
     have e2:(x2 != y2)=true:=by simpa using g2
     clear g2 H1 H2 H3 H4 HF HG
     go_enter Tryz.func114,Tryz.ntmps114
     go_wp2_with fail
     go_ret
     exact .inl ⟨rfl,HNe.out,by go_grown⟩
   ·have HNe:=hid (show ¬P from fun p=>(fun e=>g1 (by injection e)) (hP.out.1 p))
    have e1:(x1 != y1)=true:=by simpa using g1
    clear g1 H1 H2 H3 H4 HF HG
    go_enter Tryz.func114,Tryz.ntmps114
    go_wp2_with fail
    go_ret
    exact .inl ⟨rfl,HNe.out,by go_grown⟩
  ·have HNe:=hid (show ¬P from fun p=>(fun e=>g0 (by injection e)) (hP.out.1 p))
   have e0:(x0 != y0)=true:=by simpa using g0
   clear g0 H1 H2 H3 H4 HF HG
   go_enter Tryz.func114,Tryz.ntmps114
   go_wp2_with fail
   go_ret
   exact .inl ⟨rfl,HNe.out,by go_grown⟩
 refine key.mono ?_
 rintro e w' ⟨c,rfl,hc,hb⟩
 exact ⟨c,rfl,hc.trans hP.out,hb⟩
set_option maxHeartbeats 8000000
theorem neq_field {x0 y0 x1 y1 x2 y2:Int} (h:((x0==y0)=false)∨((x0==y0)=true∧(x1==y1)=false)∨((x0==y0)=true∧(x1==y1)=true∧(x2==y2)=false)) (W:World) :
  (binOp .neq 79 (.agg #[.int .i64 x0,.int .i64 x1,.int .i64 x2]) (.agg #[.int .i64 y0,.int .i64 y1,.int .i64 y2])).run Tryz.prog W=.ok (.bool true) W:=by
 rcases h with h0|⟨h0,h1⟩|⟨h0,h1,h2⟩
 ·go_simp
 ·go_simp
 ·go_simp
theorem l1Consts_is (v1 v2:Value) (xs ts:List C4) (B1 B2:Nat) (w:World) (c:Bool) (hc:c=true↔xs=ts) (hx:xs.length≤1048576) (hl:ts.length≤1048576)
  (h1:w.ownsRow B1 40 4 v1 xs.length (cellsC xs)) (h2:w.ownsRow B2 40 4 v2 ts.length (cellsC ts)) :
  Calls Tryz.prog 113 #[v1,v2] w fun e w'=>e=.returned (.bool c)∧Below w.heap.size w w':=by
 refine (l1Consts_any v1 v2 xs ts B1 B2 w hx hl h1 h2).mono ?_
 rintro e w' ⟨d,rfl,hd,q,rfl⟩
 refine ⟨ret_bool ?_,below_drewN (Below.refl _ _) q⟩
 rw [Bool.eq_iff_iff,hd,hc]
theorem l1Same_any (c c':MClass) (vp vi vf vm up ui uf um:Value) (B1 B2:Nat) (w:World) (hc:c.few) (hc':c'.few) (h1:ClassW w B1 vp vi vf vm c) (h2:ClassW w B2 up ui uf um c') :
  Calls Tryz.prog 73 #[.agg #[vp,.int .i64 c.flags,.int .i64 c.name,.int .i64 c.super,vi,vf,vm],.agg #[up,.int .i64 c'.flags,.int .i64 c'.name,.int .i64 c'.super,ui,uf,um]] w fun e w'=>∃ d:Bool,e=.returned (.bool d)∧(d=true↔c=c')∧Below w.heap.size w w':=by
 obtain ⟨ps,x0,x1,x2,is,fs,ms⟩:=c
 obtain ⟨qs,y0,y1,y2,js,gs,ns⟩:=c'
 obtain ⟨xs,hxs⟩:=MX.of h1.m
 obtain ⟨ys,hys⟩:=MX.of h2.m
 obtain ⟨o1,k1,hv1⟩:=own_len h1.p
 obtain ⟨o2,k2,hv2⟩:=own_len h1.i
 obtain ⟨o3,k3,hv3⟩:=own_len h1.f
 obtain ⟨o4,k4,hv4⟩:=own_len hxs.row
 obtain ⟨o5,k5,hv5⟩:=own_len h2.p
 obtain ⟨o6,k6,hv6⟩:=own_len h2.i
 obtain ⟨o7,k7,hv7⟩:=own_len h2.f
 obtain ⟨o8,k8,hv8⟩:=own_len hys.row
 have HP1:=hid h1.p
 have HP2:=hid h2.p
 have HI1:=hid h1.i
 have HI2:=hid h2.i
 have HF1:=hid h1.f
 have HF2:=hid h2.f
 have HM1:=hid hxs
 have HM2:=hid hys
 have HE1:=hid hc.each
 have HE2:=hid hc'.each
 have l1:=hc.pool
 have l2:=hc'.pool
 have l3:=hc.faces
 have l4:=hc.fields
 have l5:=hc.methods
 simp only at hv1 hv2 hv3 hv4 hv5 hv6 hv7 hv8 HP1 HP2 HI1 HI2 HF1 HF2 HM1 HM2 HE1 HE2 l1 l2 l3 l4 l5
 subst hv1 hv2 hv3 hv4 hv5 hv6 hv7 hv8
 clear h1 h2 hxs hys hc hc'
 obtain ⟨P,hP⟩:∃ P:Prop,Hid (P↔MClass.mk ps x0 x1 x2 is fs ms=MClass.mk qs y0 y1 y2 js gs ns):=⟨_,Iff.rfl⟩
 have key:Calls Tryz.prog 73 #[.agg #[.slice o1 ps.length k1,.int .i64 x0,.int .i64 x1,.int .i64 x2,.slice o2 is.length k2,.slice o3 fs.length k3,.slice o4 ms.length k4],.agg #[.slice o5 qs.length k5,.int .i64 y0,.int .i64 y1,.int .i64 y2,.slice o6 js.length k6,.slice o7 gs.length k7,.slice o8 ns.length k8]] w fun e w'=>∃ d:Bool,e=.returned (.bool d)∧(d=true↔P)∧Below w.heap.size w w':=by
  obtain ⟨cp,hcp⟩:=exists_bool (ps=qs)
  have HCP:=hid hcp
  obtain ⟨W0,hW0⟩:∃ W0,(w.alloc (.cells #[.slice o1 ps.length k1,.int .i64 x0,.int .i64 x1,.int .i64 x2,.slice o2 is.length k2,.slice o3 fs.length k3,.slice o4 ms.length k4] 36)).alloc (.cells #[.slice o5 qs.length k5,.int .i64 y0,.int .i64 y1,.int .i64 y2,.slice o6 js.length k6,.slice o7 gs.length k7,.slice o8 ns.length k8] 36)=W0:=⟨_,rfl⟩
  have K1:=(show Lk W0 w.heap.size #[.slice o1 ps.length k1,.int .i64 x0,.int .i64 x1,.int .i64 x2,.slice o2 is.length k2,.slice o3 fs.length k3,.slice o4 ms.length k4] 36 from by rw [← hW0];exact (Lk.new w _ _).alloc _)
  have K2:=(show Lk W0 (w.heap.size+1) #[.slice o5 qs.length k5,.int .i64 y0,.int .i64 y1,.int .i64 y2,.slice o6 js.length k6,.slice o7 gs.length k7,.slice o8 ns.length k8] 36 from by rw [← hW0];have:=Lk.new (w.alloc (.cells #[.slice o1 ps.length k1,.int .i64 x0,.int .i64 x1,.int .i64 x2,.slice o2 is.length k2,.slice o3 fs.length k3,.slice o4 ms.length k4] 36)) #[.slice o5 qs.length k5,.int .i64 y0,.int .i64 y1,.int .i64 y2,.slice o6 js.length k6,.slice o7 gs.length k7,.slice o8 ns.length k8] 36;simpa using this)
  have hb0:Below w.heap.size w W0:=by rw [← hW0];exact ((Below.refl _ _).alloc (Nat.le_refl _) _).alloc (by simp) _
  have hCs:=(show Calls Tryz.prog 113 #[.slice o1 ps.length k1,.slice o5 qs.length k5] W0 fun e w'=>e=.returned (.bool cp)∧Below W0.heap.size W0 w' from l1Consts_is _ _ ps qs B1 B2 W0 cp hcp l1 l2 (own_below HP1.out hb0) (own_below HP2.out hb0))
  have HK1:=hid K1
  have HK2:=hid K2
  have HW0:=hid hW0
  have HB0:=hid hb0
  clear K1 K2 hW0 hb0 hcp
  cases cp with
  | false=>
   have HNe:=hid (show ¬P from fun p=>by
    have e:=hP.out.1 p
    injection e with e
    have:=HCP.out.2 e
    simp at this)
   go_enter Tryz.func73,Tryz.ntmps73
   go_wp2_with fail
   rw [HW0.out]
   refine hCs.mono ?_
   rintro e w1 ⟨rfl,hb1⟩
   have hbw:Below w.heap.size w w1:=HB0.out.trans (hb1.mono HB0.out.size)
   clear hCs hb1
   go_wp2_with fail
   go_ret
   exact ⟨false,rfl,⟨fun h=>by simp at h,fun h=>absurd h HNe.out⟩,hbw⟩
  | true=>
   have HPE:=hid (HCP.out.1 rfl)
   by_cases g0:x0=y0
   ·subst g0
    by_cases g1:x1=y1
    ·subst g1
     by_cases g2:x2=y2
     ·subst g2
      by_cases g3:is.length=js.length
      ·have e3:((is.length:Int) != (js.length:Int))=false:=by simp;omega
       have HN3:=hid g3
       clear g3
       by_cases g4:fs.length=gs.length
       ·have e4:((fs.length:Int) != (gs.length:Int))=false:=by simp;omega
        have HN4:=hid g4
        clear g4
        by_cases g5:ms.length=ns.length
        ·have e5:((ms.length:Int) != (ns.length:Int))=false:=by simp;omega
         have HN5:=hid g5
         clear g5
         go_enter Tryz.func73,Tryz.ntmps73
         go_wp2_with fail
         rw [HW0.out]
         refine hCs.mono ?_
         rintro e w1 ⟨rfl,hb1⟩
         obtain ⟨⟨p0,p1,p2,p3,p4,p5,p6⟩,_⟩:=(HK1.out.keep hb1).c7
         obtain ⟨⟨r0,r1,r2,r3,r4,r5,r6⟩,_⟩:=(HK2.out.keep hb1).c7
         have HB1:=hid hb1
         clear hCs hb1
         go_wp2_with fail
         clear p0 p1 p2 p3 p4 p5 p6 r0 r1 r2 r3 r4 r5 r6
         go_loopw [5] (fun i wr=>∃ k:Nat,k≤is.length∧i=.int .i64 k∧Hid (is.take k=js.take k)∧Hid (Below W0.heap.size W0 wr)) (fun i _=>is.length - (intOf i).toNat)
         case atStart=>exact ⟨0,by omega,rfl,rfl,HB1⟩
         case round=>
          obtain ⟨k,hk,rfl,HE,HQ⟩:=hrel
          obtain ⟨⟨p0,p1,p2,p3,p4,p5,p6⟩,_⟩:=(HK1.out.keep HQ.out).c7
          obtain ⟨⟨r0,r1,r2,r3,r4,r5,r6⟩,_⟩:=(HK2.out.keep HQ.out).c7
          have hbw:Below w.heap.size w wr:=HB0.out.trans (HQ.out.mono HB0.out.size)
          by_cases hlt:k<is.length
          ·have hlt2:k<js.length:=by rw [← HN3.out];exact hlt
           obtain ⟨g1,hg1⟩:=own_some HI1.out (by omega)
           obtain ⟨g2,hg2⟩:=own_some HI2.out (by omega)
           subst hg1 hg2
           have a1:=ownI_at (own_below HI1.out hbw) rfl hlt
           have b1:=ownI_at (own_below HI2.out hbw) rfl hlt2
           obtain ⟨z0,hz⟩:∃ a,is[k]=a:=⟨_,rfl⟩
           obtain ⟨v0,hv⟩:∃ a,js[k]=a:=⟨_,rfl⟩
           by_cases he:is[k]=js[k]
           ·have HX:=hid (show is.take (k+1)=js.take (k+1) from by rw [List.take_succ_eq_append_getElem hlt,List.take_succ_eq_append_getElem hlt2,HE.out,he])
            rw [he,hv] at a1
            rw [hv] at b1
            clear he hz hv
            go_wp2_with fail
            go_quiet (fail)
            go_wp2_with fail
            go_roundw
            case rel=>exact ⟨k+1,by omega,by go_num,HX,below_drewN HQ.out _⟩
            case measure=>simp [intOf];omega
           ·have HNe:=hid (show ¬P from fun p=>he (by have e:=hP.out.1 p;injection e with e1 e2 e3 e4 e5 e6 e7;subst e5;rfl))
            rw [hz,hv] at he
            rw [hz] at a1
            rw [hv] at b1
            have he':(z0 != v0)=true:=by simpa using he
            clear he hz hv
            go_wp2_with fail
            go_quiet (fail)
            go_wp2_with fail
            go_ret
            exact ⟨false,rfl,⟨fun h=>by simp at h,fun h=>absurd h HNe.out⟩,below_drewN hbw _⟩
          ·have HIE:=hid (show is=js from by
            have:=HE.out
            rw [List.take_of_length_le (by omega),List.take_of_length_le (by rw [← HN3.out];omega)] at this
            exact this)
           go_wp2_with fail
           clear p0 p1 p2 p3 p4 p5 p6 r0 r1 r2 r3 r4 r5 r6 hbw HB1
           go_loopw [6] (fun i wr=>∃ k:Nat,k≤fs.length∧i=.int .i64 k∧Hid (fs.take k=gs.take k)∧Hid (Below W0.heap.size W0 wr)) (fun i _=>fs.length - (intOf i).toNat)
           case atStart=>exact ⟨0,by omega,rfl,rfl,HQ⟩
           case round=>
            obtain ⟨k,hk,rfl,HE3,HQ3⟩:=hrel
            obtain ⟨⟨p0,p1,p2,p3,p4,p5,p6⟩,_⟩:=(HK1.out.keep HQ3.out).c7
            obtain ⟨⟨r0,r1,r2,r3,r4,r5,r6⟩,_⟩:=(HK2.out.keep HQ3.out).c7
            have hbw:Below w.heap.size w wr:=HB0.out.trans (HQ3.out.mono HB0.out.size)
            by_cases hlt:k<fs.length
            ·have hlt2:k<gs.length:=by rw [← HN4.out];exact hlt
             obtain ⟨g1,hg1⟩:=own_some HF1.out (by omega)
             obtain ⟨g2,hg2⟩:=own_some HF2.out (by omega)
             subst hg1 hg2
             obtain ⟨a1,a2,a3⟩:=ownField_at (own_below HF1.out hbw) hlt
             obtain ⟨b1,b2,b3⟩:=ownField_at (own_below HF2.out hbw) hlt2
             obtain ⟨z0,z1,z2,hz⟩:∃ a b c,fs[k]=⟨a,b,c⟩:=⟨_,_,_,rfl⟩
             obtain ⟨v0,v1,v2,hv⟩:∃ a b c,gs[k]=⟨a,b,c⟩:=⟨_,_,_,rfl⟩
             by_cases he:fs[k]=gs[k]
             ·have HX:=hid (show fs.take (k+1)=gs.take (k+1) from by rw [List.take_succ_eq_append_getElem hlt,List.take_succ_eq_append_getElem hlt2,HE3.out,he])
              rw [he,hv] at a1 a2 a3
              rw [hv] at b1 b2 b3
              simp only at a1 a2 a3 b1 b2 b3
              clear he hz hv
              go_wp2_with fail
              go_quiet (fail)
              go_wp2_with fail
              go_roundw
              case rel=>exact ⟨k+1,by omega,by go_num,HX,below_drewN HQ3.out _⟩
              case measure=>simp [intOf];omega
             ·have HNe:=hid (show ¬P from fun p=>he (by have e:=hP.out.1 p;injection e with e1 e2 e3 e4 e5 e6 e7;subst e6;rfl))
              rw [hz,hv] at he
              rw [hz] at a1 a2 a3
              rw [hv] at b1 b2 b3
              simp only at a1 a2 a3 b1 b2 b3
              have hne:((z0==v0)=false)∨((z0==v0)=true∧(z1==v1)=false)∨((z0==v0)=true∧(z1==v1)=true∧(z2==v2)=false):=by
               by_cases q0:z0=v0
               ·by_cases q1:z1=v1
                ·by_cases q2:z2=v2
                 ·exact absurd (by rw [q0,q1,q2]) he
                 ·exact .inr (.inr ⟨by simpa using q0,by simpa using q1,by simpa using q2⟩)
                ·exact .inr (.inl ⟨by simpa using q0,by simpa using q1⟩)
               ·exact .inl (by simpa using q0)
              have hrun:=neq_field hne
              clear he hne hz hv
              go_wp2_with fail
              go_quiet (fail)
              go_wp2_with fail
              go_ret
              exact ⟨false,rfl,⟨fun h=>by simp at h,fun h=>absurd h HNe.out⟩,below_drewN hbw _⟩
            ·have HFE:=hid (show fs=gs from by
              have:=HE3.out
              rw [List.take_of_length_le (by omega),List.take_of_length_le (by rw [← HN4.out];omega)] at this
              exact this)
             go_wp2_with fail
             clear p0 p1 p2 p3 p4 p5 p6 r0 r1 r2 r3 r4 r5 r6 hbw HQ
             go_loopw [7] (fun i wr=>∃ k:Nat,k≤ms.length∧i=.int .i64 k∧Hid (ms.take k=ns.take k)∧Hid (Below W0.heap.size W0 wr)) (fun i _=>ms.length - (intOf i).toNat)
             case atStart=>exact ⟨0,by omega,rfl,rfl,HQ3⟩
             case round=>
              obtain ⟨k,hk,rfl,HE4,HQ4⟩:=hrel
              obtain ⟨⟨p0,p1,p2,p3,p4,p5,p6⟩,_⟩:=(HK1.out.keep HQ4.out).c7
              obtain ⟨⟨r0,r1,r2,r3,r4,r5,r6⟩,_⟩:=(HK2.out.keep HQ4.out).c7
              have hbw:Below w.heap.size w wr:=HB0.out.trans (HQ4.out.mono HB0.out.size)
              by_cases hlt:k<ms.length
              ·have hlt2:k<ns.length:=by rw [← HN5.out];exact hlt
               have hx1:k<xs.length:=by rw [HM1.out.len];exact hlt
               have hx2:k<ys.length:=by rw [HM2.out.len];exact hlt2
               obtain ⟨g1,hg1⟩:=own_some HM1.out.row (by omega)
               obtain ⟨g2,hg2⟩:=own_some HM2.out.row (by omega)
               subst hg1 hg2
               obtain ⟨vt,ve,hq1,hq2⟩:=HM1.out.each k hlt hx1
               obtain ⟨ut,ue,hu1,hu2⟩:=HM2.out.each k hlt2 hx2
               have T1:=hid (List.take_succ_eq_append_getElem hlt)
               have T2:=hid (List.take_succ_eq_append_getElem hlt2)
               have HEq:=hid (show P→ms[k]=ns[k] from fun p=>by have e:=hP.out.1 p;injection e with e1 e2 e3 e4 e5 e6 e7;subst e7;rfl)
               have W1:=HE1.out ms[k] (List.getElem_mem _)
               have W2:=HE2.out ns[k] (List.getElem_mem _)
               obtain ⟨m,hmk⟩:∃ m,ms[k]=m:=⟨_,rfl⟩
               obtain ⟨n,hnk⟩:∃ m,ns[k]=m:=⟨_,rfl⟩
               rw [hmk] at hq1 hq2 W1 T1 HEq
               rw [hnk] at hu1 hu2 W2 T2 HEq
               obtain ⟨s1,t1,hv1⟩:=own_len hq2.t
               obtain ⟨s2,t2,hv2⟩:=hq2.f.len
               obtain ⟨s3,t3,hv3⟩:=own_len hu2.t
               obtain ⟨s4,t4,hv4⟩:=hu2.f.len
               subst hv1 hv2 hv3 hv4
               have hcells:∀ W,Below W0.heap.size W0 W→(W.cell? ⟨w.heap.size,6,none⟩=some (.slice (some ⟨g1,0,none⟩) ms.length k4)∧W.cell? ⟨w.heap.size+1,6,none⟩=some (.slice (some ⟨g2,0,none⟩) ns.length k8))∧(W.cell? ⟨g1,k*8,none⟩=some (.int .i64 m.flags)∧W.cell? ⟨g1,k*8+1,none⟩=some (.int .i64 m.name)∧W.cell? ⟨g1,k*8+2,none⟩=some (.int .i64 m.desc)∧W.cell? ⟨g1,k*8+3,none⟩=some (.int .i64 m.deep)∧W.cell? ⟨g1,k*8+4,none⟩=some (.int .i64 m.locals)∧W.cell? ⟨g1,k*8+5,none⟩=some (.string m.code)∧W.cell? ⟨g1,k*8+6,none⟩=some (.slice s1 m.traps.length t1)∧W.cell? ⟨g1,k*8+7,none⟩=some (.slice s2 m.frames.length t2))∧(W.cell? ⟨g2,k*8,none⟩=some (.int .i64 n.flags)∧W.cell? ⟨g2,k*8+1,none⟩=some (.int .i64 n.name)∧W.cell? ⟨g2,k*8+2,none⟩=some (.int .i64 n.desc)∧W.cell? ⟨g2,k*8+3,none⟩=some (.int .i64 n.deep)∧W.cell? ⟨g2,k*8+4,none⟩=some (.int .i64 n.locals)∧W.cell? ⟨g2,k*8+5,none⟩=some (.string n.code)∧W.cell? ⟨g2,k*8+6,none⟩=some (.slice s3 n.traps.length t3)∧W.cell? ⟨g2,k*8+7,none⟩=some (.slice s4 n.frames.length t4)):=fun W hW=>by
                have hbW:Below w.heap.size w W:=HB0.out.trans (hW.mono HB0.out.size)
                obtain ⟨⟨_,_,_,_,_,_,m6⟩,_⟩:=(HK1.out.keep hW).c7
                obtain ⟨⟨_,_,_,_,_,_,n6⟩,_⟩:=(HK2.out.keep hW).c7
                have eM:=ownMethod_at (own_below HM1.out.row hbW) HM1.out.len hx1
                have eN:=ownMethod_at (own_below HM2.out.row hbW) HM2.out.len hx2
                rw [hq1] at eM
                rw [hu1] at eN
                exact ⟨⟨m6,n6⟩,eM,eN⟩
               have HCE:=hid hcells
               obtain ⟨cm,hcm⟩:=exists_bool (m=n)
               have HCM:=hid hcm
               have hMe:=(show ∀ W,Below W0.heap.size W0 W→Calls Tryz.prog 114 #[.agg #[.int .i64 m.flags,.int .i64 m.name,.int .i64 m.desc,.int .i64 m.deep,.int .i64 m.locals,.string m.code,.slice s1 m.traps.length t1,.slice s2 m.frames.length t2],.agg #[.int .i64 n.flags,.int .i64 n.name,.int .i64 n.desc,.int .i64 n.deep,.int .i64 n.locals,.string n.code,.slice s3 n.traps.length t3,.slice s4 n.frames.length t4]] W fun e w'=>e=.returned (.bool cm)∧Below W.heap.size W w' from fun W hW=>by
                have hbW:Below w.heap.size w W:=HB0.out.trans (hW.mono HB0.out.size)
                refine (l1Method_any m n _ _ _ _ B1 B2 W W1 W2 (hq2.keep hbW) (hu2.keep hbW)).mono ?_
                rintro e w' ⟨d,rfl,hd,hb⟩
                refine ⟨ret_bool ?_,hb⟩
                rw [Bool.eq_iff_iff,hd,hcm])
               have hQD:=HQ4.out.drew
               obtain ⟨⟨c1,c2⟩,⟨d0,d1,d2,d3,d4,d5,d6,d7⟩,e0,e1,e2,e3,e4x,e5x,e6,e7⟩:=HCE.out _ hQD
               clear hq1 hq2 hu1 hu2 W1 W2 hmk hnk hcells hcm
               go_wp2_with fail
               go_region_held (fun w'=>(w'.cell? ⟨w.heap.size,6,none⟩=some (.slice (some ⟨g1,0,none⟩) ms.length k4)∧w'.cell? ⟨w.heap.size+1,6,none⟩=some (.slice (some ⟨g2,0,none⟩) ns.length k8))∧(w'.cell? ⟨g1,k*8,none⟩=some (.int .i64 m.flags)∧w'.cell? ⟨g1,k*8+1,none⟩=some (.int .i64 m.name)∧w'.cell? ⟨g1,k*8+2,none⟩=some (.int .i64 m.desc)∧w'.cell? ⟨g1,k*8+3,none⟩=some (.int .i64 m.deep)∧w'.cell? ⟨g1,k*8+4,none⟩=some (.int .i64 m.locals)∧w'.cell? ⟨g1,k*8+5,none⟩=some (.string m.code)∧w'.cell? ⟨g1,k*8+6,none⟩=some (.slice s1 m.traps.length t1)∧w'.cell? ⟨g1,k*8+7,none⟩=some (.slice s2 m.frames.length t2))∧(w'.cell? ⟨g2,k*8,none⟩=some (.int .i64 n.flags)∧w'.cell? ⟨g2,k*8+1,none⟩=some (.int .i64 n.name)∧w'.cell? ⟨g2,k*8+2,none⟩=some (.int .i64 n.desc)∧w'.cell? ⟨g2,k*8+3,none⟩=some (.int .i64 n.deep)∧w'.cell? ⟨g2,k*8+4,none⟩=some (.int .i64 n.locals)∧w'.cell? ⟨g2,k*8+5,none⟩=some (.string n.code)∧w'.cell? ⟨g2,k*8+6,none⟩=some (.slice s3 n.traps.length t3)∧w'.cell? ⟨g2,k*8+7,none⟩=some (.slice s4 n.frames.length t4))) (exact HCE.out _ (by assumption)) (first
                | (go_at_call 114;refine (hMe _ (by assumption)).mono ?_;rintro e w9 ⟨rfl,hb9⟩;have hQ9:=Below.trans (by assumption) (Below.mono hb9 (Below.size hQD))))
               have hbw9:Below w.heap.size w w9:=HB0.out.trans (hQ9.mono HB0.out.size)
               have HQ9:=hid hQ9
               clear c1 c2 d0 d1 d2 d3 d4 d5 d6 d7 e0 e1 e2 e3 e4x e5x e6 e7 hMe hb9 hQD
               cases cm with
               | false=>
                have HNe:=hid (show ¬P from fun p=>by have:=HCM.out.2 (HEq.out p);simp at this)
                go_wp2_with fail
                go_ret
                exact ⟨false,rfl,⟨fun h=>by simp at h,fun h=>absurd h HNe.out⟩,hbw9⟩
               | true=>
                have HX:=hid (show ms.take (k+1)=ns.take (k+1) from by rw [T1.out,T2.out,HE4.out,HCM.out.1 rfl])
                go_wp2_with fail
                go_roundw
                case rel=>exact ⟨k+1,by omega,by go_num,HX,HQ9⟩
                case measure=>simp [intOf];omega
              ·have HME:=hid (show ms=ns from by
                have:=HE4.out
                rw [List.take_of_length_le (by omega),List.take_of_length_le (by rw [← HN5.out];omega)] at this
                exact this)
               have HYes:=hid (show P from hP.out.2 (by rw [HPE.out,HIE.out,HFE.out,HME.out]))
               go_wp2_with fail
               go_ret
               exact ⟨true,rfl,⟨fun _=>HYes.out,fun _=>rfl⟩,hbw⟩
        ·have HNe:=hid (show ¬P from fun p=>g5 (by have e:=hP.out.1 p;injection e with e1 e2 e3 e4 e5 e6 e7;rw [e7]))
         have e5:((ms.length:Int) != (ns.length:Int))=true:=by simp;omega
         clear g5
         go_enter Tryz.func73,Tryz.ntmps73
         go_wp2_with fail
         rw [HW0.out]
         refine hCs.mono ?_
         rintro e w1 ⟨rfl,hb1⟩
         have hbw:Below w.heap.size w w1:=HB0.out.trans (hb1.mono HB0.out.size)
         obtain ⟨⟨p0,p1,p2,p3,p4,p5,p6⟩,_⟩:=(HK1.out.keep hb1).c7
         obtain ⟨⟨r0,r1,r2,r3,r4,r5,r6⟩,_⟩:=(HK2.out.keep hb1).c7
         clear hCs hb1
         go_wp2_with fail
         go_ret
         exact ⟨false,rfl,⟨fun h=>by simp at h,fun h=>absurd h HNe.out⟩,hbw⟩
       ·have HNe:=hid (show ¬P from fun p=>g4 (by have e:=hP.out.1 p;injection e with e1 e2 e3 e4 e5 e6 e7;rw [e6]))
        have e4:((fs.length:Int) != (gs.length:Int))=true:=by simp;omega
        clear g4
        go_enter Tryz.func73,Tryz.ntmps73
        go_wp2_with fail
        rw [HW0.out]
        refine hCs.mono ?_
        rintro e w1 ⟨rfl,hb1⟩
        have hbw:Below w.heap.size w w1:=HB0.out.trans (hb1.mono HB0.out.size)
        obtain ⟨⟨p0,p1,p2,p3,p4,p5,p6⟩,_⟩:=(HK1.out.keep hb1).c7
        obtain ⟨⟨r0,r1,r2,r3,r4,r5,r6⟩,_⟩:=(HK2.out.keep hb1).c7
        clear hCs hb1
        go_wp2_with fail
        go_ret
        exact ⟨false,rfl,⟨fun h=>by simp at h,fun h=>absurd h HNe.out⟩,hbw⟩
      ·have HNe:=hid (show ¬P from fun p=>g3 (by have e:=hP.out.1 p;injection e with e1 e2 e3 e4 e5 e6 e7;rw [e5]))
       have e3:((is.length:Int) != (js.length:Int))=true:=by simp;omega
       clear g3
       go_enter Tryz.func73,Tryz.ntmps73
       go_wp2_with fail
       rw [HW0.out]
       refine hCs.mono ?_
       rintro e w1 ⟨rfl,hb1⟩
       have hbw:Below w.heap.size w w1:=HB0.out.trans (hb1.mono HB0.out.size)
       obtain ⟨⟨p0,p1,p2,p3,p4,p5,p6⟩,_⟩:=(HK1.out.keep hb1).c7
       obtain ⟨⟨r0,r1,r2,r3,r4,r5,r6⟩,_⟩:=(HK2.out.keep hb1).c7
       clear hCs hb1
       go_wp2_with fail
       go_ret
       exact ⟨false,rfl,⟨fun h=>by simp at h,fun h=>absurd h HNe.out⟩,hbw⟩
     ·have HNe:=hid (show ¬P from fun p=>g2 (by have e:=hP.out.1 p;injection e))
      have e2:(x2 != y2)=true:=by simpa using g2
      clear g2
      go_enter Tryz.func73,Tryz.ntmps73
      go_wp2_with fail
      rw [HW0.out]
      refine hCs.mono ?_
      rintro e w1 ⟨rfl,hb1⟩
      have hbw:Below w.heap.size w w1:=HB0.out.trans (hb1.mono HB0.out.size)
      obtain ⟨⟨p0,p1,p2,p3,p4,p5,p6⟩,_⟩:=(HK1.out.keep hb1).c7
      obtain ⟨⟨r0,r1,r2,r3,r4,r5,r6⟩,_⟩:=(HK2.out.keep hb1).c7
      clear hCs hb1
      go_wp2_with fail
      go_ret
      exact ⟨false,rfl,⟨fun h=>by simp at h,fun h=>absurd h HNe.out⟩,hbw⟩
    ·have HNe:=hid (show ¬P from fun p=>g1 (by have e:=hP.out.1 p;injection e))
     have e1:(x1 != y1)=true:=by simpa using g1
     clear g1
     go_enter Tryz.func73,Tryz.ntmps73
     go_wp2_with fail
     rw [HW0.out]
     refine hCs.mono ?_
     rintro e w1 ⟨rfl,hb1⟩
     have hbw:Below w.heap.size w w1:=HB0.out.trans (hb1.mono HB0.out.size)
     obtain ⟨⟨p0,p1,p2,p3,p4,p5,p6⟩,_⟩:=(HK1.out.keep hb1).c7
     obtain ⟨⟨r0,r1,r2,r3,r4,r5,r6⟩,_⟩:=(HK2.out.keep hb1).c7
     clear hCs hb1
     go_wp2_with fail
     go_ret
     exact ⟨false,rfl,⟨fun h=>by simp at h,fun h=>absurd h HNe.out⟩,hbw⟩
   ·have HNe:=hid (show ¬P from fun p=>g0 (by have e:=hP.out.1 p;injection e))
    have e0:(x0 != y0)=true:=by simpa using g0
    clear g0
    go_enter Tryz.func73,Tryz.ntmps73
    go_wp2_with fail
    rw [HW0.out]
    refine hCs.mono ?_
    rintro e w1 ⟨rfl,hb1⟩
    have hbw:Below w.heap.size w w1:=HB0.out.trans (hb1.mono HB0.out.size)
    obtain ⟨⟨p0,p1,p2,p3,p4,p5,p6⟩,_⟩:=(HK1.out.keep hb1).c7
    obtain ⟨⟨r0,r1,r2,r3,r4,r5,r6⟩,_⟩:=(HK2.out.keep hb1).c7
    clear hCs hb1
    go_wp2_with fail
    go_ret
    exact ⟨false,rfl,⟨fun h=>by simp at h,fun h=>absurd h HNe.out⟩,hbw⟩
 refine key.mono ?_
 rintro e w' ⟨d,rfl,hd,hb⟩
 exact ⟨d,rfl,hd.trans hP.out,hb⟩
end Go.Proofs.YtecbcdfkedocbaaGreatDoor
