/- Gathered: GetSpec SpecPut. -/
import Derived.Test.YtecbcdfkedocbaaGreatDoorH05
import Derived.Test.YtecbcdfkedocbaaGreatDoorH03
import Derived.Deep.CutBlock
import Derived.Deep.DeepCutAuto
import Derived.Test.YtecbcdfkedocbaaGreatDoorH06
namespace Go.Proofs.YtecbcdfkedocbaaGreatDoor
open Go.RowKit Fm
set_option maxHeartbeats 4000000
set_option maxRecDepth 20000
set_option linter.unusedVariables false
def GetPost (s:ByteArray) (w:World) (e:Ending) (w':World):Prop:=
 (getC s=none∧e=.returned (.tuple #[.agg zC,.bool false])∧Below w.heap.size w w') ∨
 ∃ c vp vi vf vm,getC s=some c∧e=.returned (.tuple #[.agg #[vp,.int .i64 c.flags,.int .i64 c.name,.int .i64 c.super,vi,vf,vm],.bool true])∧ClassW w' w.heap.size vp vi vf vm c∧c.few∧Below w.heap.size w w'
theorem get_long {s:ByteArray} (h:¬s.size≤900):getC s=none:=by unfold getC;rw [if_neg h]
theorem get_bad {s:ByteArray} (h:rClass s.data.toList=none):getC s=none:=by
 unfold getC
 split
 ·simp [h]
 ·rfl
theorem get_more {s:ByteArray} {c:MClass} {b:UInt8} {r:List UInt8} (h:rClass s.data.toList=some (c,b :: r)):getC s=none:=by
 unfold getC
 split
 ·simp [h]
 ·rfl
theorem get_yes {s:ByteArray} {c:MClass} (hs:s.size≤900) (h:rClass s.data.toList=some (c,[])):getC s=some c:=by
 unfold getC
 rw [if_pos hs]
 simp [h]
theorem zCell (w:World) (o:Obj):Lk ((w.alloc (.cells zC 36)).alloc o) w.heap.size zC 36:=(Lk.new w _ _).alloc _
structure GE (w:World) (vp vi vf vm:Value) (c:MClass) (W:World):Prop where
 old:Below w.heap.size w W
 p:W.ownsRow w.heap.size 40 4 vp c.pool.length (cellsC c.pool)
 i:W.ownsRow w.heap.size 3 1 vi c.faces.length (rowI c.faces)
 f:W.ownsRow w.heap.size 79 3 vf c.fields.length (rowField c.fields)
 m:∃ xs,MX W w.heap.size vm c.methods xs
 r:∃ zs,Lk W w.heap.size zs 36
theorem GE.set {w:World} {vp vi vf vm:Value} {c:MClass} {W:World} (h:GE w vp vi vf vm c W) (j:Nat) (u:Value):GE w vp vi vf vm c (W.setCell ⟨w.heap.size,j,none⟩ u):=by
 obtain ⟨zs,hz⟩:=h.r
 obtain ⟨xs,hx⟩:=h.m
 have k:Kp W (W.setCell ⟨w.heap.size,j,none⟩ u) w.heap.size 36:=Kp.set hz j u
 exact ⟨h.old.setCell (p:=⟨w.heap.size,j,none⟩) (Nat.le_refl _) _,k _ _ _ _ _ (by decide) h.p,k _ _ _ _ _ (by decide) h.i,k _ _ _ _ _ (by decide) h.f,⟨xs,hx.kp k (by decide) (by decide) (by decide) (by decide)⟩,⟨_,hz.set j u rfl⟩⟩
theorem GE.fin {w:World} {vp vi vf vm:Value} {c:MClass} {W:World} (h:GE w vp vi vf vm c W):ClassW W w.heap.size vp vi vf vm c:=by
 obtain ⟨xs,hx⟩:=h.m
 exact ⟨h.p,h.i,h.f,hx.all⟩
theorem GE.post {s:ByteArray} {w:World} {vp vi vf vm:Value} {c:MClass} {W:World} (hy:getC s=some c) (hf:c.few) (h:GE w vp vi vf vm c W):GetPost s w (.returned (.tuple #[.agg #[vp,.int .i64 c.flags,.int .i64 c.name,.int .i64 c.super,vi,vf,vm],.bool true])) W:=.inr ⟨c,vp,vi,vf,vm,hy,rfl,h.fin,hf,h.old⟩
theorem l1Get_any (s:ByteArray) (w:World) (hs:s.size≤9223372036854775807) :
  Calls Tryz.prog 72 #[.string s] w fun e w'=>GetPost s w e w':=by
 by_cases h9:s.size≤900
 ·have S0:=(show RdAt (((w.alloc (.cells zC 36))).alloc (.cells #[.string s,.int .i64 0,.bool false] 160)) (w.heap.size+1) s (some s.data.toList) from
   ⟨0,Nat.zero_le _,by have:=heap_alloc_new (w.alloc (.cells zC 36)) (.cells #[.string s,.int .i64 0,.bool false] 160);simpa using this,fun r hr=>by cases hr;rfl⟩)
  have HC:=l1class_any (w.heap.size+1) s _ _ (by omega) S0
  have K0:=zCell w (.cells #[.string s,.int .i64 0,.bool false] 160)
  clear S0
  go_enter Tryz.func72,Tryz.ntmps72
  go_upto_region 4 with fail
  go_cut [5] (fun p wc=>∃ (c:MClass) (vp vi vf vm:Value) (st':Option (List UInt8)) (C:Nat),p=.pointer (some ⟨C,0,none⟩)∧w.heap.size+1<C∧Hid (ClassW wc w.heap.size vp vi vf vm c)∧Hid c.few∧Hid (RdAt wc (w.heap.size+1) s st')∧Hid (Below w.heap.size w wc)∧Hid (Lk wc w.heap.size zC 36)∧Hid (Lk wc C (arrC vp c.flags c.name c.super vi vf vm) 36)∧Hid (Rd rClass (some s.data.toList) c st'))
  case first=>
   go_wp2_with fail
   refine HC.mono ?_
   rintro e w1 ⟨c,vp,vi,vf,vm,st',rfl,hcw,hcf,h1,g1,r1⟩
   have K1:=K0.call g1 (by omega)
   have hold:Below w.heap.size w w1:=⟨g1.os,g1.tape,g1.output,by have:=g1.size;simp at this;omega,fun k hk=>by
    rw [g1.block k (by simp;omega) (by simp;omega),Below.heap_alloc _ _ _ (by simp;omega),Below.heap_alloc _ _ _ hk]⟩
   have hlb:=h1.lt
   have hb1:Below w1.heap.size w1 (w1.alloc (.cells (arrC vp c.flags c.name c.super vi vf vm) 36)):=(Below.refl _ _).alloc (Nat.le_refl _) _
   have HX:=hid (show ∃ (c':MClass) (vp' vi' vf' vm':Value) (st2:Option (List UInt8)) (C:Nat),Value.pointer (some ⟨w1.heap.size,0,none⟩)=.pointer (some ⟨C,0,none⟩)∧w.heap.size+1<C∧Hid (ClassW (w1.alloc (.cells (arrC vp c.flags c.name c.super vi vf vm) 36)) w.heap.size vp' vi' vf' vm' c')∧Hid c'.few∧Hid (RdAt (w1.alloc (.cells (arrC vp c.flags c.name c.super vi vf vm) 36)) (w.heap.size+1) s st2)∧Hid (Below w.heap.size w (w1.alloc (.cells (arrC vp c.flags c.name c.super vi vf vm) 36)))∧Hid (Lk (w1.alloc (.cells (arrC vp c.flags c.name c.super vi vf vm) 36)) w.heap.size zC 36)∧Hid (Lk (w1.alloc (.cells (arrC vp c.flags c.name c.super vi vf vm) 36)) C (arrC vp' c'.flags c'.name c'.super vi' vf' vm') 36)∧Hid (Rd rClass (some s.data.toList) c' st2) from
    ⟨c,vp,vi,vf,vm,st',w1.heap.size,rfl,hlb,(hcw.mono (by simp;omega)).keep hb1,hcf,h1.keep hb1,hold.trans (hb1.mono hold.size),K1.keep hb1,Lk.new _ _ _,r1⟩)
   obtain ⟨o1,k1,hv1⟩:=own_len hcw.p
   obtain ⟨o2,k2,hv2⟩:=own_len hcw.i
   obtain ⟨o3,k3,hv3⟩:=own_len hcw.f
   obtain ⟨o4,k4,hv4⟩:=hcw.m.len
   subst hv1 hv2 hv3 hv4
   clear h1 g1 HC hcw hcf K0 K1 hold hb1 r1
   go_wp2_with fail
   go_meet
   case rel=>exact HX.out
  case rest=>
   obtain ⟨c,vp,vi,vf,vm,st',C,rfl,hC,HW,HF,HRd,HO,HR,HCl,HRc⟩:=hcut
   clear HC K0
   obtain ⟨a,ha,hr,c0,c1,c2,fz,hu1,hu2⟩:=HRd.out.cells
   obtain ⟨⟨p0,p1,p2,p3,p4,p5,p6⟩,y0,y1,y2,y3,y4,y5,y6⟩:=HR.out.c7
   obtain ⟨⟨t0,t1,t2,t3,t4,t5,t6⟩,_⟩:=HCl.out.c7
   obtain ⟨o1,k1,hv1⟩:=own_len HW.out.p
   obtain ⟨o2,k2,hv2⟩:=own_len HW.out.i
   obtain ⟨o3,k3,hv3⟩:=own_len HW.out.f
   obtain ⟨o4,k4,hv4⟩:=HW.out.m.len
   subst hv1 hv2 hv3 hv4
   clear hu1 hu2 fz
   have hne:¬w.heap.size=C:=by omega
   cases st' with
   | none=>
    have HN:=hid (show getC s=none from get_bad (by
     cases hp:rClass s.data.toList with
     | none=>rfl
     | some y=>have:=HRc.out;simp [Rd,hp] at this))
    simp only [Option.isNone_none] at c2
    clear hr HW HF HRd HR HCl HRc
    go_wp2_with fail
    refine bodyPost_ret (v:=.tuple #[.agg zC,.bool false]) (by simp [results,Tryz.results72,go_sem,p0,p1,p2,p3,p4,p5,p6]) rfl ?_
    refine .inl ⟨HN.out,rfl, ?_⟩
    repeat' (first|refine Below.setCell ?_ (by exact Nat.le_refl _) _|exact HO.out)
   | some rr=>
    have hrr:=hr rr rfl
    obtain ⟨s',hs',hp⟩:=HRc.out.got
    cases hs'
    simp only [Option.isNone_some] at c2
    by_cases hend:a=s.size
    ·have hnil:rr=[]:=by rw [hrr,hend];exact List.drop_eq_nil_of_le (by simp)
     subst hnil
     obtain ⟨hfine,heq⟩:=codecClass.only _ _ _ hp
     have HY:=hid (get_yes h9 hp)
     have hput:=(show ∀ W,Below wc.heap.size wc W→Calls Tryz.prog 71 #[.agg #[.slice o1 c.pool.length k1,.int .i64 c.flags,.int .i64 c.name,.int .i64 c.super,.slice o2 c.faces.length k2,.slice o3 c.fields.length k3,.slice o4 c.methods.length k4]] W fun e w'=>e=.returned (.string s)∧Below W.heap.size W w' from fun W hW=>by
      have f1:=hfine.1.1
      have f2:=hfine.2.2.2.2.1.1
      have f3:=hfine.2.2.2.2.2.1.1
      have f4:=hfine.2.2.2.2.2.2.1
      refine (putClass_any c _ _ _ _ _ W HF.out (by omega) (by omega) (by omega) (by omega) (HW.out.keep hW)).mono ?_
      rintro e w' ⟨u,rfl,hu,hb⟩
      refine ⟨?_,hb⟩
      have:u=s:=by
       rw [hu.2 hfine,← bytes_data s]
       rw [List.append_nil] at heq
       rw [heq]
      rw [this])
     obtain ⟨xs,hxs⟩:=MX.of HW.out.m
     have HG:=hid (show ∀ W,Below wc.heap.size wc W→GE w (.slice o1 c.pool.length k1) (.slice o2 c.faces.length k2) (.slice o3 c.fields.length k3) (.slice o4 c.methods.length k4) c W from fun W hW=>by
      have hk:=HW.out.keep hW
      obtain ⟨ys,hys⟩:=MX.of hk.m
      exact ⟨HO.out.trans (hW.mono HO.out.size),hk.p,hk.i,hk.f,⟨ys,hys⟩,⟨_,HR.out.keep hW⟩⟩)
     subst hend
     clear hr hrr hp heq hfine hxs HRd HRc HW
     go_wp2_with fail
     refine (hput _ (Below.refl _ _)).mono ?_
     rintro e w2 ⟨rfl,hb2⟩
     have HG2:=hid (HG.out _ hb2)
     obtain ⟨⟨q0,q1,q2,q3,q4,q5,q6⟩,z0,z1,z2,z3,z4,z5,z6⟩:=(HR.out.keep hb2).c7
     obtain ⟨⟨v0,v1,v2,v3,v4,v5,v6⟩,_⟩:=(HCl.out.keep hb2).c7
     clear hput HG hb2 p0 p1 p2 p3 p4 p5 p6 y0 y1 y2 y3 y4 y5 y6 t0 t1 t2 t3 t4 t5 t6 HR HCl c0 c1 c2
     go_wp2_with fail
     refine bodyPost_ret (v:=.tuple #[.agg #[.slice o1 c.pool.length k1,.int .i64 c.flags,.int .i64 c.name,.int .i64 c.super,.slice o2 c.faces.length k2,.slice o3 c.fields.length k3,.slice o4 c.methods.length k4],.bool true]) (by simp [results,Tryz.results72,go_sem,q0,q1,q2,q3,q4,q5,q6]) rfl ?_
     refine GE.post HY.out HF.out ?_
     repeat' (first|refine GE.set ?_ _ _|exact HG2.out)
    ·have HN:=hid (show getC s=none from by
      cases rr with
      | nil=>
       have:=congrArg List.length hrr
       simp at this
       omega
      | cons x r=>exact get_more hp)
     have hne2:((a:Int) != (s.size:Int))=true:=by simpa using (by omega:¬(a:Int)=s.size)
     clear hr hrr hp HW HF HRd HR HCl HRc hend
     go_wp2_with fail
     refine bodyPost_ret (v:=.tuple #[.agg zC,.bool false]) (by simp [results,Tryz.results72,go_sem,p0,p1,p2,p3,p4,p5,p6]) rfl ?_
     refine .inl ⟨HN.out,rfl, ?_⟩
     repeat' (first|refine Below.setCell ?_ (by exact Nat.le_refl _) _|exact HO.out)
 ·go_enter Tryz.func72,Tryz.ntmps72
  go_wp2_with fail
  refine bodyPost_ret (v:=.tuple #[.agg zC,.bool false]) (by simp [results,Tryz.results72,go_sem]) rfl ?_
  refine .inl ⟨get_long h9,rfl, ?_⟩
  go_grown
def PutOut (c:MClass) (r:ByteArray):Prop:=(fineC c∧(putC c).length≤900∧r=bytesOf (putC c))∨(¬(fineC c∧(putC c).length≤900)∧r=⟨#[]⟩)
theorem PutOut.one {c:MClass} {r r':ByteArray} (h:PutOut c r) (h':PutOut c r'):r=r':=by
 rcases h with ⟨h1,h2,rfl⟩|⟨h1,rfl⟩<;>rcases h' with ⟨k1,k2,rfl⟩|⟨k1,rfl⟩
 ·rfl
 ·exact absurd ⟨h1,h2⟩ k1
 ·exact absurd ⟨k1,k2⟩ h1
 ·rfl
def lens (c:MClass):Prop:=c.pool.length≤60∧c.faces.length≤3∧c.fields.length≤5∧c.methods.length≤6
theorem fine_lens {c:MClass} (h:fineC c):lens c:=by
 have f1:=h.1.1
 have f2:=h.2.2.2.2.1.1
 have f3:=h.2.2.2.2.2.1.1
 have f4:=h.2.2.2.2.2.2.1
 unfold lens
 omega
theorem bytes_back (l:List UInt8):(bytesOf l).data.toList=l:=by simp [bytesOf]
theorem l1Few_any (vp vi vf vm:Value) (f n u:Int) (a b c d:Nat) (w:World) (hp:∃ o k,vp=.slice o a k) (hi:∃ o k,vi=.slice o b k) (hf:∃ o k,vf=.slice o c k) (hm:∃ o k,vm=.slice o d k) :
  Calls Tryz.prog 70 #[.agg #[vp,.int .i64 f,.int .i64 n,.int .i64 u,vi,vf,vm]] w fun e w'=>e=.returned (.bool (decide (a≤60∧b≤3∧c≤5∧d≤6)))∧Below w.heap.size w w':=by
 obtain ⟨o1,k1,rfl⟩:=hp
 obtain ⟨o2,k2,rfl⟩:=hi
 obtain ⟨o3,k3,rfl⟩:=hf
 obtain ⟨o4,k4,rfl⟩:=hm
 obtain ⟨q,hq⟩:∃ q,decide (a≤60∧b≤3∧c≤5∧d≤6)=q:=⟨_,rfl⟩
 have HQ:=hid hq
 rw [hq]
 clear hq
 by_cases h1:a≤60
 ·by_cases h2:b≤3
  ·by_cases h3:c≤5
   ·go_enter Tryz.func70,Tryz.ntmps70
    go_wp2
    go_ret
    refine ⟨ret_bool ?_,by go_grown⟩
    rw [← HQ.out,Bool.eq_iff_iff]
    simp
    omega
   ·have HN:=hid (show q=false from by rw [← HQ.out];simp;omega)
    go_enter Tryz.func70,Tryz.ntmps70
    go_wp2
    go_ret
    exact ⟨ret_bool HN.out.symm,by go_grown⟩
  ·have HN:=hid (show q=false from by rw [← HQ.out];simp;omega)
   go_enter Tryz.func70,Tryz.ntmps70
   go_wp2
   go_ret
   exact ⟨ret_bool HN.out.symm,by go_grown⟩
 ·have HN:=hid (show q=false from by rw [← HQ.out];simp;omega)
  go_enter Tryz.func70,Tryz.ntmps70
  go_wp2
  go_ret
  exact ⟨ret_bool HN.out.symm,by go_grown⟩
theorem specFilePut_any (c:MClass) (vp vi vf vm:Value) (B:Nat) (w:World) (hc:c.few) (h:ClassW w B vp vi vf vm c) :
  Calls Tryz.prog 43 #[.agg #[vp,.int .i64 c.flags,.int .i64 c.name,.int .i64 c.super,vi,vf,vm]] w fun e w'=>∃ r,e=.returned (.string r)∧PutOut c r∧Below w.heap.size w w':=by
 obtain ⟨o1,k1,hv1⟩:=own_len h.p
 obtain ⟨o2,k2,hv2⟩:=own_len h.i
 obtain ⟨o3,k3,hv3⟩:=own_len h.f
 obtain ⟨o4,k4,hv4⟩:=h.m.len
 subst hv1 hv2 hv3 hv4
 have HW:=hid h
 have HC:=hid hc
 have P0:=PB.start w (arrC (.slice o1 c.pool.length k1) c.flags c.name c.super (.slice o2 c.faces.length k2) (.slice o3 c.fields.length k3) (.slice o4 c.methods.length k4)) 36
 have hFew:=fun W=>l1Few_any (.slice o1 c.pool.length k1) (.slice o2 c.faces.length k2) (.slice o3 c.fields.length k3) (.slice o4 c.methods.length k4) c.flags c.name c.super c.pool.length c.faces.length c.fields.length c.methods.length W ⟨_,_,rfl⟩ ⟨_,_,rfl⟩ ⟨_,_,rfl⟩ ⟨_,_,rfl⟩
 clear h hc
 by_cases hl:lens c
 ·have hd:decide (c.pool.length≤60∧c.faces.length≤3∧c.fields.length≤5∧c.methods.length≤6)=true:=by simpa [lens] using hl
  rw [hd] at hFew
  have hPut:=fun W (hW:Below w.heap.size w W)=>putClass_any c _ _ _ _ B W HC.out hl.1 hl.2.1 hl.2.2.1 hl.2.2.2 (HW.out.keep hW)
  have HL:=hid hl
  clear hd hl
  go_enter Tryz.func43,Tryz.ntmps43
  go_wp2_with fail
  refine (hFew _).mono ?_
  rintro e w1 ⟨rfl,hb1⟩
  have P1:=P0.keep hb1
  obtain ⟨⟨c0,c1,c2,c3,c4,c5,c6⟩,_⟩:=P1.lk.c7
  clear P0 hb1 hFew
  go_wp2_with fail
  refine (hPut _ P1.old).mono ?_
  rintro e w2 ⟨t,rfl,pt,hb2⟩
  have P2:=P1.keep hb2
  have HT:=hid pt
  have hts:=pt.1
  have hGet:=l1Get_any t w2 (by omega)
  clear c0 c1 c2 c3 c4 c5 c6 P1 hb2 hPut pt
  go_wp2_with fail
  refine hGet.mono ?_
  rintro e w3 (⟨hn,rfl,hb3⟩|⟨x,up,ui,uf,um,hy,rfl,hxw,hxf,hb3⟩)
  ·have P3:=P2.keep hb3
   have HR:=hid (show PutOut c ⟨#[]⟩ from .inr ⟨(fun hf=>by
    have e:=HT.out.2 hf.1
    have:getC t=some c:=(getC_iff t c).2 ⟨by rw [e,bytes_size];exact hf.2,hf.1,by rw [e,bytes_back]⟩
    rw [hn] at this
    simp at this),rfl⟩)
   have HO:=hid P3.old
   clear P2 hn hGet hb3
   go_wp2_with fail
   go_ret
   exact ⟨_,rfl,HR.out,HO.out.alloc HO.out.size _⟩
  ·have P3:=P2.keep hb3
   have hal:∀ o,(w3.alloc o).cell? ⟨w.heap.size,0,none⟩=some (.slice o1 c.pool.length k1)∧(w3.alloc o).cell? ⟨w.heap.size,1,none⟩=some (.int .i64 c.flags)∧(w3.alloc o).cell? ⟨w.heap.size,2,none⟩=some (.int .i64 c.name)∧(w3.alloc o).cell? ⟨w.heap.size,3,none⟩=some (.int .i64 c.super)∧(w3.alloc o).cell? ⟨w.heap.size,4,none⟩=some (.slice o2 c.faces.length k2)∧(w3.alloc o).cell? ⟨w.heap.size,5,none⟩=some (.slice o3 c.fields.length k3)∧(w3.alloc o).cell? ⟨w.heap.size,6,none⟩=some (.slice o4 c.methods.length k4):=fun o=>(P3.lk.alloc o).c7.1
   have a0:=fun o=>(hal o).1
   have a1:=fun o=>(hal o).2.1
   have a2:=fun o=>(hal o).2.2.1
   have a3:=fun o=>(hal o).2.2.2.1
   have a4:=fun o=>(hal o).2.2.2.2.1
   have a5:=fun o=>(hal o).2.2.2.2.2.1
   have a6:=fun o=>(hal o).2.2.2.2.2.2
   obtain ⟨q1,r1,hv1⟩:=own_len hxw.p
   obtain ⟨q2,r2,hv2⟩:=own_len hxw.i
   obtain ⟨q3,r3,hv3⟩:=own_len hxw.f
   obtain ⟨q4,r4,hv4⟩:=hxw.m.len
   subst hv1 hv2 hv3 hv4
   have hbo:=fun o=>((Below.refl w3.heap.size w3).alloc (Nat.le_refl _) o)
   have hSame:=fun o=>l1Same_any x c _ _ _ _ _ _ _ _ w2.heap.size B (w3.alloc o) hxf HC.out (hxw.keep (hbo o)) (HW.out.keep (P3.old.trans ((hbo o).mono P3.old.size)))
   have HO:=hid P3.old
   have HY:=hid ((getC_iff t x).1 hy)
   clear P2 hy hGet hb3 hxw hxf hbo hal P3
   go_wp2_with fail
   refine (hSame _).mono ?_
   rintro e w4 ⟨d,rfl,hd,hb4⟩
   have HD:=hid hd
   have HO4:=hid ((HO.out.alloc HO.out.size (.cells (arrC (.slice q1 x.pool.length r1) x.flags x.name x.super (.slice q2 x.faces.length r2) (.slice q3 x.fields.length r3) (.slice q4 x.methods.length r4)) 36)).trans (hb4.mono (by have:=HO.out.size;simp;omega)))
   clear hSame hb4 hd a0 a1 a2 a3 a4 a5 a6
   cases d with
   | false=>
    have HR:=hid (show PutOut c ⟨#[]⟩ from .inr ⟨(fun hf=>by
     have e:=HT.out.2 hf.1
     have h2:=HY.out.2.2
     rw [e,bytes_back] at h2
     have e1:=codecClass.back c [] hf.1
     have e2:=codecClass.back x [] HY.out.2.1
     rw [h2,e2] at e1
     have e3:x=c:=by simpa using e1
     have:=HD.out.2 e3
     simp at this),rfl⟩)
    go_wp2_with fail
    go_ret
    exact ⟨_,rfl,HR.out,HO4.out⟩
   | true=>
    have HR:=hid (show PutOut c t from by
     have e:=HD.out.1 rfl
     subst e
     have h2:=HY.out.2.2
     refine .inl ⟨HY.out.2.1, ?_, ?_⟩
     ·rw [← h2];have:=HY.out.1;simpa using this
     ·rw [← h2,bytes_data])
    go_wp2_with fail
    go_ret
    exact ⟨_,rfl,HR.out,HO4.out⟩
 ·have HR:=hid (show PutOut c ⟨#[]⟩ from .inr ⟨fun hf=>hl (fine_lens hf.1),rfl⟩)
  have hd:decide (c.pool.length≤60∧c.faces.length≤3∧c.fields.length≤5∧c.methods.length≤6)=false:=by simpa [lens] using hl
  rw [hd] at hFew
  clear hd hl
  go_enter Tryz.func43,Tryz.ntmps43
  go_wp2_with fail
  refine (hFew _).mono ?_
  rintro e w1 ⟨rfl,hb1⟩
  have HO:=hid (P0.keep hb1).old
  clear P0 hb1 hFew
  go_wp2_with fail
  go_ret
  exact ⟨_,rfl,HR.out,HO.out⟩
end Go.Proofs.YtecbcdfkedocbaaGreatDoor
