/- Gathered: ChkWrong ChkImpl ChkSpec ChkJoin. -/
import Derived.Test.YtecbcdfkedocbaaGreatDoorK10
import Derived.Test.YtecbcdfkedocbaaGreatDoorK08
import Derived.Test.YtecbcdfkedocbaaGreatDoorH10
import Derived.Test.YtecbcdfkedocbaaGreatDoorH12
import Derived.Laws.EntriesVeiled
import Derived.Test.YtecbcdfkedocbaaGreatDoorK11
import Derived.Test.YtecbcdfkedocbaaGreatDoorK06
import Derived.Test.YtecbcdfkedocbaaGreatDoorK07
import Derived.Test.YtecbcdfkedocbaaGreatDoorH09
import Derived.Test.YtecbcdfkedocbaaGreatDoorG01
namespace Go.Proofs.YtecbcdfkedocbaaGreatDoor
open Mx Fm Go.RowKit
set_option maxHeartbeats 2000000
set_option maxRecDepth 20000
set_option linter.unusedVariables false
def fileP (c:MClass):Prop:=fineC c∧(putC c).length≤900
theorem put_some {c:MClass} {r:ByteArray} (h:PutOut c r):(r.toList==[])=true↔¬fileP c:=by
 rcases h with ⟨h1,h2,rfl⟩|⟨h1,rfl⟩
 ·constructor
  ·intro h
   rw [beq_iff_eq,ByteArray.toList_eq] at h
   simp [bytesOf,putC] at h
   exact absurd h.1 (by decide)
  ·intro h
   exact absurd ⟨h1,h2⟩ h
 ·exact ⟨fun _=>h1,fun _=>by rw [ByteArray.toList_eq];rfl⟩
def firstP (p1 p2 p3 p4 p5 p6:Prop) (n:Int):Prop:=
 (¬p1∧n=1)∨(p1∧¬p2∧n=2)∨(p1∧p2∧¬p3∧n=3)∨(p1∧p2∧p3∧¬p4∧n=4)∨(p1∧p2∧p3∧p4∧¬p5∧n=5)∨(p1∧p2∧p3∧p4∧p5∧¬p6∧n=6)∨(p1∧p2∧p3∧p4∧p5∧p6∧n=0)
theorem checkFile_any (c:MClass) (vp vi vf vm:Value) (B:Nat) (w:World) (hc:c.few) (h:ClassW w B vp vi vf vm c) :
  Calls Tryz.prog 92 #[.agg #[vp,.int .i64 c.flags,.int .i64 c.name,.int .i64 c.super,vi,vf,vm]] w fun e w'=>∃ b:Bool,e=.returned (errV b 1)∧(b=true↔fileP c)∧Below w.heap.size w w':=by
 obtain ⟨o1,j1,hv1⟩:=own_len h.p
 obtain ⟨o2,j2,hv2⟩:=own_len h.i
 obtain ⟨o3,j3,hv3⟩:=own_len h.f
 obtain ⟨o4,j4,hv4⟩:=h.m.len
 subst hv1 hv2 hv3 hv4
 have P0:=CB.start w (arrK (.slice o1 c.pool.length j1) c.flags c.name c.super (.slice o2 c.faces.length j2) (.slice o3 c.fields.length j3) (.slice o4 c.methods.length j4))
 have hC:=implFilePut_any c _ _ _ _ B _ hc (h.keep P0.b)
 have HB0:=hid P0.b
 clear h hc P0
 go_enter Tryz.func92,Tryz.ntmps92
 go_wp2_with fail
 refine hC.mono ?_
 rintro e w1 ⟨r,rfl,hr,hb1⟩
 have HB1:=hid (HB0.out.trans (hb1.mono HB0.out.size))
 obtain ⟨q,hq⟩:∃ q,(r.toList != [])=q:=⟨_,rfl⟩
 have HQ:=hid (show q=true↔fileP c from by
  have:=put_some hr
  rw [← hq,bne]
  cases hh:(r.toList==[]) with
  | true=>rw [hh] at this;simp;exact this.1 rfl
  | false=>
   rw [hh] at this
   simp
   exact Classical.byContradiction fun h=>by have:=this.2 h;cases this)
 clear hb1 hC hr HB0
 go_wp2_with (go_at_call 131;refine (formUnless_any _ _ _).mono ?_;rintro e w5 ⟨rfl,hb5⟩;have HB5:=hid (HB1.out.trans (hb5.mono HB1.out.size));clear hb5)
 go_ret
 refine ⟨q, ?_,HQ.out,HB5.out⟩
 have hq2:(!r.toList.isEmpty)=q:=by rw [← hq];cases r.toList<;>rfl
 rw [← hq2]
 rfl
theorem checkPool_any (c:MClass) (vp vi vf vm:Value) (B:Nat) (w:World) (hc:c.few) (h:ClassW w B vp vi vf vm c) :
  Calls Tryz.prog 93 #[.agg #[vp,.int .i64 c.flags,.int .i64 c.name,.int .i64 c.super,vi,vf,vm]] w fun e w'=>∃ b:Bool,e=.returned (errV b 2)∧(b=true↔poolC c.pool=0)∧Below w.heap.size w w':=by
 obtain ⟨o1,j1,hv1⟩:=own_len h.p
 obtain ⟨o2,j2,hv2⟩:=own_len h.i
 obtain ⟨o3,j3,hv3⟩:=own_len h.f
 obtain ⟨o4,j4,hv4⟩:=h.m.len
 subst hv1 hv2 hv3 hv4
 have P0:=CB.start w (arrK (.slice o1 c.pool.length j1) c.flags c.name c.super (.slice o2 c.faces.length j2) (.slice o3 c.fields.length j3) (.slice o4 c.methods.length j4))
 have hC:=PoolCheck_any (.slice o1 c.pool.length j1) c.pool _ hc.pool hc.texts ⟨B,own_below h.p P0.b⟩
 have HB0:=hid P0.b
 generalize poolC c.pool=p at hC ⊢
 clear h hc P0
 go_enter Tryz.func93,Tryz.ntmps93
 go_wp2_with fail
 refine hC.mono ?_
 rintro e w1 ⟨rfl,hb1⟩
 have HB1:=hid (HB0.out.trans (hb1.mono HB0.out.size))
 clear hb1 hC HB0
 go_wp2_with (go_at_call 131;refine (formUnless_any _ _ _).mono ?_;rintro e w5 ⟨rfl,hb5⟩;have HB5:=hid (HB1.out.trans (hb5.mono HB1.out.size));clear hb5)
 go_ret
 exact ⟨(p==0),rfl,by simp,HB5.out⟩
theorem check_at0 (w:World):(Instr.index 137 (.agg #[.func (.func 92) #[] #[],.func (.func 93) #[] #[],.func (.func 94) #[] #[],.func (.func 95) #[] #[],.func (.func 96) #[] #[],.func (.func 97) #[] #[]]) (.int .i64 0)).run Tryz.prog w=.ok (.func (.func 92) #[] #[]) w:=by kernel_rfl
theorem check_at1 (w:World):(Instr.index 137 (.agg #[.func (.func 92) #[] #[],.func (.func 93) #[] #[],.func (.func 94) #[] #[],.func (.func 95) #[] #[],.func (.func 96) #[] #[],.func (.func 97) #[] #[]]) (.int .i64 1)).run Tryz.prog w=.ok (.func (.func 93) #[] #[]) w:=by kernel_rfl
theorem check_at2 (w:World):(Instr.index 137 (.agg #[.func (.func 92) #[] #[],.func (.func 93) #[] #[],.func (.func 94) #[] #[],.func (.func 95) #[] #[],.func (.func 96) #[] #[],.func (.func 97) #[] #[]]) (.int .i64 2)).run Tryz.prog w=.ok (.func (.func 94) #[] #[]) w:=by kernel_rfl
theorem check_at3 (w:World):(Instr.index 137 (.agg #[.func (.func 92) #[] #[],.func (.func 93) #[] #[],.func (.func 94) #[] #[],.func (.func 95) #[] #[],.func (.func 96) #[] #[],.func (.func 97) #[] #[]]) (.int .i64 3)).run Tryz.prog w=.ok (.func (.func 95) #[] #[]) w:=by kernel_rfl
theorem check_at4 (w:World):(Instr.index 137 (.agg #[.func (.func 92) #[] #[],.func (.func 93) #[] #[],.func (.func 94) #[] #[],.func (.func 95) #[] #[],.func (.func 96) #[] #[],.func (.func 97) #[] #[]]) (.int .i64 4)).run Tryz.prog w=.ok (.func (.func 96) #[] #[]) w:=by kernel_rfl
theorem check_at5 (w:World):(Instr.index 137 (.agg #[.func (.func 92) #[] #[],.func (.func 93) #[] #[],.func (.func 94) #[] #[],.func (.func 95) #[] #[],.func (.func 96) #[] #[],.func (.func 97) #[] #[]]) (.int .i64 5)).run Tryz.prog w=.ok (.func (.func 97) #[] #[]) w:=by kernel_rfl
def errN (n:Int):Value:=if n=0 then .nilIface else .iface 84 (.agg #[.int .i64 n])
theorem firstWrong_any (c:MClass) (vp vi vf vm:Value) (B:Nat) (w:World) (hc:c.few) (hT:Tab w) (h:ClassW w B vp vi vf vm c) :
  Calls Tryz.prog 50 #[.agg #[vp,.int .i64 c.flags,.int .i64 c.name,.int .i64 c.super,vi,vf,vm]] w fun e w'=>∃ n:Int,e=.returned (errN n)∧firstP (fileP c) (poolC c.pool=0) (headNI c∧headFI c) (fieldsI c) (methodsI c) (codesI c) n∧Below w.heap.size w w':=by
 obtain ⟨o1,j1,hv1⟩:=own_len h.p
 obtain ⟨o2,j2,hv2⟩:=own_len h.i
 obtain ⟨o3,j3,hv3⟩:=own_len h.f
 obtain ⟨o4,j4,hv4⟩:=h.m.len
 subst hv1 hv2 hv3 hv4
 have P0:=CB.start w (arrK (.slice o1 c.pool.length j1) c.flags c.name c.super (.slice o2 c.faces.length j2) (.slice o3 c.fields.length j3) (.slice o4 c.methods.length j4))
 have H1:=hid (fun W (hW:CB w (arrK (.slice o1 c.pool.length j1) c.flags c.name c.super (.slice o2 c.faces.length j2) (.slice o3 c.fields.length j3) (.slice o4 c.methods.length j4)) W)=>checkFile_any c _ _ _ _ B W hc (h.keep hW.b))
 have H2:=hid (fun W (hW:CB w (arrK (.slice o1 c.pool.length j1) c.flags c.name c.super (.slice o2 c.faces.length j2) (.slice o3 c.fields.length j3) (.slice o4 c.methods.length j4)) W)=>checkPool_any c _ _ _ _ B W hc (h.keep hW.b))
 have H3:=hid (fun W (hW:CB w (arrK (.slice o1 c.pool.length j1) c.flags c.name c.super (.slice o2 c.faces.length j2) (.slice o3 c.fields.length j3) (.slice o4 c.methods.length j4)) W)=>checkHead_any c _ _ _ _ B W hc (h.keep hW.b))
 have H4:=hid (fun W (hW:CB w (arrK (.slice o1 c.pool.length j1) c.flags c.name c.super (.slice o2 c.faces.length j2) (.slice o3 c.fields.length j3) (.slice o4 c.methods.length j4)) W)=>checkFields_any c _ _ _ _ B W hc (h.keep hW.b))
 have H5:=hid (fun W (hW:CB w (arrK (.slice o1 c.pool.length j1) c.flags c.name c.super (.slice o2 c.faces.length j2) (.slice o3 c.fields.length j3) (.slice o4 c.methods.length j4)) W)=>checkMethods_any c _ _ _ _ B W hc (h.keep hW.b))
 have H6:=hid (fun W (hW:CB w (arrK (.slice o1 c.pool.length j1) c.flags c.name c.super (.slice o2 c.faces.length j2) (.slice o3 c.fields.length j3) (.slice o4 c.methods.length j4)) W)=>checkCodes_any c _ _ _ _ B W hc (hT.keep hW.b hT.1) (h.keep hW.b))
 have e1:∀ n:Int,errV true n=.nilIface:=fun _=>rfl
 have e2:∀ n:Int,errV false n=.iface 84 (.agg #[.int .i64 n]):=fun _=>rfl
 have ix0:=check_at0
 have ix1:=check_at1
 have ix2:=check_at2
 have ix3:=check_at3
 have ix4:=check_at4
 have ix5:=check_at5
 clear h hc hT
 go_enter Tryz.func50,Tryz.ntmps50
 go_wp2_with fail
 have P1:=P0.keep (show Below _ _ ((w.alloc (.cells (arrK (.slice o1 c.pool.length j1) c.flags c.name c.super (.slice o2 c.faces.length j2) (.slice o3 c.fields.length j3) (.slice o4 c.methods.length j4)) 36)).alloc (.cells #[.func (.func 92) #[] #[],.func (.func 93) #[] #[],.func (.func 94) #[] #[],.func (.func 95) #[] #[],.func (.func 96) #[] #[],.func (.func 97) #[] #[]] 137)) from (Below.refl _ _).alloc (Nat.le_refl _) _)
 clear P0
 obtain ⟨c0,c1,c2,c3,c4,c5,c6⟩:=P1.k.k7
 refine wp_loop_rounds 7 ?_
 rw [rounds_succ]
 go_wp2_with fail
 refine (H1.out _ P1).mono ?_
 rintro e v1 ⟨b,rfl,rb,hb⟩
 have P2:=P1.keep hb
 have R1:=hid rb
 clear P1 hb rb H1 c0 c1 c2 c3 c4 c5 c6
 obtain ⟨c0,c1,c2,c3,c4,c5,c6⟩:=P2.k.k7
 have HB1:=hid P2.b
 cases b with
 | false=>
  have HN:=hid (show firstP (fileP c) (poolC c.pool=0) (headNI c∧headFI c) (fieldsI c) (methodsI c) (codesI c) 1 from .inl ⟨fun h=>(by have:=R1.out.2 h;cases this),rfl⟩)
  rw [e2]
  clear R1 P2 H2 H3 H4 H5 H6
  go_wp2
  go_ret
  exact ⟨1,rfl,HN.out,HB1.out⟩
 | true=>
 rw [e1]
 replace R1:=hid (R1.out.1 rfl)
 go_wp2_with fail
 rw [rounds_succ]
 go_wp2_with fail
 refine (H2.out _ P2).mono ?_
 rintro e v2 ⟨b,rfl,rb,hb⟩
 have P3:=P2.keep hb
 have R2:=hid rb
 clear P2 hb rb H2 c0 c1 c2 c3 c4 c5 c6
 obtain ⟨c0,c1,c2,c3,c4,c5,c6⟩:=P3.k.k7
 have HB2:=hid P3.b
 cases b with
 | false=>
  have HN:=hid (show firstP (fileP c) (poolC c.pool=0) (headNI c∧headFI c) (fieldsI c) (methodsI c) (codesI c) 2 from .inr (.inl ⟨R1.out,fun h=>(by have:=R2.out.2 h;cases this),rfl⟩))
  rw [e2]
  clear R1 R2 P3 H3 H4 H5 H6
  go_wp2
  go_ret
  exact ⟨2,rfl,HN.out,HB2.out⟩
 | true=>
 rw [e1]
 replace R2:=hid (R2.out.1 rfl)
 go_wp2_with fail
 rw [rounds_succ]
 go_wp2_with fail
 refine (H3.out _ P3).mono ?_
 rintro e v3 ⟨b,rfl,rb,hb⟩
 have P4:=P3.keep hb
 have R3:=hid rb
 clear P3 hb rb H3 c0 c1 c2 c3 c4 c5 c6
 obtain ⟨c0,c1,c2,c3,c4,c5,c6⟩:=P4.k.k7
 have HB3:=hid P4.b
 cases b with
 | false=>
  have HN:=hid (show firstP (fileP c) (poolC c.pool=0) (headNI c∧headFI c) (fieldsI c) (methodsI c) (codesI c) 3 from .inr (.inr (.inl ⟨R1.out,R2.out,fun h=>(by have:=R3.out.2 h;cases this),rfl⟩)))
  rw [e2]
  clear R1 R2 R3 P4 H4 H5 H6
  go_wp2
  go_ret
  exact ⟨3,rfl,HN.out,HB3.out⟩
 | true=>
 rw [e1]
 replace R3:=hid (R3.out.1 rfl)
 go_wp2_with fail
 rw [rounds_succ]
 go_wp2_with fail
 refine (H4.out _ P4).mono ?_
 rintro e v4 ⟨b,rfl,rb,hb⟩
 have P5:=P4.keep hb
 have R4:=hid rb
 clear P4 hb rb H4 c0 c1 c2 c3 c4 c5 c6
 obtain ⟨c0,c1,c2,c3,c4,c5,c6⟩:=P5.k.k7
 have HB4:=hid P5.b
 cases b with
 | false=>
  have HN:=hid (show firstP (fileP c) (poolC c.pool=0) (headNI c∧headFI c) (fieldsI c) (methodsI c) (codesI c) 4 from .inr (.inr (.inr (.inl ⟨R1.out,R2.out,R3.out,fun h=>(by have:=R4.out.2 h;cases this),rfl⟩))))
  rw [e2]
  clear R1 R2 R3 R4 P5 H5 H6
  go_wp2
  go_ret
  exact ⟨4,rfl,HN.out,HB4.out⟩
 | true=>
 rw [e1]
 replace R4:=hid (R4.out.1 rfl)
 go_wp2_with fail
 rw [rounds_succ]
 go_wp2_with fail
 refine (H5.out _ P5).mono ?_
 rintro e v5 ⟨b,rfl,rb,hb⟩
 have P6:=P5.keep hb
 have R5:=hid rb
 clear P5 hb rb H5 c0 c1 c2 c3 c4 c5 c6
 obtain ⟨c0,c1,c2,c3,c4,c5,c6⟩:=P6.k.k7
 have HB5:=hid P6.b
 cases b with
 | false=>
  have HN:=hid (show firstP (fileP c) (poolC c.pool=0) (headNI c∧headFI c) (fieldsI c) (methodsI c) (codesI c) 5 from .inr (.inr (.inr (.inr (.inl ⟨R1.out,R2.out,R3.out,R4.out,fun h=>(by have:=R5.out.2 h;cases this),rfl⟩)))))
  rw [e2]
  clear R1 R2 R3 R4 R5 P6 H6
  go_wp2
  go_ret
  exact ⟨5,rfl,HN.out,HB5.out⟩
 | true=>
 rw [e1]
 replace R5:=hid (R5.out.1 rfl)
 go_wp2_with fail
 rw [rounds_succ]
 go_wp2_with fail
 refine (H6.out _ P6).mono ?_
 rintro e v6 ⟨b,rfl,rb,hb⟩
 have P7:=P6.keep hb
 have R6:=hid rb
 clear P6 hb rb H6 c0 c1 c2 c3 c4 c5 c6
 obtain ⟨c0,c1,c2,c3,c4,c5,c6⟩:=P7.k.k7
 have HB6:=hid P7.b
 cases b with
 | false=>
  have HN:=hid (show firstP (fileP c) (poolC c.pool=0) (headNI c∧headFI c) (fieldsI c) (methodsI c) (codesI c) 6 from .inr (.inr (.inr (.inr (.inr (.inl ⟨R1.out,R2.out,R3.out,R4.out,R5.out,fun h=>(by have:=R6.out.2 h;cases this),rfl⟩))))))
  rw [e2]
  clear R1 R2 R3 R4 R5 R6 P7 
  go_wp2
  go_ret
  exact ⟨6,rfl,HN.out,HB6.out⟩
 | true=>
 rw [e1]
 replace R6:=hid (R6.out.1 rfl)
 have HN:=hid (show firstP (fileP c) (poolC c.pool=0) (headNI c∧headFI c) (fieldsI c) (methodsI c) (codesI c) 0 from .inr (.inr (.inr (.inr (.inr (.inr ⟨R1.out,R2.out,R3.out,R4.out,R5.out,R6.out,rfl⟩))))))
 clear R1 R2 R3 R4 R5 R6 P7
 go_wp2_with fail
 rw [rounds_succ]
 go_wp2
 go_ret
 exact ⟨0,rfl,HN.out,HB6.out⟩
def ErrW (w:World):Prop:=w.cell? ⟨0,0,none⟩=some (.iface 182 (.agg #[.pointer (some ⟨3,87,none⟩)]))
theorem ErrW.lt {w:World} (h:ErrW w):0<w.heap.size:=World.block_lt_of_cell? w _ h
theorem ErrW.keep {w w':World} (h:ErrW w) (hb:Below w.heap.size w w'):ErrW w':=(hb.cell (p:=⟨0,0,none⟩) h.lt).trans h
theorem implClassCheck_any (c:MClass) (vp vi vf vm:Value) (B:Nat) (w:World) (hc:c.few) (hT:Tab w) (hE:ErrW w) (h:ClassW w B vp vi vf vm c) :
  Calls Tryz.prog 24 #[.agg #[vp,.int .i64 c.flags,.int .i64 c.name,.int .i64 c.super,vi,vf,vm]] w fun e w'=>∃ n:Int,e=.returned (.int .i64 n)∧firstP (fileP c) (poolC c.pool=0) (headNI c∧headFI c) (fieldsI c) (methodsI c) (codesI c) n∧Below w.heap.size w w':=by
 obtain ⟨o1,j1,hv1⟩:=own_len h.p
 obtain ⟨o2,j2,hv2⟩:=own_len h.i
 obtain ⟨o3,j3,hv3⟩:=own_len h.f
 obtain ⟨o4,j4,hv4⟩:=h.m.len
 subst hv1 hv2 hv3 hv4
 have P0:=HB.two w (arrK (.slice o1 c.pool.length j1) c.flags c.name c.super (.slice o2 c.faces.length j2) (.slice o3 c.fields.length j3) (.slice o4 c.methods.length j4)) #[.int .i64 0] 36 84
 have hC:=firstWrong_any c _ _ _ _ B _ hc (hT.keep P0.b hT.1) (h.keep P0.b)
 have HE:=hid (fun W (hW:Below w.heap.size w W)=>hE.keep hW)
 clear h hc hT hE
 go_enter Tryz.func24,Tryz.ntmps24
 go_wp2_with fail
 refine hC.mono ?_
 rintro e w1 ⟨n,rfl,hn,hb1⟩
 have P1:=P0.keep hb1
 have HN:=hid hn
 clear P0 hb1 hC hn
 have HB1:=hid P1.b
 by_cases h0:n=0
 ·subst h0
  rw [show errN 0=.nilIface from rfl]
  clear P1 HE
  go_wp2_with (go_at_call 49;refine (as_nil _ _).mono ?_;rintro e w2 ⟨rfl,hw⟩;replace hw:=hw.symm;subst hw)
  go_ret
  exact ⟨0,rfl,HN.out,HB1.out⟩
 ·rw [show errN n=.iface 84 (.agg #[.int .i64 n]) by unfold errN;rw [if_neg h0]]
  have hA:=as_hit (w.heap.size+1) n (.int .i64 0) w1 (HE.out _ P1.b) (P1.hd.c 0 _ rfl) (P1.hd.z 0)
  have hlt:=P1.hd.lt
  have hsz:=P1.b.size
  simp only at hlt
  have L1:=P1.hd
  clear P1 HE
  go_wp2_with fail
  refine hA.mono ?_
  rintro e w2 ⟨rfl,rfl⟩
  clear hA
  have hcell:((((((w1.alloc (.cells #[.pointer (some ⟨w.heap.size+1,0,none⟩)] 89)).alloc (.cells #[.pointer (some ⟨3,89,none⟩),.pointer (some ⟨w1.heap.size,0,none⟩),.int .u64 150] 126)).alloc (.cells #[.pointer (some ⟨3,89,none⟩),.pointer (some ⟨w1.heap.size,0,none⟩),.int .u64 150] 126)).alloc (.cells #[.int .i64 n] 84)).setCell ⟨w.heap.size+1,0,none⟩ (.int .i64 n))).cell? ⟨w.heap.size+1,0,none⟩=some (.int .i64 n):=by
   have hL:=(((L1.alloc (.cells #[.pointer (some ⟨w.heap.size+1,0,none⟩)] 89)).alloc (.cells #[.pointer (some ⟨3,89,none⟩),.pointer (some ⟨w1.heap.size,0,none⟩),.int .u64 150] 126)).alloc (.cells #[.pointer (some ⟨3,89,none⟩),.pointer (some ⟨w1.heap.size,0,none⟩),.int .u64 150] 126)).alloc (.cells #[.int .i64 n] 84)
   exact (hL.set 0 (.int .i64 n) rfl).c 0 _ rfl
  have hbb:Below w.heap.size w ((((((w1.alloc (.cells #[.pointer (some ⟨w.heap.size+1,0,none⟩)] 89)).alloc (.cells #[.pointer (some ⟨3,89,none⟩),.pointer (some ⟨w1.heap.size,0,none⟩),.int .u64 150] 126)).alloc (.cells #[.pointer (some ⟨3,89,none⟩),.pointer (some ⟨w1.heap.size,0,none⟩),.int .u64 150] 126)).alloc (.cells #[.int .i64 n] 84)).setCell ⟨w.heap.size+1,0,none⟩ (.int .i64 n))):=by
   refine Below.setCell ?_ (by simp) _
   exact (((HB1.out.alloc hsz _).alloc (by simp;omega) _).alloc (by simp;omega) _).alloc (by simp;omega) _
  have HBB:=hid hbb
  clear hbb L1
  generalize ((((((w1.alloc (.cells #[.pointer (some ⟨w.heap.size+1,0,none⟩)] 89)).alloc (.cells #[.pointer (some ⟨3,89,none⟩),.pointer (some ⟨w1.heap.size,0,none⟩),.int .u64 150] 126)).alloc (.cells #[.pointer (some ⟨3,89,none⟩),.pointer (some ⟨w1.heap.size,0,none⟩),.int .u64 150] 126)).alloc (.cells #[.int .i64 n] 84)).setCell ⟨w.heap.size+1,0,none⟩ (.int .i64 n)))=w9 at hcell HBB ⊢
  go_wp2
  go_ret
  exact ⟨n,rfl,HN.out,HBB.out⟩
set_option maxHeartbeats 4000000
def codesP (c:MClass):Prop:=∀ i (h:i<c.methods.length),bitB c.methods[i].flags 8=false→bodyP c c.methods[i]
theorem abs_bit {n:Int} (h:in1 n):bitB n 8=decide (absF n):=by
 have key:∀ k:Fin 256,bitB ((k.val:Nat):Int) 8=decide (absF ((k.val:Nat):Int)):=by decide +kernel
 have:=key ⟨n.toNat,by unfold in1 at h;omega⟩
 rwa [show (((⟨n.toNat,by unfold in1 at h;omega⟩:Fin 256).val:Nat):Int)=n by unfold in1 at h;simp;omega] at this
theorem fine_flags {c:MClass} (h:fineC c):0≤c.flags∧c.flags≤255:=by
 have:=h.2.1
 unfold in1 at this
 omega
theorem fine_method {c:MClass} (h:fineC c) {m:MMethod} (hm:m∈c.methods):fineM m:=h.2.2.2.2.2.2.2 m hm
theorem fine_code {m:MMethod} (h:fineM m) (hb:bitB m.flags 8=false):fineBody m:=by
 have h2:=h.2.2.2
 unfold fineM2 at h2
 rw [abs_bit h.1] at hb
 rw [if_neg (by simpa using hb)] at h2
 exact h2
theorem l4Check_any (c:MClass) (vp vi vf vm:Value) (B:Nat) (w:World) (hc:c.few) (hF:fileP c) (h:ClassW w B vp vi vf vm c) :
  Calls Tryz.prog 44 #[.agg #[vp,.int .i64 c.flags,.int .i64 c.name,.int .i64 c.super,vi,vf,vm]] w fun e w'=>∃ n:Int,e=.returned (.int .i64 n)∧firstP (fileP c) (poolC c.pool=0) (headP c) (fieldsP c) (methodsP c) (codesP c) n∧Below w.heap.size w w':=by
 obtain ⟨h0,h255⟩:=fine_flags hF.1
 obtain ⟨o1,j1,hv1⟩:=own_len h.p
 obtain ⟨o2,j2,hv2⟩:=own_len h.i
 obtain ⟨o3,j3,hv3⟩:=own_len h.f
 obtain ⟨o4,j4,hv4⟩:=h.m.len
 subst hv1 hv2 hv3 hv4
 have P0:=HB.one w (arrK (.slice o1 c.pool.length j1) c.flags c.name c.super (.slice o2 c.faces.length j2) (.slice o3 c.fields.length j3) (.slice o4 c.methods.length j4)) 36
 have hC:=fun W (hW:Below w.heap.size w W)=>specPoolCheck_any (.slice o1 c.pool.length j1) c.pool W hc.pool hc.texts ⟨B,own_below h.p hW⟩
 have H3:=hid (fun W (hW:Below w.heap.size w W)=>l4Head_any c _ _ _ _ B W hc (h.keep hW))
 have H4:=hid (fun W (hW:Below w.heap.size w W)=>l4Fields_any c _ _ _ _ B W hc h0 h255 (h.keep hW))
 have H5:=hid (fun W (hW:Below w.heap.size w W)=>l4Methods_any c _ _ _ _ B W hc h0 h255 (h.keep hW))
 obtain ⟨xs,hxl,hxo,hxe⟩:=id h.m
 have HO:=hid hxo
 have hml:=hc.methods
 have HE0:=hid (fun k (h:k<c.methods.length) (h':k<xs.length)=>show ∃ a5 n5 k5 a6 n6 k6,xs[k]=shM c.methods[k] (.slice a5 n5 k5) (.slice a6 n6 k6)∧MethodW w B (.slice a5 n5 k5) (.slice a6 n6 k6) c.methods[k] from by
  obtain ⟨vt,vr,he,hw⟩:=hxe k h h'
  obtain ⟨a1,k1,e1⟩:=own_len hw.t
  obtain ⟨a2,k2,e2⟩:=hw.f.len
  subst e1 e2
  exact ⟨_,_,_,_,_,_,he,hw⟩)
 have H6:=hid (fun k (hk:k<c.methods.length) vt vr W (hW:Below w.heap.size w W) (hM:MethodW w B vt vr c.methods[k])=>by
  have hfm:=fine_method hF.1 (List.getElem_mem hk)
  have hin:=hfm.1
  unfold in1 at hin
  exact l4Body_any c c.methods[k] _ _ _ _ vt vr B B W hc (hc.each _ (List.getElem_mem hk)) (by omega) (by omega) (fun hb=>by have:=(fine_code hfm hb).2.2.1;unfold fineCode at this;omega) (h.keep hW) (hM.keep hW))
 have HXL:=hid hxl
 have HFP:=hid hF
 obtain ⟨p,hp⟩:∃ p,Hid (poolC c.pool=p):=⟨_,hid rfl⟩
 rw [hp.out] at hC
 have hC0:=hC _ P0.b
 clear h hc hF h0 h255 hxl hxo hxe hC
 go_enter Tryz.func44,Tryz.ntmps44
 go_wp2_with fail
 refine hC0.mono ?_
 rintro e w1 ⟨rfl,hb1⟩
 have P1:=P0.keep hb1
 clear P0 hb1 hC0
 have HB1:=hid P1.b
 obtain ⟨c0,c1,c2,c3,c4,c5,c6⟩:=P1.hd.k7
 by_cases h2:¬p=0
 ·have HN:=hid (show firstP (fileP c) (poolC c.pool=0) (headP c) (fieldsP c) (methodsP c) (codesP c) 2 from .inr (.inl ⟨HFP.out,by rw [hp.out];exact h2,rfl⟩))
  clear P1 H3 H4 H5 H6 HO HE0
  go_wp2
  go_ret
  exact ⟨2,rfl,HN.out,HB1.out⟩
 replace h2:=Classical.not_not.1 h2
 subst h2
 have hX3:=H3.out _ P1.b
 go_wp2_with fail
 refine hX3.mono ?_
 rintro e w3 ⟨b,rfl,rb,hb⟩
 have P3:=P1.keep hb
 have R3:=hid rb
 clear P1 hb rb hX3 H3 c0 c1 c2 c3 c4 c5 c6 HB1
 obtain ⟨c0,c1,c2,c3,c4,c5,c6⟩:=P3.hd.k7
 have HB3:=hid P3.b
 cases b with
 | false=>
  have HN:=hid (show firstP (fileP c) (poolC c.pool=0) (headP c) (fieldsP c) (methodsP c) (codesP c) 3 from .inr (.inr (.inl ⟨HFP.out,hp.out,fun h=>(by have:=R3.out.2 h;cases this),rfl⟩)))
  clear P3 HO HE0 H6 H4 H5 R3
  go_wp2
  go_ret
  exact ⟨3,rfl,HN.out,HB3.out⟩
 | true=>
 replace R3:=hid (R3.out.1 rfl)
 have hX4:=H4.out _ P3.b
 go_wp2_with fail
 refine hX4.mono ?_
 rintro e w4 ⟨b,rfl,rb,hb⟩
 have P4:=P3.keep hb
 have R4:=hid rb
 clear P3 hb rb hX4 H4 c0 c1 c2 c3 c4 c5 c6 HB3
 obtain ⟨c0,c1,c2,c3,c4,c5,c6⟩:=P4.hd.k7
 have HB4:=hid P4.b
 cases b with
 | false=>
  have HN:=hid (show firstP (fileP c) (poolC c.pool=0) (headP c) (fieldsP c) (methodsP c) (codesP c) 4 from .inr (.inr (.inr (.inl ⟨HFP.out,hp.out,R3.out,fun h=>(by have:=R4.out.2 h;cases this),rfl⟩))))
  clear P4 HO HE0 H6 H5 R3 R4
  go_wp2
  go_ret
  exact ⟨4,rfl,HN.out,HB4.out⟩
 | true=>
 replace R4:=hid (R4.out.1 rfl)
 have hX5:=H5.out _ P4.b
 go_wp2_with fail
 refine hX5.mono ?_
 rintro e w5 ⟨b,rfl,rb,hb⟩
 have P5:=P4.keep hb
 have R5:=hid rb
 clear P4 hb rb hX5 H5 c0 c1 c2 c3 c4 c5 c6 HB4
 obtain ⟨c0,c1,c2,c3,c4,c5,c6⟩:=P5.hd.k7
 have HB5:=hid P5.b
 cases b with
 | false=>
  have HN:=hid (show firstP (fileP c) (poolC c.pool=0) (headP c) (fieldsP c) (methodsP c) (codesP c) 5 from .inr (.inr (.inr (.inr (.inl ⟨HFP.out,hp.out,R3.out,R4.out,fun h=>(by have:=R5.out.2 h;cases this),rfl⟩)))))
  clear P5 HO HE0 H6  R3 R4 R5
  go_wp2
  go_ret
  exact ⟨5,rfl,HN.out,HB5.out⟩
 | true=>
 replace R5:=hid (R5.out.1 rfl)
 clear c0 c1 c2 c3 c4 c5 c6 HB5
 go_upto_region 10 with fail
 go_loopw [3] (fun i wr=>∃ (k:Nat),k≤c.methods.length∧i=.int .i64 k∧Hid (∀ a (h:a<c.methods.length),a<k→bitB c.methods[a].flags 8=false→bodyP c c.methods[a])∧HB w [(w.heap.size,arrK (.slice o1 c.pool.length j1) c.flags c.name c.super (.slice o2 c.faces.length j2) (.slice o3 c.fields.length j3) (.slice o4 c.methods.length j4),36)] wr) (fun i _=>c.methods.length - (intOf i).toNat)
 case atStart=>exact ⟨0,by omega,rfl,fun a _ h=>by omega,P5⟩
 case round=>
  obtain ⟨k,hk,rfl,HE,P⟩:=hrel
  clear P5
  obtain ⟨c0,c1,c2,c3,c4,c5,c6⟩:=P.hd.k7
  by_cases hlt:k<c.methods.length
  ·obtain ⟨g,hg⟩:=own_some HO.out (by omega)
   subst hg
   obtain ⟨g0,g1,g2,g3,g4,g5,g6,g7⟩:=ownMethod_at (own_below HO.out P.b) (k:=k) HXL.out (by rw [HXL.out];exact hlt)
   have hgl:=((own_below HO.out P.b).lt g rfl).2
   obtain ⟨a5,n5,k5,a6,n6,k6,hxk,hMk⟩:=HE0.out k hlt (by rw [HXL.out];exact hlt)
   rw [hxk] at g0 g1 g2 g3 g4 g5 g6 g7
   have HC:=hid (fun W (hW:HB w [(w.heap.size,arrK (.slice o1 c.pool.length j1) c.flags c.name c.super (.slice o2 c.faces.length j2) (.slice o3 c.fields.length j3) (.slice (some ⟨g,0,none⟩) c.methods.length j4),36)] W)=>H6.out k hlt _ _ W hW.b hMk)
   generalize hX:c.methods[k]=x at g0 g1 g2 g3 g4 g5 g6 g7 hxk HC hMk
   have HX:=hid hX
   clear hX hxk hMk
   simp only [shM] at g0 g1 g2 g3 g4 g5 g6 g7
   have z4:(k:Int)<(c.methods.length:Int):=by omega
   go_upto_region 12 with fail
   go_cut [31] (fun v wc=>(∃ b:Bool,v=.bool (!b)∧Hid (b=true↔(bitB x.flags 8=false→bodyP c x)))∧HB w [(w.heap.size,arrK (.slice o1 c.pool.length j1) c.flags c.name c.super (.slice o2 c.faces.length j2) (.slice o3 c.fields.length j3) (.slice (some ⟨g,0,none⟩) c.methods.length j4),36)] wc)
   case first=>
    have hdr:Below wr.heap.size wr wr.drew:=(Below.refl _ _).drew
    have PD:=P.keep hdr
    have e0:=(hb_cell hdr hgl).trans g0
    have e1:=(hb_cell hdr hgl).trans g1
    have e2:=(hb_cell hdr hgl).trans g2
    have e3:=(hb_cell hdr hgl).trans g3
    have e4:=(hb_cell hdr hgl).trans g4
    have e5:=(hb_cell hdr hgl).trans g5
    have e6:=(hb_cell hdr hgl).trans g6
    have e7:=(hb_cell hdr hgl).trans g7
    have hgd:g<wr.drew.heap.size:=Nat.lt_of_lt_of_le hgl hdr.size
    clear P hdr hgl c0 c1 c2 c3 c4 c5 c6 g0 g1 g2 g3 g4 g5 g6 g7
    obtain ⟨c0,c1,c2,c3,c4,c5,c6⟩:=PD.hd.k7
    refine wp_region_held_drew (S:=(fun w':World=>w'.cell? ⟨w.heap.size,0,none⟩=some (.slice o1 c.pool.length j1)∧w'.cell? ⟨w.heap.size,1,none⟩=some (.int .i64 c.flags)∧w'.cell? ⟨w.heap.size,2,none⟩=some (.int .i64 c.name)∧w'.cell? ⟨w.heap.size,3,none⟩=some (.int .i64 c.super)∧w'.cell? ⟨w.heap.size,4,none⟩=some (.slice o2 c.faces.length j2)∧w'.cell? ⟨w.heap.size,5,none⟩=some (.slice o3 c.fields.length j3)∧w'.cell? ⟨w.heap.size,6,none⟩=some (.slice (some ⟨g,0,none⟩) c.methods.length j4)∧w'.cell? ⟨g,k*8,none⟩=some (.int .i64 x.flags)∧w'.cell? ⟨g,k*8+1,none⟩=some (.int .i64 x.name)∧w'.cell? ⟨g,k*8+2,none⟩=some (.int .i64 x.desc)∧w'.cell? ⟨g,k*8+3,none⟩=some (.int .i64 x.deep)∧w'.cell? ⟨g,k*8+4,none⟩=some (.int .i64 x.locals)∧w'.cell? ⟨g,k*8+5,none⟩=some (.string x.code)∧w'.cell? ⟨g,k*8+6,none⟩=some (.slice a5 n5 k5)∧w'.cell? ⟨g,k*8+7,none⟩=some (.slice a6 n6 k6))) (by kernel_rfl) ⟨c0,c1,c2,c3,c4,c5,c6,e0,e1,e2,e3,e4,e5,e6,e7⟩ (fun hHeld=>?_)
    refine tkw 0 ⟨some 24,.load 36 (.tmp 1),36,"l4_check.go:176",#[],none⟩ ?_
    refine tkw 1 ⟨some 25,.fieldAddr 36 (.tmp 1) 6,0,"l4_check.go:176",#[],none⟩ ?_
    refine tkw 2 ⟨some 26,.load 34 (.tmp 25),34,"l4_check.go:176",#[⟨1,.data⟩],none⟩ ?_
    refine tkw 3 ⟨some 27,.move (.tmp 3),3,"l4_check.go:176",#[],none⟩ ?_
    refine tkw 4 ⟨some 28,.indexAddr 34 (.tmp 26) (.tmp 27),0,"l4_check.go:176",#[⟨2,.data⟩,⟨3,.data⟩],none⟩ ?_
    refine tkw 5 ⟨some 29,.load 75 (.tmp 28),75,"l4_check.go:176",#[⟨4,.data⟩],none⟩ ?_
    refine wpAnyH_ready (rs:=[6]) (by kernel_rfl) (by simp) ?_
    refine AllReadyH.cons rfl (fun K' hK'=>?_) AllReadyH.nil
    go_simp
    refine (HC.out _ PD).mono ?_
    rintro e w8 ⟨b,rfl,rb,hb⟩
    have P8:=PD.keep hb
    replace e0:=(hb_cell hb hgd).trans e0
    replace e1:=(hb_cell hb hgd).trans e1
    replace e2:=(hb_cell hb hgd).trans e2
    replace e3:=(hb_cell hb hgd).trans e3
    replace e4:=(hb_cell hb hgd).trans e4
    replace e5:=(hb_cell hb hgd).trans e5
    replace e6:=(hb_cell hb hgd).trans e6
    replace e7:=(hb_cell hb hgd).trans e7
    clear PD hb c0 c1 c2 c3 c4 c5 c6
    obtain ⟨c0,c1,c2,c3,c4,c5,c6⟩:=P8.hd.k7
    refine hK'.out _ _ ⟨c0,c1,c2,c3,c4,c5,c6,e0,e1,e2,e3,e4,e5,e6,e7⟩ (fun hHeld=>?_)
    clear hK' K'
    refine tkw 7 ⟨some 31,.unOp .not 4 (.tmp 30),4,"l4_check.go:176",#[⟨6,.data⟩],none⟩ ?_
    refine wpAnyH_done (by kernel_rfl) ?_ _
    have RB:=hid rb
    clear c0 c1 c2 c3 c4 c5 c6 e0 e1 e2 e3 e4 e5 e6 e7 rb
    go_wp2_with fail
    go_meet
    case rel=>exact ⟨⟨b,rfl,RB⟩,P8⟩
   case rest=>
    obtain ⟨⟨b,rfl,rb⟩,P9⟩:=hcut
    clear P c0 c1 c2 c3 c4 c5 c6 g0 g1 g2 g3 g4 g5 g6 g7 HC hgl
    have HB9:=hid P9.b
    cases b with
    | false=>
     have HN:=hid (show firstP (fileP c) (poolC c.pool=0) (headP c) (fieldsP c) (methodsP c) (codesP c) 6 from .inr (.inr (.inr (.inr (.inr (.inl ⟨HFP.out,hp.out,R3.out,R4.out,R5.out,fun h=>(by
      have:=h k hlt
      rw [HX.out] at this
      have:=rb.out.2 this
      cases this),rfl⟩))))))
     clear P9 HO HE0 H6 R3 R4 R5 rb
     go_wp2
     go_ret
     exact ⟨6,rfl,HN.out,HB9.out⟩
    | true=>
     have HE':=hid (show ∀ a (h:a<c.methods.length),a<k+1→bitB c.methods[a].flags 8=false→bodyP c c.methods[a] from fun a h h2=>by
      by_cases e:a=k
      ·subst e;rw [HX.out];exact rb.out.1 rfl
      ·exact HE.out a h (by omega))
     clear HE rb
     go_wp2
     go_roundw
     case rel=>exact ⟨k+1,by omega,by go_num,HE',P9⟩
     case measure=>simp [intOf];omega
  ·have HN:=hid (show firstP (fileP c) (poolC c.pool=0) (headP c) (fieldsP c) (methodsP c) (codesP c) 0 from .inr (.inr (.inr (.inr (.inr (.inr (⟨HFP.out,hp.out,R3.out,R4.out,R5.out,fun a h=>HE.out a h (by omega),rfl⟩)))))))
   have HB:=hid P.b
   clear HE P HO HE0 H6 R3 R4 R5
   go_wp2
   go_ret
   exact ⟨0,rfl,HN.out,HB.out⟩
theorem specClassCheck_any (c:MClass) (vp vi vf vm:Value) (B:Nat) (w:World) (hc:c.few) (h:ClassW w B vp vi vf vm c) :
  Calls Tryz.prog 17 #[.agg #[vp,.int .i64 c.flags,.int .i64 c.name,.int .i64 c.super,vi,vf,vm]] w fun e w'=>∃ n:Int,e=.returned (.int .i64 n)∧firstP (fileP c) (poolC c.pool=0) (headP c) (fieldsP c) (methodsP c) (codesP c) n∧Below w.heap.size w w':=by
 obtain ⟨o1,j1,hv1⟩:=own_len h.p
 obtain ⟨o2,j2,hv2⟩:=own_len h.i
 obtain ⟨o3,j3,hv3⟩:=own_len h.f
 obtain ⟨o4,j4,hv4⟩:=h.m.len
 subst hv1 hv2 hv3 hv4
 have P0:=HB.one w (arrK (.slice o1 c.pool.length j1) c.flags c.name c.super (.slice o2 c.faces.length j2) (.slice o3 c.fields.length j3) (.slice o4 c.methods.length j4)) 36
 have hC:=specFilePut_any c _ _ _ _ B _ hc (h.keep P0.b)
 have HK:=hid (fun (hF:fileP c) W (hW:Below w.heap.size w W)=>l4Check_any c _ _ _ _ B W hc hF (h.keep hW))
 clear h hc
 go_enter Tryz.func17,Tryz.ntmps17
 go_wp2_with fail
 refine hC.mono ?_
 rintro e w1 ⟨r,rfl,hr,hb1⟩
 have P1:=P0.keep hb1
 have HQ:=hid (put_some hr)
 clear P0 hb1 hC hr
 have HB1:=hid P1.b
 obtain ⟨c0,c1,c2,c3,c4,c5,c6⟩:=P1.hd.k7
 obtain ⟨q,hq⟩:∃ q,(r.toList==[])=q:=⟨_,rfl⟩
 have hq2:r.toList.isEmpty=q:=by rw [← hq];cases r.toList<;>rfl
 rw [hq] at HQ
 cases q with
 | true=>
  have HN:=hid (show firstP (fileP c) (poolC c.pool=0) (headP c) (fieldsP c) (methodsP c) (codesP c) 1 from .inl ⟨HQ.out.1 rfl,rfl⟩)
  clear P1 HK HQ
  go_wp2
  go_ret
  exact ⟨1,rfl,HN.out,HB1.out⟩
 | false=>
  have hF:fileP c:=Classical.byContradiction fun h=>by have:=HQ.out.2 h;cases this
  have hK:=HK.out hF _ P1.b
  clear P1 HK HQ hF
  go_wp2_with fail
  refine hK.mono ?_
  rintro e w2 ⟨n,rfl,hn,hb2⟩
  have HB2:=hid (HB1.out.trans (hb2.mono HB1.out.size))
  have HN:=hid hn
  clear hb2 hK hn c0 c1 c2 c3 c4 c5 c6
  go_wp2
  go_ret
  exact ⟨n,rfl,HN.out,HB2.out⟩
set_option maxHeartbeats 1000000
theorem cls_of {ts:List C4} (h:poolC ts=0) {i:Int} (hk:(atC ts i).kind=2):clsC ts i=true:=by rw [← kind_cls h i];simpa using hk
theorem kind_of {ts:List C4} {i:Int} (hk:clsC ts i=true):(atC ts i).kind=2:=by unfold clsC at hk;simp at hk;exact hk.1
theorem kindQ_at {ts:List C4} {fs:List Int} {k:Nat} (h:k<fs.length):kindQ ts fs k=decide ((atC ts fs[k]).kind=2):=by unfold kindQ;rw [List.getElem?_eq_getElem h];rfl
theorem head_join {c:MClass} (hF:fineC c) (hP:poolC c.pool=0):(headNI c∧headFI c)↔headP c:=by
 obtain ⟨h0,h255⟩:=fine_flags hF
 have b1:=has_bit h0 h255 (f:=1) (by simp)
 have b2:=has_bit h0 h255 (f:=2) (by simp)
 have b4:=has_bit h0 h255 (f:=4) (by simp)
 constructor
 ·rintro ⟨hn,hf⟩
  have c1:=cls_of hP hn.nm
  have c2:=cls_of hP hn.su
  have c3:∀ i (h:i<c.faces.length),clsC c.pool c.faces[i]=true:=fun i h=>cls_of hP (by have:=hn.fc i h;rw [kindQ_at h] at this;simpa using this)
  refine ⟨c1,c2, ?_,hf.fl,c3, ?_, ?_, ?_⟩
  ·rw [← raw_cls hP _ c2,← raw_cls hP _ c1];exact hn.ne
  ·intro i h j hj
   rw [← raw_cls hP _ (c3 i h),← raw_cls hP _ (c3 j (by omega))]
   exact hn.fu i h j hj
  ·rw [← b2,← b4];exact hf.fa
  ·rw [← b1,← b4,← raw_cls hP _ c2];exact hf.ob
 ·intro h
  refine ⟨⟨kind_of h.nm,kind_of h.su, ?_, ?_, ?_⟩,⟨h.fl, ?_, ?_⟩⟩
  ·intro k hk
   rw [kindQ_at hk]
   simpa using kind_of (h.fc k hk)
  ·rw [raw_cls hP _ h.su,raw_cls hP _ h.nm];exact h.ne
  ·intro i hi j hj
   rw [raw_cls hP _ (h.fc i hi),raw_cls hP _ (h.fc j (by omega))]
   exact h.fu i hi j hj
  ·rw [b2,b4];exact h.fa
  ·rw [b1,b4,raw_cls hP _ h.su];exact h.ob
theorem field_join {c:MClass} (hF:fineC c) (hP:poolC c.pool=0) (f:MField):fieldI c f↔fieldP c f:=by
 obtain ⟨h0,h255⟩:=fine_flags hF
 have b1:=has_bit h0 h255 (f:=1) (by simp)
 have e1:nameB (rawT c.pool f.name).data.toList=nameC c.pool f.name:=by rw [raw_txt hP,name_txt]
 have e2:typeB (rawT c.pool f.typ).data.toList=typeC c.pool f.typ:=by rw [raw_txt hP,type_txt]
 constructor
 ·intro h
  refine ⟨by rw [← e1];exact h.nm,by rw [← e2];exact h.ty, ?_,by rw [← b1];exact h.fa⟩
  cases hb:hasI c.flags 1 with
  | true=>rw [h.fa hb];rfl
  | false=>exact h.fl hb
 ·intro h
  exact ⟨by rw [e1];exact h.nm,by rw [e2];exact h.ty,by rw [b1];exact h.fa,fun _=>h.fl⟩
theorem fields_join {c:MClass} (hF:fineC c) (hP:poolC c.pool=0):fieldsI c↔fieldsP c:=by
 constructor
 ·intro h
  refine ⟨fun i hi=>(field_join hF hP _).1 (h.e i hi),fun i hi j hj=>?_⟩
  have:=h.u i hi j hj
  rw [raw_txt hP,raw_txt hP] at this
  exact this
 ·intro h
  refine ⟨fun i hi=>(field_join hF hP _).2 (h.e i hi),fun i hi j hj=>?_⟩
  rw [raw_txt hP,raw_txt hP]
  exact h.u i hi j hj
theorem method_join {c:MClass} (hF:fineC c) (hP:poolC c.pool=0) (m:MMethod) (hm:in1 m.flags):methodI c m↔methodP c m:=by
 obtain ⟨h0,h255⟩:=fine_flags hF
 have b1:=has_bit h0 h255 (f:=1) (by simp)
 have b4:=has_bit h0 h255 (f:=4) (by simp)
 have b8:=has_bit (n:=m.flags) (by unfold in1 at hm;omega) (by unfold in1 at hm;omega) (f:=8) (by simp)
 have e1:nameB (rawT c.pool m.name).data.toList=nameC c.pool m.name:=by rw [raw_txt hP,name_txt]
 have e2:dOk (rawT c.pool m.desc)=descC c.pool m.desc:=by rw [raw_txt hP,desc_txt]
 constructor
 ·intro h
  refine ⟨by rw [← e1];exact h.nm,by rw [← e2];exact h.ds,⟨h.fl.fl, ?_, ?_, ?_⟩⟩
  ·rw [← raw_txt hP,← raw_txt hP];exact h.be
  ·rw [← b8,← b4];exact h.fl.ab
  ·rw [← b8,← b1];exact h.fl.fa
 ·intro h
  refine ⟨by rw [e1];exact h.nm,by rw [e2];exact h.ds,⟨h.fl.fl, ?_, ?_⟩, ?_⟩
  ·rw [b8,b4];exact h.fl.ab
  ·rw [b8,b1];exact h.fl.fa
  ·rw [raw_txt hP,raw_txt hP];exact h.fl.be
theorem methods_join {c:MClass} (hF:fineC c) (hP:poolC c.pool=0):methodsI c↔methodsP c:=by
 constructor
 ·intro h
  refine ⟨fun i hi=>(method_join hF hP _ (fine_method hF (List.getElem_mem hi)).1).1 (h.e i hi),fun i hi j hj=>?_⟩
  have:=h.u i hi j hj
  rw [raw_txt hP,raw_txt hP,raw_txt hP,raw_txt hP] at this
  exact this
 ·intro h
  refine ⟨fun i hi=>(method_join hF hP _ (fine_method hF (List.getElem_mem hi)).1).2 (h.e i hi),fun i hi j hj=>?_⟩
  rw [raw_txt hP,raw_txt hP,raw_txt hP,raw_txt hP]
  exact h.u i hi j hj
theorem kind_join {cl:Int→Bool} {k:MKind} (h:fineK k):kindS cl k=kindB cl k:=by
 unfold kindS
 rw [show inI k.tag 0 3=true by unfold inI;simp;exact h.1]
 rfl
theorem all_join {cl:Int→Bool} {ks:List MKind} (h:∀ k∈ks,fineK k):ks.all (kindS cl)=kindsB cl ks:=by
 unfold kindsB
 rw [Bool.eq_iff_iff,List.all_eq_true,List.all_eq_true]
 exact ⟨fun g k hk=>by rw [← kind_join (h k hk)];exact g k hk,fun g k hk=>by rw [kind_join (h k hk)];exact g k hk⟩
theorem frame_join {cl:Int→Bool} {lo dp:Int} {os:List Op3} {f:MFrame} (h:fineF f):frameS cl lo dp os f=frameB cl lo dp os f:=by
 unfold frameS frameB
 rw [all_join h.2.1.2,all_join h.2.2.2]
theorem body_join {c:MClass} (hF:fineC c) (hP:poolC c.pool=0) {m:MMethod} (hm:fineM m):codeI c m↔(bitB m.flags 8=false→bodyP c m):=by
 have hin:=hm.1
 have b1:hasI m.flags 1=bitB m.flags 1:=has_bit (n:=m.flags) (by unfold in1 at hin;omega) (by unfold in1 at hin;omega) (by simp)
 have b8:hasB m.flags = !bitB m.flags 8:=by
  rw [hasB_in hin,abs_bit hin,Bool.eq_iff_iff]
  simp
 unfold codeI
 rw [b8,b1,raw_txt hP,clsK_eq hP]
 have key:bitB m.flags 8=false→(bodyQ (clsC c.pool) (txtC c.pool m.desc) (bitB m.flags 1) c.pool m↔bodyP c m):=fun h8=>by
  have hb:=fine_code hm h8
  have hd:=hb.1
  unfold in1 at hd
  constructor
  ·intro h
   refine ⟨h.op,h.dp, ?_,fun i hi=>h.os _ (List.getElem_mem hi),fun i hi=>h.tr _ (List.getElem_mem hi),fun i hi=>?_,h.up⟩
   ·have h1:=h.lo
    have h2:=h.l8
    unfold inI
    simp
    omega
   ·rw [frame_join (hb.2.2.2.2.2 _ (List.getElem_mem hi))]
    exact h.fr _ (List.getElem_mem hi)
  ·intro h
   have hl:=h.lo
   unfold inI at hl
   simp at hl
   refine ⟨h.op,by omega,h.dp,hl.1,hl.2,fun x hx=>?_,fun x hx=>?_,fun x hx=>?_,h.fr.2⟩
   ·obtain ⟨i,hi,rfl⟩:=List.mem_iff_getElem.1 hx
    exact h.os i hi
   ·obtain ⟨i,hi,rfl⟩:=List.mem_iff_getElem.1 hx
    exact h.tr i hi
   ·obtain ⟨i,hi,rfl⟩:=List.mem_iff_getElem.1 hx
    rw [← frame_join (hb.2.2.2.2.2 _ (List.getElem_mem hi))]
    exact h.fr.1 i hi
 constructor
 ·intro h h8
  exact (key h8).1 (h (by rw [h8];rfl))
 ·intro h h8
  have h8':bitB m.flags 8=false:=by simpa using h8
  exact (key h8').2 (h h8')
theorem codes_join {c:MClass} (hF:fineC c) (hP:poolC c.pool=0):codesI c↔codesP c:=by
 unfold codesI codesP
 exact ⟨fun h i hi=>(body_join hF hP (fine_method hF (List.getElem_mem hi))).1 (h i hi),fun h i hi=>(body_join hF hP (fine_method hF (List.getElem_mem hi))).2 (h i hi)⟩
theorem form_join {c:MClass} {n k:Int} (h1:firstP (fileP c) (poolC c.pool=0) (headNI c∧headFI c) (fieldsI c) (methodsI c) (codesI c) n) (h2:firstP (fileP c) (poolC c.pool=0) (headP c) (fieldsP c) (methodsP c) (codesP c) k):n=k:=by
 by_cases hF:fileP c
 ·by_cases hP:poolC c.pool=0
  ·have j1:=head_join hF.1 hP
   have j2:=fields_join hF.1 hP
   have j3:=methods_join hF.1 hP
   have j4:=codes_join hF.1 hP
   unfold firstP at h1 h2
   rw [j1,j2,j3,j4] at h1
   generalize headP c=p3 at h1 h2
   generalize fieldsP c=p4 at h1 h2
   generalize methodsP c=p5 at h1 h2
   generalize codesP c=p6 at h1 h2
   rcases h1 with h1|h1|h1|h1|h1|h1|h1<;>rcases h2 with h2|h2|h2|h2|h2|h2|h2<;>simp_all
  ·unfold firstP at h1 h2
   rcases h1 with h1|h1|h1|h1|h1|h1|h1<;>rcases h2 with h2|h2|h2|h2|h2|h2|h2<;>simp_all
 ·unfold firstP at h1 h2
  rcases h1 with h1|h1|h1|h1|h1|h1|h1<;>rcases h2 with h2|h2|h2|h2|h2|h2|h2<;>simp_all
end Go.Proofs.YtecbcdfkedocbaaGreatDoor
