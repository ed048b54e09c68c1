/- Gathered: ChkBodyI4 ChkCodes. -/
import Derived.Test.YtecbcdfkedocbaaGreatDoorK04
import Derived.Test.YtecbcdfkedocbaaGreatDoorK09
import Derived.Test.YtecbcdfkedocbaaGreatDoorK03
import Derived.Test.YtecbcdfkedocbaaGreatDoorH07
namespace Go.Proofs.YtecbcdfkedocbaaGreatDoor
open Mx Go.RowKit
set_option maxHeartbeats 2000000
set_option maxRecDepth 20000
set_option linter.unusedVariables false
theorem allOps_any (m:MMethod) (ts:List C4) (os:List MIns) (a5:Option Addr) (n5 k5:Nat) (a6:Option Addr) (n6 k6:Nat) (o1:Option Addr) (j1:Nat) (o5:Option Addr) (j5:Nat) (B:Nat) (v:Value) (xs:List MIns) (w:World) (hpl:ts.length≤1048576) (hol:os.length≤1048576) (hP:PoolW w (.slice o1 ts.length j1) ts) (hO:OpsW w (.slice o5 os.length j5) os) (ha:ascO os) (hkl:xs.length≤1048576) (hx:w.ownsRow B 169 3 v xs.length (rowIns xs)) :
  Calls Tryz.prog 190 #[v,.func (.func 191) #[.agg #[.int .i64 m.flags,.int .i64 m.name,.int .i64 m.desc,.int .i64 m.deep,.int .i64 m.locals,.string m.code,.slice a5 n5 k5,.slice a6 n6 k6,.slice o1 ts.length j1,.slice o5 os.length j5]] #[]] w fun e w'=>e=.returned (.bool (xs.all (opB ts m.locals os)))∧Below w.heap.size w w':=by
 refine (allIns_any (.agg #[.int .i64 m.flags,.int .i64 m.name,.int .i64 m.desc,.int .i64 m.deep,.int .i64 m.locals,.string m.code,.slice a5 n5 k5,.slice a6 n6 k6,.slice o1 ts.length j1,.slice o5 os.length j5]) v xs B (fun k=>(xs[k]?.map (opB ts m.locals os)).getD true) w hkl hx (fun k hk' W hW=>?_)).mono ?_
 ·rw [List.getElem?_eq_getElem hk']
  exact opFine_any m ts os a5 n5 k5 a6 n6 k6 o1 j1 o5 j5 xs[k] W hpl hol (hP.keep hW) (hO.keep hW) ha
 ·rintro e w1 ⟨b,rfl,hb,hb1⟩
  refine ⟨ret_bool ?_,hb1⟩
  rw [Bool.eq_iff_iff,hb,List.all_eq_true]
  constructor
  ·intro h x hx
   obtain ⟨k,hk',rfl⟩:=List.mem_iff_getElem.1 hx
   have:=h k hk'
   rw [List.getElem?_eq_getElem hk'] at this
   exact this
  ·intro h k hk'
   rw [List.getElem?_eq_getElem hk']
   exact h _ (List.getElem_mem _)
theorem allTraps_any (m:MMethod) (ts:List C4) (os:List MIns) (a5:Option Addr) (n5 k5:Nat) (a6:Option Addr) (n6 k6:Nat) (o1:Option Addr) (j1:Nat) (o5:Option Addr) (j5:Nat) (B:Nat) (v:Value) (xs:List MTrap) (w:World) (hpl:ts.length≤1048576) (hol:os.length≤1048576) (hP:PoolW w (.slice o1 ts.length j1) ts) (hO:OpsW w (.slice o5 os.length j5) os) (ha:ascO os) (hkl:xs.length≤1048576) (hx:w.ownsRow B 140 4 v xs.length (rowTrap xs)) :
  Calls Tryz.prog 192 #[v,.func (.func 193) #[.agg #[.int .i64 m.flags,.int .i64 m.name,.int .i64 m.desc,.int .i64 m.deep,.int .i64 m.locals,.string m.code,.slice a5 n5 k5,.slice a6 n6 k6,.slice o1 ts.length j1,.slice o5 os.length j5]] #[]] w fun e w'=>e=.returned (.bool (xs.all (trapB (clsK ts) m.code.size os)))∧Below w.heap.size w w':=by
 refine (allTrap_any (.agg #[.int .i64 m.flags,.int .i64 m.name,.int .i64 m.desc,.int .i64 m.deep,.int .i64 m.locals,.string m.code,.slice a5 n5 k5,.slice a6 n6 k6,.slice o1 ts.length j1,.slice o5 os.length j5]) v xs B (fun k=>(xs[k]?.map (trapB (clsK ts) m.code.size os)).getD true) w hkl hx (fun k hk' W hW=>?_)).mono ?_
 ·rw [List.getElem?_eq_getElem hk']
  exact trapFine_any m ts os a5 n5 k5 a6 n6 k6 o1 j1 o5 j5 xs[k] W hpl hol (hP.keep hW) (hO.keep hW) ha
 ·rintro e w1 ⟨b,rfl,hb,hb1⟩
  refine ⟨ret_bool ?_,hb1⟩
  rw [Bool.eq_iff_iff,hb,List.all_eq_true]
  constructor
  ·intro h x hx
   obtain ⟨k,hk',rfl⟩:=List.mem_iff_getElem.1 hx
   have:=h k hk'
   rw [List.getElem?_eq_getElem hk'] at this
   exact this
  ·intro h k hk'
   rw [List.getElem?_eq_getElem hk']
   exact h _ (List.getElem_mem _)
theorem slicedF {w:World} {B:Nat} {xs:List SFrame} {fs:List MFrame} (hl:xs.length=fs.length) (h:∀ k (h:k<fs.length) (h':k<xs.length),FrameW w B xs[k] fs[k]):SlicedFrame xs:=fun k hk=>by
 have hw:=h k (by omega) hk
 obtain ⟨a1,k1,e1⟩:=own_len hw.l
 obtain ⟨a2,k2,e2⟩:=own_len hw.s
 exact ⟨a1,_,k1,a2,_,k2,e1,e2⟩
theorem allFrames_any (m:MMethod) (ts:List C4) (os:List MIns) (a5:Option Addr) (n5 k5:Nat) (a6:Option Addr) (n6 k6:Nat) (o1:Option Addr) (j1:Nat) (o5:Option Addr) (j5:Nat) (B:Nat) (v:Value) (fs:List MFrame) (w:World) (hpl:ts.length≤1048576) (hol:os.length≤1048576) (hP:PoolW w (.slice o1 ts.length j1) ts) (hO:OpsW w (.slice o5 os.length j5) os) (ha:ascO os) (hkl:fs.length≤1048576) (hf:∀ f∈fs,f.few) (hx:FramesW w B v fs) :
  Calls Tryz.prog 194 #[v,.func (.func 195) #[.agg #[.int .i64 m.flags,.int .i64 m.name,.int .i64 m.desc,.int .i64 m.deep,.int .i64 m.locals,.string m.code,.slice a5 n5 k5,.slice a6 n6 k6,.slice o1 ts.length j1,.slice o5 os.length j5]] #[]] w fun e w'=>e=.returned (.bool (fs.all (frameB (clsK ts) m.locals m.deep os)))∧Below w.heap.size w w':=by
 obtain ⟨xs,hxl,hxo,hxe⟩:=hx
 have hS:=slicedF hxl hxe
 have ho:w.ownsRow B 114 3 v xs.length (rowFrame xs):=by rw [hxl];exact hxo
 refine (allFrame_any (.agg #[.int .i64 m.flags,.int .i64 m.name,.int .i64 m.desc,.int .i64 m.deep,.int .i64 m.locals,.string m.code,.slice a5 n5 k5,.slice a6 n6 k6,.slice o1 ts.length j1,.slice o5 os.length j5]) v xs B (fun k=>(fs[k]?.map (frameB (clsK ts) m.locals m.deep os)).getD true) w (by omega) ho hS (fun k hk' W hW=>?_)).mono ?_
 ·have hk2:k<fs.length:=by omega
  rw [List.getElem?_eq_getElem hk2]
  have hfe:=hf fs[k] (List.getElem_mem _)
  exact frameFine_any m ts os a5 n5 k5 a6 n6 k6 o1 j1 o5 j5 B xs[k] fs[k] W hpl hol (hP.keep hW) (hO.keep hW) ha ((hxe k hk2 hk').keep hW) hfe.1 hfe.2
 ·rintro e w1 ⟨b,rfl,hb,hb1⟩
  refine ⟨ret_bool ?_,hb1⟩
  rw [Bool.eq_iff_iff,hb,List.all_eq_true]
  constructor
  ·intro h x hx
   obtain ⟨k,hk',rfl⟩:=List.mem_iff_getElem.1 hx
   have:=h k (by omega)
   rw [List.getElem?_eq_getElem hk'] at this
   exact this
  ·intro h k hk'
   rw [List.getElem?_eq_getElem (show k<fs.length by omega)]
   exact h _ (List.getElem_mem _)
theorem ascFrames_any (B:Nat) (v:Value) (fs:List MFrame) (w:World) (hkl:fs.length≤1048576) (hx:FramesW w B v fs) :
  Calls Tryz.prog 196 #[v,.func (.func 197) #[] #[]] w fun e w'=>∃ b:Bool,e=.returned (.bool b)∧(b=true↔ascF fs)∧Below w.heap.size w w':=by
 obtain ⟨xs,hxl,hxo,hxe⟩:=hx
 have hS:=slicedF hxl hxe
 have ho:w.ownsRow B 114 3 v xs.length (rowFrame xs):=by rw [hxl];exact hxo
 refine (ascFrame_any v xs B w (by omega) ho hS).mono ?_
 rintro e w1 ⟨b,rfl,hb,hb1⟩
 refine ⟨b,rfl,hb.trans ?_,hb1⟩
 unfold AscS ascF
 constructor
 ·intro h i hi
  have:=h i (by omega)
  rw [(hxe i (by omega) (by omega)).at_,(hxe (i+1) (by omega) (by omega)).at_] at this
  exact this
 ·intro h i hi
  rw [(hxe i (by omega) (by omega)).at_,(hxe (i+1) (by omega) (by omega)).at_]
  exact h i (by omega)
def roomB (d:ByteArray) (st:Bool) (dp lo:Int):Bool:=inI dp 0 8 && (inI lo 0 8 && decide (takesI d st≤lo))
theorem roomFine_any (m:MMethod) (ts:List C4) (os:List MIns) (a5:Option Addr) (n5 k5:Nat) (a6:Option Addr) (n6 k6:Nat) (o1:Option Addr) (j1:Nat) (o5:Option Addr) (j5:Nat) (w:World) (hpl:ts.length≤1048576) (hts:∀ t∈ts,t.text.size≤1048576) (hP:PoolW w (.slice o1 ts.length j1) ts) :
  Calls Tryz.prog 189 #[.agg #[.int .i64 m.flags,.int .i64 m.name,.int .i64 m.desc,.int .i64 m.deep,.int .i64 m.locals,.string m.code,.slice a5 n5 k5,.slice a6 n6 k6,.slice o1 ts.length j1,.slice o5 os.length j5]] w fun e w'=>e=.returned (.bool (roomB (rawT ts m.desc) (hasI m.flags 1) m.deep m.locals))∧Below w.heap.size w w':=by
 have P0:=HB.one w (arrF m (.slice a5 n5 k5) (.slice a6 n6 k6) (.slice o1 ts.length j1) (.slice o5 os.length j5)) 243
 have hN:=nameTextAt_any (.slice o1 ts.length j1) ts m.desc _ hpl (hP.keep P0.b)
 have hsz:(rawT ts m.desc).size≤1048576:=atC_small hts m.desc
 have hD:=fun W=>DescOf_any (rawT ts m.desc) W hsz
 have hH:=fun W=>has_any m.flags 1 W
 have hW1:=fun W=>withinI_any m.deep 8 W
 have hW2:=fun W=>withinI_any m.locals 8 W
 have HR:=hid (show roomB (rawT ts m.desc) (hasI m.flags 1) m.deep m.locals=(inI m.deep 0 8 && (inI m.locals 0 8 && decide (((dTs (rawT ts m.desc)).length:Int)+(if hasI m.flags 1=true then 0 else 1)≤m.locals))) from rfl)
 have hdl:=dTs_len (rawT ts m.desc)
 unfold DescPost at hD
 generalize roomB (rawT ts m.desc) (hasI m.flags 1) m.deep m.locals=R at HR ⊢
 generalize rawT ts m.desc=d at hN hD HR hdl
 generalize dTs d=ds at hD HR hdl
 generalize hasI m.flags 1=st at hH HR
 generalize inI m.deep 0 8=q1 at hW1 HR
 generalize inI m.locals 0 8=q2 at hW2 HR
 clear hP hts hsz
 obtain ⟨f0,f1,f2,f3,f4,f5,f6,f7,f8,f9⟩:=P0.hd.f10
 go_enter Tryz.func189,Tryz.ntmps189
 go_wp2_with fail
 refine hN.mono ?_
 rintro e w1 ⟨rfl,hb1⟩
 have P1:=P0.keep hb1
 clear P0 hb1 hN f0 f1 f2 f3 f4 f5 f6 f7 f8 f9
 obtain ⟨f0,f1,f2,f3,f4,f5,f6,f7,f8,f9⟩:=P1.hd.f10
 go_wp2_with fail
 refine (hD _).mono ?_
 rintro e w2 ⟨v,rfl,ho,hb2⟩
 obtain ⟨dv,dc,hv⟩:=own_len ho
 subst hv
 have P2:=P1.keep hb2
 clear P1 hb2 hD ho f0 f1 f2 f3 f4 f5 f6 f7 f8 f9
 obtain ⟨f0,f1,f2,f3,f4,f5,f6,f7,f8,f9⟩:=P2.hd.f10
 have HB2:=hid P2.b
 clear P2
 cases st
 all_goals cases q1
 all_goals cases q2
 all_goals go_wp2_with (first|(go_at_call 176;refine (hH _).mono ?_;rintro e w3 ⟨rfl,hw⟩;replace hw:=hw.symm;subst hw)|(go_at_call_of 175 m.deep;refine (hW1 _).mono ?_;rintro e w3 ⟨rfl,hw⟩;replace hw:=hw.symm;subst hw)|(go_at_call_of 175 m.locals;refine (hW2 _).mono ?_;rintro e w3 ⟨rfl,hw⟩;replace hw:=hw.symm;subst hw))
 all_goals go_ret
 all_goals refine ⟨ret_bool ?_,HB2.out⟩
 all_goals (rw [HR.out];simp)
theorem bodyFine_any (c:MClass) (m:MMethod) (vp vi vf vm vt vr:Value) (B Bm:Nat) (w:World) (hc:c.few) (hm:m.few) (hT:Tab w) (h:ClassW w B vp vi vf vm c) (hM:MethodW w Bm vt vr m) :
  Calls Tryz.prog 149 #[.agg #[vp,.int .i64 c.flags,.int .i64 c.name,.int .i64 c.super,vi,vf,vm],.agg #[.int .i64 m.flags,.int .i64 m.name,.int .i64 m.desc,.int .i64 m.deep,.int .i64 m.locals,.string m.code,vt,vr]] w fun e w'=>∃ b:Bool,e=.returned (.bool b)∧(b=true↔bodyQ (clsK c.pool) (rawT c.pool m.desc) (hasI m.flags 1) c.pool m)∧Below w.heap.size w w':=by
 obtain ⟨o1,j1,hv1⟩:=own_len h.p
 obtain ⟨o2,j2,hv2⟩:=own_len h.i
 obtain ⟨o3,j3,hv3⟩:=own_len h.f
 obtain ⟨o4,j4,hv4⟩:=h.m.len
 obtain ⟨a5,k5,hv5⟩:=own_len hM.t
 obtain ⟨a6,k6,hv6⟩:=hM.f.len
 subst hv1 hv2 hv3 hv4 hv5 hv6
 have P0:=HB.two w (arrK (.slice o1 c.pool.length j1) c.flags c.name c.super (.slice o2 c.faces.length j2) (.slice o3 c.fields.length j3) (.slice o4 c.methods.length j4)) (arrQ m (.slice a5 m.traps.length k5) (.slice a6 m.frames.length k6)) 36 75
 have hG:=OpsGet_any m.code _ (by have:=hm.1;unfold maxLen;omega) (hT.keep P0.b hT.1)
 have hPW:PoolW w (.slice o1 c.pool.length j1) c.pool:=⟨B,h.p⟩
 have hol:=oList_len m.code
 have hasc:=oList_asc m.code
 have HQ:=hid (show bodyQ (clsK c.pool) (rawT c.pool m.desc) (hasI m.flags 1) c.pool m↔(oGood m.code=true∧roomB (rawT c.pool m.desc) (hasI m.flags 1) m.deep m.locals=true∧(oList m.code).all (opB c.pool m.locals (oList m.code))=true∧m.traps.all (trapB (clsK c.pool) m.code.size (oList m.code))=true∧m.frames.all (frameB (clsK c.pool) m.locals m.deep (oList m.code))=true∧ascF m.frames) from by
  unfold roomB inI
  simp only [Bool.and_eq_true,decide_eq_true_eq,List.all_eq_true]
  constructor
  ·intro hq
   have h0:0≤takesI (rawT c.pool m.desc) (hasI m.flags 1):=by unfold takesI;split<;>omega
   have:=hq.lo
   exact ⟨hq.op,⟨⟨hq.d0,hq.dp⟩,⟨by omega,hq.l8⟩,hq.lo⟩,hq.os,hq.tr,hq.fr,hq.up⟩
  ·rintro ⟨h1,⟨⟨h2,h3⟩,⟨h4,h5⟩,h6⟩,h7,h8,h9,h10⟩
   exact ⟨h1,h2,h3,h6,h5,h7,h8,h9,h10⟩)
 unfold OpsPost at hG
 generalize oList m.code=os at hG hol hasc HQ
 have HRm:=hid (fun n o5 j5 W (hW:HB w [(n,arrF m (.slice a5 m.traps.length k5) (.slice a6 m.frames.length k6) (.slice o1 c.pool.length j1) (.slice o5 os.length j5),243),(w.heap.size+1,arrQ m (.slice a5 m.traps.length k5) (.slice a6 m.frames.length k6),75),(w.heap.size,arrK (.slice o1 c.pool.length j1) c.flags c.name c.super (.slice o2 c.faces.length j2) (.slice o3 c.fields.length j3) (.slice o4 c.methods.length j4),36)] W)=>roomFine_any m c.pool os a5 m.traps.length k5 a6 m.frames.length k6 o1 j1 o5 j5 W hc.pool hc.texts (hPW.keep hW.b))
 have HOp:=hid (fun n o5 j5 Bo W (hW:HB w [(n,arrF m (.slice a5 m.traps.length k5) (.slice a6 m.frames.length k6) (.slice o1 c.pool.length j1) (.slice o5 os.length j5),243),(w.heap.size+1,arrQ m (.slice a5 m.traps.length k5) (.slice a6 m.frames.length k6),75),(w.heap.size,arrK (.slice o1 c.pool.length j1) c.flags c.name c.super (.slice o2 c.faces.length j2) (.slice o3 c.fields.length j3) (.slice o4 c.methods.length j4),36)] W) (hO:W.ownsRow Bo 169 3 (.slice o5 os.length j5) os.length (rowIns os))=>allOps_any m c.pool os a5 m.traps.length k5 a6 m.frames.length k6 o1 j1 o5 j5 Bo (.slice o5 os.length j5) os W hc.pool (by omega) (hPW.keep hW.b) ⟨Bo,hO⟩ hasc (by omega) hO)
 have HTr:=hid (fun n o5 j5 Bo W (hW:HB w [(n,arrF m (.slice a5 m.traps.length k5) (.slice a6 m.frames.length k6) (.slice o1 c.pool.length j1) (.slice o5 os.length j5),243),(w.heap.size+1,arrQ m (.slice a5 m.traps.length k5) (.slice a6 m.frames.length k6),75),(w.heap.size,arrK (.slice o1 c.pool.length j1) c.flags c.name c.super (.slice o2 c.faces.length j2) (.slice o3 c.fields.length j3) (.slice o4 c.methods.length j4),36)] W) (hO:W.ownsRow Bo 169 3 (.slice o5 os.length j5) os.length (rowIns os))=>allTraps_any m c.pool os a5 m.traps.length k5 a6 m.frames.length k6 o1 j1 o5 j5 Bm (.slice a5 m.traps.length k5) m.traps W hc.pool (by omega) (hPW.keep hW.b) ⟨Bo,hO⟩ hasc hm.2.1 (own_below hM.t hW.b))
 have HFr:=hid (fun n o5 j5 Bo W (hW:HB w [(n,arrF m (.slice a5 m.traps.length k5) (.slice a6 m.frames.length k6) (.slice o1 c.pool.length j1) (.slice o5 os.length j5),243),(w.heap.size+1,arrQ m (.slice a5 m.traps.length k5) (.slice a6 m.frames.length k6),75),(w.heap.size,arrK (.slice o1 c.pool.length j1) c.flags c.name c.super (.slice o2 c.faces.length j2) (.slice o3 c.fields.length j3) (.slice o4 c.methods.length j4),36)] W) (hO:W.ownsRow Bo 169 3 (.slice o5 os.length j5) os.length (rowIns os))=>allFrames_any m c.pool os a5 m.traps.length k5 a6 m.frames.length k6 o1 j1 o5 j5 Bm (.slice a6 m.frames.length k6) m.frames W hc.pool (by omega) (hPW.keep hW.b) ⟨Bo,hO⟩ hasc hm.2.2.1 hm.2.2.2 (hM.f.keep hW.b))
 have HAs:=hid (fun W (hW:Below w.heap.size w W)=>ascFrames_any Bm (.slice a6 m.frames.length k6) m.frames W hm.2.2.1 (hM.f.keep hW))
 obtain ⟨q1,hq1⟩:∃ q,oGood m.code=q:=⟨_,rfl⟩
 rw [hq1] at hG HQ
 generalize hq2:roomB (rawT c.pool m.desc) (hasI m.flags 1) m.deep m.locals=q2 at HRm HQ
 generalize hq3:os.all (opB c.pool m.locals os)=q3 at HOp HQ
 generalize hq4:m.traps.all (trapB (clsK c.pool) m.code.size os)=q4 at HTr HQ
 generalize hq5:m.frames.all (frameB (clsK c.pool) m.locals m.deep os)=q5 at HFr HQ
 have hmf:∀ (fn:Fn) (first cap:Array Value) (w:World),(Instr.makeFunc fn first cap).run Tryz.prog w=.ok (.func fn first cap) w:=fun _ _ _ _=>rfl
 clear h hc hm hT hM hPW hol hasc hq1 hq2 hq3 hq4 hq5
 go_enter Tryz.func149,Tryz.ntmps149
 go_wp2_with fail
 refine hG.mono ?_
 rintro e w1 ⟨v,rfl,ho,hb1⟩
 obtain ⟨o5,j5,hv⟩:=own_len ho
 subst hv
 have P1:=P0.keep hb1
 clear P0 hb1 hG
 obtain ⟨d0,d1,d2,d3,d4,d5,d6,d7⟩:=P1.hd.q8
 obtain ⟨c0,c1,c2,c3,c4,c5,c6⟩:=P1.tl.hd.k7
 have HB1:=hid P1.b
 cases q1 with
 | false=>
  have HN:=hid (show ¬bodyQ (clsK c.pool) (rawT c.pool m.desc) (hasI m.flags 1) c.pool m from fun h=>by have:=(HQ.out.1 h).1;cases this)
  clear P1 HRm HOp HTr HFr HAs ho HQ
  go_wp2
  go_ret
  first|exact ⟨false,rfl,⟨fun h=>(by cases h),fun h=>absurd h HN.out⟩,HB1.out⟩|exact .inl ⟨rfl,HN.out,HB1.out⟩
 | true=>
 have P2:=P1.add (arrF m (.slice a5 m.traps.length k5) (.slice a6 m.frames.length k6) (.slice o1 c.pool.length j1) (.slice o5 os.length j5)) 243 (n:=w1.heap.size) rfl
 have ho2:=own_below ho (show Below w1.heap.size w1 (w1.alloc (.cells (arrF m (.slice a5 m.traps.length k5) (.slice a6 m.frames.length k6) (.slice o1 c.pool.length j1) (.slice o5 os.length j5)) 243)) from (Below.refl _ _).alloc (Nat.le_refl _) _)
 generalize hBo:(((w.alloc (.cells (arrK (.slice o1 c.pool.length j1) c.flags c.name c.super (.slice o2 c.faces.length j2) (.slice o3 c.fields.length j3) (.slice o4 c.methods.length j4)) 36)).alloc (.cells (arrQ m (.slice a5 m.traps.length k5) (.slice a6 m.frames.length k6)) 75))).heap.size=Bo at ho ho2
 clear hBo ho
 have hR:=HRm.out _ o5 j5 _ P2
 obtain ⟨f0,f1,f2,f3,f4,f5,f6,f7,f8,f9⟩:=P2.hd.f10
 go_wp2_with fail
 refine hR.mono ?_
 rintro e w3 ⟨rfl,hb3⟩
 have P3:=P2.keep hb3
 have ho3:=own_below ho2 hb3
 clear P1 P2 hb3 hR ho2 HRm f0 f1 f2 f3 f4 f5 f6 f7 f8 f9 d0 d1 d2 d3 d4 d5 d6 d7 c0 c1 c2 c3 c4 c5 c6 HB1
 generalize w1.heap.size=n at P3 ⊢
 obtain ⟨f0,f1,f2,f3,f4,f5,f6,f7,f8,f9⟩:=P3.hd.f10
 have HB3:=hid P3.b
 cases q2 with
 | false=>
  have HN:=hid (show ¬bodyQ (clsK c.pool) (rawT c.pool m.desc) (hasI m.flags 1) c.pool m from fun h=>by have:=(HQ.out.1 h).2.1;cases this)
  clear P3 HOp HTr HFr HAs ho3 HQ
  go_wp2
  go_ret
  first|exact ⟨false,rfl,⟨fun h=>(by cases h),fun h=>absurd h HN.out⟩,HB3.out⟩|exact .inl ⟨rfl,HN.out,HB3.out⟩
 | true=>
 have hO1:=HOp.out _ o5 j5 _ _ P3 ho3
 go_wp2_with fail
 refine hO1.mono ?_
 rintro e w4 ⟨rfl,hb4⟩
 have P4:=P3.keep hb4
 have ho4:=own_below ho3 hb4
 clear P3 hb4 hO1 ho3 HOp HB3 f0 f1 f2 f3 f4 f5 f6 f7 f8 f9
 obtain ⟨f0,f1,f2,f3,f4,f5,f6,f7,f8,f9⟩:=P4.hd.f10
 have HB4:=hid P4.b
 cases q3 with
 | false=>
  have HN:=hid (show ¬bodyQ (clsK c.pool) (rawT c.pool m.desc) (hasI m.flags 1) c.pool m from fun h=>by have:=(HQ.out.1 h).2.2.1;cases this)
  clear P4 HTr HFr HAs ho4 HQ
  go_wp2
  go_ret
  first|exact ⟨false,rfl,⟨fun h=>(by cases h),fun h=>absurd h HN.out⟩,HB4.out⟩|exact .inl ⟨rfl,HN.out,HB4.out⟩
 | true=>
 have hO2:=HTr.out _ o5 j5 _ _ P4 ho4
 go_wp2_with fail
 refine hO2.mono ?_
 rintro e w5 ⟨rfl,hb5⟩
 have P5:=P4.keep hb5
 have ho5:=own_below ho4 hb5
 clear P4 hb5 hO2 ho4 HTr HB4 f0 f1 f2 f3 f4 f5 f6 f7 f8 f9
 obtain ⟨f0,f1,f2,f3,f4,f5,f6,f7,f8,f9⟩:=P5.hd.f10
 have HB5:=hid P5.b
 cases q4 with
 | false=>
  have HN:=hid (show ¬bodyQ (clsK c.pool) (rawT c.pool m.desc) (hasI m.flags 1) c.pool m from fun h=>by have:=(HQ.out.1 h).2.2.2.1;cases this)
  clear P5 HFr HAs ho5 HQ
  go_wp2
  go_ret
  first|exact ⟨false,rfl,⟨fun h=>(by cases h),fun h=>absurd h HN.out⟩,HB5.out⟩|exact .inl ⟨rfl,HN.out,HB5.out⟩
 | true=>
 have hO3:=HFr.out _ o5 j5 _ _ P5 ho5
 go_wp2_with fail
 refine hO3.mono ?_
 rintro e w6 ⟨rfl,hb6⟩
 have P6:=P5.keep hb6
 clear P5 hb6 hO3 ho5 HFr HB5 f0 f1 f2 f3 f4 f5 f6 f7 f8 f9
 obtain ⟨f0,f1,f2,f3,f4,f5,f6,f7,f8,f9⟩:=P6.hd.f10
 have HB6:=hid P6.b
 cases q5 with
 | false=>
  have HN:=hid (show ¬bodyQ (clsK c.pool) (rawT c.pool m.desc) (hasI m.flags 1) c.pool m from fun h=>by have:=(HQ.out.1 h).2.2.2.2.1;cases this)
  clear P6 HAs HQ
  go_wp2
  go_ret
  first|exact ⟨false,rfl,⟨fun h=>(by cases h),fun h=>absurd h HN.out⟩,HB6.out⟩|exact .inl ⟨rfl,HN.out,HB6.out⟩
 | true=>
 have hO4:=HAs.out _ P6.b
 go_wp2_with fail
 refine hO4.mono ?_
 rintro e w7 ⟨b,rfl,rb,hb7⟩
 have HB7:=hid (HB6.out.trans (hb7.mono HB6.out.size))
 have HR:=hid (show b=true↔bodyQ (clsK c.pool) (rawT c.pool m.desc) (hasI m.flags 1) c.pool m from rb.trans ⟨fun h=>HQ.out.2 ⟨by simp,by simp,by simp,by simp,by simp,h⟩,fun h=>(HQ.out.1 h).2.2.2.2.2⟩)
 clear P6 hb7 hO4 HAs HB6 HQ rb f0 f1 f2 f3 f4 f5 f6 f7 f8 f9
 go_wp2
 go_ret
 exact ⟨b,rfl,HR.out,HB7.out⟩
def codeI (c:MClass) (m:MMethod):Prop:=hasB m.flags=true→bodyQ (clsK c.pool) (rawT c.pool m.desc) (hasI m.flags 1) c.pool m
theorem codeFn_any (c:MClass) (m:MMethod) (vp vi vf vm vt vr:Value) (B Bm n:Nat) (w:World) (hc:c.few) (hm:m.few) (hT:Tab w) (h:ClassW w B vp vi vf vm c) (hM:MethodW w Bm vt vr m) (hk:Lk w n (arrK vp c.flags c.name c.super vi vf vm) 36) :
  Calls Tryz.prog 147 #[.agg #[.int .i64 m.flags,.int .i64 m.name,.int .i64 m.desc,.int .i64 m.deep,.int .i64 m.locals,.string m.code,vt,vr],.pointer (some ⟨n,0,none⟩)] w fun e w'=>∃ b:Bool,e=.returned (.bool b)∧(b=true↔codeI c m)∧Below w.heap.size w w':=by
 have hbo:=(Below.refl w.heap.size w).alloc (Nat.le_refl _) (.cells #[.int .i64 m.flags,.int .i64 m.name,.int .i64 m.desc,.int .i64 m.deep,.int .i64 m.locals,.string m.code,vt,vr] 75)
 have hC:=bodyFine_any c m vp vi vf vm vt vr B Bm _ hc hm (hT.keep hbo hT.1) (h.keep hbo) (hM.keep hbo)
 have hH:=fun W=>whas_any m.flags W
 have HQ:=hid (show codeI c m↔(hasB m.flags=true→bodyQ (clsK c.pool) (rawT c.pool m.desc) (hasI m.flags 1) c.pool m) from Iff.rfl)
 have hlt:=hk.lt
 have hne:¬n=w.heap.size:=by omega
 obtain ⟨o1,j1,hv1⟩:=own_len h.p
 obtain ⟨o2,j2,hv2⟩:=own_len h.i
 obtain ⟨o3,j3,hv3⟩:=own_len h.f
 obtain ⟨o4,j4,hv4⟩:=h.m.len
 obtain ⟨a5,k5,hv5⟩:=own_len hM.t
 obtain ⟨a6,k6,hv6⟩:=hM.f.len
 subst hv1 hv2 hv3 hv4 hv5 hv6
 obtain ⟨c0,c1,c2,c3,c4,c5,c6⟩:=hk.k7
 have HO:=hid hbo
 generalize bodyQ (clsK c.pool) (rawT c.pool m.desc) (hasI m.flags 1) c.pool m=Q at hC HQ
 generalize hasB m.flags=q at hH HQ
 clear hbo h hk hM hT hm hc
 cases q with
 | false=>
  have HY:=hid (show codeI c m from HQ.out.2 (fun h=>by cases h))
  clear HQ hC
  go_enter Tryz.func147,Tryz.ntmps147
  go_wp2_with (go_at_call 148;refine (hH _).mono ?_;rintro e w1 ⟨rfl,hw⟩;replace hw:=hw.symm;subst hw)
  go_ret
  first|exact ⟨true,rfl,⟨fun _=>HY.out,fun _=>rfl⟩,HO.out⟩|exact .inr ⟨rfl,HY.out,HO.out⟩
 | true=>
  have HY:=hid (show codeI c m↔Q from HQ.out.trans ⟨fun h=>h rfl,fun h _=>h⟩)
  clear HQ
  go_enter Tryz.func147,Tryz.ntmps147
  go_wp2_with (go_at_call 148;refine (hH _).mono ?_;rintro e w1 ⟨rfl,hw⟩;replace hw:=hw.symm;subst hw)
  refine hC.mono ?_
  rintro e w2 ⟨b,rfl,hb,hb2⟩
  have HB2:=hid (HO.out.trans (hb2.mono HO.out.size))
  have HR:=hid (hb.trans HY.out.symm)
  clear hb2 hC HO hb HY c0 c1 c2 c3 c4 c5 c6
  go_wp2
  go_ret
  exact ⟨b,rfl,HR.out,HB2.out⟩
def codesI (c:MClass):Prop:=∀ i (h:i<c.methods.length),codeI c c.methods[i]
theorem codeQ_ex (c:MClass):∃ q:Nat→Bool,∀ k (h:k<c.methods.length),(q k=true↔codeI c c.methods[k]):=
 ⟨fun k=>@decide (∀ h:k<c.methods.length,codeI c c.methods[k]) (Classical.propDecidable _),fun k h=>by
  rw [@decide_eq_true_iff _ (Classical.propDecidable _)]
  exact ⟨fun g=>g h,fun g _=>g⟩⟩
theorem checkCodes_any (c:MClass) (vp vi vf vm:Value) (B:Nat) (w:World) (hc:c.few) (hT:Tab w) (h:ClassW w B vp vi vf vm c) :
  Calls Tryz.prog 97 #[.agg #[vp,.int .i64 c.flags,.int .i64 c.name,.int .i64 c.super,vi,vf,vm]] w fun e w'=>∃ b:Bool,e=.returned (errV b 6)∧(b=true↔codesI c)∧Below w.heap.size w w':=by
 obtain ⟨o1,j1,hv1⟩:=own_len h.p
 obtain ⟨o2,j2,hv2⟩:=own_len h.i
 obtain ⟨o3,j3,hv3⟩:=own_len h.f
 obtain ⟨o4,j4,hv4⟩:=h.m.len
 subst hv1 hv2 hv3 hv4
 have P0:=CB.start w (arrK (.slice o1 c.pool.length j1) c.flags c.name c.super (.slice o2 c.faces.length j2) (.slice o3 c.fields.length j3) (.slice o4 c.methods.length j4))
 obtain ⟨q,hq⟩:=codeQ_ex c
 obtain ⟨xs,hxl,hxo,hxe⟩:=id h.m
 have hS:SlicedM xs:=fun k hk=>by
  obtain ⟨vt,vr,he,hw⟩:=hxe k (by omega) hk
  obtain ⟨a1,k1,e1⟩:=own_len hw.t
  obtain ⟨a2,k2,e2⟩:=hw.f.len
  rw [he]
  exact ⟨a1,_,k1,a2,_,k2,e1,e2⟩
 have hA:=fun W (hW:CB w (arrK (.slice o1 c.pool.length j1) c.flags c.name c.super (.slice o2 c.faces.length j2) (.slice o3 c.fields.length j3) (.slice o4 c.methods.length j4)) W)=>allCode_any (.pointer (some ⟨w.heap.size,0,none⟩)) (.slice o4 c.methods.length j4) xs B q W (by have:=hc.methods;omega) (by rw [hxl];exact own_below hxo hW.b) hS (fun k hk W' hW'=>by
  have P:=hW.keep hW'
  obtain ⟨vt,vr,he,hw⟩:=hxe k (by omega) hk
  rw [he]
  refine (codeFn_any c (c.methods[k]'(by omega)) _ _ _ _ vt vr B B w.heap.size W' hc (hc.each _ (List.getElem_mem _)) (hT.keep P.b hT.1) (h.keep P.b) (hw.keep P.b) P.k).mono ?_
  rintro e w1 ⟨b,rfl,hb,hb1⟩
  refine ⟨ret_bool ?_,hb1⟩
  rw [Bool.eq_iff_iff,hb,hq k (by omega)])
 have hmf:∀ (fn:Fn) (first cap:Array Value) (w:World),(Instr.makeFunc fn first cap).run Tryz.prog w=.ok (.func fn first cap) w:=fun _ _ _ _=>rfl
 rw [hxl] at hA
 have HA:=hid hA
 have HQ:=hid hq
 clear h hc hA hq hxo hxe hS hxl hT
 go_enter Tryz.func97,Tryz.ntmps97
 go_wp2_with fail
 refine (HA.out _ P0).mono ?_
 rintro e w1 ⟨b1,rfl,r1,hb1⟩
 have HB1:=hid (P0.keep hb1).b
 have R1:=hid (show b1=true↔codesI c from r1.trans ⟨fun h k hk=>(HQ.out k hk).1 (h k hk),fun h k hk=>(HQ.out k hk).2 (h k hk)⟩)
 clear P0 hb1 r1 HA HQ
 go_wp2_with (go_at_call 131;refine (formUnless_any _ _ _).mono ?_;rintro e w5 ⟨rfl,hb5⟩;have HB5:=hid (HB1.out.trans (hb5.mono HB1.out.size));clear hb5)
 go_ret
 exact ⟨b1,rfl,R1.out,HB5.out⟩
end Go.Proofs.YtecbcdfkedocbaaGreatDoor
