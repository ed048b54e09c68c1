/- Gathered: AnyMethod ChkMeth ChkInsS ChkTrapS ChkFind AnyKind. -/
import Derived.Test.YtecbcdfkedocbaaGreatDoorG02
import Derived.Test.YtecbcdfkedocbaaGreatDoorK01
import Derived.Deep.RegionHeld
import Derived.Test.YtecbcdfkedocbaaGreatDoorG03
import Derived.Deep.CutBlock
import Derived.Deep.DeepCutAuto
import Derived.Test.YtecbcdfkedocbaaGreatDoorG01
namespace Go.Proofs.YtecbcdfkedocbaaGreatDoor
open Go.RowKit
set_option maxHeartbeats 1000000
set_option maxRecDepth 20000
set_option linter.unusedVariables false
def SlicedM (ts:List SMethod):Prop:=∀ k (h:k<ts.length),∃ a1 n1 c1 a2 n2 c2,ts[k].traps=.slice a1 n1 c1∧ts[k].frames=.slice a2 n2 c2
theorem indexMethod_any (u0:Value) (v:Value) (ts:List SMethod) (B:Nat) (p:Nat→Bool) (w:World) (hl:ts.length≤1048576) (ho:w.ownsRow B 75 8 v ts.length (rowMethod ts)) (hS:SlicedM ts)
  (hF:∀ k (h:k<ts.length) W,Below w.heap.size w W→Calls Tryz.prog 186 #[.agg #[.int .i64 ts[k].flags,.int .i64 ts[k].name,.int .i64 ts[k].desc,.int .i64 ts[k].deep,.int .i64 ts[k].locals,.string ts[k].code,ts[k].traps,ts[k].frames],u0] W fun e w'=>e=.returned (.bool (p k))∧Below W.heap.size W w') :
  Calls Tryz.prog 218 #[v,.func (.func 186) #[] #[u0]] w fun e w'=>∃ r:Int,e=.returned (.int .i64 r)∧(0≤r↔∃ k,k<ts.length∧p k=true)∧Below w.heap.size w w':=by
 obtain ⟨ao,cap,hv⟩:=own_len ho
 subst hv
 have HO:=hid ho
 have HF:=hid hF
 have HS:=hid hS
 clear ho hF hS
 go_enter Tryz.func218,Tryz.ntmps218
 go_wp2_with fail
 go_loopw [8] (fun i wr=>∃ (k:Nat),k≤ts.length∧i=.int .i64 k∧Hid (∀ j,j<k→p j=false)∧Hid (Below w.heap.size w wr)) (fun i _=>ts.length - (intOf i).toNat)
 case atStart=>exact ⟨0,by omega,rfl,fun j hj=>by omega,Below.refl _ _⟩
 case round=>
  obtain ⟨k,hk,rfl,HE,HB⟩:=hrel
  by_cases hlt:k<ts.length
  ·obtain ⟨g,hg⟩:=own_some HO.out (by omega)
   subst hg
   obtain ⟨c0,c1,c2,c3,c4,c5,c6,c7⟩:=ownMethod_at (own_below HO.out HB.out) rfl hlt
   have hC:=HF.out k hlt
   obtain ⟨a1,n1,k1,a2,n2,k2,s1,s2⟩:=HS.out k hlt
   generalize ts[k]=t at c0 c1 c2 c3 c4 c5 c6 c7 hC s1 s2
   obtain ⟨t1,t2,t3,t4,t5,t6,tw,tp⟩:=t
   simp only at c0 c1 c2 c3 c4 c5 c6 c7 hC s1 s2
   subst s1 s2
   obtain ⟨q,hq⟩:∃ q,Hid (p k=q):=⟨_,hid rfl⟩
   rw [hq.out] at hC
   go_wp2_with fail
   refine (hC _ HB.out).mono ?_
   rintro e w1 ⟨rfl,hb1⟩
   have HB1:=hid (HB.out.trans (hb1.mono HB.out.size))
   clear hb1 hC c0 c1 c2 c3 c4 c5 c6 c7
   cases q with
   | true=>
    have HR:=hid (show ∃ j,j<ts.length∧p j=true from ⟨k,hlt,hq.out⟩)
    go_wp2
    go_ret
    exact ⟨_,rfl,⟨fun _=>HR.out,fun _=>by omega⟩,HB1.out⟩
   | false=>
    have HN:=hid (show ∀ j,j<k+1→p j=false from fun j hj=>by
     by_cases e:j=k
     ·rw [e];exact hq.out
     ·exact HE.out j (by omega))
    go_wp2
    go_roundw
    case rel=>exact ⟨k+1,by omega,by go_num,HN,HB1⟩
    case measure=>simp [intOf];omega
  ·have HN:=hid (show ¬ ∃ j,j<ts.length∧p j=true from by
    rintro ⟨j,hj,hp⟩
    have:=HE.out j (by omega)
    rw [this] at hp
    cases hp)
   go_wp2
   go_ret
   exact ⟨-1,rfl,⟨fun h=>absurd h (by omega),fun h=>absurd h HN.out⟩,HB.out⟩
theorem containsMethod_any (u0:Value) (v:Value) (ts:List SMethod) (B:Nat) (p:Nat→Bool) (w:World) (hl:ts.length≤1048576) (ho:w.ownsRow B 75 8 v ts.length (rowMethod ts)) (hS:SlicedM ts)
  (hF:∀ k (h:k<ts.length) W,Below w.heap.size w W→Calls Tryz.prog 186 #[.agg #[.int .i64 ts[k].flags,.int .i64 ts[k].name,.int .i64 ts[k].desc,.int .i64 ts[k].deep,.int .i64 ts[k].locals,.string ts[k].code,ts[k].traps,ts[k].frames],u0] W fun e w'=>e=.returned (.bool (p k))∧Below W.heap.size W w') :
  Calls Tryz.prog 185 #[v,.func (.func 186) #[] #[u0]] w fun e w'=>∃ b:Bool,e=.returned (.bool b)∧(b=true↔∃ k,k<ts.length∧p k=true)∧Below w.heap.size w w':=by
 have hI:=indexMethod_any u0 v ts B p w hl ho hS hF
 clear hF ho hS
 go_enter Tryz.func185,Tryz.ntmps185
 go_wp2_with fail
 refine hI.mono ?_
 rintro e w1 ⟨r,rfl,hr,hb⟩
 have HR:=hid hr
 have HB:=hid hb
 clear hr hb hI
 go_wp2
 go_ret
 refine ⟨_,rfl, ?_,HB.out⟩
 rw [← HR.out]
 simp
theorem notMethod_any (cv:Value) (t:SMethod) (c:Nat) (q:Bool) (w:World) (hs:∃ a1 n1 c1 a2 n2 c2,t.traps=.slice a1 n1 c1∧t.frames=.slice a2 n2 c2) (hc:w.cell? ⟨c,0,none⟩=some (.func (.func 141) #[] #[cv])) (hlt:c<w.heap.size)
  (hG:∀ W,Below w.heap.size w W→Calls Tryz.prog 141 #[.agg #[.int .i64 t.flags,.int .i64 t.name,.int .i64 t.desc,.int .i64 t.deep,.int .i64 t.locals,.string t.code,t.traps,t.frames],cv] W fun e w'=>e=.returned (.bool q)∧Below W.heap.size W w') :
  Calls Tryz.prog 186 #[.agg #[.int .i64 t.flags,.int .i64 t.name,.int .i64 t.desc,.int .i64 t.deep,.int .i64 t.locals,.string t.code,t.traps,t.frames],.pointer (some ⟨c,0,none⟩)] w fun e w'=>e=.returned (.bool (!q))∧Below w.heap.size w w':=by
 have hbo:=(Below.refl w.heap.size w).alloc (Nat.le_refl _) (.cells #[.int .i64 t.flags,.int .i64 t.name,.int .i64 t.desc,.int .i64 t.deep,.int .i64 t.locals,.string t.code,t.traps,t.frames] 75)
 have hC:=hG _ hbo
 have hne:¬c=w.heap.size:=by omega
 have HO:=hid hbo
 clear hG hbo
 obtain ⟨a1,n1,k1,a2,n2,k2,s1,s2⟩:=hs
 obtain ⟨t1,t2,t3,t4,t5,t6,tw,tp⟩:=t
 simp only at s1 s2 hC HO
 subst s1 s2
 go_enter Tryz.func186,Tryz.ntmps186
 go_wp2_with fail
 refine hC.mono ?_
 rintro e w1 ⟨rfl,hb1⟩
 have HB:=hid (HO.out.trans (hb1.mono HO.out.size))
 clear hb1 hC HO
 go_wp2
 go_ret
 exact ⟨rfl,HB.out⟩
theorem allMethod_any (cv:Value) (v:Value) (ts:List SMethod) (B:Nat) (q:Nat→Bool) (w:World) (hl:ts.length≤1048576) (ho:w.ownsRow B 75 8 v ts.length (rowMethod ts)) (hS:SlicedM ts)
  (hG:∀ k (h:k<ts.length) W,Below w.heap.size w W→Calls Tryz.prog 141 #[.agg #[.int .i64 ts[k].flags,.int .i64 ts[k].name,.int .i64 ts[k].desc,.int .i64 ts[k].deep,.int .i64 ts[k].locals,.string ts[k].code,ts[k].traps,ts[k].frames],cv] W fun e w'=>e=.returned (.bool (q k))∧Below W.heap.size W w') :
  Calls Tryz.prog 145 #[v,.func (.func 141) #[] #[cv]] w fun e w'=>∃ b:Bool,e=.returned (.bool b)∧(b=true↔∀ k,k<ts.length→q k=true)∧Below w.heap.size w w':=by
 obtain ⟨ao,cp,hv⟩:=own_len ho
 subst hv
 have hbo:=(Below.refl w.heap.size w).alloc (Nat.le_refl _) (.cells #[.func (.func 141) #[] #[cv]] 201)
 have hC:=containsMethod_any (.pointer (some ⟨w.heap.size,0,none⟩)) (.slice ao ts.length cp) ts B (fun k=>!q k) _ hl (own_below ho hbo) hS (fun k h W hW=>notMethod_any cv ts[k] w.heap.size (q k) W (hS k h) ((hW.cell (p:=⟨w.heap.size,0,none⟩) (by simp)).trans (by simp [go_sem])) (by have:=hW.size;simp at this;omega) (fun W' hW'=>hG k h W' (hbo.trans ((hW.trans (hW'.mono hW.size)).mono (by simp)))))
 have hmf:∀ (fn:Fn) (first cap:Array Value) (w:World),(Instr.makeFunc fn first cap).run Tryz.prog w=.ok (.func fn first cap) w:=fun _ _ _ _=>rfl
 have HO:=hid hbo
 clear hG ho hbo hS
 go_enter Tryz.func145,Tryz.ntmps145
 go_wp2_with fail
 refine hC.mono ?_
 rintro e w1 ⟨b,rfl,hb,hb1⟩
 have HB:=hid (HO.out.trans (hb1.mono (by simp)))
 have HR:=hid hb
 clear hb hb1 hC HO
 go_wp2
 go_ret
 refine ⟨!b,rfl, ?_,HB.out⟩
 have:=HR.out
 cases b with
 | true=>
  obtain ⟨k,hk,hq⟩:=this.1 rfl
  constructor
  ·intro h;cases h
  ·intro h;rw [h k hk] at hq;cases hq
 | false=>
  constructor
  ·intro _ k hk
   cases hq:q k with
   | true=>rfl
   | false=>exact absurd (this.2 ⟨k,hk,by simp [hq]⟩) (by simp)
  ·intro _;rfl
open Mx
set_option maxHeartbeats 2000000
def arrQ (m:MMethod) (vt vr:Value):Array Value:=#[.int .i64 m.flags,.int .i64 m.name,.int .i64 m.desc,.int .i64 m.deep,.int .i64 m.locals,.string m.code,vt,vr]
theorem Lk.q8 {W:World} {C:Nat} {m:MMethod} {vt vr:Value} {T:TypeId} (h:Lk W C (arrQ m vt vr) T):W.cell? ⟨C,0,none⟩=some (.int .i64 m.flags)∧W.cell? ⟨C,1,none⟩=some (.int .i64 m.name)∧W.cell? ⟨C,2,none⟩=some (.int .i64 m.desc)∧W.cell? ⟨C,3,none⟩=some (.int .i64 m.deep)∧W.cell? ⟨C,4,none⟩=some (.int .i64 m.locals)∧W.cell? ⟨C,5,none⟩=some (.string m.code)∧W.cell? ⟨C,6,none⟩=some vt∧W.cell? ⟨C,7,none⟩=some vr:=
 ⟨h.c 0 _ rfl,h.c 1 _ rfl,h.c 2 _ rfl,h.c 3 _ rfl,h.c 4 _ rfl,h.c 5 _ rfl,h.c 6 _ rfl,h.c 7 _ rfl⟩
structure CM (w:World) (a d:Array Value) (W:World):Prop where
 b:Below w.heap.size w W
 k:Lk W w.heap.size a 36
 m:Lk W (w.heap.size+1) d 75
theorem CM.keep {w W W':World} {a d:Array Value} (h:CM w a d W) (hb:Below W.heap.size W W'):CM w a d W':=⟨h.b.trans (hb.mono h.b.size),h.k.keep hb,h.m.keep hb⟩
theorem CM.start (w:World) (a d:Array Value):CM w a d ((w.alloc (.cells a 36)).alloc (.cells d 75)):=by
 refine ⟨((Below.refl _ _).alloc (Nat.le_refl _) _).alloc (by simp) _,(Lk.new _ _ _).alloc _, ?_⟩
 have:=Lk.new (w.alloc (.cells a 36)) d 75
 simpa using this
structure mflagsI (c:MClass) (m:MMethod):Prop where
 fl:inI m.flags 0 15=true
 ab:hasI m.flags 8=true→m.flags=8∧hasI c.flags 4=true
 fa:hasI m.flags 8=false→hasI c.flags 1=true→m.flags=1
theorem methodFlags_any (c:MClass) (m:MMethod) (vp vi vf vm:Value) (B:Nat) (a5:Option Addr) (n5 k5:Nat) (a6:Option Addr) (n6 k6:Nat) (w:World) (h:ClassW w B vp vi vf vm c) :
  Calls Tryz.prog 184 #[.agg #[vp,.int .i64 c.flags,.int .i64 c.name,.int .i64 c.super,vi,vf,vm],.agg #[.int .i64 m.flags,.int .i64 m.name,.int .i64 m.desc,.int .i64 m.deep,.int .i64 m.locals,.string m.code,.slice a5 n5 k5,.slice a6 n6 k6]] w fun e w'=>∃ b:Bool,e=.returned (.bool b)∧(b=true↔mflagsI c m)∧Below w.heap.size w w':=by
 obtain ⟨o1,j1,hv1⟩:=own_len h.p
 obtain ⟨o2,j2,hv2⟩:=own_len h.i
 obtain ⟨o3,j3,hv3⟩:=own_len h.f
 obtain ⟨o4,j4,hv4⟩:=h.m.len
 subst hv1 hv2 hv3 hv4
 have P0:=CM.start w (arrK (.slice o1 c.pool.length j1) c.flags c.name c.super (.slice o2 c.faces.length j2) (.slice o3 c.fields.length j3) (.slice o4 c.methods.length j4)) (arrQ m (.slice a5 n5 k5) (.slice a6 n6 k6))
 have hW:=fun W=>withinI_any m.flags 15 W
 have h8:=fun W=>has_any m.flags 8 W
 have h4:=fun W=>has_any c.flags 4 W
 have h1:=fun W=>has_any c.flags 1 W
 obtain ⟨q0,hq0⟩:∃ q,Hid (inI m.flags 0 15=q):=⟨_,hid rfl⟩
 obtain ⟨q8,hq8⟩:∃ q,Hid (hasI m.flags 8=q):=⟨_,hid rfl⟩
 obtain ⟨q4,hq4⟩:∃ q,Hid (hasI c.flags 4=q):=⟨_,hid rfl⟩
 obtain ⟨q1,hq1⟩:∃ q,Hid (hasI c.flags 1=q):=⟨_,hid rfl⟩
 rw [hq0.out] at hW
 rw [hq8.out] at h8
 rw [hq4.out] at h4
 rw [hq1.out] at h1
 have HB:=hid P0.b
 have HY:=hid (show mflagsI c m↔(q0=true∧(q8=true→m.flags=8∧q4=true)∧(q8=false→q1=true→m.flags=1)) from
  ⟨fun h=>⟨by rw [← hq0.out];exact h.fl,by rw [← hq8.out,← hq4.out];exact h.ab,by rw [← hq8.out,← hq1.out];exact h.fa⟩,
   fun h=>⟨by rw [hq0.out];exact h.1,by rw [hq8.out,hq4.out];exact h.2.1,by rw [hq8.out,hq1.out];exact h.2.2⟩⟩)
 clear h P0 hq0 hq8 hq4 hq1
 generalize mflagsI c m=P at HY ⊢
 obtain ⟨mf,mn,md,mp,ml,mc,mt,mr⟩:=m
 simp only at hW h8 HY HB
 cases q0 with
 | false=>
  go_enter Tryz.func184,Tryz.ntmps184
  go_wp2_with (first|(go_at_call 175;refine (hW _).mono ?_;rintro e w1 ⟨rfl,hw⟩;replace hw:=hw.symm;subst hw)|(go_at_call_of 176 (8:Int);refine (h8 _).mono ?_;rintro e w2 ⟨rfl,hw⟩;replace hw:=hw.symm;subst hw)|(go_at_call_of 176 (4:Int);refine (h4 _).mono ?_;rintro e w3 ⟨rfl,hw⟩;replace hw:=hw.symm;subst hw)|(go_at_call_of 176 (1:Int);refine (h1 _).mono ?_;rintro e w4 ⟨rfl,hw⟩;replace hw:=hw.symm;subst hw))
  go_ret
  have hy:=HY.out
  first|exact ⟨false,rfl,⟨fun h=>(by cases h),fun h=>absurd (hy.1 h) (by simp [])⟩,HB.out⟩|exact ⟨false,ret_bool (by simp []),⟨fun h=>(by cases h),fun h=>absurd (hy.1 h) (by simp [])⟩,HB.out⟩|exact .inl ⟨rfl,fun h=>absurd (hy.1 h) (by simp []),HB.out⟩
 | true=>
 cases q8 with
 | true=>
  by_cases h88:mf=8
  ·subst h88
   cases q4 with
   | false=>
    go_enter Tryz.func184,Tryz.ntmps184
    go_wp2_with (first|(go_at_call 175;refine (hW _).mono ?_;rintro e w1 ⟨rfl,hw⟩;replace hw:=hw.symm;subst hw)|(go_at_call_of 176 (8:Int);refine (h8 _).mono ?_;rintro e w2 ⟨rfl,hw⟩;replace hw:=hw.symm;subst hw)|(go_at_call_of 176 (4:Int);refine (h4 _).mono ?_;rintro e w3 ⟨rfl,hw⟩;replace hw:=hw.symm;subst hw)|(go_at_call_of 176 (1:Int);refine (h1 _).mono ?_;rintro e w4 ⟨rfl,hw⟩;replace hw:=hw.symm;subst hw))
    go_ret
    have hy:=HY.out
    first|exact ⟨false,rfl,⟨fun h=>(by cases h),fun h=>absurd (hy.1 h) (by simp [])⟩,HB.out⟩|exact ⟨false,ret_bool (by simp []),⟨fun h=>(by cases h),fun h=>absurd (hy.1 h) (by simp [])⟩,HB.out⟩|exact .inl ⟨rfl,fun h=>absurd (hy.1 h) (by simp []),HB.out⟩
   | true=>
    go_enter Tryz.func184,Tryz.ntmps184
    go_wp2_with (first|(go_at_call 175;refine (hW _).mono ?_;rintro e w1 ⟨rfl,hw⟩;replace hw:=hw.symm;subst hw)|(go_at_call_of 176 (8:Int);refine (h8 _).mono ?_;rintro e w2 ⟨rfl,hw⟩;replace hw:=hw.symm;subst hw)|(go_at_call_of 176 (4:Int);refine (h4 _).mono ?_;rintro e w3 ⟨rfl,hw⟩;replace hw:=hw.symm;subst hw)|(go_at_call_of 176 (1:Int);refine (h1 _).mono ?_;rintro e w4 ⟨rfl,hw⟩;replace hw:=hw.symm;subst hw))
    go_ret
    have hy:=HY.out
    first|exact ⟨true,rfl,⟨fun _=>hy.2 (by simp []),fun _=>rfl⟩,HB.out⟩|exact ⟨true,ret_bool (by simp []),⟨fun _=>hy.2 (by simp []),fun _=>rfl⟩,HB.out⟩|exact .inr ⟨rfl,hy.2 (by simp []),HB.out⟩
  ·go_enter Tryz.func184,Tryz.ntmps184
   go_wp2_with (first|(go_at_call 175;refine (hW _).mono ?_;rintro e w1 ⟨rfl,hw⟩;replace hw:=hw.symm;subst hw)|(go_at_call_of 176 (8:Int);refine (h8 _).mono ?_;rintro e w2 ⟨rfl,hw⟩;replace hw:=hw.symm;subst hw)|(go_at_call_of 176 (4:Int);refine (h4 _).mono ?_;rintro e w3 ⟨rfl,hw⟩;replace hw:=hw.symm;subst hw)|(go_at_call_of 176 (1:Int);refine (h1 _).mono ?_;rintro e w4 ⟨rfl,hw⟩;replace hw:=hw.symm;subst hw))
   go_ret
   have hy:=HY.out
   first|exact ⟨false,rfl,⟨fun h=>(by cases h),fun h=>absurd (hy.1 h) (by simp [h88])⟩,HB.out⟩|exact ⟨false,ret_bool (by simp [h88]),⟨fun h=>(by cases h),fun h=>absurd (hy.1 h) (by simp [h88])⟩,HB.out⟩|exact .inl ⟨rfl,fun h=>absurd (hy.1 h) (by simp [h88]),HB.out⟩
 | false=>
  cases q1 with
  | false=>
   go_enter Tryz.func184,Tryz.ntmps184
   go_wp2_with (first|(go_at_call 175;refine (hW _).mono ?_;rintro e w1 ⟨rfl,hw⟩;replace hw:=hw.symm;subst hw)|(go_at_call_of 176 (8:Int);refine (h8 _).mono ?_;rintro e w2 ⟨rfl,hw⟩;replace hw:=hw.symm;subst hw)|(go_at_call_of 176 (4:Int);refine (h4 _).mono ?_;rintro e w3 ⟨rfl,hw⟩;replace hw:=hw.symm;subst hw)|(go_at_call_of 176 (1:Int);refine (h1 _).mono ?_;rintro e w4 ⟨rfl,hw⟩;replace hw:=hw.symm;subst hw))
   go_ret
   have hy:=HY.out
   first|exact ⟨true,rfl,⟨fun _=>hy.2 (by simp []),fun _=>rfl⟩,HB.out⟩|exact ⟨true,ret_bool (by simp []),⟨fun _=>hy.2 (by simp []),fun _=>rfl⟩,HB.out⟩|exact .inr ⟨rfl,hy.2 (by simp []),HB.out⟩
  | true=>
   by_cases h11:mf=1
   ·subst h11
    go_enter Tryz.func184,Tryz.ntmps184
    go_wp2_with (first|(go_at_call 175;refine (hW _).mono ?_;rintro e w1 ⟨rfl,hw⟩;replace hw:=hw.symm;subst hw)|(go_at_call_of 176 (8:Int);refine (h8 _).mono ?_;rintro e w2 ⟨rfl,hw⟩;replace hw:=hw.symm;subst hw)|(go_at_call_of 176 (4:Int);refine (h4 _).mono ?_;rintro e w3 ⟨rfl,hw⟩;replace hw:=hw.symm;subst hw)|(go_at_call_of 176 (1:Int);refine (h1 _).mono ?_;rintro e w4 ⟨rfl,hw⟩;replace hw:=hw.symm;subst hw))
    go_ret
    have hy:=HY.out
    first|exact ⟨true,rfl,⟨fun _=>hy.2 (by simp []),fun _=>rfl⟩,HB.out⟩|exact ⟨true,ret_bool (by simp []),⟨fun _=>hy.2 (by simp []),fun _=>rfl⟩,HB.out⟩|exact .inr ⟨rfl,hy.2 (by simp []),HB.out⟩
   ·go_enter Tryz.func184,Tryz.ntmps184
    go_wp2_with (first|(go_at_call 175;refine (hW _).mono ?_;rintro e w1 ⟨rfl,hw⟩;replace hw:=hw.symm;subst hw)|(go_at_call_of 176 (8:Int);refine (h8 _).mono ?_;rintro e w2 ⟨rfl,hw⟩;replace hw:=hw.symm;subst hw)|(go_at_call_of 176 (4:Int);refine (h4 _).mono ?_;rintro e w3 ⟨rfl,hw⟩;replace hw:=hw.symm;subst hw)|(go_at_call_of 176 (1:Int);refine (h1 _).mono ?_;rintro e w4 ⟨rfl,hw⟩;replace hw:=hw.symm;subst hw))
    go_ret
    have hy:=HY.out
    first|exact ⟨false,rfl,⟨fun h=>(by cases h),fun h=>absurd (hy.1 h) (by simp [h11])⟩,HB.out⟩|exact ⟨false,ret_bool (by simp [h11]),⟨fun h=>(by cases h),fun h=>absurd (hy.1 h) (by simp [h11])⟩,HB.out⟩|exact .inl ⟨rfl,fun h=>absurd (hy.1 h) (by simp [h11]),HB.out⟩
theorem l3FindT_any (v:Value) (ts:List MIns) (x:Int) (w:World) (hl:ts.length≤1048576) (h:OpsW w v ts) (q:Bool) (hq:atB ts x=q) :
  Calls Tryz.prog 162 #[v,.int .i64 x] w fun e w'=>∃ r:Int,e=.returned (.int .i64 r)∧(if q then 0≤r else r<0)∧Below w.heap.size w w':=by
 refine (l3Find_any v ts x w hl h).mono ?_
 rintro e w' ⟨r,rfl,hr,hb⟩
 refine ⟨r,rfl, ?_,hb⟩
 rw [hq] at hr
 cases q with
 | true=>exact hr.2 rfl
 | false=>
  show r<0
  have:¬0≤r:=fun h=>by have:=hr.1 h;cases this
  omega
def arrN (x:MIns):Array Value:=#[.int .i64 x.at_,.int .i64 x.op,.int .i64 x.num]
theorem Lk.n3 {W:World} {C:Nat} {x:MIns} {T:TypeId} (h:Lk W C (arrN x) T):W.cell? ⟨C,0,none⟩=some (.int .i64 x.at_)∧W.cell? ⟨C,1,none⟩=some (.int .i64 x.op)∧W.cell? ⟨C,2,none⟩=some (.int .i64 x.num):=⟨h.c 0 _ rfl,h.c 1 _ rfl,h.c 2 _ rfl⟩
theorem entry_none {x:Int} (h:¬(19≤x∧x≤29)):entryI x=0:=by unfold entryI;rw [if_neg h]
theorem entry_some {x:Int} (h:19≤x∧x≤29):entryI x=kindOf x:=by unfold entryI;rw [if_pos h]
theorem kindOf_pos (x:Int):kindOf x≠0:=by unfold kindOf;repeat (first|omega|split)
theorem l4Ins_any (c:MClass) (m:MMethod) (vp vi vf vm vo:Value) (B:Nat) (a5:Option Addr) (n5 k5:Nat) (a6:Option Addr) (n6 k6:Nat) (os:List MIns) (x:MIns) (w:World) (hc:c.few) (hol:os.length≤1048576) (h:ClassW w B vp vi vf vm c) (hos:OpsW w vo os) :
  Calls Tryz.prog 119 #[.agg #[vp,.int .i64 c.flags,.int .i64 c.name,.int .i64 c.super,vi,vf,vm],.agg #[.int .i64 m.flags,.int .i64 m.name,.int .i64 m.desc,.int .i64 m.deep,.int .i64 m.locals,.string m.code,.slice a5 n5 k5,.slice a6 n6 k6],vo,.agg #[.int .i64 x.at_,.int .i64 x.op,.int .i64 x.num]] w fun e w'=>e=.returned (.bool (opB c.pool m.locals os x))∧Below w.heap.size w w':=by
 obtain ⟨o1,j1,hv1⟩:=own_len h.p
 obtain ⟨o2,j2,hv2⟩:=own_len h.i
 obtain ⟨o3,j3,hv3⟩:=own_len h.f
 obtain ⟨o4,j4,hv4⟩:=h.m.len
 obtain ⟨o5,j5,hv5⟩:=hos.len
 subst hv1 hv2 hv3 hv4 hv5
 have P0:=HB.three w (arrK (.slice o1 c.pool.length j1) c.flags c.name c.super (.slice o2 c.faces.length j2) (.slice o3 c.fields.length j3) (.slice o4 c.methods.length j4)) (arrQ m (.slice a5 n5 k5) (.slice a6 n6 k6)) (arrN x) 36 75 169
 have hPW:PoolW w (.slice o1 c.pool.length j1) c.pool:=⟨B,h.p⟩
 have hpl:=hc.pool
 have hI1:=fun W=>l1InI_any x.op 3 6 W
 have hI2:=fun W=>l1InI_any x.op 14 18 W
 have hB0:=P0.b
 have HB0:=hid hB0
 unfold opB
 clear h hc
 by_cases h1:3≤x.op∧x.op≤6
 ·rw [if_pos h1]
  have e1:inI x.op 3 6=true:=by unfold inI;simp;exact h1
  rw [e1] at hI1
  clear P0 hB0 hI2 h1 e1 hos hPW
  go_enter Tryz.func119,Tryz.ntmps119
  go_wp2_with (go_at_call 84;refine (hI1 _).mono ?_;rintro e w1 ⟨rfl,hw⟩;replace hw:=hw.symm;subst hw)
  go_ret
  exact ⟨rfl,HB0.out⟩
 rw [if_neg h1]
 have e1:inI x.op 3 6=false:=by unfold inI;simp;omega
 rw [e1] at hI1
 by_cases h2:14≤x.op∧x.op≤18
 ·rw [if_pos h2]
  have e2:inI x.op 14 18=true:=by unfold inI;simp;exact h2
  rw [e2] at hI2
  obtain ⟨q,hq⟩:∃ q,atB os x.num=q:=⟨_,rfl⟩
  have hF:=l3FindT_any _ os x.num _ hol (hos.keep hB0) q hq
  rw [hq]
  clear P0 hB0 h1 h2 e1 e2 hos hPW hq
  go_enter Tryz.func119,Tryz.ntmps119
  go_wp2_with (first|(go_at_call_of 84 (3:Int);refine (hI1 _).mono ?_;rintro e w1 ⟨rfl,hw⟩;replace hw:=hw.symm;subst hw)|(go_at_call_of 84 (14:Int);refine (hI2 _).mono ?_;rintro e w1 ⟨rfl,hw⟩;replace hw:=hw.symm;subst hw))
  refine hF.mono ?_
  rintro e w2 ⟨r,rfl,hr,hb2⟩
  have HB2:=hid (HB0.out.trans (hb2.mono HB0.out.size))
  have HR:=hid hr
  clear hb2 hF hr
  go_wp2
  go_ret
  refine ⟨ret_bool ?_,HB2.out⟩
  have:=HR.out
  cases q with
  | true=>simpa using this
  | false=>simpa using this
 rw [if_neg h2]
 have e2:inI x.op 14 18=false:=by unfold inI;simp;omega
 rw [e2] at hI2
 have hE:=fun W=>l4Entry_any x.op W
 by_cases h3:19≤x.op∧x.op≤29
 ·rw [if_pos h3]
  rw [entry_some h3] at hE
  have hS:=l2Is_any _ c.pool x.num (kindOf x.op) _ hpl (hPW.keep hB0)
  have hk:=kindOf_pos x.op
  generalize kindOf x.op=kk at hE hS hk ⊢
  generalize decide ((atC c.pool x.num).kind=kk)=q at hS ⊢
  clear P0 hB0 h1 h2 h3 e1 e2 hos hPW
  go_enter Tryz.func119,Tryz.ntmps119
  go_wp2_with (first|(go_at_call_of 84 (3:Int);refine (hI1 _).mono ?_;rintro e w1 ⟨rfl,hw⟩;replace hw:=hw.symm;subst hw)|(go_at_call_of 84 (14:Int);refine (hI2 _).mono ?_;rintro e w1 ⟨rfl,hw⟩;replace hw:=hw.symm;subst hw)|(go_at_call 163;refine (hE _).mono ?_;rintro e w1 ⟨rfl,hw⟩;replace hw:=hw.symm;subst hw))
  refine hS.mono ?_
  rintro e w2 ⟨rfl,hb2⟩
  have HB2:=hid (HB0.out.trans (hb2.mono HB0.out.size))
  clear hb2 hS
  go_wp2
  go_ret
  exact ⟨ret_bool (by simp [hk]),HB2.out⟩
 ·rw [if_neg h3]
  rw [entry_none h3] at hE
  clear P0 hB0 h1 h2 h3 e1 e2 hos hPW
  go_enter Tryz.func119,Tryz.ntmps119
  go_wp2_with (first|(go_at_call_of 84 (3:Int);refine (hI1 _).mono ?_;rintro e w1 ⟨rfl,hw⟩;replace hw:=hw.symm;subst hw)|(go_at_call_of 84 (14:Int);refine (hI2 _).mono ?_;rintro e w1 ⟨rfl,hw⟩;replace hw:=hw.symm;subst hw)|(go_at_call 163;refine (hE _).mono ?_;rintro e w1 ⟨rfl,hw⟩;replace hw:=hw.symm;subst hw))
  go_ret
  exact ⟨rfl,HB0.out⟩
def arrT (t:MTrap):Array Value:=#[.int .i64 t.from_,.int .i64 t.to_,.int .i64 t.at_,.int .i64 t.cls]
theorem Lk.t4 {W:World} {C:Nat} {t:MTrap} {T:TypeId} (h:Lk W C (arrT t) T):W.cell? ⟨C,0,none⟩=some (.int .i64 t.from_)∧W.cell? ⟨C,1,none⟩=some (.int .i64 t.to_)∧W.cell? ⟨C,2,none⟩=some (.int .i64 t.at_)∧W.cell? ⟨C,3,none⟩=some (.int .i64 t.cls):=⟨h.c 0 _ rfl,h.c 1 _ rfl,h.c 2 _ rfl,h.c 3 _ rfl⟩
theorem cls_bne (ts:List C4) (i:Int):((clsT ts i).toList != [])=clsC ts i:=by
 have:=clsT_iff ts i
 rw [bne,show ((clsT ts i).toList==[])=(clsT ts i).toList.isEmpty by cases (clsT ts i).toList<;>rfl,this]
 cases clsC ts i<;>rfl
theorem l4Trap_any (c:MClass) (m:MMethod) (vp vi vf vm vo:Value) (B:Nat) (a5:Option Addr) (n5 k5:Nat) (a6:Option Addr) (n6 k6:Nat) (os:List MIns) (t:MTrap) (w:World) (hc:c.few) (hol:os.length≤1048576) (h:ClassW w B vp vi vf vm c) (hos:OpsW w vo os) :
  Calls Tryz.prog 120 #[.agg #[vp,.int .i64 c.flags,.int .i64 c.name,.int .i64 c.super,vi,vf,vm],.agg #[.int .i64 m.flags,.int .i64 m.name,.int .i64 m.desc,.int .i64 m.deep,.int .i64 m.locals,.string m.code,.slice a5 n5 k5,.slice a6 n6 k6],vo,.agg #[.int .i64 t.from_,.int .i64 t.to_,.int .i64 t.at_,.int .i64 t.cls]] w fun e w'=>e=.returned (.bool (trapB (clsC c.pool) m.code.size os t))∧Below w.heap.size w w':=by
 obtain ⟨o1,j1,hv1⟩:=own_len h.p
 obtain ⟨o2,j2,hv2⟩:=own_len h.i
 obtain ⟨o3,j3,hv3⟩:=own_len h.f
 obtain ⟨o4,j4,hv4⟩:=h.m.len
 obtain ⟨o5,j5,hv5⟩:=hos.len
 subst hv1 hv2 hv3 hv4 hv5
 have P0:=HB.three w (arrK (.slice o1 c.pool.length j1) c.flags c.name c.super (.slice o2 c.faces.length j2) (.slice o3 c.fields.length j3) (.slice o4 c.methods.length j4)) (arrQ m (.slice a5 n5 k5) (.slice a6 n6 k6)) (arrT t) 36 75 140
 have hPW:PoolW w (.slice o1 c.pool.length j1) c.pool:=⟨B,h.p⟩
 have HF:=hid (fun x W (hW:HB w [(w.heap.size+1+1,arrT t,140),(w.heap.size+1,arrQ m (.slice a5 n5 k5) (.slice a6 n6 k6),75),(w.heap.size,arrK (.slice o1 c.pool.length j1) c.flags c.name c.super (.slice o2 c.faces.length j2) (.slice o3 c.fields.length j3) (.slice o4 c.methods.length j4),36)] W) q hq=>l3FindT_any (.slice o5 os.length j5) os x W hol (hos.keep hW.b) q hq)
 have HC:=hid (fun W (hW:HB w [(w.heap.size+1+1,arrT t,140),(w.heap.size+1,arrQ m (.slice a5 n5 k5) (.slice a6 n6 k6),75),(w.heap.size,arrK (.slice o1 c.pool.length j1) c.flags c.name c.super (.slice o2 c.faces.length j2) (.slice o3 c.fields.length j3) (.slice o4 c.methods.length j4),36)] W)=>l2Class_any (.slice o1 c.pool.length j1) c.pool t.cls W hc.pool hc.texts (hPW.keep hW.b))
 have HT:=hid (cls_bne c.pool t.cls)
 have HR:=hid (show trapB (clsC c.pool) m.code.size os t=(decide (t.from_<t.to_) && atB os t.from_ && atB os t.at_ && (decide (t.to_=(m.code.size:Int)) || atB os t.to_) && (decide (t.cls=0) || clsC c.pool t.cls)) from rfl)
 generalize trapB (clsC c.pool) m.code.size os t=R at HR ⊢
 generalize clsC c.pool t.cls=kk at HR HT
 generalize clsT c.pool t.cls=kt at HC HT
 obtain ⟨q1,hq1⟩:∃ q,Hid (atB os t.from_=q):=⟨_,hid rfl⟩
 obtain ⟨q2,hq2⟩:∃ q,Hid (atB os t.to_=q):=⟨_,hid rfl⟩
 obtain ⟨q3,hq3⟩:∃ q,Hid (atB os t.at_=q):=⟨_,hid rfl⟩
 rw [hq1.out,hq2.out,hq3.out] at HR
 have HB0:=hid P0.b
 clear h hc hPW hos hol
 by_cases h1:¬t.from_<t.to_
 ·have e1:decide (t.from_<t.to_)=false:=by simpa using h1
  rw [e1] at HR
  clear P0 HF HC HT hq1 hq2 hq3 e1
  go_enter Tryz.func120,Tryz.ntmps120
  go_wp2
  go_ret
  exact ⟨ret_bool (by rw [HR.out];simp),HB0.out⟩
 replace h1:=Classical.not_not.1 h1
 have e1:decide (t.from_<t.to_)=true:=by simpa using h1
 rw [e1] at HR
 clear e1
 obtain ⟨t0,t1,t2,t3⟩:=P0.hd.t4
 obtain ⟨d0,d1,d2,d3,d4,d5,d6,d7⟩:=P0.tl.hd.q8
 obtain ⟨c0,c1,c2,c3,c4,c5,c6⟩:=P0.tl.tl.hd.k7
 have hF1:=HF.out t.from_ _ P0 q1 hq1.out
 go_enter Tryz.func120,Tryz.ntmps120
 go_wp2_with fail
 refine (hF1).mono ?_
 rintro e w1 ⟨r,rfl,hr,hb⟩
 have P1:=P0.keep hb
 clear P0 hb hF1 t0 t1 t2 t3 d0 d1 d2 d3 d4 d5 d6 d7 c0 c1 c2 c3 c4 c5 c6
 obtain ⟨t0,t1,t2,t3⟩:=P1.hd.t4
 obtain ⟨d0,d1,d2,d3,d4,d5,d6,d7⟩:=P1.tl.hd.q8
 obtain ⟨c0,c1,c2,c3,c4,c5,c6⟩:=P1.tl.tl.hd.k7
 have HBP1:=hid P1.b
 cases q1 with
 | false=>
  simp at hr
  clear P1 HF HC hq1 hq2 hq3 HB0
  go_wp2
  go_ret
  exact ⟨ret_bool (by rw [HR.out];simp),HBP1.out⟩
 | true=>
 simp at hr
 clear HB0 hq1
 by_cases hn:t.to_=(m.code.size:Int)
 ·have e2:decide (t.to_=(m.code.size:Int))=true:=by simpa using hn
  rw [e2] at HR
  clear e2
  go_wp2_with fail
  refine (HF.out t.at_ _ P1 q3 hq3.out).mono ?_
  rintro e w7 ⟨r,rfl,hr,hb⟩
  have P7:=P1.keep hb
  clear P1 hb t0 t1 t2 t3 d0 d1 d2 d3 d4 d5 d6 d7 c0 c1 c2 c3 c4 c5 c6
  obtain ⟨t0,t1,t2,t3⟩:=P7.hd.t4
  obtain ⟨d0,d1,d2,d3,d4,d5,d6,d7⟩:=P7.tl.hd.q8
  obtain ⟨c0,c1,c2,c3,c4,c5,c6⟩:=P7.tl.tl.hd.k7
  have HBP7:=hid P7.b
  cases q3 with
  | false=>
   simp at hr
   clear P7 HF HC hq3
   go_wp2
   go_ret
   exact ⟨ret_bool (by rw [HR.out];simp),HBP7.out⟩
  | true=>
  simp at hr
  by_cases hz:t.cls=0
  ·rw [hz] at t3
   simp only [hz,decide_true] at HR
   clear P7 HF HC hq3 hz
   go_wp2
   go_ret
   exact ⟨ret_bool (by rw [HR.out];simp),HBP7.out⟩
  ·have hz':decide (t.cls=0)=false:=by simpa using hz
   rw [hz'] at HR
   have hC:=HC.out _ P7
   clear HF HC hq3 hz'
   go_wp2_with fail
   refine hC.mono ?_
   rintro e w8 ⟨rfl,hb8⟩
   have HB8:=hid (HBP7.out.trans (hb8.mono HBP7.out.size))
   clear hb8 hC P7 HBP7
   go_wp2
   go_ret
   refine ⟨ret_bool ?_,HB8.out⟩
   rw [HR.out]
   have hk:(!kt.toList.isEmpty)=kk:=by rw [← HT.out];cases kt.toList<;>rfl
   simp [hz,hk]
 ·have e2:decide (t.to_=(m.code.size:Int))=false:=by simpa using hn
  rw [e2] at HR
  clear e2
  have hF2:=HF.out t.to_ _ P1 q2 hq2.out
  go_wp2_with fail
  refine (hF2).mono ?_
  rintro e w2 ⟨r2,rfl,hr2,hb⟩
  have P2:=P1.keep hb
  clear P1 hb hF2 t0 t1 t2 t3 d0 d1 d2 d3 d4 d5 d6 d7 c0 c1 c2 c3 c4 c5 c6
  obtain ⟨t0,t1,t2,t3⟩:=P2.hd.t4
  obtain ⟨d0,d1,d2,d3,d4,d5,d6,d7⟩:=P2.tl.hd.q8
  obtain ⟨c0,c1,c2,c3,c4,c5,c6⟩:=P2.tl.tl.hd.k7
  have HBP2:=hid P2.b
  cases q2 with
  | false=>
   simp at hr2
   clear P2 HF HC hq2 hq3
   go_wp2
   go_ret
   exact ⟨ret_bool (by rw [HR.out];simp),HBP2.out⟩
  | true=>
  simp at hr2
  go_wp2_with fail
  refine (HF.out t.at_ _ P2 q3 hq3.out).mono ?_
  rintro e w7 ⟨r,rfl,hr,hb⟩
  have P7:=P2.keep hb
  clear P2 hb t0 t1 t2 t3 d0 d1 d2 d3 d4 d5 d6 d7 c0 c1 c2 c3 c4 c5 c6
  obtain ⟨t0,t1,t2,t3⟩:=P7.hd.t4
  obtain ⟨d0,d1,d2,d3,d4,d5,d6,d7⟩:=P7.tl.hd.q8
  obtain ⟨c0,c1,c2,c3,c4,c5,c6⟩:=P7.tl.tl.hd.k7
  have HBP7:=hid P7.b
  cases q3 with
  | false=>
   simp at hr
   clear P7 HF HC hq3
   go_wp2
   go_ret
   exact ⟨ret_bool (by rw [HR.out];simp),HBP7.out⟩
  | true=>
  simp at hr
  by_cases hz:t.cls=0
  ·rw [hz] at t3
   simp only [hz,decide_true] at HR
   clear P7 HF HC hq3 hz
   go_wp2
   go_ret
   exact ⟨ret_bool (by rw [HR.out];simp),HBP7.out⟩
  ·have hz':decide (t.cls=0)=false:=by simpa using hz
   rw [hz'] at HR
   have hC:=HC.out _ P7
   clear HF HC hq3 hz'
   go_wp2_with fail
   refine hC.mono ?_
   rintro e w8 ⟨rfl,hb8⟩
   have HB8:=hid (HBP7.out.trans (hb8.mono HBP7.out.size))
   clear hb8 hC P7 HBP7
   go_wp2
   go_ret
   refine ⟨ret_bool ?_,HB8.out⟩
   rw [HR.out]
   have hk:(!kt.toList.isEmpty)=kk:=by rw [← HT.out];cases kt.toList<;>rfl
   simp [hz,hk]
def cmpI (a b:Int):Int:=if a<b then -1 else if b<a then 1 else 0
theorem isNaN_any (a:Int) (w:World):Calls Tryz.prog 256 #[.int .i64 a] w fun e w'=>e=.returned (.bool false)∧w'=w:=by
 go_enter Tryz.func256,Tryz.ntmps256
 go_wp2
 go_ret
 exact ⟨ret_bool (by simp),rfl⟩
theorem compare_any (a b:Int) (w:World):Calls Tryz.prog 245 #[.int .i64 a,.int .i64 b] w fun e w'=>e=.returned (.int .i64 (cmpI a b))∧w'=w:=by
 have HA:Hid (cmpI a b=if a<b then -1 else if b<a then 1 else 0):=rfl
 go_enter Tryz.func245,Tryz.ntmps245
 go_wp2_with (go_at_call 256;refine (isNaN_any _ _).mono ?_;rintro e w1 ⟨rfl,hw⟩;replace hw:=hw.symm;subst hw)
 all_goals go_ret
 all_goals refine ⟨ret_i64 ?_,rfl⟩
 all_goals (rw [HA.out];repeat (first|omega|split))
theorem cmpFn_any (t:MIns) (x:Int) (w:World) :
  Calls Tryz.prog 244 #[.agg #[.int .i64 t.at_,.int .i64 t.op,.int .i64 t.num],.int .i64 x] w fun e w'=>e=.returned (.int .i64 (cmpI t.at_ x))∧Below w.heap.size w w':=by
 have hbo:=(Below.refl w.heap.size w).alloc (Nat.le_refl _) (.cells #[.int .i64 t.at_,.int .i64 t.op,.int .i64 t.num] 169)
 have HO:=hid hbo
 clear hbo
 go_enter Tryz.func244,Tryz.ntmps244
 go_wp2_with (go_at_call 245;refine (compare_any _ _ _).mono ?_;rintro e w1 ⟨rfl,hw⟩;replace hw:=hw.symm;subst hw)
 go_ret
 exact ⟨rfl,HO.out⟩
theorem search_any (v:Value) (ts:List MIns) (x:Int) (w:World) (hl:ts.length≤1048576) (h:OpsW w v ts) (ha:ascO ts) :
  Calls Tryz.prog 243 #[v,.int .i64 x,.func (.func 244) #[] #[]] w fun e w'=>∃ r:Int,e=.returned (.tuple #[.int .i64 r,.bool (atB ts x)])∧Below w.heap.size w w':=by
 obtain ⟨B,ho⟩:=h
 obtain ⟨ao,cap,hv⟩:=own_len ho
 subst hv
 have HO:=hid ho
 have HA:=hid ha
 clear ho ha
 go_enter Tryz.func243,Tryz.ntmps243
 go_wp2_with fail
 go_loopw [9,10] (fun i j wr=>∃ (a b:Nat),a≤b∧b≤ts.length∧i=.int .i64 a∧j=.int .i64 b∧Hid (∀ k (h:k<ts.length),k<a→ts[k].at_<x)∧Hid (∀ k (h:k<ts.length),b≤k→x≤ts[k].at_)∧Hid (Below w.heap.size w wr)) (fun i j _=>(intOf j).toNat - (intOf i).toNat)
 case atStart=>exact ⟨0,ts.length,by omega,by omega,rfl,rfl,fun k _ h=>by omega,fun k hk h=>by omega,Below.refl _ _⟩
 case round=>
  obtain ⟨a,b,hab,hbl,rfl,rfl,HL,HG,HB⟩:=hrel
  by_cases hlt:a<b
  ·obtain ⟨g,hg⟩:=own_some HO.out (by omega)
   subst hg
   obtain ⟨m,hm⟩:∃ m:Nat,((a:Int)+(b:Int)) / 2=(m:Int):=⟨(a+b) / 2,by omega⟩
   have hma:a≤m:=by omega
   have hmb:m<b:=by omega
   have hml:m<ts.length:=by omega
   obtain ⟨c0,c1,c2⟩:=ownIns_at (own_below HO.out HB.out) hml
   generalize hT:ts[m]=t at c0 c1 c2
   have HT:=hid hT
   have HM:=hid hm
   clear hT hm
   go_upto_region 5 with fail
   rw [HM.out]
   obtain ⟨r,hr⟩:∃ r,Hid (cmpI t.at_ x=r):=⟨_,hid rfl⟩
   have hC:=cmpFn_any t x wr
   rw [hr.out] at hC
   go_wp2_with fail
   refine hC.mono ?_
   rintro e w1 ⟨rfl,hb1⟩
   have HB1:=hid (HB.out.trans (hb1.mono HB.out.size))
   clear hb1 hC c0 c1 c2
   by_cases hx:t.at_<x
   ·have hr1:r = -1:=by rw [← hr.out];unfold cmpI;rw [if_pos hx]
    have HL':=hid (show ∀ k (h:k<ts.length),k<m+1→ts[k].at_<x from fun k hk h=>by
     by_cases e:k=m
     ·subst e;rw [HT.out];exact hx
     ·have:=HA.out m hml k (by omega)
      rw [HT.out] at this
      omega)
    clear hr HM HT
    subst hr1
    go_wp2
    go_roundw
    case rel=>exact ⟨m+1,b,by omega,by omega,by go_num,rfl,HL',HG,HB1⟩
    case measure=>simp [intOf];omega
   ·have hr1:0≤r:=by rw [← hr.out];unfold cmpI;rw [if_neg hx];split<;>omega
    have HG':=hid (show ∀ k (h:k<ts.length),m≤k→x≤ts[k].at_ from fun k hk h=>by
     by_cases e:k=m
     ·subst e;rw [HT.out];omega
     ·have:=HA.out k hk m (by omega)
      rw [HT.out] at this
      omega)
    clear hr HM HT
    go_wp2
    go_roundw
    case rel=>exact ⟨a,m,by omega,by omega,rfl,rfl,HL,HG',HB1⟩
    case measure=>simp [intOf];omega
  ·have hab':a=b:=by omega
   subst hab'
   by_cases hn:a<ts.length
   ·obtain ⟨g,hg⟩:=own_some HO.out (by omega)
    subst hg
    obtain ⟨c0,c1,c2⟩:=ownIns_at (own_below HO.out HB.out) hn
    generalize hT:ts[a]=t at c0 c1 c2
    have HT:=hid hT
    clear hT
    obtain ⟨r,hr⟩:∃ r,Hid (cmpI t.at_ x=r):=⟨_,hid rfl⟩
    have hC:=cmpFn_any t x wr
    rw [hr.out] at hC
    have HQ:=hid (show (r==0)=atB ts x from by
     rw [← hr.out]
     have h1:atB ts x=true↔t.at_=x:=by
      rw [atB_iff]
      constructor
      ·rintro ⟨k,hk,e⟩
       by_cases e1:k<a
       ·have:=HL.out k hk e1;omega
       ·by_cases e2:k=a
        ·subst e2;rw [HT.out] at e;exact e
        ·have:=HA.out k hk a (by omega)
         have:=HG.out a hn (by omega)
         rw [HT.out] at *
         omega
      ·intro e
       exact ⟨a,hn,by rw [HT.out];exact e⟩
     unfold cmpI
     by_cases e:t.at_=x
     ·rw [h1.2 e,e];simp
     ·have:atB ts x=false:=by
       cases hh:atB ts x with
       | false=>rfl
       | true=>exact absurd (h1.1 hh) e
      rw [this]
      split
      ·rfl
      ·split
       ·rfl
       ·omega)
    clear hr HT hlt
    go_wp2_with fail
    refine hC.mono ?_
    rintro e w1 ⟨rfl,hb1⟩
    have HB1:=hid (HB.out.trans (hb1.mono HB.out.size))
    clear hb1 hC c0 c1 c2
    go_wp2
    go_ret2
    refine ⟨a, ?_,HB1.out⟩
    rw [← HQ.out]
    rfl
   ·have HQ:=hid (show atB ts x=false from by
     cases hh:atB ts x with
     | false=>rfl
     | true=>
      obtain ⟨k,hk,e⟩:=(atB_iff ts x).1 hh
      have:=HL.out k hk (by omega)
      omega)
    go_wp2
    go_ret2
    refine ⟨a, ?_,HB.out⟩
    rw [HQ.out]
    rfl
theorem isOpAt_any (v:Value) (ts:List MIns) (x:Int) (w:World) (hl:ts.length≤1048576) (h:OpsW w v ts) (ha:ascO ts) :
  Calls Tryz.prog 224 #[v,.int .i64 x] w fun e w'=>e=.returned (.bool (atB ts x))∧Below w.heap.size w w':=by
 have hC:=search_any v ts x w hl h ha
 obtain ⟨ao,cap,hv⟩:=h.len
 subst hv
 clear h ha
 go_enter Tryz.func224,Tryz.ntmps224
 go_wp2_with fail
 refine hC.mono ?_
 rintro e w1 ⟨r,rfl,hb1⟩
 have HB1:=hid hb1
 clear hb1 hC
 go_wp2
 go_ret
 exact ⟨rfl,HB1.out⟩
set_option maxHeartbeats 1000000
theorem indexKind_any (u0:Value) (v:Value) (ts:List MKind) (B:Nat) (p:Nat→Bool) (w:World) (hl:ts.length≤1048576) (ho:w.ownsRow B 144 2 v ts.length (rowKind ts))
  (hF:∀ k (h:k<ts.length) W,Below w.heap.size w W→Calls Tryz.prog 249 #[.agg #[.int .i64 ts[k].tag,.int .i64 ts[k].cls],u0] W fun e w'=>e=.returned (.bool (p k))∧Below W.heap.size W w') :
  Calls Tryz.prog 257 #[v,.func (.func 249) #[] #[u0]] w fun e w'=>∃ r:Int,e=.returned (.int .i64 r)∧(0≤r↔∃ k,k<ts.length∧p k=true)∧Below w.heap.size w w':=by
 obtain ⟨ao,cap,hv⟩:=own_len ho
 subst hv
 have HO:=hid ho
 have HF:=hid hF
 clear ho hF
 go_enter Tryz.func257,Tryz.ntmps257
 go_wp2_with fail
 go_loopw [8] (fun i wr=>∃ (k:Nat),k≤ts.length∧i=.int .i64 k∧Hid (∀ j,j<k→p j=false)∧Hid (Below w.heap.size w wr)) (fun i _=>ts.length - (intOf i).toNat)
 case atStart=>exact ⟨0,by omega,rfl,fun j hj=>by omega,Below.refl _ _⟩
 case round=>
  obtain ⟨k,hk,rfl,HE,HB⟩:=hrel
  by_cases hlt:k<ts.length
  ·obtain ⟨g,hg⟩:=own_some HO.out (by omega)
   subst hg
   obtain ⟨c0,c1⟩:=ownKind_at (own_below HO.out HB.out) hlt
   have hC:=HF.out k hlt
   generalize ts[k]=t at c0 c1 hC
   obtain ⟨q,hq⟩:∃ q,Hid (p k=q):=⟨_,hid rfl⟩
   rw [hq.out] at hC
   go_wp2_with fail
   refine (hC _ HB.out).mono ?_
   rintro e w1 ⟨rfl,hb1⟩
   have HB1:=hid (HB.out.trans (hb1.mono HB.out.size))
   clear hb1 hC c0 c1
   cases q with
   | true=>
    have HR:=hid (show ∃ j,j<ts.length∧p j=true from ⟨k,hlt,hq.out⟩)
    go_wp2
    go_ret
    exact ⟨_,rfl,⟨fun _=>HR.out,fun _=>by omega⟩,HB1.out⟩
   | false=>
    have HN:=hid (show ∀ j,j<k+1→p j=false from fun j hj=>by
     by_cases e:j=k
     ·rw [e];exact hq.out
     ·exact HE.out j (by omega))
    go_wp2
    go_roundw
    case rel=>exact ⟨k+1,by omega,by go_num,HN,HB1⟩
    case measure=>simp [intOf];omega
  ·have HN:=hid (show ¬ ∃ j,j<ts.length∧p j=true from by
    rintro ⟨j,hj,hp⟩
    have:=HE.out j (by omega)
    rw [this] at hp
    cases hp)
   go_wp2
   go_ret
   exact ⟨-1,rfl,⟨fun h=>absurd h (by omega),fun h=>absurd h HN.out⟩,HB.out⟩
theorem containsKind_any (u0:Value) (v:Value) (ts:List MKind) (B:Nat) (p:Nat→Bool) (w:World) (hl:ts.length≤1048576) (ho:w.ownsRow B 144 2 v ts.length (rowKind ts))
  (hF:∀ k (h:k<ts.length) W,Below w.heap.size w W→Calls Tryz.prog 249 #[.agg #[.int .i64 ts[k].tag,.int .i64 ts[k].cls],u0] W fun e w'=>e=.returned (.bool (p k))∧Below W.heap.size W w') :
  Calls Tryz.prog 248 #[v,.func (.func 249) #[] #[u0]] w fun e w'=>∃ b:Bool,e=.returned (.bool b)∧(b=true↔∃ k,k<ts.length∧p k=true)∧Below w.heap.size w w':=by
 have hI:=indexKind_any u0 v ts B p w hl ho hF
 clear hF ho
 go_enter Tryz.func248,Tryz.ntmps248
 go_wp2_with fail
 refine hI.mono ?_
 rintro e w1 ⟨r,rfl,hr,hb⟩
 have HR:=hid hr
 have HB:=hid hb
 clear hr hb hI
 go_wp2
 go_ret
 refine ⟨_,rfl, ?_,HB.out⟩
 rw [← HR.out]
 simp
theorem notKind_any (rv:Value) (t:MKind) (c:Nat) (q:Bool) (w:World) (hc:w.cell? ⟨c,0,none⟩=some (.func (.func 231) #[rv] #[])) (hlt:c<w.heap.size)
  (hG:∀ W,Below w.heap.size w W→Calls Tryz.prog 231 #[rv,.agg #[.int .i64 t.tag,.int .i64 t.cls]] W fun e w'=>e=.returned (.bool q)∧Below W.heap.size W w') :
  Calls Tryz.prog 249 #[.agg #[.int .i64 t.tag,.int .i64 t.cls],.pointer (some ⟨c,0,none⟩)] w fun e w'=>e=.returned (.bool (!q))∧Below w.heap.size w w':=by
 have hbo:=(Below.refl w.heap.size w).alloc (Nat.le_refl _) (.cells #[.int .i64 t.tag,.int .i64 t.cls] 144)
 have hC:=hG _ hbo
 have hne:¬c=w.heap.size:=by omega
 have HO:=hid hbo
 clear hG hbo
 go_enter Tryz.func249,Tryz.ntmps249
 go_wp2_with fail
 refine hC.mono ?_
 rintro e w1 ⟨rfl,hb1⟩
 have HB:=hid (HO.out.trans (hb1.mono HO.out.size))
 clear hb1 hC HO
 go_wp2
 go_ret
 exact ⟨rfl,HB.out⟩
theorem allKind_any (rv:Value) (v:Value) (ts:List MKind) (B:Nat) (q:Nat→Bool) (w:World) (hl:ts.length≤1048576) (ho:w.ownsRow B 144 2 v ts.length (rowKind ts))
  (hG:∀ k (h:k<ts.length) W,Below w.heap.size w W→Calls Tryz.prog 231 #[rv,.agg #[.int .i64 ts[k].tag,.int .i64 ts[k].cls]] W fun e w'=>e=.returned (.bool (q k))∧Below W.heap.size W w') :
  Calls Tryz.prog 230 #[v,.func (.func 231) #[rv] #[]] w fun e w'=>∃ b:Bool,e=.returned (.bool b)∧(b=true↔∀ k,k<ts.length→q k=true)∧Below w.heap.size w w':=by
 obtain ⟨ao,cp,hv⟩:=own_len ho
 subst hv
 have hbo:=(Below.refl w.heap.size w).alloc (Nat.le_refl _) (.cells #[.func (.func 231) #[rv] #[]] 270)
 have hC:=containsKind_any (.pointer (some ⟨w.heap.size,0,none⟩)) (.slice ao ts.length cp) ts B (fun k=>!q k) _ hl (own_below ho hbo) (fun k h W hW=>notKind_any rv ts[k] w.heap.size (q k) W ((hW.cell (p:=⟨w.heap.size,0,none⟩) (by simp)).trans (by simp [go_sem])) (by have:=hW.size;simp at this;omega) (fun W' hW'=>hG k h W' (hbo.trans ((hW.trans (hW'.mono hW.size)).mono (by simp)))))
 have hmf:∀ (fn:Fn) (first cap:Array Value) (w:World),(Instr.makeFunc fn first cap).run Tryz.prog w=.ok (.func fn first cap) w:=fun _ _ _ _=>rfl
 have HO:=hid hbo
 clear hG ho hbo
 go_enter Tryz.func230,Tryz.ntmps230
 go_wp2_with fail
 refine hC.mono ?_
 rintro e w1 ⟨b,rfl,hb,hb1⟩
 have HB:=hid (HO.out.trans (hb1.mono (by simp)))
 have HR:=hid hb
 clear hb hb1 hC HO
 go_wp2
 go_ret
 refine ⟨!b,rfl, ?_,HB.out⟩
 have:=HR.out
 cases b with
 | true=>
  obtain ⟨k,hk,hq⟩:=this.1 rfl
  constructor
  ·intro h;cases h
  ·intro h;rw [h k hk] at hq;cases hq
 | false=>
  constructor
  ·intro _ k hk
   cases hq:q k with
   | true=>rfl
   | false=>exact absurd (this.2 ⟨k,hk,by simp [hq]⟩) (by simp)
  ·intro _;rfl
end Go.Proofs.YtecbcdfkedocbaaGreatDoor
