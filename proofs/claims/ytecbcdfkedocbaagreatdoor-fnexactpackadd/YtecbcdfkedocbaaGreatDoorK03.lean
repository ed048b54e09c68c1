/- Gathered: ChkKey ChkMethB ChkFlagsS UnMethod ChkMethC. -/
import Derived.Test.YtecbcdfkedocbaaGreatDoorK02
import Derived.Test.YtecbcdfkedocbaaGreatDoorG01
import Derived.Test.YtecbcdfkedocbaaGreatDoorK01
import Derived.Test.YtecbcdfkedocbaaGreatDoorG03
import Derived.Deep.RegionHeld
namespace Go.Proofs.YtecbcdfkedocbaaGreatDoor
open Mx Go.RowKit
set_option maxHeartbeats 2000000
set_option maxRecDepth 20000
set_option linter.unusedVariables false
structure CK (w:World) (a d r:Array Value) (W:World):Prop where
 c:CM w a d W
 r:Lk W (w.heap.size+1+1) r 203
theorem CK.keep {w W W':World} {a d r:Array Value} (h:CK w a d r W) (hb:Below W.heap.size W W'):CK w a d r W':=⟨h.c.keep hb,h.r.keep hb⟩
theorem CK.start (w:World) (a d r:Array Value):CK w a d r (((w.alloc (.cells a 36)).alloc (.cells d 75)).alloc (.cells r 203)):=by
 refine ⟨(CM.start w a d).keep ((Below.refl _ _).alloc (Nat.le_refl _) _), ?_⟩
 have:=Lk.new ((w.alloc (.cells a 36)).alloc (.cells d 75)) r 203
 simpa using this
theorem methodKeyOf_any (c:MClass) (m:MMethod) (vp vi vf vm:Value) (B:Nat) (a5:Option Addr) (n5 k5:Nat) (a6:Option Addr) (n6 k6:Nat) (w:World) (hc:c.few) (h:ClassW w B vp vi vf vm c) :
  Calls Tryz.prog 144 #[.agg #[vp,.int .i64 c.flags,.int .i64 c.name,.int .i64 c.super,vi,vf,vm],.agg #[.int .i64 m.flags,.int .i64 m.name,.int .i64 m.desc,.int .i64 m.deep,.int .i64 m.locals,.string m.code,.slice a5 n5 k5,.slice a6 n6 k6]] w fun e w'=>e=.returned (.agg #[.string (rawT c.pool m.name),.string (rawT c.pool m.desc)])∧Below w.heap.size w w':=by
 obtain ⟨o1,j1,hv1⟩:=own_len h.p
 obtain ⟨o2,j2,hv2⟩:=own_len h.i
 obtain ⟨o3,j3,hv3⟩:=own_len h.f
 obtain ⟨o4,j4,hv4⟩:=h.m.len
 subst hv1 hv2 hv3 hv4
 have P0:=CK.start w (arrK (.slice o1 c.pool.length j1) c.flags c.name c.super (.slice o2 c.faces.length j2) (.slice o3 c.fields.length j3) (.slice o4 c.methods.length j4)) (arrQ m (.slice a5 n5 k5) (.slice a6 n6 k6)) #[.string ⟨#[]⟩,.string ⟨#[]⟩]
 have hPW:PoolW w (.slice o1 c.pool.length j1) c.pool:=⟨B,h.p⟩
 have HT:=hid (fun x W (hW:Below w.heap.size w W)=>nameTextAt_any (.slice o1 c.pool.length j1) c.pool x W hc.pool (hPW.keep hW))
 clear h hc hPW
 go_enter Tryz.func144,Tryz.ntmps144
 go_wp2_with fail
 replace P0:CK w (arrK (.slice o1 c.pool.length j1) c.flags c.name c.super (.slice o2 c.faces.length j2) (.slice o3 c.fields.length j3) (.slice o4 c.methods.length j4)) (arrQ m (.slice a5 n5 k5) (.slice a6 n6 k6)) #[.string ⟨#[]⟩,.string ⟨#[]⟩] (((w.alloc (.cells #[.slice o1 c.pool.length j1,.int .i64 c.flags,.int .i64 c.name,.int .i64 c.super,.slice o2 c.faces.length j2,.slice o3 c.fields.length j3,.slice o4 c.methods.length j4] 36)).alloc (.cells #[.int .i64 m.flags,.int .i64 m.name,.int .i64 m.desc,.int .i64 m.deep,.int .i64 m.locals,.string m.code,.slice a5 n5 k5,.slice a6 n6 k6] 75)).alloc (.cells #[.string ⟨#[]⟩,.string ⟨#[]⟩] 203)):=P0
 generalize ((w.alloc (.cells #[.slice o1 c.pool.length j1,.int .i64 c.flags,.int .i64 c.name,.int .i64 c.super,.slice o2 c.faces.length j2,.slice o3 c.fields.length j3,.slice o4 c.methods.length j4] 36)).alloc (.cells #[.int .i64 m.flags,.int .i64 m.name,.int .i64 m.desc,.int .i64 m.deep,.int .i64 m.locals,.string m.code,.slice a5 n5 k5,.slice a6 n6 k6] 75)).alloc (.cells #[.string ⟨#[]⟩,.string ⟨#[]⟩] 203)=X at P0 ⊢
 have PD:=P0.keep (show Below X.heap.size X X.drew from (Below.refl _ _).drew)
 clear P0
 obtain ⟨d0,_⟩:=PD.c.k.k7
 obtain ⟨_,d1,d2,_⟩:=PD.c.m.q8
 refine wp_region_held_drew (S:=(fun w':World=>w'.cell? ⟨w.heap.size,0,none⟩=some (.slice o1 c.pool.length j1)∧w'.cell? ⟨w.heap.size+1,1,none⟩=some (.int .i64 m.name)∧w'.cell? ⟨w.heap.size+1,2,none⟩=some (.int .i64 m.desc))) (by kernel_rfl) ⟨d0,d1,d2⟩ (fun hHeld=>?_)
 refine tkw 0 ⟨some 5,.fieldAddr 36 (.tmp 2) 0,0,"l4_check.go:128",#[],none⟩ ?_
 refine tkw 1 ⟨some 6,.load 32 (.tmp 5),32,"l4_check.go:128",#[⟨0,.data⟩],none⟩ ?_
 refine tkw 2 ⟨some 7,.fieldAddr 75 (.tmp 3) 1,0,"l4_check.go:128",#[],none⟩ ?_
 refine tkw 3 ⟨some 8,.load 3 (.tmp 7),3,"l4_check.go:128",#[⟨2,.data⟩],none⟩ ?_
 refine tkw 5 ⟨some 10,.fieldAddr 36 (.tmp 2) 0,0,"l4_check.go:128",#[],none⟩ ?_
 refine tkw 6 ⟨some 11,.load 32 (.tmp 10),32,"l4_check.go:128",#[⟨5,.data⟩],none⟩ ?_
 refine tkw 7 ⟨some 12,.fieldAddr 75 (.tmp 3) 2,0,"l4_check.go:128",#[],none⟩ ?_
 refine tkw 8 ⟨some 13,.load 3 (.tmp 12),3,"l4_check.go:128",#[⟨7,.data⟩],none⟩ ?_
 refine wpAnyH_ready (rs:=[4]) (by kernel_rfl) (by simp) ?_
 refine AllReadyH.cons rfl (fun K' hK'=>?_) AllReadyH.nil
 go_simp
 refine (HT.out m.name _ PD.c.b).mono ?_
 rintro e w8 ⟨rfl,hb8⟩
 have P8:=PD.keep hb8
 obtain ⟨e0,_⟩:=P8.c.k.k7
 obtain ⟨_,e1,e2,_⟩:=P8.c.m.q8
 refine hK'.out _ _ ⟨e0,e1,e2⟩ (fun hHeld=>?_)
 clear hK' K' hb8 PD d0 d1 d2
 refine wpAnyH_ready (rs:=[9]) (by kernel_rfl) (by simp) ?_
 refine AllReadyH.cons rfl (fun K' hK'=>?_) AllReadyH.nil
 go_simp
 refine (HT.out m.desc _ P8.c.b).mono ?_
 rintro e w9 ⟨rfl,hb9⟩
 have P9:=P8.keep hb9
 clear e0 e1 e2
 obtain ⟨e0,_⟩:=P9.c.k.k7
 obtain ⟨_,e1,e2,_⟩:=P9.c.m.q8
 refine hK'.out _ _ ⟨e0,e1,e2⟩ (fun hHeld=>?_)
 clear hK' K' hb9 P8
 refine tkw 10 ⟨some 15,.build 203 #[(0,.tmp 9),(1,.tmp 14)],203,"l4_check.go:128",#[⟨4,.data⟩,⟨9,.data⟩],none⟩ ?_
 refine wpAnyH_ready (rs:=[11]) (by kernel_rfl) (by simp) ?_
 refine AllReadyH.cons rfl (fun K' hK'=>?_) AllReadyH.nil
 have r0:=P9.r.c 0 _ rfl
 have r1:=P9.r.c 1 _ rfl
 have f0:=P9.r.z 0
 have f1:=P9.r.z 1
 have HB:=hid P9.c.b
 have K2:=((P9.c.k.other (a:=⟨w.heap.size+1+1,0,none⟩) (.string (rawT c.pool m.name)) (by simp;omega)).other (a:=⟨w.heap.size+1+1,1,none⟩) (.string (rawT c.pool m.desc)) (by simp;omega))
 have M2:=((P9.c.m.other (a:=⟨w.heap.size+1+1,0,none⟩) (.string (rawT c.pool m.name)) (by simp)).other (a:=⟨w.heap.size+1+1,1,none⟩) (.string (rawT c.pool m.desc)) (by simp))
 have R2:=((P9.r.set 0 (.string (rawT c.pool m.name)) rfl).set 1 (.string (rawT c.pool m.desc)) rfl)
 obtain ⟨t0,_⟩:=K2.k7
 obtain ⟨_,t1,t2,_⟩:=M2.q8
 have u0:=R2.c 0 (.string (rawT c.pool m.name)) rfl
 have u1:=R2.c 1 (.string (rawT c.pool m.desc)) rfl
 have H0:=hid t0
 have H1:=hid t1
 have H2:=hid t2
 have U0:=hid u0
 have U1:=hid u1
 clear P9 K2 M2 R2 t0 t1 t2 u0 u1
 go_simp
 refine hK'.out _ _ ⟨H0.out,H1.out,H2.out⟩ (fun hHeld=>?_)
 clear hK' K'
 refine wpAnyH_done (by kernel_rfl) ?_ _
 go_wp2
 have v0:=U0.out
 have v1:=U1.out
 refine bodyPost_ret (v:=.agg #[.string (rawT c.pool m.name),.string (rawT c.pool m.desc)]) (by simp [results,Tryz.results144,go_sem, *]) rfl ⟨rfl, ?_⟩
 exact (HB.out.setCell (by simp;omega) _).setCell (by simp;omega) _
structure methodI (c:MClass) (m:MMethod):Prop where
 nm:nameB (rawT c.pool m.name).data.toList=true
 ds:dOk (rawT c.pool m.desc)=true
 fl:mflagsI c m
 be:beginB (rawT c.pool m.name)=true→m.flags=1∧bareB (rawT c.pool m.desc)=true
theorem Lk.s2 {W:World} {C:Nat} {a b:Value} {T:TypeId} (h:Lk W C #[a,b] T):W.cell? ⟨C,0,none⟩=some a∧W.cell? ⟨C,1,none⟩=some b:=⟨h.c 0 _ rfl,h.c 1 _ rfl⟩
theorem methodFine_any (c:MClass) (m:MMethod) (vp vi vf vm:Value) (B:Nat) (a5:Option Addr) (n5 k5:Nat) (a6:Option Addr) (n6 k6:Nat) (w:World) (hc:c.few) (h:ClassW w B vp vi vf vm c) :
  Calls Tryz.prog 142 #[.agg #[vp,.int .i64 c.flags,.int .i64 c.name,.int .i64 c.super,vi,vf,vm],.agg #[.int .i64 m.flags,.int .i64 m.name,.int .i64 m.desc,.int .i64 m.deep,.int .i64 m.locals,.string m.code,.slice a5 n5 k5,.slice a6 n6 k6]] w fun e w'=>∃ b:Bool,e=.returned (.bool b)∧(b=true↔methodI c m)∧Below w.heap.size w w':=by
 obtain ⟨o1,j1,hv1⟩:=own_len h.p
 obtain ⟨o2,j2,hv2⟩:=own_len h.i
 obtain ⟨o3,j3,hv3⟩:=own_len h.f
 obtain ⟨o4,j4,hv4⟩:=h.m.len
 subst hv1 hv2 hv3 hv4
 have P0:=CM.start w (arrK (.slice o1 c.pool.length j1) c.flags c.name c.super (.slice o2 c.faces.length j2) (.slice o3 c.fields.length j3) (.slice o4 c.methods.length j4)) (arrQ m (.slice a5 n5 k5) (.slice a6 n6 k6))
 have hK:=methodKeyOf_any c m _ _ _ _ B a5 n5 k5 a6 n6 k6 _ hc (h.keep P0.b)
 have hN:=fun W=>NameOk_any (rawT c.pool m.name) W (by have:=rawT_small hc m.name;unfold maxLen;omega)
 have hD:=fun W=>isDesc_any (rawT c.pool m.desc) W (rawT_small hc m.desc)
 have HFl:=hid (fun W (hW:CM w (arrK (.slice o1 c.pool.length j1) c.flags c.name c.super (.slice o2 c.faces.length j2) (.slice o3 c.fields.length j3) (.slice o4 c.methods.length j4)) (arrQ m (.slice a5 n5 k5) (.slice a6 n6 k6)) W)=>methodFlags_any c m _ _ _ _ B a5 n5 k5 a6 n6 k6 W (h.keep hW.b))
 obtain ⟨q1,hq1⟩:∃ q,Hid (nameB (rawT c.pool m.name).data.toList=q):=⟨_,hid rfl⟩
 obtain ⟨q2,hq2⟩:∃ q,Hid (dOk (rawT c.pool m.desc)=q):=⟨_,hid rfl⟩
 rw [hq1.out] at hN
 rw [hq2.out] at hD
 generalize hs1:rawT c.pool m.name=s1 at hK hN
 generalize hs2:rawT c.pool m.desc=s2 at hK hD
 have HS1:=hid hs1
 have HS2:=hid hs2
 clear h hc hs1 hs2
 go_enter Tryz.func142,Tryz.ntmps142
 go_wp2_with fail
 refine hK.mono ?_
 rintro e w1 ⟨rfl,hb1⟩
 have P1:=P0.keep hb1
 clear P0 hb1 hK
 have hbo:=(Below.refl w1.heap.size w1).alloc (Nat.le_refl _) (.cells #[.string s1,.string s2] 203)
 have P2:=P1.keep hbo
 have L2:=Lk.new w1 #[.string s1,.string s2] 203
 have HB2:=hid P2.b
 cases q1 with
 | false=>
  have HN:=hid (show ¬methodI c m from fun h=>by have:=h.nm;rw [hq1.out] at this;cases this)
  clear P1 P2 L2 hbo HFl hD
  go_wp2_with (go_at_call 177;refine (hN _).mono ?_;rintro e w2 ⟨rfl,hw⟩;replace hw:=hw.symm;subst hw)
  go_ret
  first|exact ⟨false,rfl,⟨fun h=>(by cases h),fun h=>absurd h HN.out⟩,HB2.out⟩|exact .inl ⟨rfl,HN.out,HB2.out⟩
 | true=>
 have hD1:=hD (w1.alloc (.cells #[.string s1,.string s2] 203))
 have HP2:=hid P2
 have HL2:=hid L2
 clear P1 P2 L2 hbo hD
 go_wp2_with (go_at_call 177;refine (hN _).mono ?_;rintro e w2 ⟨rfl,hw⟩;replace hw:=hw.symm;subst hw)
 refine hD1.mono ?_
 rintro e w3 ⟨rfl,hb3⟩
 have P3:=HP2.out.keep hb3
 have L3:=HL2.out.keep hb3
 clear hb3 hD1 HP2 HL2 HB2
 obtain ⟨c0,c1,c2,c3,c4,c5,c6⟩:=P3.k.k7
 obtain ⟨d0,d1,d2,d3,d4,d5,d6,d7⟩:=P3.m.q8
 obtain ⟨e0,e1⟩:=L3.s2
 have HB3:=hid P3.b
 cases q2 with
 | false=>
  have HN:=hid (show ¬methodI c m from fun h=>by have:=h.ds;rw [hq2.out] at this;cases this)
  clear P3 L3 HFl
  go_wp2
  go_ret
  first|exact ⟨false,rfl,⟨fun h=>(by cases h),fun h=>absurd h HN.out⟩,HB3.out⟩|exact .inl ⟨rfl,HN.out,HB3.out⟩
 | true=>
 have hF:=HFl.out _ P3
 go_wp2_with fail
 refine hF.mono ?_
 rintro e w4 ⟨b4,rfl,r4,hb4⟩
 have P4:=P3.keep hb4
 have L4:=L3.keep hb4
 have R4:=hid r4
 clear P3 L3 hb4 hF HFl r4 c0 c1 c2 c3 c4 c5 c6 d0 d1 d2 d3 d4 d5 d6 d7 e0 e1 HB3
 obtain ⟨c0,c1,c2,c3,c4,c5,c6⟩:=P4.k.k7
 obtain ⟨d0,d1,d2,d3,d4,d5,d6,d7⟩:=P4.m.q8
 obtain ⟨e0,e1⟩:=L4.s2
 have HB4:=hid P4.b
 clear P4 L4
 cases b4 with
 | false=>
  have HN:=hid (show ¬methodI c m from fun h=>by have:=R4.out.2 h.fl;cases this)
  clear R4
  go_wp2
  go_ret
  first|exact ⟨false,rfl,⟨fun h=>(by cases h),fun h=>absurd h HN.out⟩,HB4.out⟩|exact .inl ⟨rfl,HN.out,HB4.out⟩
 | true=>
 replace R4:=hid (R4.out.1 rfl)
 obtain ⟨q5,hq5⟩:∃ q,(s1.toList==[98,101,103,105,110])=q:=⟨_,rfl⟩
 obtain ⟨q6,hq6⟩:∃ q,(s2.toList==[40,41,86])=q:=⟨_,rfl⟩
 have hn5:(s1.toList != [98,101,103,105,110]) = !q5:=by rw [bne,hq5]
 have HY:=hid (show methodI c m↔(q5=true→m.flags=1∧q6=true) from
  ⟨fun h=>by have:=h.be;rw [HS1.out,HS2.out] at this;unfold beginB bareB at this;rw [hq5,hq6] at this;exact this,
   fun h=>⟨hq1.out,hq2.out,R4.out,by rw [HS1.out,HS2.out];unfold beginB bareB;rw [hq5,hq6];exact h⟩⟩)
 clear R4 hq1 hq2 HS1 HS2
 cases q5 with
 | false=>
  have HT:=hid (show methodI c m from HY.out.2 (fun h=>by cases h))
  clear HY
  go_wp2
  go_ret
  first|exact ⟨true,rfl,⟨fun _=>HT.out,fun _=>rfl⟩,HB4.out⟩|exact .inr ⟨rfl,HT.out,HB4.out⟩
 | true=>
 obtain ⟨e8,he8⟩:∃ q,Hid ((m.flags==1)=q):=⟨_,hid rfl⟩
 by_cases h1:m.flags=1
 ·cases q6 with
  | true=>
   have HT:=hid (show methodI c m from HY.out.2 (fun _=>⟨h1,rfl⟩))
   rw [h1] at d0
   clear HY h1 he8
   go_wp2
   go_ret
   first|exact ⟨true,rfl,⟨fun _=>HT.out,fun _=>rfl⟩,HB4.out⟩|exact .inr ⟨rfl,HT.out,HB4.out⟩
  | false=>
   have HN:=hid (show ¬methodI c m from fun h=>by have:=(HY.out.1 h rfl).2;cases this)
   rw [h1] at d0
   clear HY h1 he8
   go_wp2
   go_ret
   first|exact ⟨false,rfl,⟨fun h=>(by cases h),fun h=>absurd h HN.out⟩,HB4.out⟩|exact .inl ⟨rfl,HN.out,HB4.out⟩
 ·have HN:=hid (show ¬methodI c m from fun h=>h1 (HY.out.1 h rfl).1)
  clear HY he8
  go_wp2
  go_ret
  first|exact ⟨false,rfl,⟨fun h=>(by cases h),fun h=>absurd h HN.out⟩,HB4.out⟩|exact .inl ⟨rfl,HN.out,HB4.out⟩
theorem l4Flags_any (c:MClass) (m:MMethod) (vp vi vf vm:Value) (B:Nat) (a5:Option Addr) (n5 k5:Nat) (a6:Option Addr) (n6 k6:Nat) (w:World) (hc:c.few) (h0:0≤c.flags) (h255:c.flags≤255) (h:ClassW w B vp vi vf vm c) :
  Calls Tryz.prog 116 #[.agg #[vp,.int .i64 c.flags,.int .i64 c.name,.int .i64 c.super,vi,vf,vm],.agg #[.int .i64 m.flags,.int .i64 m.name,.int .i64 m.desc,.int .i64 m.deep,.int .i64 m.locals,.string m.code,.slice a5 n5 k5,.slice a6 n6 k6]] w fun e w'=>∃ b:Bool,e=.returned (.bool b)∧(b=true↔flagsP c m)∧Below w.heap.size w w':=by
 obtain ⟨o1,j1,hv1⟩:=own_len h.p
 obtain ⟨o2,j2,hv2⟩:=own_len h.i
 obtain ⟨o3,j3,hv3⟩:=own_len h.f
 obtain ⟨o4,j4,hv4⟩:=h.m.len
 subst hv1 hv2 hv3 hv4
 have P0:=CM.start w (arrK (.slice o1 c.pool.length j1) c.flags c.name c.super (.slice o2 c.faces.length j2) (.slice o3 c.fields.length j3) (.slice o4 c.methods.length j4)) (arrQ m (.slice a5 n5 k5) (.slice a6 n6 k6))
 have hPW:PoolW w (.slice o1 c.pool.length j1) c.pool:=⟨B,h.p⟩
 have HT0:=hid (fun x W (hW:Below w.heap.size w W)=>l2Text_any (.slice o1 c.pool.length j1) c.pool x W hc.pool (hPW.keep hW))
 have hI:=fun W=>l1InI_any m.flags 0 15 W
 have h4:=fun W=>l4Has_any c.flags 4 W h0 h255 (by simp)
 have h1:=fun W=>l4Has_any c.flags 1 W h0 h255 (by simp)
 obtain ⟨q0,hq0⟩:∃ q,Hid (inI m.flags 0 15=q):=⟨_,hid rfl⟩
 obtain ⟨q4,hq4⟩:∃ q,Hid (bitB c.flags 4=q):=⟨_,hid rfl⟩
 obtain ⟨q1,hq1⟩:∃ q,Hid (bitB c.flags 1=q):=⟨_,hid rfl⟩
 rw [hq0.out] at hI
 rw [hq4.out] at h4
 rw [hq1.out] at h1
 clear h hc hPW h0 h255
 cases q0 with
 | false=>
  have HN:=hid (show ¬flagsP c m from fun h=>by have:=h.fl;rw [hq0.out] at this;cases this)
  have HB:=hid P0.b
  clear P0 HT0 h1 h4
  go_enter Tryz.func116,Tryz.ntmps116
  go_wp2_with (go_at_call 84;refine (hI _).mono ?_;rintro e w1 ⟨rfl,hw⟩;replace hw:=hw.symm;subst hw)
  go_ret
  first|exact ⟨false,rfl,⟨fun h=>(by cases h),fun h=>absurd h HN.out⟩,HB.out⟩|exact .inl ⟨rfl,HN.out,HB.out⟩
 | true=>
 have hT1:=HT0.out m.name _ P0.b
 generalize hs1:txtC c.pool m.name=s1 at hT1
 have HS1:=hid hs1
 clear hs1
 obtain ⟨q5,hq5⟩:∃ q,(s1.toList==[98,101,103,105,110])=q:=⟨_,rfl⟩
 have HT1:=hid hT1
 clear hT1
 go_enter Tryz.func116,Tryz.ntmps116
 go_upto_region 3 with (go_at_call 84;refine (hI _).mono ?_;rintro e w1 ⟨rfl,hw⟩;replace hw:=hw.symm;subst hw)
 go_cut [27] (fun v wc=>(∃ b:Bool,v=.bool b∧Hid (b=false↔(beginB (txtC c.pool m.name)=true→m.flags=1∧bareB (txtC c.pool m.desc)=true)))∧CM w (arrK (.slice o1 c.pool.length j1) c.flags c.name c.super (.slice o2 c.faces.length j2) (.slice o3 c.fields.length j3) (.slice o4 c.methods.length j4)) (arrQ m (.slice a5 n5 k5) (.slice a6 n6 k6)) wc)
 case first=>
  go_wp2_with fail
  refine HT1.out.mono ?_
  rintro e w2 ⟨rfl,hb2⟩
  have P2:=P0.keep hb2
  clear P0 hb2 HT1 hI
  obtain ⟨c0,c1,c2,c3,c4,c5,c6⟩:=P2.k.k7
  obtain ⟨d0,d1,d2,d3,d4,d5,d6,d7⟩:=P2.m.q8
  cases q5 with
  | false=>
   have HT:=hid (show (beginB (txtC c.pool m.name)=true→m.flags=1∧bareB (txtC c.pool m.desc)=true) from fun h=>by rw [HS1.out] at h;unfold beginB at h;rw [hq5] at h;cases h)
   go_wp2_with fail
   go_meet
   case rel=>exact ⟨⟨false,rfl,hid ⟨fun _=>HT.out,fun _=>rfl⟩⟩,P2⟩
  | true=>
  have HBG:=hid (show beginB (txtC c.pool m.name)=true by rw [HS1.out];exact hq5)
  by_cases hf1:m.flags=1
  ·have hT2:=HT0.out m.desc _ P2.b
   generalize hs2:txtC c.pool m.desc=s2 at hT2
   have HS2:=hid hs2
   obtain ⟨q6,hq6⟩:∃ q,(s2.toList==[40,41,86])=q:=⟨_,rfl⟩
   have hn6:(s2.toList != [40,41,86]) = !q6:=by rw [bne,hq6]
   have HT:=hid (show (!q6)=false↔(beginB (txtC c.pool m.name)=true→m.flags=1∧bareB (txtC c.pool m.desc)=true) from ⟨fun h _=>⟨hf1,by rw [HS2.out];unfold bareB;rw [hq6];simpa using h⟩,fun h=>by have:=(h HBG.out).2;rw [HS2.out] at this;unfold bareB at this;rw [hq6] at this;rw [this];rfl⟩)
   rw [hf1] at d0
   clear hf1 hs2
   go_wp2_with fail
   refine hT2.mono ?_
   rintro e w3 ⟨rfl,hb3⟩
   have P3:=P2.keep hb3
   clear P2 hb3 hT2
   go_wp2_with fail
   go_meet
   case rel=>exact ⟨⟨!q6,by first|rfl|rw [hn6],HT⟩,P3⟩
  ·have HT:=hid (show ¬(beginB (txtC c.pool m.name)=true→m.flags=1∧bareB (txtC c.pool m.desc)=true) from fun h=>hf1 (h HBG.out).1)
   go_wp2_with fail
   go_meet
   case rel=>exact ⟨⟨true,by first|rfl|simp [hf1],hid ⟨fun h=>(by cases h),fun h=>absurd h HT.out⟩⟩,P2⟩
 case rest=>
  obtain ⟨⟨b,rfl,hb⟩,P3⟩:=hcut
  clear P0 HT1 hI hq5 HS1 HT0
  obtain ⟨c0,c1,c2,c3,c4,c5,c6⟩:=P3.k.k7
  obtain ⟨d0,d1,d2,d3,d4,d5,d6,d7⟩:=P3.m.q8
  have HB:=hid P3.b
  clear P3
  cases b with
  | true=>
   have HN:=hid (show ¬flagsP c m from fun h=>by have:=hb.out.2 h.be;cases this)
   clear hb h1 h4
   go_wp2
   go_ret
   first|exact ⟨false,rfl,⟨fun h=>(by cases h),fun h=>absurd h HN.out⟩,HB.out⟩|exact ⟨false,ret_bool (by simp [*]),⟨fun h=>(by cases h),fun h=>absurd h HN.out⟩,HB.out⟩|exact .inl ⟨rfl,HN.out,HB.out⟩
  | false=>
  have HBE:=hid (hb.out.1 rfl)
  clear hb
  have hr:0≤m.flags∧m.flags≤255:=by have:=hq0.out;unfold inI at this;simp at this;omega
  have h8:=fun W=>l4Has_any m.flags 8 W hr.1 hr.2 (by simp)
  obtain ⟨q8,hq8⟩:∃ q,Hid (bitB m.flags 8=q):=⟨_,hid rfl⟩
  rw [hq8.out] at h8
  have HY:=hid (show flagsP c m↔((q8=true→m.flags=8∧q4=true)∧(q8=false→q1=true→m.flags=1)) from
   ⟨fun h=>⟨by rw [← hq8.out,← hq4.out];exact h.ab,by rw [← hq8.out,← hq1.out];exact h.fa⟩,
    fun h=>⟨hq0.out,HBE.out,by rw [hq8.out,hq4.out];exact h.1,by rw [hq8.out,hq1.out];exact h.2⟩⟩)
  clear hq0 hq8 hq4 hq1 HBE hr
  cases q8 with
  | true=>
   by_cases h88:m.flags=8
   ·cases q4 with
    | false=>
     have HN:=hid (show ¬flagsP c m from fun h=>by have:=((HY.out.1 h).1 rfl).2;cases this)
     rw [h88] at d0 h8
     clear h88
     clear HY
     go_wp2_with (first|(go_at_call_of 115 (8:Int);refine (h8 _).mono ?_;rintro e w12 ⟨rfl,hw⟩;replace hw:=hw.symm;subst hw)|(go_at_call_of 115 (4:Int);refine (h4 _).mono ?_;rintro e w13 ⟨rfl,hw⟩;replace hw:=hw.symm;subst hw)|(go_at_call_of 115 (1:Int);refine (h1 _).mono ?_;rintro e w14 ⟨rfl,hw⟩;replace hw:=hw.symm;subst hw))
     go_ret
     first|exact ⟨false,rfl,⟨fun h=>(by cases h),fun h=>absurd h HN.out⟩,HB.out⟩|exact ⟨false,ret_bool (by simp [*]),⟨fun h=>(by cases h),fun h=>absurd h HN.out⟩,HB.out⟩|exact .inl ⟨rfl,HN.out,HB.out⟩
    | true=>
     have HT:=hid (show flagsP c m from HY.out.2 ⟨fun _=>⟨h88,rfl⟩,fun h=>(by cases h)⟩)
     rw [h88] at d0 h8
     clear h88
     clear HY
     go_wp2_with (first|(go_at_call_of 115 (8:Int);refine (h8 _).mono ?_;rintro e w12 ⟨rfl,hw⟩;replace hw:=hw.symm;subst hw)|(go_at_call_of 115 (4:Int);refine (h4 _).mono ?_;rintro e w13 ⟨rfl,hw⟩;replace hw:=hw.symm;subst hw)|(go_at_call_of 115 (1:Int);refine (h1 _).mono ?_;rintro e w14 ⟨rfl,hw⟩;replace hw:=hw.symm;subst hw))
     go_ret
     first|exact ⟨true,rfl,⟨fun _=>HT.out,fun _=>rfl⟩,HB.out⟩|exact ⟨true,ret_bool (by simp [*]),⟨fun _=>HT.out,fun _=>rfl⟩,HB.out⟩|exact .inr ⟨rfl,HT.out,HB.out⟩
   ·have HN:=hid (show ¬flagsP c m from fun h=>h88 ((HY.out.1 h).1 rfl).1)
    clear HY
    go_wp2_with (first|(go_at_call_of 115 (8:Int);refine (h8 _).mono ?_;rintro e w12 ⟨rfl,hw⟩;replace hw:=hw.symm;subst hw)|(go_at_call_of 115 (4:Int);refine (h4 _).mono ?_;rintro e w13 ⟨rfl,hw⟩;replace hw:=hw.symm;subst hw)|(go_at_call_of 115 (1:Int);refine (h1 _).mono ?_;rintro e w14 ⟨rfl,hw⟩;replace hw:=hw.symm;subst hw))
    go_ret
    first|exact ⟨false,rfl,⟨fun h=>(by cases h),fun h=>absurd h HN.out⟩,HB.out⟩|exact ⟨false,ret_bool (by simp [*]),⟨fun h=>(by cases h),fun h=>absurd h HN.out⟩,HB.out⟩|exact .inl ⟨rfl,HN.out,HB.out⟩
  | false=>
   cases q1 with
   | false=>
    have HT:=hid (show flagsP c m from HY.out.2 ⟨fun h=>(by cases h),fun _ h=>(by cases h)⟩)
    clear HY
    go_wp2_with (first|(go_at_call_of 115 (8:Int);refine (h8 _).mono ?_;rintro e w12 ⟨rfl,hw⟩;replace hw:=hw.symm;subst hw)|(go_at_call_of 115 (4:Int);refine (h4 _).mono ?_;rintro e w13 ⟨rfl,hw⟩;replace hw:=hw.symm;subst hw)|(go_at_call_of 115 (1:Int);refine (h1 _).mono ?_;rintro e w14 ⟨rfl,hw⟩;replace hw:=hw.symm;subst hw))
    go_ret
    first|exact ⟨true,rfl,⟨fun _=>HT.out,fun _=>rfl⟩,HB.out⟩|exact ⟨true,ret_bool (by simp [*]),⟨fun _=>HT.out,fun _=>rfl⟩,HB.out⟩|exact .inr ⟨rfl,HT.out,HB.out⟩
   | true=>
    by_cases h11:m.flags=1
    ·have HT:=hid (show flagsP c m from HY.out.2 ⟨fun h=>(by cases h),fun _ _=>h11⟩)
     rw [h11] at d0 h8
     clear h11
     clear HY
     go_wp2_with (first|(go_at_call_of 115 (8:Int);refine (h8 _).mono ?_;rintro e w12 ⟨rfl,hw⟩;replace hw:=hw.symm;subst hw)|(go_at_call_of 115 (4:Int);refine (h4 _).mono ?_;rintro e w13 ⟨rfl,hw⟩;replace hw:=hw.symm;subst hw)|(go_at_call_of 115 (1:Int);refine (h1 _).mono ?_;rintro e w14 ⟨rfl,hw⟩;replace hw:=hw.symm;subst hw))
     go_ret
     first|exact ⟨true,rfl,⟨fun _=>HT.out,fun _=>rfl⟩,HB.out⟩|exact ⟨true,ret_bool (by simp [*]),⟨fun _=>HT.out,fun _=>rfl⟩,HB.out⟩|exact .inr ⟨rfl,HT.out,HB.out⟩
    ·have HN:=hid (show ¬flagsP c m from fun h=>h11 ((HY.out.1 h).2 rfl rfl))
     clear HY
     go_wp2_with (first|(go_at_call_of 115 (8:Int);refine (h8 _).mono ?_;rintro e w12 ⟨rfl,hw⟩;replace hw:=hw.symm;subst hw)|(go_at_call_of 115 (4:Int);refine (h4 _).mono ?_;rintro e w13 ⟨rfl,hw⟩;replace hw:=hw.symm;subst hw)|(go_at_call_of 115 (1:Int);refine (h1 _).mono ?_;rintro e w14 ⟨rfl,hw⟩;replace hw:=hw.symm;subst hw))
     go_ret
     first|exact ⟨false,rfl,⟨fun h=>(by cases h),fun h=>absurd h HN.out⟩,HB.out⟩|exact ⟨false,ret_bool (by simp [*]),⟨fun h=>(by cases h),fun h=>absurd h HN.out⟩,HB.out⟩|exact .inl ⟨rfl,HN.out,HB.out⟩
set_option maxHeartbeats 1000000
def SlM (t:SMethod):Prop:=∃ a1 n1 c1 a2 n2 c2,t.traps=.slice a1 n1 c1∧t.frames=.slice a2 n2 c2
theorem indexMethodK_any (u0:Value) (u1:Value) (v:Value) (ts:List SMethod) (B:Nat) (p:Nat→Bool) (w:World) (hl:ts.length≤1048576) (ho:w.ownsRow B 75 8 v ts.length (rowMethod ts)) (hS:SlicedM ts)
  (hF:∀ k (h:k<ts.length) W,Below w.heap.size w W→Calls Tryz.prog 187 #[.agg #[.int .i64 ts[k].flags,.int .i64 ts[k].name,.int .i64 ts[k].desc,.int .i64 ts[k].deep,.int .i64 ts[k].locals,.string ts[k].code,ts[k].traps,ts[k].frames],u0,u1] W fun e w'=>e=.returned (.bool (p k))∧Below W.heap.size W w') :
  Calls Tryz.prog 218 #[v,.func (.func 187) #[] #[u0,u1]] w fun e w'=>∃ r:Int,e=.returned (.int .i64 r)∧(0≤r↔∃ k,k<ts.length∧p k=true)∧Below w.heap.size w w':=by
 obtain ⟨ao,cap,hv⟩:=own_len ho
 subst hv
 have HO:=hid ho
 have HF:=hid hF
 have HS:=hid hS
 clear ho hF hS
 go_enter Tryz.func218,Tryz.ntmps218
 go_wp2_with fail
 go_loopw [8] (fun i wr=>∃ (k:Nat),k≤ts.length∧i=.int .i64 k∧Hid (∀ j,j<k→p j=false)∧Hid (Below w.heap.size w wr)) (fun i _=>ts.length - (intOf i).toNat)
 case atStart=>exact ⟨0,by omega,rfl,fun j hj=>by omega,Below.refl _ _⟩
 case round=>
  obtain ⟨k,hk,rfl,HE,HB⟩:=hrel
  by_cases hlt:k<ts.length
  ·obtain ⟨g,hg⟩:=own_some HO.out (by omega)
   subst hg
   obtain ⟨c0,c1,c2,c3,c4,c5,c6,c7⟩:=ownMethod_at (own_below HO.out HB.out) rfl hlt
   have hC:=HF.out k hlt
   obtain ⟨a1,n1,k1,a2,n2,k2,s1,s2⟩:=HS.out k hlt
   generalize ts[k]=t at c0 c1 c2 c3 c4 c5 c6 c7 hC s1 s2
   obtain ⟨t1,t2,t3,t4,t5,t6,tw,tp⟩:=t
   simp only at c0 c1 c2 c3 c4 c5 c6 c7 hC s1 s2
   subst s1 s2
   obtain ⟨q,hq⟩:∃ q,Hid (p k=q):=⟨_,hid rfl⟩
   rw [hq.out] at hC
   go_wp2_with fail
   refine (hC _ HB.out).mono ?_
   rintro e w1 ⟨rfl,hb1⟩
   have HB1:=hid (HB.out.trans (hb1.mono HB.out.size))
   clear hb1 hC c0 c1 c2 c3 c4 c5 c6 c7
   cases q with
   | true=>
    have HR:=hid (show ∃ j,j<ts.length∧p j=true from ⟨k,hlt,hq.out⟩)
    go_wp2
    go_ret
    exact ⟨_,rfl,⟨fun _=>HR.out,fun _=>by omega⟩,HB1.out⟩
   | false=>
    have HN:=hid (show ∀ j,j<k+1→p j=false from fun j hj=>by
     by_cases e:j=k
     ·rw [e];exact hq.out
     ·exact HE.out j (by omega))
    go_wp2
    go_roundw
    case rel=>exact ⟨k+1,by omega,by go_num,HN,HB1⟩
    case measure=>simp [intOf];omega
  ·have HN:=hid (show ¬ ∃ j,j<ts.length∧p j=true from by
    rintro ⟨j,hj,hp⟩
    have:=HE.out j (by omega)
    rw [this] at hp
    cases hp)
   go_wp2
   go_ret
   exact ⟨-1,rfl,⟨fun h=>absurd h (by omega),fun h=>absurd h HN.out⟩,HB.out⟩
theorem containsMethodK_any (u0:Value) (u1:Value) (v:Value) (ts:List SMethod) (B:Nat) (p:Nat→Bool) (w:World) (hl:ts.length≤1048576) (ho:w.ownsRow B 75 8 v ts.length (rowMethod ts)) (hS:SlicedM ts)
  (hF:∀ k (h:k<ts.length) W,Below w.heap.size w W→Calls Tryz.prog 187 #[.agg #[.int .i64 ts[k].flags,.int .i64 ts[k].name,.int .i64 ts[k].desc,.int .i64 ts[k].deep,.int .i64 ts[k].locals,.string ts[k].code,ts[k].traps,ts[k].frames],u0,u1] W fun e w'=>e=.returned (.bool (p k))∧Below W.heap.size W w') :
  Calls Tryz.prog 185 #[v,.func (.func 187) #[] #[u0,u1]] w fun e w'=>∃ b:Bool,e=.returned (.bool b)∧(b=true↔∃ k,k<ts.length∧p k=true)∧Below w.heap.size w w':=by
 have hI:=indexMethodK_any u0 u1 v ts B p w hl ho hS hF
 clear hF ho hS
 go_enter Tryz.func185,Tryz.ntmps185
 go_wp2_with fail
 refine hI.mono ?_
 rintro e w1 ⟨r,rfl,hr,hb⟩
 have HR:=hid hr
 have HB:=hid hb
 clear hr hb hI
 go_wp2
 go_ret
 refine ⟨_,rfl, ?_,HB.out⟩
 rw [← HR.out]
 simp
structure UM (w0:World) (cv:Value) (t u:SMethod) (g c1 c2:Nat) (W:World):Prop where
 b:Below w0.heap.size w0 W
 k0:W.cell? ⟨c1,0,none⟩=some (.func (.func 143) #[] #[cv])
 kt:Lk W g #[.int .i64 t.flags,.int .i64 t.name,.int .i64 t.desc,.int .i64 t.deep,.int .i64 t.locals,.string t.code,t.traps,t.frames] 75
 ku:W.cell? ⟨c2,0,none⟩=some (.int .i64 u.flags)∧W.cell? ⟨c2,1,none⟩=some (.int .i64 u.name)∧W.cell? ⟨c2,2,none⟩=some (.int .i64 u.desc)∧W.cell? ⟨c2,3,none⟩=some (.int .i64 u.deep)∧W.cell? ⟨c2,4,none⟩=some (.int .i64 u.locals)∧W.cell? ⟨c2,5,none⟩=some (.string u.code)∧W.cell? ⟨c2,6,none⟩=some (u.traps)∧W.cell? ⟨c2,7,none⟩=some (u.frames)
 l1:c1<W.heap.size
 l2:c2<W.heap.size
theorem UM.keep {w0 W W':World} {cv:Value} {t u:SMethod} {g c1 c2:Nat} (h:UM w0 cv t u g c1 c2 W) (hb:Below W.heap.size W W'):UM w0 cv t u g c1 c2 W':=by
 obtain ⟨h0,h1,h2,h3,h4,h5,h6,h7⟩:=h.ku
 exact ⟨h.b.trans (hb.mono h.b.size),(hb_cell hb h.l1).trans h.k0,h.kt.keep hb,⟨(hb_cell hb h.l2).trans h0,(hb_cell hb h.l2).trans h1,(hb_cell hb h.l2).trans h2,(hb_cell hb h.l2).trans h3,(hb_cell hb h.l2).trans h4,(hb_cell hb h.l2).trans h5,(hb_cell hb h.l2).trans h6,(hb_cell hb h.l2).trans h7⟩,Nat.lt_of_lt_of_le h.l1 hb.size,Nat.lt_of_lt_of_le h.l2 hb.size⟩
theorem UM.all {w0 W:World} {cv:Value} {t u:SMethod} {g c1 c2:Nat} (h:UM w0 cv t u g c1 c2 W):W.cell? ⟨c1,0,none⟩=some (.func (.func 143) #[] #[cv])∧W.cell? ⟨g,0,none⟩=some (.int .i64 t.flags)∧W.cell? ⟨g,1,none⟩=some (.int .i64 t.name)∧W.cell? ⟨g,2,none⟩=some (.int .i64 t.desc)∧W.cell? ⟨g,3,none⟩=some (.int .i64 t.deep)∧W.cell? ⟨g,4,none⟩=some (.int .i64 t.locals)∧W.cell? ⟨g,5,none⟩=some (.string t.code)∧W.cell? ⟨g,6,none⟩=some (t.traps)∧W.cell? ⟨g,7,none⟩=some (t.frames)∧W.cell? ⟨c2,0,none⟩=some (.int .i64 u.flags)∧W.cell? ⟨c2,1,none⟩=some (.int .i64 u.name)∧W.cell? ⟨c2,2,none⟩=some (.int .i64 u.desc)∧W.cell? ⟨c2,3,none⟩=some (.int .i64 u.deep)∧W.cell? ⟨c2,4,none⟩=some (.int .i64 u.locals)∧W.cell? ⟨c2,5,none⟩=some (.string u.code)∧W.cell? ⟨c2,6,none⟩=some (u.traps)∧W.cell? ⟨c2,7,none⟩=some (u.frames):=
 ⟨h.k0,h.kt.c 0 _ rfl,h.kt.c 1 _ rfl,h.kt.c 2 _ rfl,h.kt.c 3 _ rfl,h.kt.c 4 _ rfl,h.kt.c 5 _ rfl,h.kt.c 6 _ rfl,h.kt.c 7 _ rfl,h.ku⟩
theorem bytes_beq (a b:ByteArray):(a==b)=true↔a=b:=by
 cases a with
 | mk x=>
  cases b with
  | mk y=>
   rw [show ((⟨x⟩:ByteArray)==⟨y⟩)=(x==y) from rfl,beq_iff_eq]
   exact ⟨fun h=>by rw [h],fun h=>by injection h⟩
def UnlikeMP (K L:SMethod→ByteArray) (ts:List SMethod):Prop:=∀ i (hi:i<ts.length) j (hj:j<i),¬(K (ts[j]'(by omega))=K ts[i]∧L (ts[j]'(by omega))=L ts[i])
theorem eqTxt (n:Nat) (a c:ByteArray) (w:World):(Op.equalIn (n+1) 9 (.string a) (.string c)).run Tryz.prog w=.ok (a==c) w:=by
 have hu:=Tryz.underlying9
 simp [Op.equalIn,underlying,hu,Result.andThen,go_sem]
theorem eqStr (n:Nat) (a b c d:ByteArray) (w:World):(Op.equalIn (n+2) 203 (.agg #[.string a,.string b]) (.agg #[.string c,.string d])).run Tryz.prog w=.ok ((a==c) && (b==d)) w:=by
 have hu:=Tryz.underlying203
 have e1:=fun W=>eqTxt n a c W
 have e2:=fun W=>eqTxt n b d W
 rw [Op.equalIn]
 cases h1:(a==c)<;>cases h2:(b==d)
 all_goals
  rw [h1] at e1
  rw [h2] at e2
  simp [underlying,hu,Result.andThen,go_sem,e1,e2]
theorem eqKey (a b c d:ByteArray) (w:World):(binOp .eql 203 (.agg #[.string a,.string b]) (.agg #[.string c,.string d])).run Tryz.prog w=.ok (.bool ((a==c) && (b==d))) w:=by
 obtain ⟨n,hn⟩:∃ n,Op.maxDepth=n+2:=⟨_,rfl⟩
 have h:=eqStr n a b c d w
 rw [← hn] at h
 simp [binOp,Op.equal,h,Result.andThen]
theorem eqKeyG (x y:Operand) (a b c d:ByteArray) (w:World):(eqGuard .eql 203 x y (.agg #[.string a,.string b]) (.agg #[.string c,.string d])).run Tryz.prog w=.ok () w:=by
 kernel_rfl
theorem likeM_any (K L:SMethod→ByteArray) (cv:Value) (t u:SMethod) (c1 c2:Nat) (w:World) (ht:SlM t) (hu:SlM u) (hc:w.cell? ⟨c1,0,none⟩=some (.func (.func 143) #[] #[cv])) (h0:w.cell? ⟨c2,0,none⟩=some (.int .i64 u.flags)∧w.cell? ⟨c2,1,none⟩=some (.int .i64 u.name)∧w.cell? ⟨c2,2,none⟩=some (.int .i64 u.desc)∧w.cell? ⟨c2,3,none⟩=some (.int .i64 u.deep)∧w.cell? ⟨c2,4,none⟩=some (.int .i64 u.locals)∧w.cell? ⟨c2,5,none⟩=some (.string u.code)∧w.cell? ⟨c2,6,none⟩=some (u.traps)∧w.cell? ⟨c2,7,none⟩=some (u.frames)) (hl1:c1<w.heap.size) (hl2:c2<w.heap.size)
  (hK:∀ x W,SlM x→Below w.heap.size w W→Calls Tryz.prog 143 #[.agg #[.int .i64 x.flags,.int .i64 x.name,.int .i64 x.desc,.int .i64 x.deep,.int .i64 x.locals,.string x.code,x.traps,x.frames],cv] W fun e w'=>e=.returned (.agg #[.string (K x),.string (L x)])∧Below W.heap.size W w') :
  Calls Tryz.prog 187 #[.agg #[.int .i64 t.flags,.int .i64 t.name,.int .i64 t.desc,.int .i64 t.deep,.int .i64 t.locals,.string t.code,t.traps,t.frames],.pointer (some ⟨c1,0,none⟩),.pointer (some ⟨c2,0,none⟩)] w fun e w'=>∃ b:Bool,e=.returned (.bool b)∧(b=true↔K t=K u∧L t=L u)∧Below w.heap.size w w':=by
 have hbo:=(Below.refl w.heap.size w).alloc (Nat.le_refl _) (.cells #[.int .i64 t.flags,.int .i64 t.name,.int .i64 t.desc,.int .i64 t.deep,.int .i64 t.locals,.string t.code,t.traps,t.frames] 75)
 have P:UM w cv t u w.heap.size c1 c2 (w.alloc (.cells #[.int .i64 t.flags,.int .i64 t.name,.int .i64 t.desc,.int .i64 t.deep,.int .i64 t.locals,.string t.code,t.traps,t.frames] 75)):=by
  obtain ⟨e0,e1,e2,e3,e4,e5,e6,e7⟩:=h0
  exact ⟨hbo,(hb_cell hbo hl1).trans hc,Lk.new _ _ _,⟨(hb_cell hbo hl2).trans e0,(hb_cell hbo hl2).trans e1,(hb_cell hbo hl2).trans e2,(hb_cell hbo hl2).trans e3,(hb_cell hbo hl2).trans e4,(hb_cell hbo hl2).trans e5,(hb_cell hbo hl2).trans e6,(hb_cell hbo hl2).trans e7⟩,by simp;omega,by simp;omega⟩
 clear hc h0 hl1 hl2 hbo
 have hKt:=fun W=>hK t W ht
 have hKu:=fun W=>hK u W hu
 clear hK
 obtain ⟨a1,n1,k1,a2,n2,k2,s1,s2⟩:=ht
 obtain ⟨b1,p1,l1,b2,p2,l2,s3,s4⟩:=hu
 obtain ⟨t1,t2,t3,t4,t5,t6,tw,tp⟩:=t
 obtain ⟨u1,u2,u3,u4,u5,u6,uw,up⟩:=u
 simp only at s1 s2 s3 s4 P hKt hKu
 subst s1 s2 s3 s4
 go_enter Tryz.func187,Tryz.ntmps187
 go_wp2_with fail
 generalize w.alloc (.cells #[.int .i64 t1,.int .i64 t2,.int .i64 t3,.int .i64 t4,.int .i64 t5,.string t6,.slice a1 n1 k1,.slice a2 n2 k2] 75)=X at P ⊢
 generalize hg:w.heap.size=g at P ⊢
 have PD:=P.keep (show Below X.heap.size X X.drew from (Below.refl _ _).drew)
 have HG:=hid hg
 clear P hg
 refine wp_region_held_drew (S:=(fun w':World=>w'.cell? ⟨c1,0,none⟩=some (.func (.func 143) #[] #[cv])∧w'.cell? ⟨g,0,none⟩=some (.int .i64 t1)∧w'.cell? ⟨g,1,none⟩=some (.int .i64 t2)∧w'.cell? ⟨g,2,none⟩=some (.int .i64 t3)∧w'.cell? ⟨g,3,none⟩=some (.int .i64 t4)∧w'.cell? ⟨g,4,none⟩=some (.int .i64 t5)∧w'.cell? ⟨g,5,none⟩=some (.string t6)∧w'.cell? ⟨g,6,none⟩=some (.slice a1 n1 k1)∧w'.cell? ⟨g,7,none⟩=some (.slice a2 n2 k2)∧w'.cell? ⟨c2,0,none⟩=some (.int .i64 u1)∧w'.cell? ⟨c2,1,none⟩=some (.int .i64 u2)∧w'.cell? ⟨c2,2,none⟩=some (.int .i64 u3)∧w'.cell? ⟨c2,3,none⟩=some (.int .i64 u4)∧w'.cell? ⟨c2,4,none⟩=some (.int .i64 u5)∧w'.cell? ⟨c2,5,none⟩=some (.string u6)∧w'.cell? ⟨c2,6,none⟩=some (.slice b1 p1 l1)∧w'.cell? ⟨c2,7,none⟩=some (.slice b2 p2 l2))) (by kernel_rfl) PD.all (fun hHeld=>?_)
 refine tkw 0 ⟨some 5,.load 205 (.tmp 1),205,"l4_check.go:254",#[],none⟩ ?_
 refine tkw 1 ⟨some 6,.load 75 (.tmp 3),75,"l4_check.go:254",#[],none⟩ ?_
 refine tkw 3 ⟨some 8,.load 205 (.tmp 1),205,"l4_check.go:254",#[],none⟩ ?_
 refine tkw 4 ⟨some 9,.load 75 (.tmp 2),75,"l4_check.go:254",#[],none⟩ ?_
 refine wpAnyH_ready (rs:=[2]) (by kernel_rfl) (by simp) ?_
 refine AllReadyH.cons rfl (fun K' hK'=>?_) AllReadyH.nil
 go_simp
 refine (hKt _ PD.b).mono ?_
 rintro e w8 ⟨rfl,hb8⟩
 have P8:=PD.keep hb8
 refine hK'.out _ _ P8.all (fun hHeld=>?_)
 clear hK' K' hb8 PD
 refine wpAnyH_ready (rs:=[5]) (by kernel_rfl) (by simp) ?_
 refine AllReadyH.cons rfl (fun K' hK'=>?_) AllReadyH.nil
 go_simp
 refine (hKu _ P8.b).mono ?_
 rintro e w9 ⟨rfl,hb9⟩
 have P9:=P8.keep hb9
 refine hK'.out _ _ P9.all (fun hHeld=>?_)
 clear hK' K' hb9 P8
 have hEk:=eqKey
 have hEg:=eqKeyG
 refine wpAnyH_ready (rs:=[6]) (by kernel_rfl) (by simp) ?_
 refine AllReadyH.cons rfl (fun K' hK'=>?_) AllReadyH.nil
 go_simp
 refine hK'.out _ _ P9.all (fun hHeld=>?_)
 clear hK' K'
 refine wpAnyH_ready (rs:=[7]) (by kernel_rfl) (by simp) ?_
 refine AllReadyH.cons rfl (fun K' hK'=>?_) AllReadyH.nil
 go_simp
 refine hK'.out _ _ P9.all (fun hHeld=>?_)
 clear hK' K'
 refine wpAnyH_done (by kernel_rfl) ?_ _
 have HB:=hid P9.b
 clear P9
 go_wp2
 go_ret
 refine ⟨_,rfl, ?_,HB.out⟩
 rw [Bool.and_eq_true,bytes_beq,bytes_beq]
theorem rowMethod_take (ts:List SMethod) (i:Nat) (hi:i≤ts.length):rowMethod (ts.take i)=(rowMethod ts).take (i*8):=by
 have h:rowMethod ts=rowMethod (ts.take i)++rowMethod (ts.drop i):=by
  unfold rowMethod
  rw [← List.flatMap_append,List.take_append_drop]
 rw [h,List.take_append_of_le_length (by rw [rowMethod_len,List.length_take];omega)]
 exact (List.take_of_length_le (by rw [rowMethod_len,List.length_take];omega)).symm
theorem ownMethod_take {w:World} {B g cap:Nat} {ts:List SMethod} (h:w.ownsRow B 75 8 (.slice (some ⟨g,0,none⟩) ts.length cap) ts.length (rowMethod ts)) (i:Nat) (hi:i≤ts.length) :
  w.ownsRow B 75 8 (.slice (some ⟨g,0,none⟩) i cap) (ts.take i).length (rowMethod (ts.take i)):=by
 obtain ⟨h1,h2|⟨g',c',cur,he,hb,hh,hn,hm,hs,ht⟩⟩:=h
 ·exact absurd h2.1 (by simp)
 ·obtain ⟨he1,he2⟩:some (⟨g,0,none⟩:Addr)=some ⟨g',0,none⟩∧cap=c':=by simpa using he
  have hg:g=g':=by simpa using he1
  subst hg he2
  have hl:(ts.take i).length=i:=by rw [List.length_take];omega
  refine ⟨by rw [rowMethod_len],.inr ⟨g,cap,cur,by rw [hl],hb,hh,by omega,hm,hs, ?_⟩⟩
  rw [hl,rowMethod_take ts i hi,← ht,List.take_take,Nat.min_eq_left (by omega)]
theorem unlikeM_any (K L:SMethod→ByteArray) (cv v:Value) (ts:List SMethod) (B:Nat) (w:World) (hl:ts.length≤1048576) (ho:w.ownsRow B 75 8 v ts.length (rowMethod ts)) (hS:SlicedM ts)
  (hK:∀ x W,SlM x→Below w.heap.size w W→Calls Tryz.prog 143 #[.agg #[.int .i64 x.flags,.int .i64 x.name,.int .i64 x.desc,.int .i64 x.deep,.int .i64 x.locals,.string x.code,x.traps,x.frames],cv] W fun e w'=>e=.returned (.agg #[.string (K x),.string (L x)])∧Below W.heap.size W w') :
  Calls Tryz.prog 146 #[v,.func (.func 143) #[] #[cv]] w fun e w'=>∃ b:Bool,e=.returned (.bool b)∧(b=true↔UnlikeMP K L ts)∧Below w.heap.size w w':=by
 obtain ⟨ao,cap,hv⟩:=own_len ho
 subst hv
 have hbo:=(Below.refl w.heap.size w).alloc (Nat.le_refl _) (.cells #[.func (.func 143) #[] #[cv]] 205)
 have HO:=hid (own_below ho hbo)
 have HS:=hid hbo
 have HC:=hid (show (w.alloc (.cells #[.func (.func 143) #[] #[cv]] 205)).cell? ⟨w.heap.size,0,none⟩=some (.func (.func 143) #[] #[cv]) by simp [go_sem])
 have HK:=hid hK
 have HSL:=hid hS
 have hmf:∀ (fn:Fn) (first cap:Array Value) (w:World),(Instr.makeFunc fn first cap).run Tryz.prog w=.ok (.func fn first cap) w:=fun _ _ _ _=>rfl
 clear ho hbo hK hS
 go_enter Tryz.func146,Tryz.ntmps146
 go_wp2_with fail
 generalize hX:w.alloc (.cells #[.func (.func 143) #[] #[cv]] 205)=X at HO HS HC ⊢
 have HX:=hid (show w.heap.size<X.heap.size by rw [← hX];simp)
 clear hX
 go_loopw [9] (fun i wr=>∃ (k:Nat),k≤ts.length∧i=.int .i64 k∧Hid (∀ i (hi:i<ts.length) j (hj:j<i),i<k→¬(K (ts[j]'(by omega))=K ts[i]∧L (ts[j]'(by omega))=L ts[i]))∧Hid (Below X.heap.size X wr)) (fun i _=>ts.length - (intOf i).toNat)
 case atStart=>exact ⟨0,by omega,rfl,fun i hi j hj h=>by omega,Below.refl _ _⟩
 case round=>
  obtain ⟨k,hk,rfl,HE,HB⟩:=hrel
  by_cases hlt:k<ts.length
  ·obtain ⟨g,hg⟩:=own_some HO.out (by omega)
   subst hg
   obtain ⟨c0,c1,c2,c3,c4,c5,c6,c7⟩:=ownMethod_at (own_below HO.out HB.out) rfl hlt
   have hsl:=HSL.out k hlt
   have hcap:ts.length≤cap∧cap≤maxLen:=by
    obtain ⟨_,h2|⟨g',c',cur,he,hb,hh,hn,hm,hs,ht⟩⟩:=HO.out
    ·exact absurd h2.1 (by simp)
    ·have:cap=c':=by simp at he;exact he.2
     omega
   unfold maxLen at hcap
   have hgl:=((own_below HO.out HB.out).lt g rfl).2
   generalize hT:ts[k]=t at c0 c1 c2 c3 c4 c5 c6 c7 hsl
   have hY:=(Below.refl wr.heap.size wr).alloc (Nat.le_refl _) (.cells #[.int .i64 t.flags,.int .i64 t.name,.int .i64 t.desc,.int .i64 t.deep,.int .i64 t.locals,.string t.code,t.traps,t.frames] 75)
   have hlen:(ts.take k).length=k:=by rw [List.length_take];omega
   have hC:=containsMethodK_any (.pointer (some ⟨w.heap.size,0,none⟩)) (.pointer (some ⟨wr.heap.size,0,none⟩)) (.slice (some ⟨g,0,none⟩) k cap) (ts.take k) B (fun j=>decide (ts[j]?.map K=some (K t)∧ts[j]?.map L=some (L t))) _ (by omega) (ownMethod_take (own_below (own_below HO.out HB.out) hY) k (by omega)) (fun j h=>by have:=HSL.out j (by omega);rwa [List.getElem_take]) (fun j h W hW=>by
    have hz:=hW.size
    simp at hz
    have hx:=HX.out
    have hy:=HB.out.size
    refine (likeM_any K L cv (ts.take k)[j] t w.heap.size wr.heap.size W (by have:=HSL.out j (by omega);rwa [List.getElem_take]) hsl ((hb_cell hW (by simp;omega)).trans ((hb_cell hY (by omega)).trans ((hb_cell HB.out hx).trans HC.out))) ⟨(hb_cell hW (by simp)).trans (by simp [go_sem]),(hb_cell hW (by simp)).trans (by simp [go_sem]),(hb_cell hW (by simp)).trans (by simp [go_sem]),(hb_cell hW (by simp)).trans (by simp [go_sem]),(hb_cell hW (by simp)).trans (by simp [go_sem]),(hb_cell hW (by simp)).trans (by simp [go_sem]),(hb_cell hW (by simp)).trans (by simp [go_sem]),(hb_cell hW (by simp)).trans (by simp [go_sem])⟩ (by omega) (by omega) (fun x W' hx hW'=>HK.out x W' hx (HS.out.trans ((HB.out.trans ((hY.trans ((hW.trans (hW'.mono hW.size)).mono (by simp))).mono HB.out.size)).mono HS.out.size)))).mono ?_
    rintro e w' ⟨b,rfl,hb,hw'⟩
    refine ⟨ret_bool ?_,hw'⟩
    have hj:j<ts.length:=by omega
    rw [Bool.eq_iff_iff,hb,decide_eq_true_iff,List.getElem?_eq_getElem hj]
    simp)
   obtain ⟨b1,p1,l1,b2,p2,l2,s1,s2⟩:=hsl
   simp only [s1,s2] at hC hY c6 c7
   have HY:=hid hY
   clear hY
   go_wp2_with fail
   refine hC.mono ?_
   rintro e w1 ⟨b,rfl,hb,hb1⟩
   have HB1:=hid (HB.out.trans ((HY.out.trans (hb1.mono (by simp))).mono HB.out.size))
   have HR:=hid hb
   have HT:=hid hT
   clear hb hb1 hC HB hT
   cases b with
   | true=>
    have HN:=hid (show ¬UnlikeMP K L ts from by
     obtain ⟨j,hj,hp⟩:=HR.out.1 rfl
     intro hu
     have hj':j<ts.length:=by omega
     rw [decide_eq_true_iff,List.getElem?_eq_getElem hj'] at hp
     refine hu k hlt j (by omega) ?_
     rw [HT.out]
     simpa using hp)
    have HZ:=hid (HS.out.trans (HB1.out.mono HS.out.size))
    clear HB1 HR
    go_wp2
    go_ret
    first|exact ⟨false,rfl,⟨fun h=>(by cases h),fun h=>absurd h HN.out⟩,HZ.out⟩|exact .inl ⟨rfl,HN.out,HZ.out⟩
   | false=>
    have HN:=hid (show ∀ i (hi:i<ts.length) j (hj:j<i),i<k+1→¬(K (ts[j]'(by omega))=K ts[i]∧L (ts[j]'(by omega))=L ts[i]) from fun i hi j hj h=>by
     by_cases e:i=k
     ·subst e
      intro hh
      have hj':j<ts.length:=by omega
      have:=HR.out.2 ⟨j,by omega,by rw [decide_eq_true_iff,List.getElem?_eq_getElem hj',← HT.out];simpa using hh⟩
      cases this
     ·exact HE.out i hi j hj (by omega))
    clear HR
    go_wp2
    go_roundw
    case rel=>exact ⟨k+1,by omega,by go_num,HN,HB1⟩
    case measure=>simp [intOf];omega
  ·have HN:=hid (show UnlikeMP K L ts from fun i hi j hj=>HE.out i hi j hj (by omega))
   have HZ:=hid (HS.out.trans (HB.out.mono HS.out.size))
   go_wp2
   go_ret
   first|exact ⟨true,rfl,⟨fun _=>HN.out,fun _=>rfl⟩,HZ.out⟩|exact .inr ⟨rfl,HN.out,HZ.out⟩
set_option maxHeartbeats 2000000
structure methodsI (c:MClass):Prop where
 e:∀ i (h:i<c.methods.length),methodI c c.methods[i]
 u:∀ i (h:i<c.methods.length) j (hj:j<i),¬(rawT c.pool (c.methods[j]'(by omega)).name=rawT c.pool c.methods[i].name∧rawT c.pool (c.methods[j]'(by omega)).desc=rawT c.pool c.methods[i].desc)
theorem methodQ_ex (c:MClass):∃ q:Nat→Bool,∀ k (h:k<c.methods.length),(q k=true↔methodI c c.methods[k]):=
 ⟨fun k=>@decide (∀ h:k<c.methods.length,methodI c c.methods[k]) (Classical.propDecidable _),fun k h=>by
  rw [@decide_eq_true_iff _ (Classical.propDecidable _)]
  exact ⟨fun g=>g h,fun g _=>g⟩⟩
theorem methodFn_any (c:MClass) (m:MMethod) (vp vi vf vm:Value) (B n:Nat) (a5:Option Addr) (n5 k5:Nat) (a6:Option Addr) (n6 k6:Nat) (w:World) (hc:c.few) (h:ClassW w B vp vi vf vm c) (hk:Lk w n (arrK vp c.flags c.name c.super vi vf vm) 36) :
  Calls Tryz.prog 141 #[.agg #[.int .i64 m.flags,.int .i64 m.name,.int .i64 m.desc,.int .i64 m.deep,.int .i64 m.locals,.string m.code,.slice a5 n5 k5,.slice a6 n6 k6],.pointer (some ⟨n,0,none⟩)] w fun e w'=>∃ b:Bool,e=.returned (.bool b)∧(b=true↔methodI c m)∧Below w.heap.size w w':=by
 have hbo:=(Below.refl w.heap.size w).alloc (Nat.le_refl _) (.cells #[.int .i64 m.flags,.int .i64 m.name,.int .i64 m.desc,.int .i64 m.deep,.int .i64 m.locals,.string m.code,.slice a5 n5 k5,.slice a6 n6 k6] 75)
 have hC:=methodFine_any c m vp vi vf vm B a5 n5 k5 a6 n6 k6 _ hc (h.keep hbo)
 have hlt:=hk.lt
 have hne:¬n=w.heap.size:=by omega
 obtain ⟨o1,j1,hv1⟩:=own_len h.p
 obtain ⟨o2,j2,hv2⟩:=own_len h.i
 obtain ⟨o3,j3,hv3⟩:=own_len h.f
 obtain ⟨o4,j4,hv4⟩:=h.m.len
 subst hv1 hv2 hv3 hv4
 obtain ⟨c0,c1,c2,c3,c4,c5,c6⟩:=hk.k7
 have HO:=hid hbo
 clear hbo h hk
 go_enter Tryz.func141,Tryz.ntmps141
 go_wp2_with fail
 refine hC.mono ?_
 rintro e w1 ⟨b,rfl,hb,hb1⟩
 have HB:=hid (HO.out.trans (hb1.mono HO.out.size))
 have HR:=hid hb
 clear hb1 hC HO hb c0 c1 c2 c3 c4 c5 c6
 go_wp2
 go_ret
 exact ⟨b,rfl,HR.out,HB.out⟩
theorem methodKeyFn_any (c:MClass) (m:MMethod) (vp vi vf vm:Value) (B n:Nat) (a5:Option Addr) (n5 k5:Nat) (a6:Option Addr) (n6 k6:Nat) (w:World) (hc:c.few) (h:ClassW w B vp vi vf vm c) (hk:Lk w n (arrK vp c.flags c.name c.super vi vf vm) 36) :
  Calls Tryz.prog 143 #[.agg #[.int .i64 m.flags,.int .i64 m.name,.int .i64 m.desc,.int .i64 m.deep,.int .i64 m.locals,.string m.code,.slice a5 n5 k5,.slice a6 n6 k6],.pointer (some ⟨n,0,none⟩)] w fun e w'=>e=.returned (.agg #[.string (rawT c.pool m.name),.string (rawT c.pool m.desc)])∧Below w.heap.size w w':=by
 have hbo:Below w.heap.size w ((w.alloc (.cells #[.int .i64 m.flags,.int .i64 m.name,.int .i64 m.desc,.int .i64 m.deep,.int .i64 m.locals,.string m.code,.slice a5 n5 k5,.slice a6 n6 k6] 75)).alloc (.cells #[.string ⟨#[]⟩,.string ⟨#[]⟩] 203)):=((Below.refl _ _).alloc (Nat.le_refl _) _).alloc (by simp) _
 have R0:Lk ((w.alloc (.cells #[.int .i64 m.flags,.int .i64 m.name,.int .i64 m.desc,.int .i64 m.deep,.int .i64 m.locals,.string m.code,.slice a5 n5 k5,.slice a6 n6 k6] 75)).alloc (.cells #[.string ⟨#[]⟩,.string ⟨#[]⟩] 203)) (w.heap.size+1) #[.string ⟨#[]⟩,.string ⟨#[]⟩] 203:=by
  have:=Lk.new (w.alloc (.cells #[.int .i64 m.flags,.int .i64 m.name,.int .i64 m.desc,.int .i64 m.deep,.int .i64 m.locals,.string m.code,.slice a5 n5 k5,.slice a6 n6 k6] 75)) #[.string ⟨#[]⟩,.string ⟨#[]⟩] 203
  simpa using this
 have hC:=methodKeyOf_any c m vp vi vf vm B a5 n5 k5 a6 n6 k6 _ hc (h.keep hbo)
 have hlt:=hk.lt
 have hne:¬n=w.heap.size:=by omega
 have hne2:¬n=w.heap.size+1:=by omega
 obtain ⟨o1,j1,hv1⟩:=own_len h.p
 obtain ⟨o2,j2,hv2⟩:=own_len h.i
 obtain ⟨o3,j3,hv3⟩:=own_len h.f
 obtain ⟨o4,j4,hv4⟩:=h.m.len
 subst hv1 hv2 hv3 hv4
 obtain ⟨c0,c1,c2,c3,c4,c5,c6⟩:=hk.k7
 generalize rawT c.pool m.name=s1 at hC ⊢
 generalize rawT c.pool m.desc=s2 at hC ⊢
 have HO:=hid hbo
 have HR:=hid R0
 clear hbo h hk R0
 go_enter Tryz.func143,Tryz.ntmps143
 go_wp2_with fail
 refine hC.mono ?_
 rintro e w1 ⟨rfl,hb1⟩
 have HB:=hid (HO.out.trans (hb1.mono HO.out.size))
 have R1:=HR.out.keep hb1
 have r0:=R1.c 0 _ rfl
 have r1:=R1.c 1 _ rfl
 have f0:=R1.z 0
 have f1:=R1.z 1
 clear hb1 hC HO HR R1 c0 c1 c2 c3 c4 c5 c6
 go_wp2
 refine bodyPost_ret (v:=.agg #[.string s1,.string s2]) (by simp [results,Tryz.results143,go_sem, *]) rfl ⟨rfl, ?_⟩
 exact (HB.out.setCell (by simp) _).setCell (by simp) _
theorem checkMethods_any (c:MClass) (vp vi vf vm:Value) (B:Nat) (w:World) (hc:c.few) (h:ClassW w B vp vi vf vm c) :
  Calls Tryz.prog 96 #[.agg #[vp,.int .i64 c.flags,.int .i64 c.name,.int .i64 c.super,vi,vf,vm]] w fun e w'=>∃ b:Bool,e=.returned (errV b 5)∧(b=true↔methodsI c)∧Below w.heap.size w w':=by
 obtain ⟨o1,j1,hv1⟩:=own_len h.p
 obtain ⟨o2,j2,hv2⟩:=own_len h.i
 obtain ⟨o3,j3,hv3⟩:=own_len h.f
 obtain ⟨o4,j4,hv4⟩:=h.m.len
 subst hv1 hv2 hv3 hv4
 have P0:=CB.start w (arrK (.slice o1 c.pool.length j1) c.flags c.name c.super (.slice o2 c.faces.length j2) (.slice o3 c.fields.length j3) (.slice o4 c.methods.length j4))
 obtain ⟨q,hq⟩:=methodQ_ex c
 obtain ⟨xs,hxl,hxo,hxe⟩:=id h.m
 have hS:SlicedM xs:=fun k hk=>by
  obtain ⟨vt,vr,he,hw⟩:=hxe k (by omega) hk
  obtain ⟨a1,k1,e1⟩:=own_len hw.t
  obtain ⟨a2,k2,e2⟩:=hw.f.len
  rw [he]
  exact ⟨a1,_,k1,a2,_,k2,e1,e2⟩
 have hA:=fun W (hW:CB w (arrK (.slice o1 c.pool.length j1) c.flags c.name c.super (.slice o2 c.faces.length j2) (.slice o3 c.fields.length j3) (.slice o4 c.methods.length j4)) W)=>allMethod_any (.pointer (some ⟨w.heap.size,0,none⟩)) (.slice o4 c.methods.length j4) xs B q W (by have:=hc.methods;omega) (by rw [hxl];exact own_below hxo hW.b) hS (fun k hk W' hW'=>by
  have P:=hW.keep hW'
  obtain ⟨vt,vr,he,hw⟩:=hxe k (by omega) hk
  obtain ⟨a1,k1,e1⟩:=own_len hw.t
  obtain ⟨a2,k2,e2⟩:=hw.f.len
  rw [he]
  subst e1 e2
  refine (methodFn_any c (c.methods[k]'(by omega)) _ _ _ _ B w.heap.size _ _ _ _ _ _ W' hc (h.keep P.b) P.k).mono ?_
  rintro e w1 ⟨b,rfl,hb,hb1⟩
  refine ⟨ret_bool ?_,hb1⟩
  rw [Bool.eq_iff_iff,hb,hq k (by omega)])
 have hU:=fun W (hW:CB w (arrK (.slice o1 c.pool.length j1) c.flags c.name c.super (.slice o2 c.faces.length j2) (.slice o3 c.fields.length j3) (.slice o4 c.methods.length j4)) W)=>unlikeM_any (fun x=>rawT c.pool x.name) (fun x=>rawT c.pool x.desc) (.pointer (some ⟨w.heap.size,0,none⟩)) (.slice o4 c.methods.length j4) xs B W (by have:=hc.methods;omega) (by rw [hxl];exact own_below hxo hW.b) hS (fun x W' hx hW'=>by
  have P:=hW.keep hW'
  obtain ⟨a1,n1,k1,a2,n2,k2,e1,e2⟩:=hx
  rw [e1,e2]
  exact methodKeyFn_any c ⟨x.flags,x.name,x.desc,x.deep,x.locals,x.code,[],[]⟩ _ _ _ _ B w.heap.size a1 n1 k1 a2 n2 k2 W' hc (h.keep P.b) P.k)
 have HUM:=hid (show UnlikeMP (fun x=>rawT c.pool x.name) (fun x=>rawT c.pool x.desc) xs↔∀ i (h:i<c.methods.length) j (hj:j<i),¬(rawT c.pool (c.methods[j]'(by omega)).name=rawT c.pool c.methods[i].name∧rawT c.pool (c.methods[j]'(by omega)).desc=rawT c.pool c.methods[i].desc) from by
  have ex:∀ k (hk:k<c.methods.length),(xs[k]'(by omega)).name=c.methods[k].name∧(xs[k]'(by omega)).desc=c.methods[k].desc:=fun k hk=>by
   obtain ⟨vt,vr,he,hw⟩:=hxe k hk (by omega)
   rw [he]
   exact ⟨rfl,rfl⟩
  unfold UnlikeMP
  constructor
  ·intro hh i hi j hj
   have:=hh i (by omega) j hj
   simp only [ex i hi,ex j (by omega)] at this
   exact this
  ·intro hh i hi j hj
   have:=hh i (by omega) j hj
   simp only [ex i (by omega),ex j (by omega)]
   exact this)
 have hmf:∀ (fn:Fn) (first cap:Array Value) (w:World),(Instr.makeFunc fn first cap).run Tryz.prog w=.ok (.func fn first cap) w:=fun _ _ _ _=>rfl
 rw [hxl] at hA
 have HA:=hid hA
 have HU:=hid hU
 have HQ:=hid hq
 clear h hc hA hU hq hxo hxe hS hxl
 go_enter Tryz.func96,Tryz.ntmps96
 go_wp2_with fail
 refine (HA.out _ P0).mono ?_
 rintro e w1 ⟨b1,rfl,r1,hb1⟩
 have P1:=P0.keep hb1
 have R1:=hid r1
 clear P0 hb1 r1 HA
 obtain ⟨c0,c1,c2,c3,c4,c5,c6⟩:=P1.k.k7
 have HB1:=hid P1.b
 cases b1 with
 | false=>
  have HN:=hid (show ¬methodsI c from fun h=>by have:=R1.out.2 (fun k hk=>(HQ.out k hk).2 (h.e k hk));cases this)
  clear R1 P1 HU HQ
  go_wp2_with (go_at_call 131;refine (formUnless_any _ _ _).mono ?_;rintro e w5 ⟨rfl,hb5⟩;have HB5:=hid (HB1.out.trans (hb5.mono HB1.out.size));clear hb5)
  go_ret
  exact ⟨false,rfl,⟨fun h=>(by cases h),fun h=>absurd h HN.out⟩,HB5.out⟩
 | true=>
  replace R1:=hid (R1.out.1 rfl)
  go_wp2_with fail
  refine (HU.out _ P1).mono ?_
  rintro e w2 ⟨b2,rfl,r2,hb2⟩
  have R2:=hid (show b2=true↔methodsI c from r2.trans (HUM.out.trans ⟨fun h=>⟨fun k hk=>(HQ.out k hk).1 (R1.out k hk),h⟩,fun h=>h.u⟩))
  have HB2:=hid (HB1.out.trans (hb2.mono HB1.out.size))
  clear P1 hb2 r2 HU R1 HB1 HQ HUM c0 c1 c2 c3 c4 c5 c6
  go_wp2_with (go_at_call 131;refine (formUnless_any _ _ _).mono ?_;rintro e w5 ⟨rfl,hb5⟩;have HB5:=hid (HB2.out.trans (hb5.mono HB2.out.size));clear hb5)
  go_ret
  exact ⟨b2,rfl,R2.out,HB5.out⟩
end Go.Proofs.YtecbcdfkedocbaaGreatDoor
