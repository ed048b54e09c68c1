/- Gathered: OpsGetSpec ChkBodyS. -/
import Derived.Test.YtecbcdfkedocbaaGreatDoorK01
import Derived.Test.YtecbcdfkedocbaaGreatDoorK05
import Derived.Test.YtecbcdfkedocbaaGreatDoorG01
namespace Go.Proofs.YtecbcdfkedocbaaGreatDoor
open Mx Go.RowKit
set_option maxHeartbeats 400000
set_option maxRecDepth 20000
def L3Post (s:ByteArray) (w:World) (e:Ending) (w':World):Prop:=
 (ops s=none∧e=.returned (.tuple #[.slice none 0 0,.bool false])∧Below w.heap.size w w') ∨
 ∃ ts v,ops s=some ts∧e=.returned (.tuple #[v,.bool (decide (0<s.size))])∧w'.ownsRow w.heap.size 169 3 v ts.length (cellsL ts)∧Below w.heap.size w w'
theorem l3Get_any (s:ByteArray) (w:World) (hs:s.size≤120) :
  Calls Tryz.prog 117 #[.string s] w fun e w'=>L3Post s w e w':=by
 obtain ⟨i0,hi,hz0,hz1,hz2⟩:=info_parts infoIns
 go_enter Tryz.func117,Tryz.ntmps117
 go_wp2
 go_loopw [4,5] (fun v i wr=>∃ (ts:List Op3) (a f:Nat),i=.int .i64 a∧a≤s.size∧s.size≤a+f∧ts.length+f≤s.size∧(0<a↔0<ts.length)∧wr.ownsRow w.heap.size 169 3 v ts.length (cellsL ts)∧Below w.heap.size w wr∧Hid (ops s=(opsAt s f a).map (preO ts))) (fun _ i _=>s.size - (intOf i).toNat)
 case atStart=>exact ⟨[],0,s.size,rfl,by omega,by omega,by simp,by simp,World.ownsRow_made w #[] 0 (Nat.le_refl _) (by unfold maxLen;omega) rfl,(Below.refl _ _).alloc (Nat.le_refl _) _,(preO_nil _).symm⟩
 case round=>
  obtain ⟨ts,a,f,rfl,ha,hf,hl,hat,hown,hbel,HR⟩:=hrel
  obtain ⟨ao,cap,hv⟩:=own_len hown
  subst hv
  have HAT:Hid (0<a↔0<ts.length):=hat
  clear hat
  by_cases hlt:a<s.size
  ·obtain ⟨g,rfl⟩:∃ g,f=g+1:=⟨f - 1,by omega⟩
   have hop:Mx.opAt s a=(s[a].toNat:Int):=by unfold Mx.opAt opNat;rw [byteOf s a hlt]
   have hc:(s[a].toNat:Int)≤255:=by have:=s[a].toNat_lt;omega
   obtain ⟨m,hm⟩:∃ m,args (Mx.opAt s a)=m:=⟨_,rfl⟩
   have hA:∀ w,Calls Tryz.prog 160 #[.int .i64 (s[a].toNat:Int)] w fun e w'=>e=.returned (.int .i64 m)∧w'=w:=fun w=>by
    refine (l3Args_any _ w).mono ?_
    rintro e w' ⟨rfl,rfl⟩
    exact ⟨ret_i64 (by rw [← hop];exact hm),rfl⟩
   have hrng:=args_range (Mx.opAt s a)
   rw [hm] at hrng
   by_cases hneg:m<0
   ·have HN:Hid (ops s=none):=by
     unfold Hid;rw [HR.out,opsAt_bad hlt (.inl (by rw [hm];exact hneg))];rfl
    clear hop HR hm hrng
    go_wp2_with (go_at_call 160;refine (hA _).mono ?_;rintro e w1 ⟨rfl,hw⟩;replace hw:=hw.symm;subst hw)
    go_ret2
    exact .inl ⟨HN.out,rfl,hbel⟩
   ·obtain ⟨n,rfl⟩:∃ n:Nat,m=n:=⟨m.toNat,by omega⟩
    have hn2:n≤2:=by omega
    clear hrng
    by_cases hfit:a+1+n≤s.size
    ·obtain ⟨z,hz⟩:∃ z,(insAt s a).num=z:=⟨_,rfl⟩
     have hN:∀ w,Calls Tryz.prog 161 #[.string (s.extract (a+1) (a+1+n)),.int .i64 (s[a].toNat:Int)] w fun e w'=>e=.returned (.int .i64 z)∧w'=w:=fun w=>by
      refine (l3Num_any _ _ w (by simp;omega)).mono ?_
      rintro e w' ⟨rfl,rfl⟩
      refine ⟨ret_i64 ?_,rfl⟩
      rw [← hz,Lib.extract_data]
      unfold insAt behind
      rw [hm,hop];rfl
     have HC:Hid (cells3 (insAt s a)=[.int .i64 (a:Int),.int .i64 (s[a].toNat:Int),.int .i64 z]):=by
      unfold Hid;rw [← hz,← hop];rfl
     have HS:Hid (ops s=(opsAt s g (a+1+n)).map (preO (ts++[insAt s a]))):=by
      unfold Hid;rw [HR.out,← preO_preO,← opsAt_step hlt hm hfit]
     clear hop HR hm hz HAT
     go_wp2_with (first|(go_at_call 160;refine (hA _).mono ?_;rintro e w1 ⟨rfl,hw⟩;replace hw:=hw.symm;subst hw)|(go_at_call 161;refine (hN _).mono ?_;rintro e w1 ⟨rfl,hw⟩;replace hw:=hw.symm;subst hw)|(at_builtin;refine wpList_append_own _ rfl _ _ 163 rfl w.heap.size 169 i0 (.agg #[.int .i64 0,.int .i64 0,.int .i64 0]) 3 24 Tryz.underlying163 hi hz0 hz1 hz2 rfl (by decide) _ _ _ rfl (hown.alloc _) ⟨wr.heap.size,0,none⟩ 1 1 [.int .i64 (a:Int),.int .i64 (s[a].toNat:Int),.int .i64 z] rfl rfl ?c1 ?c2 ?c3 ?c4 ?c5 ?_))
     case c1=>exact fun j u hj=>cells_new _ _ _ j u hj
     case c2=>intro u hu;simp at hu;rcases hu with rfl|rfl|rfl<;>rfl
     case c3=>unfold maxLen;omega
     case c4=>omega
     case c5=>have:=hbel.size;simp;omega
     ·intro v' w2 hown' hgrow _
      obtain ⟨R1,R2⟩:=own_next hown (Below.refl _ _) hbel hbel.size hown' hgrow
      rw [← HC.out,← cellsL_snoc] at R1
      clear hown' hgrow hown hbel
      go_wp2
      go_roundw
      case rel=>exact ⟨ts++[insAt s a],a+1+n,g,by go_num,by omega,by omega,by simp;omega,⟨fun _=>by simp,fun _=>by omega⟩,by simpa using R1,R2,HS⟩
      case measure=>simp [intOf];omega
    ·have HN:Hid (ops s=none):=by
      unfold Hid;rw [HR.out,opsAt_bad hlt (.inr (by rw [hm];omega))];rfl
     clear hop HR hm HAT
     go_wp2_with (go_at_call 160;refine (hA _).mono ?_;rintro e w1 ⟨rfl,hw⟩;replace hw:=hw.symm;subst hw)
     go_ret2
     exact .inl ⟨HN.out,rfl,hbel⟩
  ·have HN:Hid (ops s=some ts):=by unfold Hid;rw [HR.out,opsAt_end hlt];simp [preO]
   have HE:Hid (decide (0<ts.length)=decide (0<s.size)):=by
    unfold Hid
    have:=HAT.out
    rw [Bool.eq_iff_iff];simp only [decide_eq_true_eq];omega
   clear HR HAT
   go_wp2
   go_ret2
   exact .inr ⟨ts,_,HN.out,by rw [← HE.out];rfl,hown,hbel⟩
set_option maxHeartbeats 4000000
set_option linter.unusedVariables false
structure bodyP (c:MClass) (m:MMethod):Prop where
 op:oGood m.code=true
 dp:m.deep≤8
 lo:inI m.locals (takesI (txtC c.pool m.desc) (bitB m.flags 1)) 8=true
 os:∀ i (h:i<(oList m.code).length),opB c.pool m.locals (oList m.code) (oList m.code)[i]=true
 tr:∀ i (h:i<m.traps.length),trapB (clsC c.pool) m.code.size (oList m.code) m.traps[i]=true
 fr:(∀ i (h:i<m.frames.length),frameS (clsC c.pool) m.locals m.deep (oList m.code) m.frames[i]=true)∧ascF m.frames
theorem l3GetO_any (s:ByteArray) (w:World) (hs:s.size≤120) :
  Calls Tryz.prog 117 #[.string s] w fun e w'=>∃ ts v,e=.returned (.tuple #[v,.bool (oGood s)])∧w'.ownsRow w.heap.size 169 3 v ts.length (rowIns ts)∧(oGood s=true→ts=oList s)∧ts.length≤120∧Below w.heap.size w w':=by
 refine (l3Get_any s w hs).mono ?_
 rintro e w' (⟨h1,rfl,hb⟩|⟨ts,v,h1,rfl,ho,hb⟩)
 ·obtain ⟨e1,e2⟩:=ops_no (.inr (.inr h1))
  exact ⟨[],.slice none 0 0,by rw [e1],World.ownsRow_nil _ _ _ _,(fun h=>by rw [e1] at h;cases h),by simp,hb⟩
 ·have hl:=opsAt_len h1
  by_cases h0:0<s.size
  ·obtain ⟨e1,e2⟩:=ops_yes (by omega) hs h1
   exact ⟨ts,v,by rw [e1,decide_eq_true h0],ho,fun _=>e2.symm,by omega,hb⟩
  ·obtain ⟨e1,e2⟩:=ops_no (s:=s) (.inl (by omega))
   exact ⟨ts,v,by rw [e1,decide_eq_false h0],ho,(fun h=>by rw [e1] at h;cases h),by omega,hb⟩
theorem l4BodyN_any (c:MClass) (m:MMethod) (vp vi vf vm vt vr:Value) (B Bm:Nat) (w:World) (hc:c.few) (hm:m.few) (h0:0≤m.flags) (h255:m.flags≤255) (hq8:bitB m.flags 8=false) (hcode:m.code.size≤120) (h:ClassW w B vp vi vf vm c) (hM:MethodW w Bm vt vr m) :
  Calls Tryz.prog 77 #[.agg #[vp,.int .i64 c.flags,.int .i64 c.name,.int .i64 c.super,vi,vf,vm],.agg #[.int .i64 m.flags,.int .i64 m.name,.int .i64 m.desc,.int .i64 m.deep,.int .i64 m.locals,.string m.code,vt,vr]] w fun e w'=>∃ b:Bool,e=.returned (.bool b)∧(b=true↔bodyP c m)∧Below w.heap.size w w':=by
 obtain ⟨o1,j1,hv1⟩:=own_len h.p
 obtain ⟨o2,j2,hv2⟩:=own_len h.i
 obtain ⟨o3,j3,hv3⟩:=own_len h.f
 obtain ⟨o4,j4,hv4⟩:=h.m.len
 obtain ⟨a5,k5,hv5⟩:=own_len hM.t
 obtain ⟨a6,k6,hv6⟩:=hM.f.len
 subst hv1 hv2 hv3 hv4 hv5 hv6
 have P0:=HB.two w (arrK (.slice o1 c.pool.length j1) c.flags c.name c.super (.slice o2 c.faces.length j2) (.slice o3 c.fields.length j3) (.slice o4 c.methods.length j4)) (arrQ m (.slice a5 m.traps.length k5) (.slice a6 m.frames.length k6)) 36 75
 have hH:=fun W=>l4Has_any m.flags 8 W h0 h255 (by simp)
 rw [hq8] at hH
 clear hq8
 have hG:=fun W=>l3GetO_any m.code W hcode
 have HTk:=hid (fun W (hW:HB w [(w.heap.size+1,arrQ m (.slice a5 m.traps.length k5) (.slice a6 m.frames.length k6),75),(w.heap.size,arrK (.slice o1 c.pool.length j1) c.flags c.name c.super (.slice o2 c.faces.length j2) (.slice o3 c.fields.length j3) (.slice o4 c.methods.length j4),36)] W)=>l4Takes_any c m _ _ _ _ B a5 m.traps.length k5 a6 m.frames.length k6 W hc h0 h255 (h.keep hW.b))
 have hI:=fun W=>l1InI_any m.locals (takesI (txtC c.pool m.desc) (bitB m.flags 1)) 8 W
 have HIn:=hid (fun os vo Bo W (hol:os.length≤1048576) (hW:Below w.heap.size w W) (hO:W.ownsRow Bo 169 3 vo os.length (rowIns os)) x=>l4Ins_any c m _ _ _ _ vo B a5 m.traps.length k5 a6 m.frames.length k6 os x W hc hol (h.keep hW) ⟨Bo,hO⟩)
 have HTr:=hid (fun os vo Bo W (hol:os.length≤1048576) (hW:Below w.heap.size w W) (hO:W.ownsRow Bo 169 3 vo os.length (rowIns os)) x=>l4Trap_any c m _ _ _ _ vo B a5 m.traps.length k5 a6 m.frames.length k6 os x W hc hol (h.keep hW) ⟨Bo,hO⟩)
 have HFr:=hid (fun os vo Bo W (hol:os.length≤1048576) (hW:Below w.heap.size w W) (hO:W.ownsRow Bo 169 3 vo os.length (rowIns os))=>l4Frames_any c m _ _ _ _ (.slice a6 m.frames.length k6) vo B Bm a5 m.traps.length k5 os W hc hm hol (h.keep hW) (hM.f.keep hW) ⟨Bo,hO⟩)
 have HT0:=hid hM.t
 have htl:=hm.2.1
 obtain ⟨tk,htk⟩:∃ t,Hid (takesI (txtC c.pool m.desc) (bitB m.flags 1)=t):=⟨_,hid rfl⟩
 obtain ⟨qi,hqi⟩:∃ q,Hid (inI m.locals tk 8=q):=⟨_,hid rfl⟩
 rw [htk.out] at HTk hI
 rw [hqi.out] at hI
 obtain ⟨qg,hqg⟩:∃ q,Hid (oGood m.code=q):=⟨_,hid rfl⟩
 rw [hqg.out] at hG
 clear h hc hm hM hcode h0 h255
 go_enter Tryz.func77,Tryz.ntmps77
 go_wp2_with (go_at_call 115;refine (hH _).mono ?_;rintro e w1 ⟨rfl,hw⟩;replace hw:=hw.symm;subst hw)
 refine (hG _).mono ?_
 rintro e w1 ⟨os,v,rfl,ho,hos,hol,hb1⟩
 obtain ⟨oo,jo,hv⟩:=own_len ho
 subst hv
 have P1:=P0.keep hb1
 have HOS:=hid hos
 obtain ⟨Bo,ho⟩:∃ Bo,w1.ownsRow Bo 169 3 (.slice oo os.length jo) os.length (rowIns os):=⟨_,ho⟩
 clear P0 hb1 hG hH hos
 go_upto_region 4 with fail
 go_cut [33] (fun x wc=>(∃ b:Bool,x=.bool b∧Hid (b=false↔(qg=true∧m.deep≤8∧qi=true)))∧HB w [(w.heap.size+1,arrQ m (.slice a5 m.traps.length k5) (.slice a6 m.frames.length k6),75),(w.heap.size,arrK (.slice o1 c.pool.length j1) c.flags c.name c.super (.slice o2 c.faces.length j2) (.slice o3 c.fields.length j3) (.slice o4 c.methods.length j4),36)] wc∧wc.ownsRow Bo 169 3 (.slice oo os.length jo) os.length (rowIns os))
 case first=>
  have PD:=P1.keep (show Below w1.heap.size w1 w1.drew from (Below.refl _ _).drew)
  have hoD:=own_below ho (show Below w1.heap.size w1 w1.drew from (Below.refl _ _).drew)
  clear P1 ho
  obtain ⟨d0,d1,d2,d3,d4,d5,d6,d7⟩:=PD.hd.q8
  obtain ⟨c0,c1,c2,c3,c4,c5,c6⟩:=PD.tl.hd.k7
  refine wp_region_held_drew (S:=(fun w':World=>w'.cell? ⟨w.heap.size,0,none⟩=some (.slice o1 c.pool.length j1)∧w'.cell? ⟨w.heap.size,1,none⟩=some (.int .i64 c.flags)∧w'.cell? ⟨w.heap.size,2,none⟩=some (.int .i64 c.name)∧w'.cell? ⟨w.heap.size,3,none⟩=some (.int .i64 c.super)∧w'.cell? ⟨w.heap.size,4,none⟩=some (.slice o2 c.faces.length j2)∧w'.cell? ⟨w.heap.size,5,none⟩=some (.slice o3 c.fields.length j3)∧w'.cell? ⟨w.heap.size,6,none⟩=some (.slice o4 c.methods.length j4)∧w'.cell? ⟨w.heap.size+1,0,none⟩=some (.int .i64 m.flags)∧w'.cell? ⟨w.heap.size+1,1,none⟩=some (.int .i64 m.name)∧w'.cell? ⟨w.heap.size+1,2,none⟩=some (.int .i64 m.desc)∧w'.cell? ⟨w.heap.size+1,3,none⟩=some (.int .i64 m.deep)∧w'.cell? ⟨w.heap.size+1,4,none⟩=some (.int .i64 m.locals)∧w'.cell? ⟨w.heap.size+1,5,none⟩=some (.string m.code)∧w'.cell? ⟨w.heap.size+1,6,none⟩=some (.slice a5 m.traps.length k5)∧w'.cell? ⟨w.heap.size+1,7,none⟩=some (.slice a6 m.frames.length k6))) (by kernel_rfl) ⟨c0,c1,c2,c3,c4,c5,c6,d0,d1,d2,d3,d4,d5,d6,d7⟩ (fun hHeld=>?_)
  cases qg with
  | false=>
   have HB:=hid (show true=false↔(false=true∧m.deep≤8∧qi=true) from ⟨fun h=>(by cases h),fun h=>(by cases h.1)⟩)
   refine tkw 0 ⟨some 18,.move (.tmp 6),4,"l4_check.go:146",#[],none⟩ ?_
   refine tkw 1 ⟨some 19,.unOp .not 4 (.tmp 18),4,"l4_check.go:146",#[⟨0,.data⟩],none⟩ ?_
   refine tkw 2 ⟨some 20,.move (.tmp 19),4,"l4_check.go:146",#[⟨1,.data⟩],none⟩ ?_
   refine wpAnyH_skip (by kernel_rfl) (fun _ _ _ _ h=>h) (by assumption) [(3,21),(4,22),(5,23)] (by kernel_rfl) ?_
   (try simp only [skipL,skipA,s_p,s_a,s_z,s_s])
   refine tkw 6 ⟨some 24,.pick (.tmp 20) (.const (.bool true)) (.tmp 23),4,"l4_check.go:146",#[⟨2,.data⟩,⟨5,.data⟩],none⟩ ?_
   refine tkw 7 ⟨some 25,.move (.tmp 24),4,"l4_check.go:146",#[⟨6,.data⟩,⟨2,.chain⟩],none⟩ ?_
   refine wpAnyH_skip (by kernel_rfl) (fun _ _ _ _ h=>h) (by assumption) [(8,26),(9,27),(10,28),(11,29),(12,30),(13,31),(14,32)] (by kernel_rfl) ?_
   (try simp only [skipL,skipA,s_p,s_a,s_z,s_s])
   refine tkw 15 ⟨some 33,.pick (.tmp 25) (.const (.bool true)) (.tmp 32),4,"l4_check.go:146",#[⟨7,.data⟩,⟨14,.data⟩],none⟩ ?_
   refine wpAnyH_done (by kernel_rfl) ?_ _
   clear c0 c1 c2 c3 c4 c5 c6 d0 d1 d2 d3 d4 d5 d6 d7 
   go_wp2_with fail
   go_meet
   case rel=>exact ⟨⟨true,rfl,HB⟩,PD,hoD⟩
  | true=>
   by_cases hd:8<m.deep
   ·have HB:=hid (show true=false↔(true=true∧m.deep≤8∧qi=true) from ⟨fun h=>(by cases h),fun h=>(by have:=h.2.1;omega)⟩)
    refine tkw 0 ⟨some 18,.move (.tmp 6),4,"l4_check.go:146",#[],none⟩ ?_
    refine tkw 1 ⟨some 19,.unOp .not 4 (.tmp 18),4,"l4_check.go:146",#[⟨0,.data⟩],none⟩ ?_
    refine tkw 2 ⟨some 20,.move (.tmp 19),4,"l4_check.go:146",#[⟨1,.data⟩],none⟩ ?_
    refine tkw 3 ⟨some 21,.fieldAddr 75 (.tmp 3) 3,0,"l4_check.go:146",#[⟨2,.guard⟩],some (2,false)⟩ ?_
    refine tkw 4 ⟨some 22,.load 3 (.tmp 21),3,"l4_check.go:146",#[⟨3,.data⟩,⟨2,.guard⟩],some (2,false)⟩ ?_
    refine tkw 5 ⟨some 23,.binOp .gtr 3 (.tmp 22) (.const (.int .i64 8)) 3,4,"l4_check.go:146",#[⟨4,.data⟩,⟨2,.guard⟩],some (2,false)⟩ ?_
    refine tkw 6 ⟨some 24,.pick (.tmp 20) (.const (.bool true)) (.tmp 23),4,"l4_check.go:146",#[⟨2,.data⟩,⟨5,.data⟩],none⟩ ?_
    refine tkw 7 ⟨some 25,.move (.tmp 24),4,"l4_check.go:146",#[⟨6,.data⟩,⟨2,.chain⟩],none⟩ ?_
    refine wpAnyH_skip (by kernel_rfl) (fun _ _ _ _ h=>h) (by assumption) [(8,26),(9,27),(10,28),(11,29),(12,30),(13,31),(14,32)] (by kernel_rfl) ?_
    (try simp only [skipL,skipA,s_p,s_a,s_z,s_s])
    refine tkw 15 ⟨some 33,.pick (.tmp 25) (.const (.bool true)) (.tmp 32),4,"l4_check.go:146",#[⟨7,.data⟩,⟨14,.data⟩],none⟩ ?_
    refine wpAnyH_done (by kernel_rfl) ?_ _
    clear c0 c1 c2 c3 c4 c5 c6 d0 d1 d2 d3 d4 d5 d6 d7 
    go_wp2_with fail
    go_meet
    case rel=>exact ⟨⟨true,rfl,HB⟩,PD,hoD⟩
   ·have HB:=hid (show (!qi)=false↔(true=true∧m.deep≤8∧qi=true) from ⟨fun h=>⟨rfl,by omega,by simpa using h⟩,fun h=>by rw [h.2.2];rfl⟩)
    refine tkw 0 ⟨some 18,.move (.tmp 6),4,"l4_check.go:146",#[],none⟩ ?_
    refine tkw 1 ⟨some 19,.unOp .not 4 (.tmp 18),4,"l4_check.go:146",#[⟨0,.data⟩],none⟩ ?_
    refine tkw 2 ⟨some 20,.move (.tmp 19),4,"l4_check.go:146",#[⟨1,.data⟩],none⟩ ?_
    refine tkw 3 ⟨some 21,.fieldAddr 75 (.tmp 3) 3,0,"l4_check.go:146",#[⟨2,.guard⟩],some (2,false)⟩ ?_
    refine tkw 4 ⟨some 22,.load 3 (.tmp 21),3,"l4_check.go:146",#[⟨3,.data⟩,⟨2,.guard⟩],some (2,false)⟩ ?_
    refine tkw 5 ⟨some 23,.binOp .gtr 3 (.tmp 22) (.const (.int .i64 8)) 3,4,"l4_check.go:146",#[⟨4,.data⟩,⟨2,.guard⟩],some (2,false)⟩ ?_
    refine tkw 6 ⟨some 24,.pick (.tmp 20) (.const (.bool true)) (.tmp 23),4,"l4_check.go:146",#[⟨2,.data⟩,⟨5,.data⟩],none⟩ ?_
    refine tkw 7 ⟨some 25,.move (.tmp 24),4,"l4_check.go:146",#[⟨6,.data⟩,⟨2,.chain⟩],none⟩ ?_
    refine tkw 8 ⟨some 26,.fieldAddr 75 (.tmp 3) 4,0,"l4_check.go:146",#[⟨7,.guard⟩],some (7,false)⟩ ?_
    refine tkw 9 ⟨some 27,.load 3 (.tmp 26),3,"l4_check.go:146",#[⟨8,.data⟩,⟨7,.guard⟩],some (7,false)⟩ ?_
    refine tkw 10 ⟨some 28,.load 36 (.tmp 2),36,"l4_check.go:146",#[⟨7,.guard⟩],some (7,false)⟩ ?_
    refine tkw 11 ⟨some 29,.load 75 (.tmp 3),75,"l4_check.go:146",#[⟨7,.guard⟩],some (7,false)⟩ ?_
    refine wpAnyH_ready (rs:=[12]) (by kernel_rfl) (by simp) ?_
    refine AllReadyH.cons rfl (fun K' hK'=>?_) AllReadyH.nil
    go_simp
    refine (HTk.out _ PD).mono ?_
    rintro e w8 ⟨rfl,hb⟩
    have P8:=PD.keep hb
    have ho8:=own_below hoD hb
    clear hoD
    clear PD hb c0 c1 c2 c3 c4 c5 c6 d0 d1 d2 d3 d4 d5 d6 d7
    obtain ⟨d0,d1,d2,d3,d4,d5,d6,d7⟩:=P8.hd.q8
    obtain ⟨c0,c1,c2,c3,c4,c5,c6⟩:=P8.tl.hd.k7
    refine hK'.out _ _ ⟨c0,c1,c2,c3,c4,c5,c6,d0,d1,d2,d3,d4,d5,d6,d7⟩ (fun hHeld=>?_)
    clear hK' K'
    refine wpAnyH_ready (rs:=[13]) (by kernel_rfl) (by simp) ?_
    refine AllReadyH.cons rfl (fun K' hK'=>?_) AllReadyH.nil
    go_simp
    refine (hI _).mono ?_
    rintro e w9 ⟨rfl,hw⟩
    replace hw:=hw.symm
    subst hw
    refine hK'.out _ _ ⟨c0,c1,c2,c3,c4,c5,c6,d0,d1,d2,d3,d4,d5,d6,d7⟩ (fun hHeld=>?_)
    clear hK' K'
    refine tkw 14 ⟨some 32,.unOp .not 4 (.tmp 31),4,"l4_check.go:146",#[⟨13,.data⟩,⟨7,.guard⟩],some (7,false)⟩ ?_
    refine tkw 15 ⟨some 33,.pick (.tmp 25) (.const (.bool true)) (.tmp 32),4,"l4_check.go:146",#[⟨7,.data⟩,⟨14,.data⟩],none⟩ ?_
    refine wpAnyH_done (by kernel_rfl) ?_ _
    clear c0 c1 c2 c3 c4 c5 c6 d0 d1 d2 d3 d4 d5 d6 d7 
    go_wp2_with fail
    go_meet
    case rel=>exact ⟨⟨!qi,rfl,HB⟩,P8,ho8⟩
 case rest=>
 obtain ⟨⟨b,rfl,hb⟩,P2,ho2⟩:=hcut
 clear P1 HTk hI ho
 obtain ⟨d0,d1,d2,d3,d4,d5,d6,d7⟩:=P2.hd.q8
 obtain ⟨c0,c1,c2,c3,c4,c5,c6⟩:=P2.tl.hd.k7
 have HB2:=hid P2.b
 cases b with
 | true=>
  have HN:=hid (show ¬bodyP c m from fun h=>by
   have hh:=h
   have:=hb.out.2 ⟨by rw [← hqg.out];exact hh.op,hh.dp,by rw [← hqi.out,← htk.out];exact hh.lo⟩
   cases this)
  clear P2 ho2 HIn HTr HFr hb HOS
  go_wp2
  go_ret
  first|exact ⟨false,rfl,⟨fun h=>(by cases h),fun h=>absurd h HN.out⟩,HB2.out⟩|exact .inl ⟨rfl,HN.out,HB2.out⟩
 | false=>
 obtain ⟨rfl,hdp,rfl⟩:=hb.out.1 rfl
 have hoe:=HOS.out rfl
 have HY0:=hid (show bodyP c m↔((∀ i (h:i<os.length),opB c.pool m.locals os os[i]=true)∧(∀ i (h:i<m.traps.length),trapB (clsC c.pool) m.code.size os m.traps[i]=true)∧((∀ i (h:i<m.frames.length),frameS (clsC c.pool) m.locals m.deep os m.frames[i]=true)∧ascF m.frames)) from by
  subst hoe
  exact ⟨fun h=>⟨h.os,h.tr,h.fr⟩,fun h=>⟨hqg.out,hdp,by rw [htk.out];exact hqi.out,h.1,h.2.1,h.2.2⟩⟩)
 clear hb HOS hoe hdp hqg hqi htk d0 d1 d2 d3 d4 d5 d6 d7 c0 c1 c2 c3 c4 c5 c6 HB2
 go_upto_region 7 with fail
 go_loopw [7] (fun i wr=>∃ (k:Nat),k≤os.length∧i=.int .i64 k∧Hid (∀ a (h:a<os.length),a<k→opB c.pool m.locals os os[a]=true)∧wr.ownsRow Bo 169 3 (.slice oo os.length jo) os.length (rowIns os)∧HB w [(w.heap.size+1,arrQ m (.slice a5 m.traps.length k5) (.slice a6 m.frames.length k6),75),(w.heap.size,arrK (.slice o1 c.pool.length j1) c.flags c.name c.super (.slice o2 c.faces.length j2) (.slice o3 c.fields.length j3) (.slice o4 c.methods.length j4),36)] wr) (fun i _=>os.length - (intOf i).toNat)
 case atStart=>exact ⟨0,by omega,rfl,fun a _ h=>by omega,ho2,P2⟩
 case round=>
  obtain ⟨k,hk,rfl,HE,ho3,P3⟩:=hrel
  clear P2 ho2
  by_cases hlt:k<os.length
  ·obtain ⟨go,hgo⟩:=own_some ho3 (by omega)
   subst hgo
   obtain ⟨y0,y1,y2⟩:=ownIns_at ho3 hlt
   generalize hX:os[k]=x at y0 y1 y2
   have HX:=hid hX
   have HC:=hid (fun W (hW:HB w [(w.heap.size+1,arrQ m (.slice a5 m.traps.length k5) (.slice a6 m.frames.length k6),75),(w.heap.size,arrK (.slice o1 c.pool.length j1) c.flags c.name c.super (.slice o2 c.faces.length j2) (.slice o3 c.fields.length j3) (.slice o4 c.methods.length j4),36)] W) (hO:W.ownsRow Bo 169 3 (.slice (some ⟨go,0,none⟩) os.length jo) os.length (rowIns os))=>HIn.out os _ Bo W (by omega) hW.b hO x)
   obtain ⟨R,hR⟩:∃ R,Hid (opB c.pool m.locals os x=R):=⟨_,hid rfl⟩
   rw [hR.out] at HC
   have z4:(k:Int)<(os.length:Int):=by omega
   clear hX
   go_upto_region 9 with fail
   go_cut [48] (fun v wc=>v=.bool (!R)∧HB w [(w.heap.size+1,arrQ m (.slice a5 m.traps.length k5) (.slice a6 m.frames.length k6),75),(w.heap.size,arrK (.slice o1 c.pool.length j1) c.flags c.name c.super (.slice o2 c.faces.length j2) (.slice o3 c.fields.length j3) (.slice o4 c.methods.length j4),36)] wc∧wc.ownsRow Bo 169 3 (.slice (some ⟨go,0,none⟩) os.length jo) os.length (rowIns os))
   case first=>
    have hdr:Below wr.heap.size wr wr.drew:=(Below.refl _ _).drew
    have PD:=P3.keep hdr
    have hoD:=own_below ho3 hdr
    have hgl:=(ho3.lt go rfl).2
    have e0:=(hb_cell hdr hgl).trans y0
    have e1:=(hb_cell hdr hgl).trans y1
    have e2:=(hb_cell hdr hgl).trans y2
    have hgd:go<wr.drew.heap.size:=Nat.lt_of_lt_of_le hgl hdr.size
    clear P3 ho3 hdr y0 y1 y2 hgl
    obtain ⟨d0,d1,d2,d3,d4,d5,d6,d7⟩:=PD.hd.q8
    obtain ⟨c0,c1,c2,c3,c4,c5,c6⟩:=PD.tl.hd.k7
    refine wp_region_held_drew (S:=(fun w':World=>w'.cell? ⟨w.heap.size,0,none⟩=some (.slice o1 c.pool.length j1)∧w'.cell? ⟨w.heap.size,1,none⟩=some (.int .i64 c.flags)∧w'.cell? ⟨w.heap.size,2,none⟩=some (.int .i64 c.name)∧w'.cell? ⟨w.heap.size,3,none⟩=some (.int .i64 c.super)∧w'.cell? ⟨w.heap.size,4,none⟩=some (.slice o2 c.faces.length j2)∧w'.cell? ⟨w.heap.size,5,none⟩=some (.slice o3 c.fields.length j3)∧w'.cell? ⟨w.heap.size,6,none⟩=some (.slice o4 c.methods.length j4)∧w'.cell? ⟨w.heap.size+1,0,none⟩=some (.int .i64 m.flags)∧w'.cell? ⟨w.heap.size+1,1,none⟩=some (.int .i64 m.name)∧w'.cell? ⟨w.heap.size+1,2,none⟩=some (.int .i64 m.desc)∧w'.cell? ⟨w.heap.size+1,3,none⟩=some (.int .i64 m.deep)∧w'.cell? ⟨w.heap.size+1,4,none⟩=some (.int .i64 m.locals)∧w'.cell? ⟨w.heap.size+1,5,none⟩=some (.string m.code)∧w'.cell? ⟨w.heap.size+1,6,none⟩=some (.slice a5 m.traps.length k5)∧w'.cell? ⟨w.heap.size+1,7,none⟩=some (.slice a6 m.frames.length k6)∧w'.cell? ⟨go,k*3,none⟩=some (.int .i64 x.at_)∧w'.cell? ⟨go,k*3+1,none⟩=some (.int .i64 x.op)∧w'.cell? ⟨go,k*3+2,none⟩=some (.int .i64 x.num))) (by kernel_rfl) ⟨c0,c1,c2,c3,c4,c5,c6,d0,d1,d2,d3,d4,d5,d6,d7,e0,e1,e2⟩ (fun hHeld=>?_)
    refine tkw 0 ⟨some 40,.load 36 (.tmp 2),36,"l4_check.go:150",#[],none⟩ ?_
    refine tkw 1 ⟨some 41,.load 75 (.tmp 3),75,"l4_check.go:150",#[],none⟩ ?_
    refine tkw 2 ⟨some 42,.move (.tmp 5),163,"l4_check.go:150",#[],none⟩ ?_
    refine tkw 3 ⟨some 43,.move (.tmp 5),163,"l4_check.go:150",#[],none⟩ ?_
    refine tkw 4 ⟨some 44,.move (.tmp 7),3,"l4_check.go:150",#[],none⟩ ?_
    refine tkw 5 ⟨some 45,.indexAddr 163 (.tmp 43) (.tmp 44),0,"l4_check.go:150",#[⟨3,.data⟩,⟨4,.data⟩],none⟩ ?_
    refine tkw 6 ⟨some 46,.load 169 (.tmp 45),169,"l4_check.go:150",#[⟨5,.data⟩],none⟩ ?_
    refine wpAnyH_ready (rs:=[7]) (by kernel_rfl) (by simp) ?_
    refine AllReadyH.cons rfl (fun K' hK'=>?_) AllReadyH.nil
    go_simp
    refine (HC.out _ PD hoD).mono ?_
    rintro e w8 ⟨rfl,hb⟩
    have P8:=PD.keep hb
    have ho8:=own_below hoD hb
    replace e0:=(hb_cell hb hgd).trans e0
    replace e1:=(hb_cell hb hgd).trans e1
    replace e2:=(hb_cell hb hgd).trans e2
    clear hoD
    clear PD hb c0 c1 c2 c3 c4 c5 c6 d0 d1 d2 d3 d4 d5 d6 d7
    obtain ⟨d0,d1,d2,d3,d4,d5,d6,d7⟩:=P8.hd.q8
    obtain ⟨c0,c1,c2,c3,c4,c5,c6⟩:=P8.tl.hd.k7
    refine hK'.out _ _ ⟨c0,c1,c2,c3,c4,c5,c6,d0,d1,d2,d3,d4,d5,d6,d7,e0,e1,e2⟩ (fun hHeld=>?_)
    clear hK' K'
    refine tkw 8 ⟨some 48,.unOp .not 4 (.tmp 47),4,"l4_check.go:150",#[⟨7,.data⟩],none⟩ ?_
    refine wpAnyH_done (by kernel_rfl) ?_ _
    clear c0 c1 c2 c3 c4 c5 c6 d0 d1 d2 d3 d4 d5 d6 d7 e0 e1 e2
    go_wp2_with fail
    go_meet
    case rel=>exact ⟨rfl,P8,ho8⟩
   case rest=>
    obtain ⟨rfl,P4,ho4⟩:=hcut
    clear P3 ho3 y0 y1 y2 HC
    have HB4:=hid P4.b
    cases R with
    | false=>
     have HN:=hid (show ¬bodyP c m from fun h=>by
      have:=(HY0.out.1 h).1 k hlt
      rw [HX.out,hR.out] at this
      cases this)
     clear P4 ho4 HIn HTr HFr HY0
     go_wp2
     go_ret
     first|exact ⟨false,rfl,⟨fun h=>(by cases h),fun h=>absurd h HN.out⟩,HB4.out⟩|exact .inl ⟨rfl,HN.out,HB4.out⟩
    | true=>
     have HE':=hid (show ∀ a (h:a<os.length),a<k+1→opB c.pool m.locals os os[a]=true from fun a h h2=>by
      by_cases e:a=k
      ·subst e;rw [HX.out];exact hR.out
      ·exact HE.out a h (by omega))
     clear HE
     go_wp2
     go_roundw
     case rel=>exact ⟨k+1,by omega,by go_num,HE',ho4,P4⟩
     case measure=>simp [intOf];omega
  ·have HOK:=hid (show ∀ a (h:a<os.length),opB c.pool m.locals os os[a]=true from fun a h=>HE.out a h (by omega))
   clear HE HIn
   go_upto_region 12 with fail
   go_loopw [8] (fun i wr=>∃ (k:Nat),k≤m.traps.length∧i=.int .i64 k∧Hid (∀ a (h:a<m.traps.length),a<k→trapB (clsC c.pool) m.code.size os m.traps[a]=true)∧wr.ownsRow Bo 169 3 (.slice oo os.length jo) os.length (rowIns os)∧HB w [(w.heap.size+1,arrQ m (.slice a5 m.traps.length k5) (.slice a6 m.frames.length k6),75),(w.heap.size,arrK (.slice o1 c.pool.length j1) c.flags c.name c.super (.slice o2 c.faces.length j2) (.slice o3 c.fields.length j3) (.slice o4 c.methods.length j4),36)] wr) (fun i _=>m.traps.length - (intOf i).toNat)
   case atStart=>exact ⟨0,by omega,rfl,fun a _ h=>by omega,ho3,P3⟩
   case round=>
    obtain ⟨k,hk,rfl,HE,ho4,P4⟩:=hrel
    clear P3 ho3
    obtain ⟨d0,d1,d2,d3,d4,d5,d6,d7⟩:=P4.hd.q8
    obtain ⟨c0,c1,c2,c3,c4,c5,c6⟩:=P4.tl.hd.k7
    by_cases hlt2:k<m.traps.length
    ·obtain ⟨gt,hgt⟩:=own_some HT0.out (by omega)
     subst hgt
     obtain ⟨y0,y1,y2,y3⟩:=ownTrap_at (own_below HT0.out P4.b) hlt2
     have hgl:=((own_below HT0.out P4.b).lt gt rfl).2
     generalize hX:m.traps[k]=x at y0 y1 y2 y3
     have HX:=hid hX
     have HC:=hid (fun W (hW:HB w [(w.heap.size+1,arrQ m (.slice (some ⟨gt,0,none⟩) m.traps.length k5) (.slice a6 m.frames.length k6),75),(w.heap.size,arrK (.slice o1 c.pool.length j1) c.flags c.name c.super (.slice o2 c.faces.length j2) (.slice o3 c.fields.length j3) (.slice o4 c.methods.length j4),36)] W) (hO:W.ownsRow Bo 169 3 (.slice oo os.length jo) os.length (rowIns os))=>HTr.out os _ Bo W (by omega) hW.b hO x)
     obtain ⟨R,hR⟩:∃ R,Hid (trapB (clsC c.pool) m.code.size os x=R):=⟨_,hid rfl⟩
     rw [hR.out] at HC
     have z4:(k:Int)<(m.traps.length:Int):=by omega
     clear hX
     go_upto_region 14 with fail
     go_cut [65] (fun v wc=>v=.bool (!R)∧HB w [(w.heap.size+1,arrQ m (.slice (some ⟨gt,0,none⟩) m.traps.length k5) (.slice a6 m.frames.length k6),75),(w.heap.size,arrK (.slice o1 c.pool.length j1) c.flags c.name c.super (.slice o2 c.faces.length j2) (.slice o3 c.fields.length j3) (.slice o4 c.methods.length j4),36)] wc∧wc.ownsRow Bo 169 3 (.slice oo os.length jo) os.length (rowIns os))
     case first=>
      have hdr:Below wr.heap.size wr wr.drew:=(Below.refl _ _).drew
      have PD:=P4.keep hdr
      have hoD:=own_below ho4 hdr
      have e0:=(hb_cell hdr hgl).trans y0
      have e1:=(hb_cell hdr hgl).trans y1
      have e2:=(hb_cell hdr hgl).trans y2
      have e3:=(hb_cell hdr hgl).trans y3
      have hgd:gt<wr.drew.heap.size:=Nat.lt_of_lt_of_le hgl hdr.size
      clear P4 ho4 hdr y0 y1 y2 y3 hgl d0 d1 d2 d3 d4 d5 d6 d7 c0 c1 c2 c3 c4 c5 c6
      obtain ⟨d0,d1,d2,d3,d4,d5,d6,d7⟩:=PD.hd.q8
      obtain ⟨c0,c1,c2,c3,c4,c5,c6⟩:=PD.tl.hd.k7
      refine wp_region_held_drew (S:=(fun w':World=>w'.cell? ⟨w.heap.size,0,none⟩=some (.slice o1 c.pool.length j1)∧w'.cell? ⟨w.heap.size,1,none⟩=some (.int .i64 c.flags)∧w'.cell? ⟨w.heap.size,2,none⟩=some (.int .i64 c.name)∧w'.cell? ⟨w.heap.size,3,none⟩=some (.int .i64 c.super)∧w'.cell? ⟨w.heap.size,4,none⟩=some (.slice o2 c.faces.length j2)∧w'.cell? ⟨w.heap.size,5,none⟩=some (.slice o3 c.fields.length j3)∧w'.cell? ⟨w.heap.size,6,none⟩=some (.slice o4 c.methods.length j4)∧w'.cell? ⟨w.heap.size+1,0,none⟩=some (.int .i64 m.flags)∧w'.cell? ⟨w.heap.size+1,1,none⟩=some (.int .i64 m.name)∧w'.cell? ⟨w.heap.size+1,2,none⟩=some (.int .i64 m.desc)∧w'.cell? ⟨w.heap.size+1,3,none⟩=some (.int .i64 m.deep)∧w'.cell? ⟨w.heap.size+1,4,none⟩=some (.int .i64 m.locals)∧w'.cell? ⟨w.heap.size+1,5,none⟩=some (.string m.code)∧w'.cell? ⟨w.heap.size+1,6,none⟩=some (.slice (some ⟨gt,0,none⟩) m.traps.length k5)∧w'.cell? ⟨w.heap.size+1,7,none⟩=some (.slice a6 m.frames.length k6)∧w'.cell? ⟨gt,k*4,none⟩=some (.int .i64 x.from_)∧w'.cell? ⟨gt,k*4+1,none⟩=some (.int .i64 x.to_)∧w'.cell? ⟨gt,k*4+2,none⟩=some (.int .i64 x.at_)∧w'.cell? ⟨gt,k*4+3,none⟩=some (.int .i64 x.cls))) (by kernel_rfl) ⟨c0,c1,c2,c3,c4,c5,c6,d0,d1,d2,d3,d4,d5,d6,d7,e0,e1,e2,e3⟩ (fun hHeld=>?_)
      refine tkw 0 ⟨some 56,.load 36 (.tmp 2),36,"l4_check.go:155",#[],none⟩ ?_
      refine tkw 1 ⟨some 57,.load 75 (.tmp 3),75,"l4_check.go:155",#[],none⟩ ?_
      refine tkw 2 ⟨some 58,.move (.tmp 5),163,"l4_check.go:155",#[],none⟩ ?_
      refine tkw 3 ⟨some 59,.fieldAddr 75 (.tmp 3) 6,0,"l4_check.go:155",#[],none⟩ ?_
      refine tkw 4 ⟨some 60,.load 72 (.tmp 59),72,"l4_check.go:155",#[⟨3,.data⟩],none⟩ ?_
      refine tkw 5 ⟨some 61,.move (.tmp 8),3,"l4_check.go:155",#[],none⟩ ?_
      refine tkw 6 ⟨some 62,.indexAddr 72 (.tmp 60) (.tmp 61),0,"l4_check.go:155",#[⟨4,.data⟩,⟨5,.data⟩],none⟩ ?_
      refine tkw 7 ⟨some 63,.load 140 (.tmp 62),140,"l4_check.go:155",#[⟨6,.data⟩],none⟩ ?_
      refine wpAnyH_ready (rs:=[8]) (by kernel_rfl) (by simp) ?_
      refine AllReadyH.cons rfl (fun K' hK'=>?_) AllReadyH.nil
      go_simp
      refine (HC.out _ PD hoD).mono ?_
      rintro e w8 ⟨rfl,hb⟩
      have P8:=PD.keep hb
      have ho8:=own_below hoD hb
      replace e0:=(hb_cell hb hgd).trans e0
      replace e1:=(hb_cell hb hgd).trans e1
      replace e2:=(hb_cell hb hgd).trans e2
      replace e3:=(hb_cell hb hgd).trans e3
      clear hoD
      clear PD hb c0 c1 c2 c3 c4 c5 c6 d0 d1 d2 d3 d4 d5 d6 d7
      obtain ⟨d0,d1,d2,d3,d4,d5,d6,d7⟩:=P8.hd.q8
      obtain ⟨c0,c1,c2,c3,c4,c5,c6⟩:=P8.tl.hd.k7
      refine hK'.out _ _ ⟨c0,c1,c2,c3,c4,c5,c6,d0,d1,d2,d3,d4,d5,d6,d7,e0,e1,e2,e3⟩ (fun hHeld=>?_)
      clear hK' K'
      refine tkw 9 ⟨some 65,.unOp .not 4 (.tmp 64),4,"l4_check.go:155",#[⟨8,.data⟩],none⟩ ?_
      refine wpAnyH_done (by kernel_rfl) ?_ _
      clear c0 c1 c2 c3 c4 c5 c6 d0 d1 d2 d3 d4 d5 d6 d7 e0 e1 e2 e3
      go_wp2_with fail
      go_meet
      case rel=>exact ⟨rfl,P8,ho8⟩
     case rest=>
      obtain ⟨rfl,P5,ho5⟩:=hcut
      clear P4 ho4 y0 y1 y2 y3 HC d0 d1 d2 d3 d4 d5 d6 d7 c0 c1 c2 c3 c4 c5 c6
      have HB5:=hid P5.b
      cases R with
      | false=>
       have HN:=hid (show ¬bodyP c m from fun h=>by
        have:=(HY0.out.1 h).2.1 k hlt2
        rw [HX.out,hR.out] at this
        cases this)
       clear P5 ho5 HTr HFr HY0
       go_wp2
       go_ret
       first|exact ⟨false,rfl,⟨fun h=>(by cases h),fun h=>absurd h HN.out⟩,HB5.out⟩|exact .inl ⟨rfl,HN.out,HB5.out⟩
      | true=>
       have HE':=hid (show ∀ a (h:a<m.traps.length),a<k+1→trapB (clsC c.pool) m.code.size os m.traps[a]=true from fun a h h2=>by
        by_cases e:a=k
        ·subst e;rw [HX.out];exact hR.out
        ·exact HE.out a h (by omega))
       clear HE
       go_wp2
       go_roundw
       case rel=>exact ⟨k+1,by omega,by go_num,HE',ho5,P5⟩
       case measure=>simp [intOf];omega
    ·have HTK:=hid (show ∀ a (h:a<m.traps.length),trapB (clsC c.pool) m.code.size os m.traps[a]=true from fun a h=>HE.out a h (by omega))
     have hC:=HFr.out os _ Bo _ (by omega) P4.b ho4
     have HB4:=hid P4.b
     clear HE HTr HFr P4 ho4
     go_wp2_with fail
     refine hC.mono ?_
     rintro e w9 ⟨b,rfl,rb,hb9⟩
     have HB9:=hid (HB4.out.trans (hb9.mono HB4.out.size))
     have HR:=hid (show b=true↔bodyP c m from rb.trans ⟨fun h=>HY0.out.2 ⟨HOK.out,HTK.out,h⟩,fun h=>(HY0.out.1 h).2.2⟩)
     clear hb9 hC HB4 rb HY0 HOK HTK d0 d1 d2 d3 d4 d5 d6 d7 c0 c1 c2 c3 c4 c5 c6
     go_wp2
     go_ret
     first|exact ⟨b,rfl,HR.out,HB9.out⟩|(refine ⟨b,rfl, ?_,HB9.out⟩;simpa using HR.out)
theorem l4Body_any (c:MClass) (m:MMethod) (vp vi vf vm vt vr:Value) (B Bm:Nat) (w:World) (hc:c.few) (hm:m.few) (h0:0≤m.flags) (h255:m.flags≤255) (hcode:bitB m.flags 8=false→m.code.size≤120) (h:ClassW w B vp vi vf vm c) (hM:MethodW w Bm vt vr m) :
  Calls Tryz.prog 77 #[.agg #[vp,.int .i64 c.flags,.int .i64 c.name,.int .i64 c.super,vi,vf,vm],.agg #[.int .i64 m.flags,.int .i64 m.name,.int .i64 m.desc,.int .i64 m.deep,.int .i64 m.locals,.string m.code,vt,vr]] w fun e w'=>∃ b:Bool,e=.returned (.bool b)∧(b=true↔(bitB m.flags 8=false→bodyP c m))∧Below w.heap.size w w':=by
 cases hq:bitB m.flags 8 with
 | false=>
  refine (l4BodyN_any c m vp vi vf vm vt vr B Bm w hc hm h0 h255 hq (hcode hq) h hM).mono ?_
  rintro e w' ⟨b,rfl,hb,hbb⟩
  exact ⟨b,rfl,hb.trans ⟨fun h _=>h,fun h=>h rfl⟩,hbb⟩
 | true=>
  obtain ⟨o1,j1,hv1⟩:=own_len h.p
  obtain ⟨o2,j2,hv2⟩:=own_len h.i
  obtain ⟨o3,j3,hv3⟩:=own_len h.f
  obtain ⟨o4,j4,hv4⟩:=h.m.len
  obtain ⟨a5,k5,hv5⟩:=own_len hM.t
  obtain ⟨a6,k6,hv6⟩:=hM.f.len
  subst hv1 hv2 hv3 hv4 hv5 hv6
  have P0:=HB.two w (arrK (.slice o1 c.pool.length j1) c.flags c.name c.super (.slice o2 c.faces.length j2) (.slice o3 c.fields.length j3) (.slice o4 c.methods.length j4)) (arrQ m (.slice a5 m.traps.length k5) (.slice a6 m.frames.length k6)) 36 75
  have hH:=fun W=>l4Has_any m.flags 8 W h0 h255 (by simp)
  rw [hq] at hH
  have HB0:=hid P0.b
  clear P0 h hc hm hM hcode h0 h255 hq
  go_enter Tryz.func77,Tryz.ntmps77
  go_wp2_with (go_at_call 115;refine (hH _).mono ?_;rintro e w1 ⟨rfl,hw⟩;replace hw:=hw.symm;subst hw)
  go_ret
  first|exact ⟨true,rfl,⟨fun _ h=>(by cases h),fun _=>rfl⟩,HB0.out⟩|exact HB0.out|simpa using HB0.out
end Go.Proofs.YtecbcdfkedocbaaGreatDoor
