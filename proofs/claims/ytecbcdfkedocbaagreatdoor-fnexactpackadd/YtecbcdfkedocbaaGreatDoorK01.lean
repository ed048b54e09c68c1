/- Gathered: ChkHeadS OpsSmall OpsGet RowIns ChkOpsS HBase AnyField UnField ChkField. -/
import Derived.Test.YtecbcdfkedocbaaGreatDoorG03
import Derived.Test.YtecbcdfkedocbaaGreatDoorG01
import Derived.Deep.RegionHeld
namespace Go.Proofs.YtecbcdfkedocbaaGreatDoor
open Mx Go.RowKit
set_option maxHeartbeats 4000000
set_option maxRecDepth 20000
set_option linter.unusedVariables false
theorem cls_no {ts:List C4} {i:Int} (h:clsC ts i=false):clsT ts i=⟨#[]⟩:=by unfold clsT;rw [h];rfl
theorem cls_yes {ts:List C4} {i:Int} (h:clsC ts i=true):((clsT ts i).toList==[])=false:=by
 have:=clsT_iff ts i
 rw [h] at this
 cases hl:(clsT ts i).toList with
 | nil=>rw [hl] at this;simp at this
 | cons a l=>rfl
theorem text_eq {a b:ByteArray}:(a.toList==b.toList)=true↔a=b:=by
 rw [beq_iff_eq,ByteArray.toList_eq,ByteArray.toList_eq]
 exact ⟨fun h=>ByteArray.ext (Array.toList_inj.1 h),fun h=>by rw [h]⟩
theorem l1InI_any (n lo hi:Int) (w:World) :
  Calls Tryz.prog 84 #[.int .i64 n,.int .i64 lo,.int .i64 hi] w fun e w'=>e=.returned (.bool (inI n lo hi))∧w'=w:=l1In_any n lo hi w
theorem l4Head_any (c:MClass) (vp vi vf vm:Value) (B:Nat) (w:World) (hc:c.few) (h:ClassW w B vp vi vf vm c) :
  Calls Tryz.prog 74 #[.agg #[vp,.int .i64 c.flags,.int .i64 c.name,.int .i64 c.super,vi,vf,vm]] w fun e w'=>∃ b:Bool,e=.returned (.bool b)∧(b=true↔headP c)∧Below w.heap.size w w':=by
 obtain ⟨o1,j1,hv1⟩:=own_len h.p
 obtain ⟨o2,j2,hv2⟩:=own_len h.i
 obtain ⟨o3,j3,hv3⟩:=own_len h.f
 obtain ⟨o4,j4,hv4⟩:=h.m.len
 subst hv1 hv2 hv3 hv4
 have P0:=CB.start w (arrK (.slice o1 c.pool.length j1) c.flags c.name c.super (.slice o2 c.faces.length j2) (.slice o3 c.fields.length j3) (.slice o4 c.methods.length j4))
 have hfl:=hc.faces
 have hPW:PoolW w (.slice o1 c.pool.length j1) c.pool:=⟨B,h.p⟩
 have HT:=hid (fun x W (hW:CB w (arrK (.slice o1 c.pool.length j1) c.flags c.name c.super (.slice o2 c.faces.length j2) (.slice o3 c.fields.length j3) (.slice o4 c.methods.length j4)) W)=>l2Class_any (.slice o1 c.pool.length j1) c.pool x W hc.pool hc.texts (hPW.keep hW.b))
 have HI:=hid h.i
 have hF:=fun W=>l1InI_any c.flags 0 7 W
 clear h hc hPW
 go_enter Tryz.func74,Tryz.ntmps74
 go_wp2_with fail
 refine (HT.out c.super _ P0).mono ?_
 rintro e w1 ⟨rfl,hb1⟩
 have P1:=P0.keep hb1
 clear P0 hb1
 obtain ⟨c0,c1,c2,c3,c4,c5,c6⟩:=P1.k.k7
 go_wp2_with fail
 refine (HT.out c.name _ P1).mono ?_
 rintro e w2 ⟨rfl,hb2⟩
 have P2:=P1.keep hb2
 clear P1 hb2 c0 c1 c2 c3 c4 c5 c6
 obtain ⟨c0,c1,c2,c3,c4,c5,c6⟩:=P2.k.k7
 have HB2:=hid P2.b
 cases hq1:clsC c.pool c.name with
 | false=>
  have HN:=hid (show ¬headP c from fun h=>by have:=h.nm;rw [hq1] at this;cases this)
  rw [cls_no hq1]
  clear P2 HT HI hF hq1
  go_wp2
  go_ret
  first|exact ⟨false,rfl,⟨fun h=>(by cases h),fun h=>absurd h HN.out⟩,HB2.out⟩|exact .inl ⟨rfl,HN.out,HB2.out⟩
 | true=>
 have n1:=cls_yes hq1
 cases hq2:clsC c.pool c.super with
 | false=>
  have HN:=hid (show ¬headP c from fun h=>by have:=h.su;rw [hq2] at this;cases this)
  rw [cls_no hq2]
  clear P2 HT HI hF hq1 hq2
  go_wp2
  go_ret
  first|exact ⟨false,rfl,⟨fun h=>(by cases h),fun h=>absurd h HN.out⟩,HB2.out⟩|exact .inl ⟨rfl,HN.out,HB2.out⟩
 | true=>
 have n2:=cls_yes hq2
 have HQ1:=hid hq1
 have HQ2:=hid hq2
 clear hq1 hq2
 have hT3:=HT.out c.name _ P2
 generalize hsN:clsT c.pool c.name=sN at n1 hT3 ⊢
 generalize hsS:clsT c.pool c.super=sS at n2 ⊢
 have HSN:=hid hsN
 have HSS:=hid hsS
 clear hsN hsS
 go_wp2_with fail
 refine hT3.mono ?_
 rintro e w3 ⟨rfl,hb3⟩
 have P3:=P2.keep hb3
 clear P2 hb3 hT3 c0 c1 c2 c3 c4 c5 c6 HB2
 obtain ⟨c0,c1,c2,c3,c4,c5,c6⟩:=P3.k.k7
 have HB3:=hid P3.b
 obtain ⟨q3,hq3⟩:∃ q,(sS.toList==sN.toList)=q:=⟨_,rfl⟩
 obtain ⟨q4,hq4⟩:∃ q,Hid (inI c.flags 0 7=q):=⟨_,hid rfl⟩
 rw [hq4.out] at hF
 cases q3 with
 | true=>
  have HN:=hid (show ¬headP c from fun h=>h.ne (by rw [HSN.out,HSS.out];exact text_eq.1 hq3))
  clear P3 HT HI
  go_wp2
  go_ret
  first|exact ⟨false,rfl,⟨fun h=>(by cases h),fun h=>absurd h HN.out⟩,HB3.out⟩|exact .inl ⟨rfl,HN.out,HB3.out⟩
 | false=>
 have HNE:=hid (show ¬clsT c.pool c.super=clsT c.pool c.name from fun h=>by rw [HSN.out,HSS.out] at h;rw [text_eq.2 h] at hq3;cases hq3)
 cases q4 with
 | false=>
  have HN:=hid (show ¬headP c from fun h=>by have:=h.fl;rw [hq4.out] at this;cases this)
  clear P3 HT HI
  go_wp2_with (go_at_call 84;refine (hF _).mono ?_;rintro e w4 ⟨rfl,hw⟩;replace hw:=hw.symm;subst hw)
  go_ret
  first|exact ⟨false,rfl,⟨fun h=>(by cases h),fun h=>absurd h HN.out⟩,HB3.out⟩|exact .inl ⟨rfl,HN.out,HB3.out⟩
 | true=>
 go_upto_region 5 with (go_at_call 84;refine (hF _).mono ?_;rintro e w4 ⟨rfl,hw⟩;replace hw:=hw.symm;subst hw)
 clear hF n1 n2 hq3 HB3
 go_loopw [4] (fun i wr=>∃ (k:Nat),k≤c.faces.length∧i=.int .i64 k∧Hid (∀ a (h:a<c.faces.length),a<k→clsC c.pool c.faces[a]=true)∧Hid (∀ i (h:i<c.faces.length) j (hj:j<i),i<k→¬clsT c.pool (c.faces[j]'(by omega))=clsT c.pool c.faces[i])∧CB w (arrK (.slice o1 c.pool.length j1) c.flags c.name c.super (.slice o2 c.faces.length j2) (.slice o3 c.fields.length j3) (.slice o4 c.methods.length j4)) wr) (fun i _=>c.faces.length - (intOf i).toNat)
 case atStart=>exact ⟨0,by omega,rfl,fun a _ h=>by omega,fun i hi j hj h=>by omega,P3⟩
 case round=>
  obtain ⟨k,hk,rfl,HE,HU,P⟩:=hrel
  clear P3 c0 c1 c2 c3 c4 c5 c6
  obtain ⟨c0,c1,c2,c3,c4,c5,c6⟩:=P.k.k7
  by_cases hlt:k<c.faces.length
  ·obtain ⟨g,hg⟩:=own_some HI.out (by omega)
   subst hg
   have g0:=ownI_at (own_below HI.out P.b) rfl hlt
   generalize hX:c.faces[k]=x at g0
   have HX:=hid hX
   have hTx:=fun W (hW:CB w (arrK (.slice o1 c.pool.length j1) c.flags c.name c.super (.slice (some ⟨g,0,none⟩) c.faces.length j2) (.slice o3 c.fields.length j3) (.slice o4 c.methods.length j4)) W)=>HT.out x W hW
   obtain ⟨q,hq⟩:∃ q,Hid (clsC c.pool x=q):=⟨_,hid rfl⟩
   have hE:((clsT c.pool x).toList==[]) = !q:=by
    cases q with
    | true=>rw [cls_yes hq.out];rfl
    | false=>rw [cls_no hq.out,ByteArray.toList_eq];rfl
   generalize hsx:clsT c.pool x=sx at hTx hE
   have HSX:=hid hsx
   have z3:(k:Int)<(c.faces.length:Int):=by omega
   clear hX hsx
   go_upto_region 7 with fail
   go_cut [51] (fun v wc=>v=.bool (!q)∧CB w (arrK (.slice o1 c.pool.length j1) c.flags c.name c.super (.slice (some ⟨g,0,none⟩) c.faces.length j2) (.slice o3 c.fields.length j3) (.slice o4 c.methods.length j4)) wc)
   case first=>
    have hC:=hTx (wr.drewN 1) (P.keep (below_drewN (Below.refl _ _) 1))
    have HP:=hid P
    clear P hTx
    go_region_with (go_at_call 81;refine hC.mono ?_;rintro e w8 ⟨rfl,hb8⟩)
    all_goals go_wp2_with fail
    all_goals go_meet
    all_goals exact ⟨by first|rfl|rw [hE],(HP.out.keep (below_drewN (Below.refl _ _) 1)).keep hb8⟩
   case rest=>
    obtain ⟨rfl,P4⟩:=hcut
    clear P c0 c1 c2 c3 c4 c5 c6 g0 hE
    have HB4:=hid P4.b
    cases q with
    | false=>
     have HN:=hid (show ¬headP c from fun h=>by have:=h.fc k hlt;rw [HX.out,hq.out] at this;cases this)
     clear P4 HT HI
     go_wp2
     go_ret
     first|exact ⟨false,rfl,⟨fun h=>(by cases h),fun h=>absurd h HN.out⟩,HB4.out⟩|exact .inl ⟨rfl,HN.out,HB4.out⟩
    | true=>
     have HE':=hid (show ∀ a (h:a<c.faces.length),a<k+1→clsC c.pool c.faces[a]=true from fun a h h2=>by
      by_cases e:a=k
      ·subst e;rw [HX.out];exact hq.out
      ·exact HE.out a h (by omega))
     clear HE hq HB4
     go_upto_region 10 with fail
     go_loopw [5] (fun j wd=>∃ (m:Nat),m≤k∧j=.int .i64 m∧Hid (∀ b (hb:b<c.faces.length),b<m→¬clsT c.pool c.faces[b]=sx)∧CB w (arrK (.slice o1 c.pool.length j1) c.flags c.name c.super (.slice (some ⟨g,0,none⟩) c.faces.length j2) (.slice o3 c.fields.length j3) (.slice o4 c.methods.length j4)) wd) (fun j _=>k - (intOf j).toNat)
     case atStart=>exact ⟨0,by omega,rfl,fun b hb h=>by omega,P4⟩
     case round=>
      obtain ⟨m,hm,rfl,HM,P5⟩:=hrel
      clear P4
      obtain ⟨c0,c1,c2,c3,c4,c5,c6⟩:=P5.k.k7
      by_cases hmk:m<k
      ·have g0:=ownI_at (own_below HI.out P5.b) rfl hlt
       have g1:=ownI_at (own_below HI.out P5.b) rfl (k:=m) (by omega)
       have hml:m<c.faces.length:=by omega
       rw [HX.out] at g0
       generalize hY:c.faces[m]=y at g1
       have HY:=hid hY
       have z4:(m:Int)<(c.faces.length:Int):=by omega
       have hTy:=fun W (hW:CB w (arrK (.slice o1 c.pool.length j1) c.flags c.name c.super (.slice (some ⟨g,0,none⟩) c.faces.length j2) (.slice o3 c.fields.length j3) (.slice o4 c.methods.length j4)) W)=>HT.out y W hW
       generalize hsy:clsT c.pool y=sy at hTy
       have HSY:=hid hsy
       clear hY hsy
       obtain ⟨q,hq⟩:∃ q,(sy.toList==sx.toList)=q:=⟨_,rfl⟩
       have HP5:=hid P5
       have hgl:=((own_below HI.out P5.b).lt g rfl).2
       clear P5
       go_upto_region 12 with fail
       go_cut [73] (fun v wc=>v=.bool q∧CB w (arrK (.slice o1 c.pool.length j1) c.flags c.name c.super (.slice (some ⟨g,0,none⟩) c.faces.length j2) (.slice o3 c.fields.length j3) (.slice o4 c.methods.length j4)) wc)
       case first=>
        have hdr:Below wr.heap.size wr wr.drew:=(Below.refl _ _).drew
        have PD:=HP5.out.keep hdr
        obtain ⟨d0,_,_,_,d4,_,_⟩:=PD.k.k7
        have d7:=(hb_cell hdr hgl).trans g0
        have d8:=(hb_cell hdr hgl).trans g1
        have hgd:g<wr.drew.heap.size:=Nat.lt_of_lt_of_le hgl hdr.size
        clear HP5 c0 c1 c2 c3 c4 c5 c6 g0 g1 hdr hgl
        refine wp_region_held_drew (S:=(fun w':World=>w'.cell? ⟨w.heap.size,0,none⟩=some (.slice o1 c.pool.length j1)∧w'.cell? ⟨w.heap.size,4,none⟩=some (.slice (some ⟨g,0,none⟩) c.faces.length j2)∧w'.cell? ⟨g,k,none⟩=some (.int .i64 x)∧w'.cell? ⟨g,m,none⟩=some (.int .i64 y))) (by kernel_rfl) ⟨d0,d4,d7,d8⟩ (fun hHeld=>?_)
        refine tkw 0 ⟨some 57,.fieldAddr 36 (.tmp 1) 0,0,"l4_check.go:21",#[],none⟩ ?_
        refine tkw 1 ⟨some 58,.load 32 (.tmp 57),32,"l4_check.go:21",#[⟨0,.data⟩],none⟩ ?_
        refine tkw 2 ⟨some 59,.fieldAddr 36 (.tmp 1) 4,0,"l4_check.go:21",#[],none⟩ ?_
        refine tkw 3 ⟨some 60,.load 23 (.tmp 59),23,"l4_check.go:21",#[⟨2,.data⟩],none⟩ ?_
        refine tkw 4 ⟨some 61,.move (.tmp 5),3,"l4_check.go:21",#[],none⟩ ?_
        refine tkw 5 ⟨some 62,.indexAddr 23 (.tmp 60) (.tmp 61),0,"l4_check.go:21",#[⟨3,.data⟩,⟨4,.data⟩],none⟩ ?_
        refine tkw 6 ⟨some 63,.load 3 (.tmp 62),3,"l4_check.go:21",#[⟨5,.data⟩],none⟩ ?_
        refine tkw 8 ⟨some 65,.fieldAddr 36 (.tmp 1) 0,0,"l4_check.go:21",#[],none⟩ ?_
        refine tkw 9 ⟨some 66,.load 32 (.tmp 65),32,"l4_check.go:21",#[⟨8,.data⟩],none⟩ ?_
        refine tkw 10 ⟨some 67,.fieldAddr 36 (.tmp 1) 4,0,"l4_check.go:21",#[],none⟩ ?_
        refine tkw 11 ⟨some 68,.load 23 (.tmp 67),23,"l4_check.go:21",#[⟨10,.data⟩],none⟩ ?_
        refine tkw 12 ⟨some 69,.move (.tmp 4),3,"l4_check.go:21",#[],none⟩ ?_
        refine tkw 13 ⟨some 70,.indexAddr 23 (.tmp 68) (.tmp 69),0,"l4_check.go:21",#[⟨11,.data⟩,⟨12,.data⟩],none⟩ ?_
        refine tkw 14 ⟨some 71,.load 3 (.tmp 70),3,"l4_check.go:21",#[⟨13,.data⟩],none⟩ ?_
        refine wpAnyH_ready (rs:=[7]) (by kernel_rfl) (by simp) ?_
        refine AllReadyH.cons rfl (fun K' hK'=>?_) AllReadyH.nil
        go_simp
        refine (hTy _ PD).mono ?_
        rintro e w8 ⟨rfl,hb8⟩
        have P8:=PD.keep hb8
        obtain ⟨e0,_,_,_,e4,_,_⟩:=P8.k.k7
        have e7:=(hb_cell hb8 hgd).trans d7
        have e8:=(hb_cell hb8 hgd).trans d8
        have hg8:=Nat.lt_of_lt_of_le hgd hb8.size
        refine hK'.out _ _ ⟨e0,e4,e7,e8⟩ (fun hHeld=>?_)
        clear hK' K' hb8 PD d0 d4 d7 d8 hTy hgd
        refine wpAnyH_ready (rs:=[15]) (by kernel_rfl) (by simp) ?_
        refine AllReadyH.cons rfl (fun K' hK'=>?_) AllReadyH.nil
        go_simp
        refine (hTx _ P8).mono ?_
        rintro e w9 ⟨rfl,hb9⟩
        have P9:=P8.keep hb9
        obtain ⟨f0,_,_,_,f4,_,_⟩:=P9.k.k7
        have f7:=(hb_cell hb9 hg8).trans e7
        have f8:=(hb_cell hb9 hg8).trans e8
        refine hK'.out _ _ ⟨f0,f4,f7,f8⟩ (fun hHeld=>?_)
        clear hK' K' hb9 P8 e0 e4 e7 e8 hg8
        refine tkw 16 ⟨some 73,.binOp .eql 9 (.tmp 64) (.tmp 72) 9,4,"l4_check.go:21",#[⟨7,.data⟩,⟨15,.data⟩],none⟩ ?_
        refine wpAnyH_done (by kernel_rfl) ?_ _
        go_wp2_with fail
        go_meet
        case rel=>exact ⟨by first|rfl|rw [hq],P9⟩
       case rest=>
        obtain ⟨rfl,P6⟩:=hcut
        clear HP5 c0 c1 c2 c3 c4 c5 c6 g0 g1 hTy hgl
        have HB6:=hid P6.b
        cases q with
        | true=>
         have HN:=hid (show ¬headP c from fun h=>by
          refine h.fu k hlt m hmk ?_
          show clsT c.pool c.faces[m]=clsT c.pool c.faces[k]
          rw [HX.out,HY.out,HSX.out,HSY.out]
          exact text_eq.1 hq)
         clear P6 HT HI
         go_wp2
         go_ret
         first|exact ⟨false,rfl,⟨fun h=>(by cases h),fun h=>absurd h HN.out⟩,HB6.out⟩|exact .inl ⟨rfl,HN.out,HB6.out⟩
        | false=>
         have HM':=hid (show ∀ b (hb:b<c.faces.length),b<m+1→¬clsT c.pool c.faces[b]=sx from fun b hb h=>by
          by_cases e:b=m
          ·subst e
           rw [HY.out,HSY.out]
           intro h'
           rw [text_eq.2 h'] at hq
           cases hq
          ·exact HM.out b hb (by omega))
         clear HM hq
         go_wp2
         go_roundw
         case rel=>exact ⟨m+1,by omega,by go_num,HM',P6⟩
         case measure=>simp [intOf];omega
      ·have HU':=hid (show ∀ i (h:i<c.faces.length) j (hj:j<i),i<k+1→¬clsT c.pool (c.faces[j]'(by omega))=clsT c.pool c.faces[i] from fun i hi j hj h=>by
        by_cases e:i=k
        ·subst e
         rw [HX.out,HSX.out]
         exact HM.out j (by omega) (by omega)
        ·exact HU.out i hi j hj (by omega))
       clear HU HM
       go_wp2
       go_roundw
       case rel=>exact ⟨k+1,by omega,by go_num,HE',HU',P5⟩
       case measure=>simp [intOf];omega
  ·have YC:=hid (show ∀ a (h:a<c.faces.length),clsC c.pool c.faces[a]=true from fun a h=>HE.out a h (by omega))
   have YU:=hid (show ∀ i (h:i<c.faces.length) j (hj:j<i),¬clsT c.pool (c.faces[j]'(by omega))=clsT c.pool c.faces[i] from fun i hi j hj=>HU.out i hi j hj (by omega))
   have HB:=hid P.b
   clear HE HU P HT HI
   have hr:0≤c.flags∧c.flags≤255:=by have:=hq4.out;unfold inI at this;simp at this;omega
   have h1:=fun W=>l4Has_any c.flags 1 W hr.1 hr.2 (by simp)
   have h2:=fun W=>l4Has_any c.flags 2 W hr.1 hr.2 (by simp)
   have h4:=fun W=>l4Has_any c.flags 4 W hr.1 hr.2 (by simp)
   obtain ⟨q1,hq1⟩:∃ q,Hid (bitB c.flags 1=q):=⟨_,hid rfl⟩
   obtain ⟨q2,hq2⟩:∃ q,Hid (bitB c.flags 2=q):=⟨_,hid rfl⟩
   obtain ⟨q5,hq5⟩:∃ q,Hid (bitB c.flags 4=q):=⟨_,hid rfl⟩
   obtain ⟨q,hq⟩:∃ q,(sS.toList==[79,98,106])=q:=⟨_,rfl⟩
   rw [hq1.out] at h1
   rw [hq2.out] at h2
   rw [hq5.out] at h4
   have HQ:=hid (show objB (clsT c.pool c.super)=q by rw [HSS.out];exact hq)
   have HY:=hid (show headP c↔(¬(q2=true∧q5=true)∧(q1=true→q5=true∧q=true)) from
    ⟨fun h=>⟨by rw [← hq2.out,← hq5.out];exact h.fa,by rw [← hq1.out,← hq5.out,← HQ.out];exact h.ob⟩,
     fun h=>⟨HQ1.out,HQ2.out,HNE.out,hq4.out,YC.out,YU.out,by rw [hq2.out,hq5.out];exact h.1,by rw [hq1.out,hq5.out,HQ.out];exact h.2⟩⟩)
   clear hq1 hq2 hq5 hq4 HQ hr YC YU HQ1 HQ2 HNE HSS HSN
   cases q1<;>cases q2<;>cases q5<;>cases q
   all_goals
    go_wp2_with (first|(go_at_call_of 115 (4:Int);refine (h4 _).mono ?_;rintro e w2 ⟨rfl,hw⟩;replace hw:=hw.symm;subst hw)|(go_at_call_of 115 (2:Int);refine (h2 _).mono ?_;rintro e w3 ⟨rfl,hw⟩;replace hw:=hw.symm;subst hw)|(go_at_call_of 115 (1:Int);refine (h1 _).mono ?_;rintro e w4 ⟨rfl,hw⟩;replace hw:=hw.symm;subst hw))
    go_ret
    have hy:=HY.out
    simp only [Bool.false_eq_true,and_false,not_false_eq_true,and_true,not_true_eq_false,forall_const,false_implies,imp_self] at hy
    first|exact ⟨_,rfl,by rw [hy];simp,HB.out⟩|exact .inl ⟨rfl,by rw [hy];simp,HB.out⟩|exact .inr ⟨rfl,by rw [hy];simp,HB.out⟩
set_option maxHeartbeats 400000
theorem l1InB_any (n lo hi:Int) (w:World) :
  Calls Tryz.prog 84 #[.int .i64 n,.int .i64 lo,.int .i64 hi] w fun e w'=>e=.returned (.bool (decide (lo≤n) && decide (n≤hi)))∧w'=w:=by
 go_enter Tryz.func84,Tryz.ntmps84
 go_wp2
 all_goals go_ret
 all_goals refine ⟨ret_bool ?_,rfl⟩
 all_goals (rw [Bool.eq_iff_iff];simp;omega)
theorem isOp_any (n:Int) (w:World) :
  Calls Tryz.prog 219 #[.int .i64 n] w fun e w'=>e=.returned (.bool (decide (0≤n) && decide (n<35)))∧w'=w:=by
 go_enter Tryz.func219,Tryz.ntmps219
 go_wp2
 all_goals go_ret
 all_goals refine ⟨ret_bool ?_,rfl⟩
 all_goals (rw [Bool.eq_iff_iff];simp;omega)
theorem l3Args_any (n:Int) (w:World) :
  Calls Tryz.prog 160 #[.int .i64 n] w fun e w'=>e=.returned (.int .i64 (args n))∧w'=w:=by
 have HA:Hid (args n=if n=1 then 2 else if 3≤n∧n≤6 then 1 else if 14≤n∧n≤29 then 2 else if 0≤n∧n≤34 then 0 else -1):=rfl
 go_enter Tryz.func160,Tryz.ntmps160
 go_wp2_with (go_at_call 84;refine (l1InB_any _ _ _ _).mono ?_;rintro e w1 ⟨rfl,hw⟩;replace hw:=hw.symm;subst hw)
 all_goals go_ret
 all_goals refine ⟨ret_i64 ?_,rfl⟩
 all_goals (rw [HA.out];simp only [beq_iff_eq,beq_eq_false_iff_ne,ne_eq] at *;repeat (first|omega|split))
theorem two_bytes {b:ByteArray} (h:b.size=2):b.data.toList=[b[0],b[1]]:=by
 apply List.ext_getElem
 ·rw [lenOf];simp [h]
 ·intro i h1 h2
  match i,h2 with
  | 0,_=>rfl
  | 1,_=>rfl
theorem one_byte_list {b:ByteArray} (h:b.size=1):b.data.toList=[b[0]]:=by
 apply List.ext_getElem
 ·rw [lenOf];simp [h]
 ·intro i h1 h2
  match i,h2 with
  | 0,_=>rfl
theorem no_byte {b:ByteArray} (h:b.size=0):b.data.toList=[]:=List.eq_nil_of_length_eq_zero (by rw [lenOf];exact h)
theorem num_none {b:ByteArray} (op:Int) (h:b.size=0):num op b.data.toList=0:=by rw [no_byte h];rfl
theorem num_one {b:ByteArray} (op:Int) (h:b.size=1):num op b.data.toList=(b[0].toNat:Int):=by rw [one_byte_list h];rfl
theorem num_two {b:ByteArray} (op:Int) (h:b.size=2):num op b.data.toList=if op=1∧32768≤(b[0].toNat:Int)*256+(b[1].toNat:Int) then (b[0].toNat:Int)*256+(b[1].toNat:Int) - 65536 else (b[0].toNat:Int)*256+(b[1].toNat:Int):=by
 rw [two_bytes h];rfl
theorem l3Num_any (b:ByteArray) (op:Int) (w:World) (hb:b.size≤2) :
  Calls Tryz.prog 161 #[.string b,.int .i64 op] w fun e w'=>e=.returned (.int .i64 (num op b.data.toList))∧w'=w:=by
 have h3:b.size=0∨b.size=1∨b.size=2:=by omega
 rcases h3 with h|h|h
 ·have HN:Hid (num op b.data.toList=0):=num_none op h
  have h':((b.size:Int)==0)=true:=by rw [beq_iff_eq];omega
  clear h
  go_enter Tryz.func161,Tryz.ntmps161
  go_wp2
  go_ret
  exact ⟨ret_i64 HN.out.symm,rfl⟩
 ·have hs:0<b.size:=by omega
  have HN:Hid (num op b.data.toList=(b[0].toNat:Int)):=num_one op h
  have h0:((b.size:Int)==0)=false:=by rw [beq_eq_false_iff_ne];omega
  have h2:((b.size:Int)==2)=false:=by rw [beq_eq_false_iff_ne];omega
  clear h
  go_enter Tryz.func161,Tryz.ntmps161
  go_wp2
  all_goals have hc:=b[0].toNat_lt
  all_goals go_unwrap
  all_goals first|(go_ret;exact ⟨ret_i64 HN.out.symm,rfl⟩)|(exfalso;omega)
 ·have hs0:0<b.size:=by omega
  have hs1:1<b.size:=by omega
  have HN:Hid (num op b.data.toList=if op=1∧32768≤(b[0].toNat:Int)*256+(b[1].toNat:Int) then (b[0].toNat:Int)*256+(b[1].toNat:Int) - 65536 else (b[0].toNat:Int)*256+(b[1].toNat:Int)):=num_two op h
  have h0:((b.size:Int)==0)=false:=by rw [beq_eq_false_iff_ne];omega
  have h2:((b.size:Int)==2)=true:=by rw [beq_iff_eq];omega
  clear h
  go_enter Tryz.func161,Tryz.ntmps161
  go_wp2
  all_goals go_ret
  all_goals refine ⟨ret_i64 ?_,rfl⟩
  all_goals (rw [HN.out];simp only [beq_iff_eq,beq_eq_false_iff_ne,ne_eq] at *;have hc:=b[0].toNat_lt;have hc':=b[1].toNat_lt;go_unwrap;split<;>omega)
theorem wrap16 (n:Int) (h0:0≤n) (h1:n<65536):IntKind.i16.wrap n=if n<32768 then n else n - 65536:=by
 simp only [IntKind.wrap,IntKind.bits,IntKind.signed]
 simp
 split<;>omega
theorem numberOf_any (b:ByteArray) (op:Int) (w:World) (hb:b.size≤2) :
  Calls Tryz.prog 220 #[.int .i64 op,.string b] w fun e w'=>e=.returned (.int .i64 (num op b.data.toList))∧w'=w:=by
 have h3:b.size=0∨b.size=1∨b.size=2:=by omega
 rcases h3 with h|h|h
 ·have HN:Hid (num op b.data.toList=0):=num_none op h
  have h':¬(0:Int)<(b.size:Int):=by omega
  clear h
  go_enter Tryz.func220,Tryz.ntmps220
  go_wp2
  refine wp_loop_rounds 1 ?_
  rw [rounds_succ]
  go_wp2
  all_goals go_ret
  all_goals exact ⟨ret_i64 HN.out.symm,rfl⟩
 ·have hs:0<b.size:=by omega
  have HN:Hid (num op b.data.toList=(b[0].toNat:Int)):=num_one op h
  have hs':(0:Int)<(b.size:Int):=by omega
  have hs2:¬(1:Int)<(b.size:Int):=by omega
  clear h
  go_enter Tryz.func220,Tryz.ntmps220
  go_wp2
  refine wp_loop_rounds 2 ?_
  rw [rounds_succ]
  go_wp2
  rw [rounds_succ]
  go_wp2
  all_goals go_ret
  all_goals refine ⟨ret_i64 ?_,rfl⟩
  all_goals (rw [HN.out];simp only [beq_iff_eq,beq_eq_false_iff_ne,ne_eq] at *;have hc:=b[0].toNat_lt;first|(go_unwrap;done)|(rw [wrap16 _ (by go_unwrap;omega) (by go_unwrap;omega)];go_unwrap;split<;>omega))
 ·have hs0:0<b.size:=by omega
  have hs1:1<b.size:=by omega
  have HN:Hid (num op b.data.toList=if op=1∧32768≤(b[0].toNat:Int)*256+(b[1].toNat:Int) then (b[0].toNat:Int)*256+(b[1].toNat:Int) - 65536 else (b[0].toNat:Int)*256+(b[1].toNat:Int)):=num_two op h
  have hs':(0:Int)<(b.size:Int):=by omega
  have hs'':(1:Int)<(b.size:Int):=by omega
  have hs2:¬(2:Int)<(b.size:Int):=by omega
  clear h
  go_enter Tryz.func220,Tryz.ntmps220
  go_wp2
  refine wp_loop_rounds 3 ?_
  rw [rounds_succ]
  go_wp2
  rw [rounds_succ]
  go_wp2
  rw [rounds_succ]
  go_wp2
  all_goals go_ret
  all_goals refine ⟨ret_i64 ?_,rfl⟩
  all_goals (rw [HN.out];simp only [beq_iff_eq,beq_eq_false_iff_ne,ne_eq] at *;have hc:=b[0].toNat_lt;have hc':=b[1].toNat_lt;go_unwrap;first|(split<;>omega)|(rw [wrap16 _ (by omega) (by omega)];split<;>(go_unwrap;split<;>omega)))
def cells3 (t:Op3):List Value:=[.int .i64 t.at_,.int .i64 t.op,.int .i64 t.num]
def cellsL (ts:List Op3):List Value:=ts.flatMap cells3
theorem cellsL_snoc (ts:List Op3) (t:Op3):cellsL (ts++[t])=cellsL ts++cells3 t:=by simp [cellsL]
theorem cellsL_len (ts:List Op3):(cellsL ts).length=ts.length*3:=by
 induction ts with
 | nil=>rfl
 | cons t ts ih=>simp only [cellsL,List.flatMap_cons,List.length_append] at *;simp [cells3,ih];omega
theorem infoIns:(Tryz.prog.info? 169).map (fun i=>(i.zero,i.size,i.bytes))=some (some (.agg #[.int .i64 0,.int .i64 0,.int .i64 0]),3,24):=by kernel_rfl
def Tab (w:World):Prop:=1<w.heap.size∧∀ k,k<35→w.cell? ⟨1,k,none⟩=some (.int .i64 (tab.getD k 0))
theorem Tab.keep {B:Nat} {w w':World} (h:Tab w) (hb:Below B w w') (hB:1<B):Tab w':=
 ⟨Nat.lt_of_lt_of_le h.1 hb.size,fun k hk=>(hb.cell (p:=⟨1,k,none⟩) hB).trans (h.2 k hk)⟩
def OpsPost (s:ByteArray) (w:World) (e:Ending) (w':World):Prop:=
 ∃ v,e=.returned (.tuple #[v,.bool (oGood s)])∧w'.ownsRow w.heap.size 169 3 v (oList s).length (cellsL (oList s))∧Below w.heap.size w w'
theorem ops_post_no {s:ByteArray} {w w':World} (h:s.size<1∨120<s.size∨ops s=none) (hb:Below w.heap.size w w') :
  OpsPost s w (.returned (.tuple #[.slice none 0 0,.bool false])) w':=by
 obtain ⟨h1,h2⟩:=ops_no h
 refine ⟨.slice none 0 0,by rw [h1], ?_,hb⟩
 rw [h2]
 exact World.ownsRow_nil _ _ _ _
theorem ops_post_yes {s:ByteArray} {w w':World} {ts:List Op3} {v:Value} (h1:1≤s.size) (h2:s.size≤120) (h:ops s=some ts) (ho:w'.ownsRow w.heap.size 169 3 v ts.length (cellsL ts)) (hb:Below w.heap.size w w') :
  OpsPost s w (.returned (.tuple #[v,.bool true])) w':=by
 obtain ⟨e1,e2⟩:=ops_yes h1 h2 h
 exact ⟨v,by rw [e1],by rw [e2];exact ho,hb⟩
theorem tab_nonneg (k:Nat):tab.getD k 0 ≠ -1:=by
 have:∀ x∈tab,x ≠ -1:=by decide
 rw [List.getD_eq_getElem?_getD]
 cases h:tab[k]? with
 | none=>simp
 | some x=>exact this x (List.mem_of_getElem? h)
theorem OpsGet_any (s:ByteArray) (w:World) (hs:s.size≤maxLen) (hT:Tab w) :
  Calls Tryz.prog 188 #[.string s] w fun e w'=>OpsPost s w e w':=by
 unfold maxLen at hs
 by_cases h1:s.size<1
 ·go_enter Tryz.func188,Tryz.ntmps188
  go_wp2
  go_ret2
  exact ops_post_no (.inl h1) (Below.refl _ _)
 by_cases h2:120<s.size
 ·go_enter Tryz.func188,Tryz.ntmps188
  go_wp2
  go_ret2
  exact ops_post_no (.inr (.inl h2)) (Below.refl _ _)
 obtain ⟨i0,hi,hz0,hz1,hz2⟩:=info_parts infoIns
 have HTab:Hid (Tab w):=hT
 have hB0:=hT.1
 clear hT hs
 go_enter Tryz.func188,Tryz.ntmps188
 go_wp2
 go_loopw [4,5] (fun v i wr=>∃ (ts:List Op3) (a f:Nat),i=.int .i64 a∧a≤s.size∧s.size≤a+f∧ts.length+f≤s.size∧wr.ownsRow w.heap.size 169 3 v ts.length (cellsL ts)∧Below w.heap.size w wr∧Hid (ops s=(opsAt s f a).map (preO ts))) (fun _ i _=>s.size - (intOf i).toNat)
 case atStart=>exact ⟨[],0,s.size,rfl,by omega,by omega,by simp,World.ownsRow_nil _ _ _ _,Below.refl _ _,(preO_nil _).symm⟩
 case round=>
  obtain ⟨ts,a,f,rfl,ha,hf,hl,hown,hbel,HR⟩:=hrel
  obtain ⟨ao,cap,hv⟩:=own_len hown
  subst hv
  by_cases hlt:a<s.size
  ·have hTab:=HTab.out.keep hbel hB0
   obtain ⟨g,rfl⟩:∃ g,f=g+1:=⟨f - 1,by omega⟩
   have hop:Mx.opAt s a=(s[a].toNat:Int):=by unfold Mx.opAt opNat;rw [byteOf s a hlt]
   have hc:(s[a].toNat:Int)≤255:=by have:=s[a].toNat_lt;omega
   by_cases hop35:s[a].toNat<35
   ·have hcell:=hTab.2 _ hop35
    have harg:=args_tab _ hop35
    rw [← hop] at harg
    rw [← harg] at hcell
    obtain ⟨n,hn2,hn⟩:∃ n:Nat,n≤2∧args (Mx.opAt s a)=n:=by
     rcases args_range (Mx.opAt s a) with h|h|h|h
     ·exfalso;rw [hop] at h;have:=args_tab _ hop35;rw [h] at this;exact tab_nonneg _ this.symm
     ·exact ⟨0,by omega,h⟩
     ·exact ⟨1,by omega,h⟩
     ·exact ⟨2,by omega,h⟩
    rw [hn] at hcell
    have hO:∀ w,Calls Tryz.prog 219 #[.int .i64 (s[a].toNat:Int)] w fun e w'=>e=.returned (.bool true)∧w'=w:=fun w=>by
     refine (isOp_any _ w).mono ?_
     rintro e w' ⟨rfl,rfl⟩
     exact ⟨ret_bool (by simp;omega),rfl⟩
    by_cases hfit:a+1+n≤s.size
    ·obtain ⟨z,hz⟩:∃ z,(insAt s a).num=z:=⟨_,rfl⟩
     have hN:∀ w,Calls Tryz.prog 220 #[.int .i64 (s[a].toNat:Int),.string (s.extract (a+1) (a+1+n))] w fun e w'=>e=.returned (.int .i64 z)∧w'=w:=fun w=>by
      refine (numberOf_any _ _ w (by simp;omega)).mono ?_
      rintro e w' ⟨rfl,rfl⟩
      refine ⟨ret_i64 ?_,rfl⟩
      rw [← hz,Lib.extract_data]
      unfold insAt behind
      rw [hn,hop];rfl
     have HC:Hid (cells3 (insAt s a)=[.int .i64 (a:Int),.int .i64 (s[a].toNat:Int),.int .i64 z]):=by
      unfold Hid;rw [← hz,← hop];rfl
     have HS:Hid (ops s=(opsAt s g (a+1+n)).map (preO (ts++[insAt s a]))):=by
      unfold Hid;rw [HR.out,← preO_preO,← opsAt_step hlt hn hfit]
     clear hop HR hTab harg hn hz
     go_wp2_with (first|(go_at_call 219;refine (hO _).mono ?_;rintro e w1 ⟨rfl,hw⟩;replace hw:=hw.symm;subst hw)|(go_at_call 220;refine (hN _).mono ?_;rintro e w1 ⟨rfl,hw⟩;replace hw:=hw.symm;subst hw)|(at_builtin;refine wpList_append_own _ rfl _ _ 163 rfl w.heap.size 169 i0 (.agg #[.int .i64 0,.int .i64 0,.int .i64 0]) 3 24 Tryz.underlying163 hi hz0 hz1 hz2 rfl (by decide) _ _ _ rfl (hown.alloc _) ⟨wr.heap.size,0,none⟩ 1 1 [.int .i64 (a:Int),.int .i64 (s[a].toNat:Int),.int .i64 z] rfl rfl ?c1 ?c2 ?c3 ?c4 ?c5 ?_))
     case c1=>exact fun j u hj=>cells_new _ _ _ j u hj
     case c2=>intro u hu;simp at hu;rcases hu with rfl|rfl|rfl<;>rfl
     case c3=>unfold maxLen;omega
     case c4=>omega
     case c5=>have:=hbel.size;simp;omega
     ·intro v' w2 hown' hgrow _
      obtain ⟨R1,R2⟩:=own_next hown (Below.refl _ _) hbel hbel.size hown' hgrow
      rw [← HC.out,← cellsL_snoc] at R1
      clear hown' hgrow hown hbel
      go_wp2
      go_roundw
      case rel=>exact ⟨ts++[insAt s a],a+1+n,g,by go_num,by omega,by omega,by simp;omega,by simpa using R1,R2,HS⟩
      case measure=>simp [intOf];omega
    ·have HN:Hid (ops s=none):=by
      unfold Hid;rw [HR.out,opsAt_bad hlt (.inr (by rw [hn];omega))];rfl
     have hn0:(s.size:Int) - (a:Int) - 1<(n:Int):=by omega
     clear hop HR hTab harg hn
     go_wp2_with (go_at_call 219;refine (hO _).mono ?_;rintro e w1 ⟨rfl,hw⟩;replace hw:=hw.symm;subst hw)
     go_ret2
     exact ops_post_no (.inr (.inr HN.out)) hbel
   ·have HN:Hid (ops s=none):=by
     unfold Hid;rw [HR.out,opsAt_bad hlt (.inl (by rw [hop,args_none _ (by omega)];omega))];rfl
    have hO:∀ w,Calls Tryz.prog 219 #[.int .i64 (s[a].toNat:Int)] w fun e w'=>e=.returned (.bool false)∧w'=w:=fun w=>by
     refine (isOp_any _ w).mono ?_
     rintro e w' ⟨rfl,rfl⟩
     exact ⟨ret_bool (by simp;omega),rfl⟩
    clear hop HR hTab
    go_wp2_with (go_at_call 219;refine (hO _).mono ?_;rintro e w1 ⟨rfl,hw⟩;replace hw:=hw.symm;subst hw)
    go_ret2
    exact ops_post_no (.inr (.inr HN.out)) hbel
  ·have HN:Hid (ops s=some ts):=by unfold Hid;rw [HR.out,opsAt_end hlt];simp [preO]
   clear HR
   go_wp2
   go_ret2
   exact ops_post_yes (by omega) (by omega) HN.out hown hbel
set_option maxHeartbeats 1000000
abbrev MIns:=Op3
abbrev rowIns (ts:List MIns):List Value:=cellsL ts
theorem rowIns_at (ts:List MIns) (k:Nat) (hk:k<ts.length):rowIns ts=rowIns (ts.take k)++(cells3 ts[k]++rowIns (ts.drop (k+1))):=by
 have ht:ts=ts.take k++ts[k] :: ts.drop (k+1):=by rw [← List.drop_eq_getElem_cons hk,List.take_append_drop]
 exact (congrArg (List.flatMap cells3) ht).trans (by rw [List.flatMap_append,List.flatMap_cons];rfl)
theorem ownIns_at {w:World} {B g cap:Nat} {ts:List MIns} (h:w.ownsRow B 169 3 (.slice (some ⟨g,0,none⟩) ts.length cap) ts.length (rowIns ts)) {k:Nat} (hk:k<ts.length) :
  w.cell? ⟨g,k*3,none⟩=some (.int .i64 ts[k].at_)∧w.cell? ⟨g,k*3+1,none⟩=some (.int .i64 ts[k].op)∧w.cell? ⟨g,k*3+2,none⟩=some (.int .i64 ts[k].num):=by
 have hx:∀ j,j<3→(rowIns ts)[k*3+j]? = (cells3 ts[k])[j]?:=by
  intro j hj
  rw [rowIns_at ts k hk,List.getElem?_append_right (by rw [cellsL_len,List.length_take];omega),cellsL_len,List.length_take,show k*3+j - min k ts.length*3=j by omega,List.getElem?_append_left (by simp [cells3];omega)]
 refine ⟨?_, ?_, ?_⟩
 ·rw [h.cellAt _ (by omega)];exact hx 0 (by omega)
 ·rw [h.cellAt _ (by omega)];exact hx 1 (by omega)
 ·rw [h.cellAt _ (by omega)];exact hx 2 (by omega)
def OpsW (w:World) (v:Value) (ts:List MIns):Prop:=∃ B,w.ownsRow B 169 3 v ts.length (rowIns ts)
theorem OpsW.keep {w w':World} {v:Value} {ts:List MIns} (h:OpsW w v ts) (hb:Below w.heap.size w w'):OpsW w' v ts:=by
 obtain ⟨B,h⟩:=h
 exact ⟨B,own_below h hb⟩
theorem OpsW.len {w:World} {v:Value} {ts:List MIns} (h:OpsW w v ts):∃ ao cap,v=.slice ao ts.length cap:=by
 obtain ⟨B,h⟩:=h
 exact own_len h
set_option maxHeartbeats 2000000
theorem l3Find_any (v:Value) (ts:List MIns) (x:Int) (w:World) (hl:ts.length≤1048576) (h:OpsW w v ts) :
  Calls Tryz.prog 162 #[v,.int .i64 x] w fun e w'=>∃ r:Int,e=.returned (.int .i64 r)∧(0≤r↔atB ts x=true)∧Below w.heap.size w w':=by
 obtain ⟨B,ho⟩:=h
 obtain ⟨ao,cap,hv⟩:=own_len ho
 subst hv
 have HO:=hid ho
 clear ho
 go_enter Tryz.func162,Tryz.ntmps162
 go_wp2_with fail
 go_loopw [5] (fun i wr=>∃ (k:Nat),k≤ts.length∧i=.int .i64 k∧Hid (∀ j (h:j<ts.length),j<k→¬ts[j].at_=x)∧Hid (Below w.heap.size w wr)) (fun i _=>ts.length - (intOf i).toNat)
 case atStart=>exact ⟨0,by omega,rfl,fun j _ hj=>by omega,Below.refl _ _⟩
 case round=>
  obtain ⟨k,hk,rfl,HE,HB⟩:=hrel
  by_cases hlt:k<ts.length
  ·obtain ⟨g,hg⟩:=own_some HO.out (by omega)
   subst hg
   obtain ⟨c0,c1,c2⟩:=ownIns_at (own_below HO.out HB.out) hlt
   generalize hT:ts[k]=t at c0 c1 c2
   have HT:=hid hT
   clear hT
   by_cases e:t.at_=x
   ·have HR:=hid (show atB ts x=true from (atB_iff ts x).2 ⟨k,hlt,by rw [HT.out];exact e⟩)
    go_wp2
    go_ret
    exact ⟨_,rfl,⟨fun _=>HR.out,fun _=>by omega⟩,HB.out⟩
   ·have HN:=hid (show ∀ j (h:j<ts.length),j<k+1→¬ts[j].at_=x from fun j h hj=>by
     by_cases ej:j=k
     ·subst ej;rw [HT.out];exact e
     ·exact HE.out j h (by omega))
    go_wp2
    go_roundw
    case rel=>exact ⟨k+1,by omega,by go_num,HN,HB⟩
    case measure=>simp [intOf];omega
  ·have HN:=hid (show ¬atB ts x=true from fun h=>by
    obtain ⟨j,hj,e⟩:=(atB_iff ts x).1 h
    exact HE.out j hj (by omega) e)
   go_wp2
   go_ret
   exact ⟨-1,rfl,⟨fun h=>absurd h (by omega),fun h=>absurd h HN.out⟩,HB.out⟩
def entryI (op:Int):Int:=if 19≤op∧op≤29 then kindOf op else 0
theorem l4Entry_any (n:Int) (w:World) :
  Calls Tryz.prog 163 #[.int .i64 n] w fun e w'=>e=.returned (.int .i64 (entryI n))∧w'=w:=by
 have HA:Hid (entryI n=if 19≤n∧n≤29 then (if 20≤n∧n≤23 then 4 else if 24≤n∧n≤26 then 5 else if n=27 then 6 else 2) else 0):=rfl
 go_enter Tryz.func163,Tryz.ntmps163
 go_wp2
 all_goals go_ret
 all_goals refine ⟨ret_i64 ?_,rfl⟩
 all_goals (rw [HA.out];simp only [beq_iff_eq,beq_eq_false_iff_ne,ne_eq] at *;repeat (first|omega|split))
structure HB (w:World) (bs:List (Nat × Array Value × TypeId)) (W:World):Prop where
 b:Below w.heap.size w W
 k:∀ x,x∈bs→Lk W x.1 x.2.1 x.2.2
theorem HB.keep {w W W':World} {bs:List (Nat × Array Value × TypeId)} (h:HB w bs W) (hb:Below W.heap.size W W'):HB w bs W':=⟨h.b.trans (hb.mono h.b.size),fun x hx=>(h.k x hx).keep hb⟩
theorem HB.nil (w:World):HB w [] w:=⟨Below.refl _ _,fun _ h=>by cases h⟩
theorem HB.add {w W:World} {bs:List (Nat × Array Value × TypeId)} (h:HB w bs W) (a:Array Value) (T:TypeId) {n:Nat} (hn:n=W.heap.size):HB w ((n,a,T) :: bs) (W.alloc (.cells a T)):=by
 subst hn
 have hb:Below W.heap.size W (W.alloc (.cells a T)):=(Below.refl _ _).alloc (Nat.le_refl _) _
 refine ⟨(h.keep hb).b,fun x hx=>?_⟩
 rcases List.mem_cons.1 hx with rfl|hx
 ·exact Lk.new _ _ _
 ·exact (h.k x hx).keep hb
theorem HB.hd {w W:World} {x:Nat × Array Value × TypeId} {bs:List (Nat × Array Value × TypeId)} (h:HB w (x :: bs) W):Lk W x.1 x.2.1 x.2.2:=h.k x (List.mem_cons_self ..)
theorem HB.tl {w W:World} {x:Nat × Array Value × TypeId} {bs:List (Nat × Array Value × TypeId)} (h:HB w (x :: bs) W):HB w bs W:=⟨h.b,fun y hy=>h.k y (List.mem_cons_of_mem _ hy)⟩
theorem HB.one (w:World) (a:Array Value) (T:TypeId):HB w [(w.heap.size,a,T)] (w.alloc (.cells a T)):=(HB.nil w).add a T rfl
theorem HB.two (w:World) (a b:Array Value) (T U:TypeId):HB w [(w.heap.size+1,b,U),(w.heap.size,a,T)] ((w.alloc (.cells a T)).alloc (.cells b U)):=(HB.one w a T).add b U (by simp)
theorem HB.three (w:World) (a b c:Array Value) (T U V:TypeId):HB w [(w.heap.size+1+1,c,V),(w.heap.size+1,b,U),(w.heap.size,a,T)] (((w.alloc (.cells a T)).alloc (.cells b U)).alloc (.cells c V)):=(HB.two w a b T U).add c V (by simp)
set_option maxHeartbeats 1000000
theorem indexField_any (u0:Value) (v:Value) (ts:List MField) (B:Nat) (p:Nat→Bool) (w:World) (hl:ts.length≤1048576) (ho:w.ownsRow B 79 3 v ts.length (rowField ts))
  (hF:∀ k (h:k<ts.length) W,Below w.heap.size w W→Calls Tryz.prog 181 #[.agg #[.int .i64 ts[k].flags,.int .i64 ts[k].name,.int .i64 ts[k].typ],u0] W fun e w'=>e=.returned (.bool (p k))∧Below W.heap.size W w') :
  Calls Tryz.prog 216 #[v,.func (.func 181) #[] #[u0]] w fun e w'=>∃ r:Int,e=.returned (.int .i64 r)∧(0≤r↔∃ k,k<ts.length∧p k=true)∧Below w.heap.size w w':=by
 obtain ⟨ao,cap,hv⟩:=own_len ho
 subst hv
 have HO:=hid ho
 have HF:=hid hF
 clear ho hF
 go_enter Tryz.func216,Tryz.ntmps216
 go_wp2_with fail
 go_loopw [8] (fun i wr=>∃ (k:Nat),k≤ts.length∧i=.int .i64 k∧Hid (∀ j,j<k→p j=false)∧Hid (Below w.heap.size w wr)) (fun i _=>ts.length - (intOf i).toNat)
 case atStart=>exact ⟨0,by omega,rfl,fun j hj=>by omega,Below.refl _ _⟩
 case round=>
  obtain ⟨k,hk,rfl,HE,HB⟩:=hrel
  by_cases hlt:k<ts.length
  ·obtain ⟨g,hg⟩:=own_some HO.out (by omega)
   subst hg
   obtain ⟨c0,c1,c2⟩:=ownField_at (own_below HO.out HB.out) hlt
   have hC:=HF.out k hlt
   generalize ts[k]=t at c0 c1 c2 hC
   obtain ⟨q,hq⟩:∃ q,Hid (p k=q):=⟨_,hid rfl⟩
   rw [hq.out] at hC
   go_wp2_with fail
   refine (hC _ HB.out).mono ?_
   rintro e w1 ⟨rfl,hb1⟩
   have HB1:=hid (HB.out.trans (hb1.mono HB.out.size))
   clear hb1 hC c0 c1 c2
   cases q with
   | true=>
    have HR:=hid (show ∃ j,j<ts.length∧p j=true from ⟨k,hlt,hq.out⟩)
    go_wp2
    go_ret
    exact ⟨_,rfl,⟨fun _=>HR.out,fun _=>by omega⟩,HB1.out⟩
   | false=>
    have HN:=hid (show ∀ j,j<k+1→p j=false from fun j hj=>by
     by_cases e:j=k
     ·rw [e];exact hq.out
     ·exact HE.out j (by omega))
    go_wp2
    go_roundw
    case rel=>exact ⟨k+1,by omega,by go_num,HN,HB1⟩
    case measure=>simp [intOf];omega
  ·have HN:=hid (show ¬ ∃ j,j<ts.length∧p j=true from by
    rintro ⟨j,hj,hp⟩
    have:=HE.out j (by omega)
    rw [this] at hp
    cases hp)
   go_wp2
   go_ret
   exact ⟨-1,rfl,⟨fun h=>absurd h (by omega),fun h=>absurd h HN.out⟩,HB.out⟩
theorem containsField_any (u0:Value) (v:Value) (ts:List MField) (B:Nat) (p:Nat→Bool) (w:World) (hl:ts.length≤1048576) (ho:w.ownsRow B 79 3 v ts.length (rowField ts))
  (hF:∀ k (h:k<ts.length) W,Below w.heap.size w W→Calls Tryz.prog 181 #[.agg #[.int .i64 ts[k].flags,.int .i64 ts[k].name,.int .i64 ts[k].typ],u0] W fun e w'=>e=.returned (.bool (p k))∧Below W.heap.size W w') :
  Calls Tryz.prog 180 #[v,.func (.func 181) #[] #[u0]] w fun e w'=>∃ b:Bool,e=.returned (.bool b)∧(b=true↔∃ k,k<ts.length∧p k=true)∧Below w.heap.size w w':=by
 have hI:=indexField_any u0 v ts B p w hl ho hF
 clear hF ho
 go_enter Tryz.func180,Tryz.ntmps180
 go_wp2_with fail
 refine hI.mono ?_
 rintro e w1 ⟨r,rfl,hr,hb⟩
 have HR:=hid hr
 have HB:=hid hb
 clear hr hb hI
 go_wp2
 go_ret
 refine ⟨_,rfl, ?_,HB.out⟩
 rw [← HR.out]
 simp
theorem notField_any (cv:Value) (t:MField) (c:Nat) (q:Bool) (w:World) (hc:w.cell? ⟨c,0,none⟩=some (.func (.func 135) #[] #[cv])) (hlt:c<w.heap.size)
  (hG:∀ W,Below w.heap.size w W→Calls Tryz.prog 135 #[.agg #[.int .i64 t.flags,.int .i64 t.name,.int .i64 t.typ],cv] W fun e w'=>e=.returned (.bool q)∧Below W.heap.size W w') :
  Calls Tryz.prog 181 #[.agg #[.int .i64 t.flags,.int .i64 t.name,.int .i64 t.typ],.pointer (some ⟨c,0,none⟩)] w fun e w'=>e=.returned (.bool (!q))∧Below w.heap.size w w':=by
 have hbo:=(Below.refl w.heap.size w).alloc (Nat.le_refl _) (.cells #[.int .i64 t.flags,.int .i64 t.name,.int .i64 t.typ] 79)
 have hC:=hG _ hbo
 have hne:¬c=w.heap.size:=by omega
 have HO:=hid hbo
 clear hG hbo
 go_enter Tryz.func181,Tryz.ntmps181
 go_wp2_with fail
 refine hC.mono ?_
 rintro e w1 ⟨rfl,hb1⟩
 have HB:=hid (HO.out.trans (hb1.mono HO.out.size))
 clear hb1 hC HO
 go_wp2
 go_ret
 exact ⟨rfl,HB.out⟩
theorem allField_any (cv:Value) (v:Value) (ts:List MField) (B:Nat) (q:Nat→Bool) (w:World) (hl:ts.length≤1048576) (ho:w.ownsRow B 79 3 v ts.length (rowField ts))
  (hG:∀ k (h:k<ts.length) W,Below w.heap.size w W→Calls Tryz.prog 135 #[.agg #[.int .i64 ts[k].flags,.int .i64 ts[k].name,.int .i64 ts[k].typ],cv] W fun e w'=>e=.returned (.bool (q k))∧Below W.heap.size W w') :
  Calls Tryz.prog 139 #[v,.func (.func 135) #[] #[cv]] w fun e w'=>∃ b:Bool,e=.returned (.bool b)∧(b=true↔∀ k,k<ts.length→q k=true)∧Below w.heap.size w w':=by
 obtain ⟨ao,cp,hv⟩:=own_len ho
 subst hv
 have hbo:=(Below.refl w.heap.size w).alloc (Nat.le_refl _) (.cells #[.func (.func 135) #[] #[cv]] 197)
 have hC:=containsField_any (.pointer (some ⟨w.heap.size,0,none⟩)) (.slice ao ts.length cp) ts B (fun k=>!q k) _ hl (own_below ho hbo) (fun k h W hW=>notField_any cv ts[k] w.heap.size (q k) W ((hW.cell (p:=⟨w.heap.size,0,none⟩) (by simp)).trans (by simp [go_sem])) (by have:=hW.size;simp at this;omega) (fun W' hW'=>hG k h W' (hbo.trans ((hW.trans (hW'.mono hW.size)).mono (by simp)))))
 have hmf:∀ (fn:Fn) (first cap:Array Value) (w:World),(Instr.makeFunc fn first cap).run Tryz.prog w=.ok (.func fn first cap) w:=fun _ _ _ _=>rfl
 have HO:=hid hbo
 clear hG ho hbo
 go_enter Tryz.func139,Tryz.ntmps139
 go_wp2_with fail
 refine hC.mono ?_
 rintro e w1 ⟨b,rfl,hb,hb1⟩
 have HB:=hid (HO.out.trans (hb1.mono (by simp)))
 have HR:=hid hb
 clear hb hb1 hC HO
 go_wp2
 go_ret
 refine ⟨!b,rfl, ?_,HB.out⟩
 have:=HR.out
 cases b with
 | true=>
  obtain ⟨k,hk,hq⟩:=this.1 rfl
  constructor
  ·intro h;cases h
  ·intro h;rw [h k hk] at hq;cases hq
 | false=>
  constructor
  ·intro _ k hk
   cases hq:q k with
   | true=>rfl
   | false=>exact absurd (this.2 ⟨k,hk,by simp [hq]⟩) (by simp)
  ·intro _;rfl
theorem indexFieldK_any (u0:Value) (u1:Value) (v:Value) (ts:List MField) (B:Nat) (p:Nat→Bool) (w:World) (hl:ts.length≤1048576) (ho:w.ownsRow B 79 3 v ts.length (rowField ts))
  (hF:∀ k (h:k<ts.length) W,Below w.heap.size w W→Calls Tryz.prog 182 #[.agg #[.int .i64 ts[k].flags,.int .i64 ts[k].name,.int .i64 ts[k].typ],u0,u1] W fun e w'=>e=.returned (.bool (p k))∧Below W.heap.size W w') :
  Calls Tryz.prog 216 #[v,.func (.func 182) #[] #[u0,u1]] w fun e w'=>∃ r:Int,e=.returned (.int .i64 r)∧(0≤r↔∃ k,k<ts.length∧p k=true)∧Below w.heap.size w w':=by
 obtain ⟨ao,cap,hv⟩:=own_len ho
 subst hv
 have HO:=hid ho
 have HF:=hid hF
 clear ho hF
 go_enter Tryz.func216,Tryz.ntmps216
 go_wp2_with fail
 go_loopw [8] (fun i wr=>∃ (k:Nat),k≤ts.length∧i=.int .i64 k∧Hid (∀ j,j<k→p j=false)∧Hid (Below w.heap.size w wr)) (fun i _=>ts.length - (intOf i).toNat)
 case atStart=>exact ⟨0,by omega,rfl,fun j hj=>by omega,Below.refl _ _⟩
 case round=>
  obtain ⟨k,hk,rfl,HE,HB⟩:=hrel
  by_cases hlt:k<ts.length
  ·obtain ⟨g,hg⟩:=own_some HO.out (by omega)
   subst hg
   obtain ⟨c0,c1,c2⟩:=ownField_at (own_below HO.out HB.out) hlt
   have hC:=HF.out k hlt
   generalize ts[k]=t at c0 c1 c2 hC
   obtain ⟨q,hq⟩:∃ q,Hid (p k=q):=⟨_,hid rfl⟩
   rw [hq.out] at hC
   go_wp2_with fail
   refine (hC _ HB.out).mono ?_
   rintro e w1 ⟨rfl,hb1⟩
   have HB1:=hid (HB.out.trans (hb1.mono HB.out.size))
   clear hb1 hC c0 c1 c2
   cases q with
   | true=>
    have HR:=hid (show ∃ j,j<ts.length∧p j=true from ⟨k,hlt,hq.out⟩)
    go_wp2
    go_ret
    exact ⟨_,rfl,⟨fun _=>HR.out,fun _=>by omega⟩,HB1.out⟩
   | false=>
    have HN:=hid (show ∀ j,j<k+1→p j=false from fun j hj=>by
     by_cases e:j=k
     ·rw [e];exact hq.out
     ·exact HE.out j (by omega))
    go_wp2
    go_roundw
    case rel=>exact ⟨k+1,by omega,by go_num,HN,HB1⟩
    case measure=>simp [intOf];omega
  ·have HN:=hid (show ¬ ∃ j,j<ts.length∧p j=true from by
    rintro ⟨j,hj,hp⟩
    have:=HE.out j (by omega)
    rw [this] at hp
    cases hp)
   go_wp2
   go_ret
   exact ⟨-1,rfl,⟨fun h=>absurd h (by omega),fun h=>absurd h HN.out⟩,HB.out⟩
theorem containsFieldK_any (u0:Value) (u1:Value) (v:Value) (ts:List MField) (B:Nat) (p:Nat→Bool) (w:World) (hl:ts.length≤1048576) (ho:w.ownsRow B 79 3 v ts.length (rowField ts))
  (hF:∀ k (h:k<ts.length) W,Below w.heap.size w W→Calls Tryz.prog 182 #[.agg #[.int .i64 ts[k].flags,.int .i64 ts[k].name,.int .i64 ts[k].typ],u0,u1] W fun e w'=>e=.returned (.bool (p k))∧Below W.heap.size W w') :
  Calls Tryz.prog 180 #[v,.func (.func 182) #[] #[u0,u1]] w fun e w'=>∃ b:Bool,e=.returned (.bool b)∧(b=true↔∃ k,k<ts.length∧p k=true)∧Below w.heap.size w w':=by
 have hI:=indexFieldK_any u0 u1 v ts B p w hl ho hF
 clear hF ho
 go_enter Tryz.func180,Tryz.ntmps180
 go_wp2_with fail
 refine hI.mono ?_
 rintro e w1 ⟨r,rfl,hr,hb⟩
 have HR:=hid hr
 have HB:=hid hb
 clear hr hb hI
 go_wp2
 go_ret
 refine ⟨_,rfl, ?_,HB.out⟩
 rw [← HR.out]
 simp
theorem rowField_take (ts:List MField) (i:Nat) (hi:i≤ts.length):rowField (ts.take i)=(rowField ts).take (i*3):=by
 have h:rowField ts=rowField (ts.take i)++rowField (ts.drop i):=by
  unfold rowField
  rw [← List.flatMap_append,List.take_append_drop]
 rw [h,List.take_append_of_le_length (by rw [rowField_len,List.length_take];omega)]
 exact (List.take_of_length_le (by rw [rowField_len,List.length_take];omega)).symm
theorem ownField_take {w:World} {B g cap:Nat} {ts:List MField} (h:w.ownsRow B 79 3 (.slice (some ⟨g,0,none⟩) ts.length cap) ts.length (rowField ts)) (i:Nat) (hi:i≤ts.length) :
  w.ownsRow B 79 3 (.slice (some ⟨g,0,none⟩) i cap) (ts.take i).length (rowField (ts.take i)):=by
 obtain ⟨h1,h2|⟨g',c',cur,he,hb,hh,hn,hm,hs,ht⟩⟩:=h
 ·exact absurd h2.1 (by simp)
 ·obtain ⟨he1,he2⟩:some (⟨g,0,none⟩:Addr)=some ⟨g',0,none⟩∧cap=c':=by simpa using he
  have hg:g=g':=by simpa using he1
  subst hg he2
  have hl:(ts.take i).length=i:=by rw [List.length_take];omega
  refine ⟨by rw [rowField_len],.inr ⟨g,cap,cur,by rw [hl],hb,hh,by omega,hm,hs, ?_⟩⟩
  rw [hl,rowField_take ts i hi,← ht,List.take_take,Nat.min_eq_left (by omega)]
structure UD (w0:World) (cv:Value) (t u:MField) (g c1 c2:Nat) (W:World):Prop where
 b:Below w0.heap.size w0 W
 k0:W.cell? ⟨c1,0,none⟩=some (.func (.func 137) #[] #[cv])
 kt:Lk W g #[.int .i64 t.flags,.int .i64 t.name,.int .i64 t.typ] 79
 k1:W.cell? ⟨c2,0,none⟩=some (.int .i64 u.flags)
 k2:W.cell? ⟨c2,1,none⟩=some (.int .i64 u.name)
 k3:W.cell? ⟨c2,2,none⟩=some (.int .i64 u.typ)
 l1:c1<W.heap.size
 l2:c2<W.heap.size
theorem UD.keep {w0 W W':World} {cv:Value} {t u:MField} {g c1 c2:Nat} (h:UD w0 cv t u g c1 c2 W) (hb:Below W.heap.size W W'):UD w0 cv t u g c1 c2 W':=
 ⟨h.b.trans (hb.mono h.b.size),(hb_cell hb h.l1).trans h.k0,h.kt.keep hb,(hb_cell hb h.l2).trans h.k1,(hb_cell hb h.l2).trans h.k2,(hb_cell hb h.l2).trans h.k3,Nat.lt_of_lt_of_le h.l1 hb.size,Nat.lt_of_lt_of_le h.l2 hb.size⟩
theorem UD.all {w0 W:World} {cv:Value} {t u:MField} {g c1 c2:Nat} (h:UD w0 cv t u g c1 c2 W):W.cell? ⟨c1,0,none⟩=some (.func (.func 137) #[] #[cv])∧W.cell? ⟨g,0,none⟩=some (.int .i64 t.flags)∧W.cell? ⟨g,1,none⟩=some (.int .i64 t.name)∧W.cell? ⟨g,2,none⟩=some (.int .i64 t.typ)∧W.cell? ⟨c2,0,none⟩=some (.int .i64 u.flags)∧W.cell? ⟨c2,1,none⟩=some (.int .i64 u.name)∧W.cell? ⟨c2,2,none⟩=some (.int .i64 u.typ):=
 ⟨h.k0,h.kt.c 0 _ rfl,h.kt.c 1 _ rfl,h.kt.c 2 _ rfl,h.k1,h.k2,h.k3⟩
theorem likeD_any (K:MField→ByteArray) (cv:Value) (t u:MField) (c1 c2:Nat) (w:World) (hc:w.cell? ⟨c1,0,none⟩=some (.func (.func 137) #[] #[cv])) (h0:w.cell? ⟨c2,0,none⟩=some (.int .i64 u.flags)) (h1:w.cell? ⟨c2,1,none⟩=some (.int .i64 u.name)) (h2:w.cell? ⟨c2,2,none⟩=some (.int .i64 u.typ)) (hl1:c1<w.heap.size) (hl2:c2<w.heap.size)
  (hK:∀ x W,Below w.heap.size w W→Calls Tryz.prog 137 #[.agg #[.int .i64 x.flags,.int .i64 x.name,.int .i64 x.typ],cv] W fun e w'=>e=.returned (.string (K x))∧Below W.heap.size W w') :
  Calls Tryz.prog 182 #[.agg #[.int .i64 t.flags,.int .i64 t.name,.int .i64 t.typ],.pointer (some ⟨c1,0,none⟩),.pointer (some ⟨c2,0,none⟩)] w fun e w'=>∃ b:Bool,e=.returned (.bool b)∧(b=true↔K t=K u)∧Below w.heap.size w w':=by
 have hbo:=(Below.refl w.heap.size w).alloc (Nat.le_refl _) (.cells #[.int .i64 t.flags,.int .i64 t.name,.int .i64 t.typ] 79)
 have P:UD w cv t u w.heap.size c1 c2 (w.alloc (.cells #[.int .i64 t.flags,.int .i64 t.name,.int .i64 t.typ] 79)):=⟨hbo,(hb_cell hbo hl1).trans hc,Lk.new _ _ _,(hb_cell hbo hl2).trans h0,(hb_cell hbo hl2).trans h1,(hb_cell hbo hl2).trans h2,by simp;omega,by simp;omega⟩
 clear hc h0 h1 h2 hl1 hl2 hbo
 go_enter Tryz.func182,Tryz.ntmps182
 go_wp2_with fail
 generalize w.alloc (.cells #[.int .i64 t.flags,.int .i64 t.name,.int .i64 t.typ] 79)=X at P ⊢
 generalize hg:w.heap.size=g at P ⊢
 have PD:=P.keep (show Below X.heap.size X X.drew from (Below.refl _ _).drew)
 have HG:=hid hg
 clear P hg
 obtain ⟨d0,d1,d2,d3,d4,d5,d6⟩:=PD.all
 refine wp_region_held_drew (S:=(fun w':World=>w'.cell? ⟨c1,0,none⟩=some (.func (.func 137) #[] #[cv])∧w'.cell? ⟨g,0,none⟩=some (.int .i64 t.flags)∧w'.cell? ⟨g,1,none⟩=some (.int .i64 t.name)∧w'.cell? ⟨g,2,none⟩=some (.int .i64 t.typ)∧w'.cell? ⟨c2,0,none⟩=some (.int .i64 u.flags)∧w'.cell? ⟨c2,1,none⟩=some (.int .i64 u.name)∧w'.cell? ⟨c2,2,none⟩=some (.int .i64 u.typ))) (by kernel_rfl) ⟨d0,d1,d2,d3,d4,d5,d6⟩ (fun hHeld=>?_)
 refine tkw 0 ⟨some 5,.load 198 (.tmp 1),198,"l4_check.go:254",#[],none⟩ ?_
 refine tkw 1 ⟨some 6,.load 79 (.tmp 3),79,"l4_check.go:254",#[],none⟩ ?_
 refine tkw 3 ⟨some 8,.load 198 (.tmp 1),198,"l4_check.go:254",#[],none⟩ ?_
 refine tkw 4 ⟨some 9,.load 79 (.tmp 2),79,"l4_check.go:254",#[],none⟩ ?_
 refine wpAnyH_ready (rs:=[2]) (by kernel_rfl) (by simp) ?_
 refine AllReadyH.cons rfl (fun K' hK'=>?_) AllReadyH.nil
 go_simp
 refine (hK t _ PD.b).mono ?_
 rintro e w8 ⟨rfl,hb8⟩
 have P8:=PD.keep hb8
 refine hK'.out _ _ P8.all (fun hHeld=>?_)
 clear hK' K' d0 d1 d2 d3 d4 d5 d6 hb8 PD
 refine wpAnyH_ready (rs:=[5]) (by kernel_rfl) (by simp) ?_
 refine AllReadyH.cons rfl (fun K' hK'=>?_) AllReadyH.nil
 go_simp
 refine (hK u _ P8.b).mono ?_
 rintro e w9 ⟨rfl,hb9⟩
 have P9:=P8.keep hb9
 refine hK'.out _ _ P9.all (fun hHeld=>?_)
 clear hK' K' hb9 P8
 refine wpAnyH_ready (rs:=[6]) (by kernel_rfl) (by simp) ?_
 refine AllReadyH.cons rfl (fun K' hK'=>?_) AllReadyH.nil
 go_simp
 refine hK'.out _ _ P9.all (fun hHeld=>?_)
 clear hK' K'
 refine wpAnyH_ready (rs:=[7]) (by kernel_rfl) (by simp) ?_
 refine AllReadyH.cons rfl (fun K' hK'=>?_) AllReadyH.nil
 go_simp
 refine hK'.out _ _ P9.all (fun hHeld=>?_)
 clear hK' K'
 refine wpAnyH_done (by kernel_rfl) ?_ _
 have HB:=hid P9.b
 clear P9
 go_wp2
 go_ret
 refine ⟨_,rfl, ?_,HB.out⟩
 rw [beq_iff_eq,ByteArray.toList_eq,ByteArray.toList_eq]
 exact ⟨fun h=>ByteArray.ext (Array.toList_inj.1 h),fun h=>by rw [h]⟩
theorem unlikeD_any (K:MField→ByteArray) (cv v:Value) (ts:List MField) (B:Nat) (w:World) (hl:ts.length≤1048576) (ho:w.ownsRow B 79 3 v ts.length (rowField ts))
  (hK:∀ x W,Below w.heap.size w W→Calls Tryz.prog 137 #[.agg #[.int .i64 x.flags,.int .i64 x.name,.int .i64 x.typ],cv] W fun e w'=>e=.returned (.string (K x))∧Below W.heap.size W w') :
  Calls Tryz.prog 140 #[v,.func (.func 137) #[] #[cv]] w fun e w'=>∃ b:Bool,e=.returned (.bool b)∧(b=true↔∀ i (hi:i<ts.length) j (hj:j<i),¬K (ts[j]'(by omega))=K ts[i])∧Below w.heap.size w w':=by
 obtain ⟨ao,cap,hv⟩:=own_len ho
 subst hv
 have hbo:=(Below.refl w.heap.size w).alloc (Nat.le_refl _) (.cells #[.func (.func 137) #[] #[cv]] 198)
 have HO:=hid (own_below ho hbo)
 have HS:=hid hbo
 have HC:=hid (show (w.alloc (.cells #[.func (.func 137) #[] #[cv]] 198)).cell? ⟨w.heap.size,0,none⟩=some (.func (.func 137) #[] #[cv]) by simp [go_sem])
 have HK:=hid hK
 have hmf:∀ (fn:Fn) (first cap:Array Value) (w:World),(Instr.makeFunc fn first cap).run Tryz.prog w=.ok (.func fn first cap) w:=fun _ _ _ _=>rfl
 clear ho hbo hK
 go_enter Tryz.func140,Tryz.ntmps140
 go_wp2_with fail
 generalize hX:w.alloc (.cells #[.func (.func 137) #[] #[cv]] 198)=X at HO HS HC ⊢
 have HX:=hid (show w.heap.size<X.heap.size by rw [← hX];simp)
 clear hX
 go_loopw [9] (fun i wr=>∃ (k:Nat),k≤ts.length∧i=.int .i64 k∧Hid (∀ i (hi:i<ts.length) j (hj:j<i),i<k→¬K (ts[j]'(by omega))=K ts[i])∧Hid (Below X.heap.size X wr)) (fun i _=>ts.length - (intOf i).toNat)
 case atStart=>exact ⟨0,by omega,rfl,fun i hi j hj h=>by omega,Below.refl _ _⟩
 case round=>
  obtain ⟨k,hk,rfl,HE,HB⟩:=hrel
  by_cases hlt:k<ts.length
  ·obtain ⟨g,hg⟩:=own_some HO.out (by omega)
   subst hg
   obtain ⟨c0,c1,c2⟩:=ownField_at (own_below HO.out HB.out) hlt
   have hcap:ts.length≤cap∧cap≤maxLen:=by
    obtain ⟨_,h2|⟨g',c',cur,he,hb,hh,hn,hm,hs,ht⟩⟩:=HO.out
    ·exact absurd h2.1 (by simp)
    ·have:cap=c':=by simp at he;exact he.2
     omega
   unfold maxLen at hcap
   have hgl:=((own_below HO.out HB.out).lt g rfl).2
   generalize hT:ts[k]=t at c0 c1 c2
   have hY:=(Below.refl wr.heap.size wr).alloc (Nat.le_refl _) (.cells #[.int .i64 t.flags,.int .i64 t.name,.int .i64 t.typ] 79)
   have hlen:(ts.take k).length=k:=by rw [List.length_take];omega
   have hC:=containsFieldK_any (.pointer (some ⟨w.heap.size,0,none⟩)) (.pointer (some ⟨wr.heap.size,0,none⟩)) (.slice (some ⟨g,0,none⟩) k cap) (ts.take k) B (fun j=>decide (ts[j]?.map K=some (K t))) _ (by omega) (ownField_take (own_below (own_below HO.out HB.out) hY) k (by omega)) (fun j h W hW=>by
    have hz:=hW.size
    simp at hz
    have hx:=HX.out
    have hy:=HB.out.size
    refine (likeD_any K cv (ts.take k)[j] t w.heap.size wr.heap.size W ((hb_cell hW (by simp;omega)).trans ((hb_cell hY (by omega)).trans ((hb_cell HB.out hx).trans HC.out))) ((hb_cell hW (by simp)).trans (by simp [go_sem])) ((hb_cell hW (by simp)).trans (by simp [go_sem])) ((hb_cell hW (by simp)).trans (by simp [go_sem])) (by omega) (by omega) (fun x W' hW'=>HK.out x W' (HS.out.trans ((HB.out.trans ((hY.trans ((hW.trans (hW'.mono hW.size)).mono (by simp))).mono HB.out.size)).mono HS.out.size)))).mono ?_
    rintro e w' ⟨b,rfl,hb,hw'⟩
    refine ⟨ret_bool ?_,hw'⟩
    have hj:j<ts.length:=by omega
    rw [Bool.eq_iff_iff,hb,decide_eq_true_iff,List.getElem?_eq_getElem hj]
    simp)
   have HY:=hid hY
   clear hY
   go_wp2_with fail
   refine hC.mono ?_
   rintro e w1 ⟨b,rfl,hb,hb1⟩
   have HB1:=hid (HB.out.trans ((HY.out.trans (hb1.mono (by simp))).mono HB.out.size))
   have HR:=hid hb
   have HT:=hid hT
   clear hb hb1 hC HB hT
   cases b with
   | true=>
    have HN:=hid (show ¬ ∀ i (hi:i<ts.length) j (hj:j<i),¬K (ts[j]'(by omega))=K ts[i] from by
     obtain ⟨j,hj,hp⟩:=HR.out.1 rfl
     intro hu
     have hj':j<ts.length:=by omega
     rw [decide_eq_true_iff,List.getElem?_eq_getElem hj'] at hp
     refine hu k hlt j (by omega) ?_
     rw [HT.out]
     simpa using hp)
    have HZ:=hid (HS.out.trans (HB1.out.mono HS.out.size))
    clear HB1 HR
    go_wp2
    go_ret
    exact ⟨false,rfl,⟨fun h=>(by cases h),fun h=>absurd h HN.out⟩,HZ.out⟩
   | false=>
    have HN:=hid (show ∀ i (hi:i<ts.length) j (hj:j<i),i<k+1→¬K (ts[j]'(by omega))=K ts[i] from fun i hi j hj h=>by
     by_cases e:i=k
     ·subst e
      intro hh
      have hj':j<ts.length:=by omega
      have:=HR.out.2 ⟨j,by omega,by rw [decide_eq_true_iff,List.getElem?_eq_getElem hj',← HT.out];simpa using hh⟩
      cases this
     ·exact HE.out i hi j hj (by omega))
    clear HR
    go_wp2
    go_roundw
    case rel=>exact ⟨k+1,by omega,by go_num,HN,HB1⟩
    case measure=>simp [intOf];omega
  ·have HN:=hid (show ∀ i (hi:i<ts.length) j (hj:j<i),¬K (ts[j]'(by omega))=K ts[i] from fun i hi j hj=>HE.out i hi j hj (by omega))
   have HZ:=hid (HS.out.trans (HB.out.mono HS.out.size))
   go_wp2
   go_ret
   exact ⟨true,rfl,⟨fun _=>HN.out,fun _=>rfl⟩,HZ.out⟩
set_option maxHeartbeats 2000000
def errV (b:Bool) (n:Int):Value:=if b then .nilIface else .iface 84 (.agg #[.int .i64 n])
theorem formUnless_any (b:Bool) (n:Int) (w:World) :
  Calls Tryz.prog 131 #[.bool b,.int .i64 n] w fun e w'=>e=.returned (errV b n)∧Below w.heap.size w w':=by
 cases b
 all_goals
  go_enter Tryz.func131,Tryz.ntmps131
  go_wp2
  go_ret
  exact ⟨rfl,by go_grown⟩
theorem checkHead_any (c:MClass) (vp vi vf vm:Value) (B:Nat) (w:World) (hc:c.few) (h:ClassW w B vp vi vf vm c) :
  Calls Tryz.prog 94 #[.agg #[vp,.int .i64 c.flags,.int .i64 c.name,.int .i64 c.super,vi,vf,vm]] w fun e w'=>∃ b:Bool,e=.returned (errV b 3)∧(b=true↔headNI c∧headFI c)∧Below w.heap.size w w':=by
 obtain ⟨o1,j1,hv1⟩:=own_len h.p
 obtain ⟨o2,j2,hv2⟩:=own_len h.i
 obtain ⟨o3,j3,hv3⟩:=own_len h.f
 obtain ⟨o4,j4,hv4⟩:=h.m.len
 subst hv1 hv2 hv3 hv4
 have P0:=CB.start w (arrK (.slice o1 c.pool.length j1) c.flags c.name c.super (.slice o2 c.faces.length j2) (.slice o3 c.fields.length j3) (.slice o4 c.methods.length j4))
 have h1:=headNames_any c _ _ _ _ B _ hc (h.keep P0.b)
 have H2:=hid (fun W (hW:CB w (arrK (.slice o1 c.pool.length j1) c.flags c.name c.super (.slice o2 c.faces.length j2) (.slice o3 c.fields.length j3) (.slice o4 c.methods.length j4)) W)=>headFlags_any c _ _ _ _ B W hc (h.keep hW.b))
 clear h hc
 go_enter Tryz.func94,Tryz.ntmps94
 go_wp2_with fail
 refine h1.mono ?_
 rintro e w1 ⟨b1,rfl,r1,hb1⟩
 have P1:=P0.keep hb1
 have R1:=hid r1
 clear P0 hb1 r1 h1
 obtain ⟨c0,c1,c2,c3,c4,c5,c6⟩:=P1.k.k7
 have HB1:=hid P1.b
 cases b1 with
 | false=>
  have HN:=hid (show ¬(headNI c∧headFI c) from fun h=>by have:=R1.out.2 h.1;cases this)
  clear R1 P1 H2
  go_wp2_with (go_at_call 131;refine (formUnless_any _ _ _).mono ?_;rintro e w5 ⟨rfl,hb5⟩;have HB5:=hid (HB1.out.trans (hb5.mono HB1.out.size));clear hb5)
  go_ret
  exact ⟨false,rfl,⟨fun h=>(by cases h),fun h=>absurd h HN.out⟩,HB5.out⟩
 | true=>
  replace R1:=hid (R1.out.1 rfl)
  go_wp2_with fail
  refine (H2.out _ P1).mono ?_
  rintro e w2 ⟨b2,rfl,r2,hb2⟩
  have R2:=hid (show b2=true↔headNI c∧headFI c from r2.trans ⟨fun h=>⟨R1.out,h⟩,fun h=>h.2⟩)
  have HB2:=hid (HB1.out.trans (hb2.mono HB1.out.size))
  clear P1 hb2 r2 H2 R1 HB1 c0 c1 c2 c3 c4 c5 c6
  go_wp2_with (go_at_call 131;refine (formUnless_any _ _ _).mono ?_;rintro e w5 ⟨rfl,hb5⟩;have HB5:=hid (HB2.out.trans (hb5.mono HB2.out.size));clear hb5)
  go_ret
  exact ⟨b2,rfl,R2.out,HB5.out⟩
structure fieldI (c:MClass) (f:MField):Prop where
 nm:nameB (rawT c.pool f.name).data.toList=true
 ty:typeB (rawT c.pool f.typ).data.toList=true
 fa:hasI c.flags 1=true→f.flags=1
 fl:hasI c.flags 1=false→inI f.flags 0 3=true
theorem rawT_small {c:MClass} (hc:c.few) (i:Int):(rawT c.pool i).size≤1048576:=atC_small hc.texts i
structure CD (w:World) (a d:Array Value) (W:World):Prop where
 b:Below w.heap.size w W
 k:Lk W w.heap.size a 36
 f:Lk W (w.heap.size+1) d 79
theorem CD.keep {w W W':World} {a b:Array Value} (h:CD w a b W) (hb:Below W.heap.size W W'):CD w a b W':=⟨h.b.trans (hb.mono h.b.size),h.k.keep hb,h.f.keep hb⟩
theorem CD.start (w:World) (a b:Array Value):CD w a b ((w.alloc (.cells a 36)).alloc (.cells b 79)):=by
 refine ⟨((Below.refl _ _).alloc (Nat.le_refl _) _).alloc (by simp) _,(Lk.new _ _ _).alloc _, ?_⟩
 have:=Lk.new (w.alloc (.cells a 36)) b 79
 simpa using this
theorem Lk.f3 {W:World} {C:Nat} {a b c:Value} {T:TypeId} (h:Lk W C #[a,b,c] T):W.cell? ⟨C,0,none⟩=some a∧W.cell? ⟨C,1,none⟩=some b∧W.cell? ⟨C,2,none⟩=some c:=⟨h.c 0 _ rfl,h.c 1 _ rfl,h.c 2 _ rfl⟩
theorem fieldFine_any (c:MClass) (f:MField) (vp vi vf vm:Value) (B:Nat) (w:World) (hc:c.few) (h:ClassW w B vp vi vf vm c) :
  Calls Tryz.prog 136 #[.agg #[vp,.int .i64 c.flags,.int .i64 c.name,.int .i64 c.super,vi,vf,vm],.agg #[.int .i64 f.flags,.int .i64 f.name,.int .i64 f.typ]] w fun e w'=>∃ b:Bool,e=.returned (.bool b)∧(b=true↔fieldI c f)∧Below w.heap.size w w':=by
 obtain ⟨o1,j1,hv1⟩:=own_len h.p
 obtain ⟨o2,j2,hv2⟩:=own_len h.i
 obtain ⟨o3,j3,hv3⟩:=own_len h.f
 obtain ⟨o4,j4,hv4⟩:=h.m.len
 subst hv1 hv2 hv3 hv4
 have P0:=CD.start w (arrK (.slice o1 c.pool.length j1) c.flags c.name c.super (.slice o2 c.faces.length j2) (.slice o3 c.fields.length j3) (.slice o4 c.methods.length j4)) #[.int .i64 f.flags,.int .i64 f.name,.int .i64 f.typ]
 have hPW:PoolW w (.slice o1 c.pool.length j1) c.pool:=⟨B,h.p⟩
 have HT:=hid (fun x W (hW:Below w.heap.size w W)=>nameTextAt_any (.slice o1 c.pool.length j1) c.pool x W hc.pool (hPW.keep hW))
 have hN:=fun W=>NameOk_any (rawT c.pool f.name) W (by have:=rawT_small hc f.name;unfold maxLen;omega)
 have hTy:=fun W=>TypeOk_any (rawT c.pool f.typ) W (by have:=rawT_small hc f.typ;omega)
 have hH:=fun W=>has_any c.flags 1 W
 have hW3:=fun W=>withinI_any f.flags 3 W
 obtain ⟨q1,hq1⟩:∃ q,Hid (nameB (rawT c.pool f.name).data.toList=q):=⟨_,hid rfl⟩
 obtain ⟨q2,hq2⟩:∃ q,Hid (typeB (rawT c.pool f.typ).data.toList=q):=⟨_,hid rfl⟩
 obtain ⟨q3,hq3⟩:∃ q,Hid (hasI c.flags 1=q):=⟨_,hid rfl⟩
 obtain ⟨q4,hq4⟩:∃ q,Hid (inI f.flags 0 3=q):=⟨_,hid rfl⟩
 rw [hq1.out] at hN
 rw [hq2.out] at hTy
 rw [hq3.out] at hH
 rw [hq4.out] at hW3
 clear h hc hPW
 have hT1:=HT.out f.name _ P0.b
 generalize rawT c.pool f.name=s1 at hN hT1
 go_enter Tryz.func136,Tryz.ntmps136
 go_wp2_with fail
 refine hT1.mono ?_
 rintro e w1 ⟨rfl,hb1⟩
 have P1:=P0.keep hb1
 clear P0 hb1 hT1
 obtain ⟨c0,c1,c2,c3,c4,c5,c6⟩:=P1.k.k7
 obtain ⟨d0,d1,d2⟩:=P1.f.f3
 have HB1:=hid P1.b
 cases q1 with
 | false=>
  have HX:=hid (show ¬fieldI c f from fun h=>by have:=h.nm;rw [hq1.out] at this;cases this)
  clear P1 HT
  go_wp2_with (go_at_call 177;refine (hN _).mono ?_;rintro e w2 ⟨rfl,hw⟩;replace hw:=hw.symm;subst hw)
  go_ret
  first|exact ⟨false,rfl,⟨fun h=>(by cases h),fun h=>absurd h HX.out⟩,HB1.out⟩|exact .inl ⟨rfl,HX.out,HB1.out⟩
 | true=>
 have hT2:=HT.out f.typ _ P1.b
 generalize rawT c.pool f.typ=s2 at hTy hT2
 go_wp2_with (first|(go_at_call 177;refine (hN _).mono ?_;rintro e w2 ⟨rfl,hw⟩;replace hw:=hw.symm;subst hw)|(go_at_call 138;fail))
 refine hT2.mono ?_
 rintro e w2 ⟨rfl,hb2⟩
 have P2:=P1.keep hb2
 clear P1 hb2 hT2 HT c0 c1 c2 c3 c4 c5 c6 d0 d1 d2 HB1
 obtain ⟨c0,c1,c2,c3,c4,c5,c6⟩:=P2.k.k7
 obtain ⟨d0,d1,d2⟩:=P2.f.f3
 have HB2:=hid P2.b
 have HY:=hid (show fieldI c f↔(q2=true∧(q3=true→f.flags=1)∧(q3=false→q4=true)) from
  ⟨fun h=>⟨by rw [← hq2.out];exact h.ty,by rw [← hq3.out];exact h.fa,by rw [← hq3.out,← hq4.out];exact h.fl⟩,
   fun h=>⟨hq1.out,by rw [hq2.out];exact h.1,by rw [hq3.out];exact h.2.1,by rw [hq3.out,hq4.out];exact h.2.2⟩⟩)
 clear P2 hq1 hq2 hq3 hq4
 cases q2<;>cases q3<;>cases q4
 all_goals
  go_wp2_with (first|(go_at_call 178;refine (hTy _).mono ?_;rintro e w3 ⟨rfl,hw⟩;replace hw:=hw.symm;subst hw)|(go_at_call 176;refine (hH _).mono ?_;rintro e w4 ⟨rfl,hw⟩;replace hw:=hw.symm;subst hw)|(go_at_call 175;refine (hW3 _).mono ?_;rintro e w5 ⟨rfl,hw⟩;replace hw:=hw.symm;subst hw))
  go_ret
  have hy:=HY.out
  first|exact ⟨_,rfl,by rw [hy];simp,HB2.out⟩|exact .inl ⟨rfl,by rw [hy];simp,HB2.out⟩|exact .inr ⟨rfl,by rw [hy];simp,HB2.out⟩
end Go.Proofs.YtecbcdfkedocbaaGreatDoor
