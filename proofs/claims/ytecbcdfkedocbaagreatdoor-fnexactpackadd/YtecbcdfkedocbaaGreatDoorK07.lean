/- Gathered: ChkMethS. -/
import Derived.Test.YtecbcdfkedocbaaGreatDoorK03
import Derived.Test.YtecbcdfkedocbaaGreatDoorK01
import Derived.Deep.CutBlock
import Derived.Deep.DeepCutAuto
import Derived.Test.YtecbcdfkedocbaaGreatDoorG01
namespace Go.Proofs.YtecbcdfkedocbaaGreatDoor
open Mx Go.RowKit
set_option maxHeartbeats 4000000
set_option maxRecDepth 20000
set_option linter.unusedVariables false
theorem l4Methods_any (c:MClass) (vp vi vf vm:Value) (B:Nat) (w:World) (hc:c.few) (h0:0≤c.flags) (h255:c.flags≤255) (h:ClassW w B vp vi vf vm c) :
  Calls Tryz.prog 76 #[.agg #[vp,.int .i64 c.flags,.int .i64 c.name,.int .i64 c.super,vi,vf,vm]] w fun e w'=>∃ b:Bool,e=.returned (.bool b)∧(b=true↔methodsP c)∧Below w.heap.size w w':=by
 obtain ⟨o1,j1,hv1⟩:=own_len h.p
 obtain ⟨o2,j2,hv2⟩:=own_len h.i
 obtain ⟨o3,j3,hv3⟩:=own_len h.f
 obtain ⟨o4,j4,hv4⟩:=h.m.len
 subst hv1 hv2 hv3 hv4
 have P0:=HB.one w (arrK (.slice o1 c.pool.length j1) c.flags c.name c.super (.slice o2 c.faces.length j2) (.slice o3 c.fields.length j3) (.slice o4 c.methods.length j4)) 36
 have hml:=hc.methods
 have hPW:PoolW w (.slice o1 c.pool.length j1) c.pool:=⟨B,h.p⟩
 have HT:=hid (fun x W (hW:Below w.heap.size w W)=>l2Text_any (.slice o1 c.pool.length j1) c.pool x W hc.pool (hPW.keep hW))
 have HL:=hid (fun (x:MMethod) a5 n5 k5 a6 n6 k6 W (hW:Below w.heap.size w W)=>l4Flags_any c x _ _ _ _ B a5 n5 k5 a6 n6 k6 W hc h0 h255 (h.keep hW))
 have HZ:=hid (fun x=>txtC_small hc.texts x)
 obtain ⟨xs,hxl,hxo,hxe⟩:=id h.m
 have HO:=hid hxo
 have HE0:=hid (fun k (h:k<c.methods.length) (h':k<xs.length)=>show ∃ a5 n5 k5 a6 n6 k6,xs[k]=shM c.methods[k] (.slice a5 n5 k5) (.slice a6 n6 k6) from by
  obtain ⟨vt,vr,he,hw⟩:=hxe k h h'
  obtain ⟨a1,k1,e1⟩:=own_len hw.t
  obtain ⟨a2,k2,e2⟩:=hw.f.len
  subst e1 e2
  exact ⟨_,_,_,_,_,_,he⟩)
 have HXL:=hid hxl
 clear h hc hPW h0 h255 hxo hxe hxl
 go_enter Tryz.func76,Tryz.ntmps76
 go_wp2_with fail
 go_loopw [3] (fun i wr=>∃ (k:Nat),k≤c.methods.length∧i=.int .i64 k∧Hid (∀ a (h:a<c.methods.length),a<k→methodP c c.methods[a])∧Hid (∀ i (h:i<c.methods.length) j (hj:j<i),i<k→¬(txtC c.pool (c.methods[j]'(by omega)).name=txtC c.pool c.methods[i].name∧txtC c.pool (c.methods[j]'(by omega)).desc=txtC c.pool c.methods[i].desc))∧HB w [(w.heap.size,arrK (.slice o1 c.pool.length j1) c.flags c.name c.super (.slice o2 c.faces.length j2) (.slice o3 c.fields.length j3) (.slice o4 c.methods.length j4),36)] wr) (fun i _=>c.methods.length - (intOf i).toNat)
 case atStart=>exact ⟨0,by omega,rfl,fun a _ h=>by omega,fun i hi j hj h=>by omega,P0⟩
 case round=>
  obtain ⟨k,hk,rfl,HE,HU,P⟩:=hrel
  clear P0
  obtain ⟨c0,c1,c2,c3,c4,c5,c6⟩:=P.hd.k7
  by_cases hlt:k<c.methods.length
  ·obtain ⟨g,hg⟩:=own_some HO.out (by omega)
   subst hg
   obtain ⟨g0,g1,g2,g3,g4,g5,g6,g7⟩:=ownMethod_at (own_below HO.out P.b) (k:=k) HXL.out (by rw [HXL.out];exact hlt)
   obtain ⟨a5,n5,k5,a6,n6,k6,hxk⟩:=HE0.out k hlt (by rw [HXL.out];exact hlt)
   rw [hxk] at g0 g1 g2 g3 g4 g5 g6 g7
   generalize hX:c.methods[k]=x at g0 g1 g2 g3 g4 g5 g6 g7 hxk
   have HX:=hid hX
   clear hX hxk
   simp only [shM] at g0 g1 g2 g3 g4 g5 g6 g7
   go_upto_region 4 with fail
   go_cut [4] (fun v wc=>v=.pointer (some ⟨wr.heap.size,0,none⟩)∧HB w ((wr.heap.size,arrQ x (.slice a5 n5 k5) (.slice a6 n6 k6),75) :: [(w.heap.size,arrK (.slice o1 c.pool.length j1) c.flags c.name c.super (.slice o2 c.faces.length j2) (.slice o3 c.fields.length j3) (.slice (some ⟨g,0,none⟩) c.methods.length j4),36)]) wc)
   case first=>
    go_wp2_with fail
    go_meet
    case rel=>exact ⟨rfl,P.add _ _ rfl⟩
   case rest=>
    obtain ⟨rfl,P1⟩:=hcut
    clear P c0 c1 c2 c3 c4 c5 c6 g0 g1 g2 g3 g4 g5 g6 g7
    generalize wr.heap.size=n at P1 ⊢
    have z1:=HZ.out x.name
    have z2:=HZ.out x.desc
    have hN:=fun W=>l2Name_any (txtC c.pool x.name) W (by unfold maxLen;omega)
    have hDy:=fun W=>l2DescOk_any (txtC c.pool x.desc) W (by omega)
    have hT1:=HT.out x.name _ P1.b
    obtain ⟨q1,hq1⟩:∃ q,Hid (nameC c.pool x.name=q):=⟨_,hid rfl⟩
    obtain ⟨q2,hq2⟩:∃ q,Hid (descC c.pool x.desc=q):=⟨_,hid rfl⟩
    rw [name_txt,hq1.out] at hN
    rw [desc_txt,hq2.out] at hDy
    clear z1 z2
    generalize hsN:txtC c.pool x.name=sN at hN hT1
    have HSN:=hid hsN
    clear hsN
    obtain ⟨d0,d1,d2,d3,d4,d5,d6,d7⟩:=P1.hd.q8
    obtain ⟨c0,c1,c2,c3,c4,c5,c6⟩:=P1.tl.hd.k7
    go_wp2_with fail
    refine hT1.mono ?_
    rintro e w2 ⟨rfl,hb⟩
    have P2:=P1.keep hb
    clear P1 hb hT1 d0 d1 d2 d3 d4 d5 d6 d7 c0 c1 c2 c3 c4 c5 c6
    obtain ⟨d0,d1,d2,d3,d4,d5,d6,d7⟩:=P2.hd.q8
    obtain ⟨c0,c1,c2,c3,c4,c5,c6⟩:=P2.tl.hd.k7
    have HBP2:=hid P2.b
    cases q1 with
    | false=>
     have HN:=hid (show ¬methodsP c from fun h=>by have:=(h.e k hlt).nm;rw [HX.out,hq1.out] at this;cases this)
     clear P2 HT HL HO HE0
     go_wp2_with (go_at_call 78;refine (hN _).mono ?_;rintro e w20 ⟨rfl,hw⟩;replace hw:=hw.symm;subst hw)
     go_ret
     first|exact ⟨false,rfl,⟨fun h=>(by cases h),fun h=>absurd h HN.out⟩,HBP2.out⟩|exact .inl ⟨rfl,HN.out,HBP2.out⟩
    | true=>
    have hT2:=HT.out x.desc _ P2.b
    generalize hsD:txtC c.pool x.desc=sD at hDy hT2
    have HSD:=hid hsD
    clear hsD
    go_wp2_with (go_at_call 78;refine (hN _).mono ?_;rintro e w20 ⟨rfl,hw⟩;replace hw:=hw.symm;subst hw)
    refine hT2.mono ?_
    rintro e w3 ⟨rfl,hb⟩
    have P3:=P2.keep hb
    clear P2 hb hT2 hN d0 d1 d2 d3 d4 d5 d6 d7 c0 c1 c2 c3 c4 c5 c6 HBP2
    obtain ⟨d0,d1,d2,d3,d4,d5,d6,d7⟩:=P3.hd.q8
    obtain ⟨c0,c1,c2,c3,c4,c5,c6⟩:=P3.tl.hd.k7
    have hD3:=hDy w3
    go_wp2_with fail
    refine hD3.mono ?_
    rintro e w4 ⟨rfl,hb⟩
    have P4:=P3.keep hb
    clear P3 hb hD3 hDy d0 d1 d2 d3 d4 d5 d6 d7 c0 c1 c2 c3 c4 c5 c6
    obtain ⟨d0,d1,d2,d3,d4,d5,d6,d7⟩:=P4.hd.q8
    obtain ⟨c0,c1,c2,c3,c4,c5,c6⟩:=P4.tl.hd.k7
    have HBP4:=hid P4.b
    cases q2 with
    | false=>
     have HN:=hid (show ¬methodsP c from fun h=>by have:=(h.e k hlt).ds;rw [HX.out,hq2.out] at this;cases this)
     clear P4 HT HL HO HE0
     go_wp2
     go_ret
     first|exact ⟨false,rfl,⟨fun h=>(by cases h),fun h=>absurd h HN.out⟩,HBP4.out⟩|exact .inl ⟨rfl,HN.out,HBP4.out⟩
    | true=>
    have hF4:=HL.out x a5 n5 k5 a6 n6 k6 _ P4.b
    go_wp2_with fail
    refine hF4.mono ?_
    rintro e w5 ⟨b5,rfl,r5,hb⟩
    have P5:=P4.keep hb
    clear P4 hb hF4 HBP4 d0 d1 d2 d3 d4 d5 d6 d7 c0 c1 c2 c3 c4 c5 c6
    obtain ⟨d0,d1,d2,d3,d4,d5,d6,d7⟩:=P5.hd.q8
    obtain ⟨c0,c1,c2,c3,c4,c5,c6⟩:=P5.tl.hd.k7
    have HBP5:=hid P5.b
    have R5:=hid r5
    clear r5
    cases b5 with
    | false=>
     have HN:=hid (show ¬methodsP c from fun h=>by have:=(h.e k hlt).fl;rw [HX.out] at this;have:=R5.out.2 this;cases this)
     clear P5 HT HL HO HE0
     go_wp2
     go_ret
     first|exact ⟨false,rfl,⟨fun h=>(by cases h),fun h=>absurd h HN.out⟩,HBP5.out⟩|exact .inl ⟨rfl,HN.out,HBP5.out⟩
    | true=>
     have HE':=hid (show ∀ a (h:a<c.methods.length),a<k+1→methodP c c.methods[a] from fun a h h2=>by
      by_cases e:a=k
      ·subst e;rw [HX.out];exact ⟨hq1.out,hq2.out,R5.out.1 rfl⟩
      ·exact HE.out a h (by omega))
     clear HE hq1 hq2 R5 d0 d1 d2 d3 d4 d5 d6 d7 c0 c1 c2 c3 c4 c5 c6 HBP5
     go_upto_region 10 with fail
     go_loopw [5] (fun j wd=>∃ (m:Nat),m≤k∧j=.int .i64 m∧Hid (∀ b (hb:b<c.methods.length),b<m→¬(txtC c.pool c.methods[b].name=sN∧txtC c.pool c.methods[b].desc=sD))∧HB w [(n,arrQ x (.slice a5 n5 k5) (.slice a6 n6 k6),75),(w.heap.size,arrK (.slice o1 c.pool.length j1) c.flags c.name c.super (.slice o2 c.faces.length j2) (.slice o3 c.fields.length j3) (.slice (some ⟨g,0,none⟩) c.methods.length j4),36)] wd) (fun j _=>k - (intOf j).toNat)
     case atStart=>exact ⟨0,by omega,rfl,fun b hb h=>by omega,P5⟩
     case round=>
      obtain ⟨m,hm,rfl,HM,P6⟩:=hrel
      clear P5
      by_cases hmk:m<k
      ·have hml2:m<c.methods.length:=by omega
       obtain ⟨g0,g1,g2,g3,g4,g5,g6,g7⟩:=ownMethod_at (own_below HO.out P6.b) (k:=m) HXL.out (by rw [HXL.out];exact hml2)
       obtain ⟨b5,l5,q5,b6,l6,q6,hxm⟩:=HE0.out m hml2 (by rw [HXL.out];exact hml2)
       rw [hxm] at g0 g1 g2 g3 g4 g5 g6 g7
       generalize hY:c.methods[m]=y at g0 g1 g2 g3 g4 g5 g6 g7 hxm
       have HY:=hid hY
       simp only [shM] at g1 g2
       have z4:(m:Int)<(c.methods.length:Int):=by omega
       have hTy1:=fun W (hW:HB w [(n,arrQ x (.slice a5 n5 k5) (.slice a6 n6 k6),75),(w.heap.size,arrK (.slice o1 c.pool.length j1) c.flags c.name c.super (.slice o2 c.faces.length j2) (.slice o3 c.fields.length j3) (.slice (some ⟨g,0,none⟩) c.methods.length j4),36)] W)=>HT.out y.name W hW.b
       have hTx1:=fun W (hW:HB w [(n,arrQ x (.slice a5 n5 k5) (.slice a6 n6 k6),75),(w.heap.size,arrK (.slice o1 c.pool.length j1) c.flags c.name c.super (.slice o2 c.faces.length j2) (.slice o3 c.fields.length j3) (.slice (some ⟨g,0,none⟩) c.methods.length j4),36)] W)=>HT.out x.name W hW.b
       have hTy2:=fun W (hW:HB w [(n,arrQ x (.slice a5 n5 k5) (.slice a6 n6 k6),75),(w.heap.size,arrK (.slice o1 c.pool.length j1) c.flags c.name c.super (.slice o2 c.faces.length j2) (.slice o3 c.fields.length j3) (.slice (some ⟨g,0,none⟩) c.methods.length j4),36)] W)=>HT.out y.desc W hW.b
       have hTx2:=fun W (hW:HB w [(n,arrQ x (.slice a5 n5 k5) (.slice a6 n6 k6),75),(w.heap.size,arrK (.slice o1 c.pool.length j1) c.flags c.name c.super (.slice o2 c.faces.length j2) (.slice o3 c.fields.length j3) (.slice (some ⟨g,0,none⟩) c.methods.length j4),36)] W)=>HT.out x.desc W hW.b
       rw [HSN.out] at hTx1
       rw [HSD.out] at hTx2
       generalize hsy:txtC c.pool y.name=sy at hTy1
       generalize hsz:txtC c.pool y.desc=sz at hTy2
       have HSY:=hid hsy
       have HSZ:=hid hsz
       clear hY hsy hsz hxm g0 g3 g4 g5 g6 g7
       obtain ⟨q,hq⟩:∃ q,(sy.toList==sN.toList)=q:=⟨_,rfl⟩
       obtain ⟨q',hq'⟩:∃ q,(sz.toList==sD.toList)=q:=⟨_,rfl⟩
       have hgl:=((own_below HO.out P6.b).lt g rfl).2
       obtain ⟨d0,d1,d2,d3,d4,d5,d6,d7⟩:=P6.hd.q8
       obtain ⟨c0,c1,c2,c3,c4,c5,c6⟩:=P6.tl.hd.k7
       go_upto_region 10 with fail
       go_cut [76] (fun v wc=>v=.bool (q && q')∧HB w [(n,arrQ x (.slice a5 n5 k5) (.slice a6 n6 k6),75),(w.heap.size,arrK (.slice o1 c.pool.length j1) c.flags c.name c.super (.slice o2 c.faces.length j2) (.slice o3 c.fields.length j3) (.slice (some ⟨g,0,none⟩) c.methods.length j4),36)] wc)
       case first=>
        have hdr:Below wr.heap.size wr wr.drew:=(Below.refl _ _).drew
        have PD:=P6.keep hdr
        have e5:=(hb_cell hdr hgl).trans g1
        have e6:=(hb_cell hdr hgl).trans g2
        have hgd:g<wr.drew.heap.size:=Nat.lt_of_lt_of_le hgl hdr.size
        clear P6 d0 d1 d2 d3 d4 d5 d6 d7 c0 c1 c2 c3 c4 c5 c6 g1 g2 hdr hgl
        obtain ⟨_,e3,e4,_,_,_,_,_⟩:=PD.hd.q8
        obtain ⟨e1,_,_,_,_,_,e2⟩:=PD.tl.hd.k7
        refine wp_region_held_drew (S:=(fun w':World=>w'.cell? ⟨w.heap.size,0,none⟩=some (.slice o1 c.pool.length j1)∧w'.cell? ⟨w.heap.size,6,none⟩=some (.slice (some ⟨g,0,none⟩) c.methods.length j4)∧w'.cell? ⟨n,1,none⟩=some (.int .i64 x.name)∧w'.cell? ⟨n,2,none⟩=some (.int .i64 x.desc)∧w'.cell? ⟨g,m*8+1,none⟩=some (.int .i64 y.name)∧w'.cell? ⟨g,m*8+2,none⟩=some (.int .i64 y.desc))) (by kernel_rfl) ⟨e1,e2,e3,e4,e5,e6⟩ (fun hHeld=>?_)
        refine tkw 0 ⟨some 45,.fieldAddr 36 (.tmp 1) 0,0,"l4_check.go:71",#[],none⟩ ?_
        refine tkw 1 ⟨some 46,.load 32 (.tmp 45),32,"l4_check.go:71",#[⟨0,.data⟩],none⟩ ?_
        refine tkw 2 ⟨some 47,.fieldAddr 36 (.tmp 1) 6,0,"l4_check.go:71",#[],none⟩ ?_
        refine tkw 3 ⟨some 48,.load 34 (.tmp 47),34,"l4_check.go:71",#[⟨2,.data⟩],none⟩ ?_
        refine tkw 4 ⟨some 49,.move (.tmp 5),3,"l4_check.go:71",#[],none⟩ ?_
        refine tkw 5 ⟨some 50,.indexAddr 34 (.tmp 48) (.tmp 49),0,"l4_check.go:71",#[⟨3,.data⟩,⟨4,.data⟩],none⟩ ?_
        refine tkw 6 ⟨some 51,.fieldAddr 75 (.tmp 50) 1,0,"l4_check.go:71",#[⟨5,.data⟩],none⟩ ?_
        refine tkw 7 ⟨some 52,.load 3 (.tmp 51),3,"l4_check.go:71",#[⟨6,.data⟩],none⟩ ?_
        refine tkw 9 ⟨some 54,.fieldAddr 36 (.tmp 1) 0,0,"l4_check.go:71",#[],none⟩ ?_
        refine tkw 10 ⟨some 55,.load 32 (.tmp 54),32,"l4_check.go:71",#[⟨9,.data⟩],none⟩ ?_
        refine tkw 11 ⟨some 56,.fieldAddr 75 (.tmp 4) 1,0,"l4_check.go:71",#[],none⟩ ?_
        refine tkw 12 ⟨some 57,.load 3 (.tmp 56),3,"l4_check.go:71",#[⟨11,.data⟩],none⟩ ?_
        refine wpAnyH_ready (rs:=[8]) (by kernel_rfl) (by simp) ?_
        refine AllReadyH.cons rfl (fun K' hK'=>?_) AllReadyH.nil
        go_simp
        refine (hTy1 _ PD).mono ?_
        rintro e w8 ⟨rfl,hb⟩
        have P8:=PD.keep hb
        replace e5:=(hb_cell hb hgd).trans e5
        replace e6:=(hb_cell hb hgd).trans e6
        replace hgd:=Nat.lt_of_lt_of_le hgd hb.size
        clear PD hb e1 e2 e3 e4
        obtain ⟨_,e3,e4,_,_,_,_,_⟩:=P8.hd.q8
        obtain ⟨e1,_,_,_,_,_,e2⟩:=P8.tl.hd.k7
        refine hK'.out _ _ ⟨e1,e2,e3,e4,e5,e6⟩ (fun hHeld=>?_)
        clear hK' K'
        refine wpAnyH_ready (rs:=[13]) (by kernel_rfl) (by simp) ?_
        refine AllReadyH.cons rfl (fun K' hK'=>?_) AllReadyH.nil
        go_simp
        refine (hTx1 _ P8).mono ?_
        rintro e w9 ⟨rfl,hb⟩
        have P9:=P8.keep hb
        replace e5:=(hb_cell hb hgd).trans e5
        replace e6:=(hb_cell hb hgd).trans e6
        replace hgd:=Nat.lt_of_lt_of_le hgd hb.size
        clear P8 hb e1 e2 e3 e4
        obtain ⟨_,e3,e4,_,_,_,_,_⟩:=P9.hd.q8
        obtain ⟨e1,_,_,_,_,_,e2⟩:=P9.tl.hd.k7
        refine hK'.out _ _ ⟨e1,e2,e3,e4,e5,e6⟩ (fun hHeld=>?_)
        clear hK' K'
        cases q with
        | true=>
         refine tkw 14 ⟨some 59,.binOp .eql 9 (.tmp 53) (.tmp 58) 9,4,"l4_check.go:71",#[⟨8,.data⟩,⟨13,.data⟩],none⟩ ?_
         refine tkw 15 ⟨some 60,.move (.tmp 59),4,"l4_check.go:71",#[⟨14,.data⟩,⟨13,.chain⟩],none⟩ ?_
         refine tkw 16 ⟨some 61,.fieldAddr 36 (.tmp 1) 0,0,"l4_check.go:71",#[⟨15,.guard⟩],some (15,true)⟩ ?_
         refine tkw 17 ⟨some 62,.load 32 (.tmp 61),32,"l4_check.go:71",#[⟨16,.data⟩,⟨15,.guard⟩],some (15,true)⟩ ?_
         refine tkw 18 ⟨some 63,.fieldAddr 36 (.tmp 1) 6,0,"l4_check.go:71",#[⟨15,.guard⟩],some (15,true)⟩ ?_
         refine tkw 19 ⟨some 64,.load 34 (.tmp 63),34,"l4_check.go:71",#[⟨18,.data⟩,⟨15,.guard⟩],some (15,true)⟩ ?_
         refine tkw 20 ⟨some 65,.move (.tmp 5),3,"l4_check.go:71",#[⟨15,.guard⟩],some (15,true)⟩ ?_
         refine tkw 21 ⟨some 66,.indexAddr 34 (.tmp 64) (.tmp 65),0,"l4_check.go:71",#[⟨19,.data⟩,⟨20,.data⟩,⟨15,.guard⟩],some (15,true)⟩ ?_
         refine tkw 22 ⟨some 67,.fieldAddr 75 (.tmp 66) 2,0,"l4_check.go:71",#[⟨21,.data⟩,⟨15,.guard⟩],some (15,true)⟩ ?_
         refine tkw 23 ⟨some 68,.load 3 (.tmp 67),3,"l4_check.go:71",#[⟨22,.data⟩,⟨15,.guard⟩],some (15,true)⟩ ?_
         refine tkw 25 ⟨some 70,.fieldAddr 36 (.tmp 1) 0,0,"l4_check.go:71",#[⟨15,.guard⟩],some (15,true)⟩ ?_
         refine tkw 26 ⟨some 71,.load 32 (.tmp 70),32,"l4_check.go:71",#[⟨25,.data⟩,⟨15,.guard⟩],some (15,true)⟩ ?_
         refine tkw 27 ⟨some 72,.fieldAddr 75 (.tmp 4) 2,0,"l4_check.go:71",#[⟨15,.guard⟩],some (15,true)⟩ ?_
         refine tkw 28 ⟨some 73,.load 3 (.tmp 72),3,"l4_check.go:71",#[⟨27,.data⟩,⟨15,.guard⟩],some (15,true)⟩ ?_
         refine wpAnyH_ready (rs:=[24]) (by kernel_rfl) (by simp) ?_
         refine AllReadyH.cons rfl (fun K' hK'=>?_) AllReadyH.nil
         go_simp
         refine (hTy2 _ P9).mono ?_
         rintro e w10 ⟨rfl,hb⟩
         have P10:=P9.keep hb
         replace e5:=(hb_cell hb hgd).trans e5
         replace e6:=(hb_cell hb hgd).trans e6
         replace hgd:=Nat.lt_of_lt_of_le hgd hb.size
         clear P9 hb e1 e2 e3 e4
         obtain ⟨_,e3,e4,_,_,_,_,_⟩:=P10.hd.q8
         obtain ⟨e1,_,_,_,_,_,e2⟩:=P10.tl.hd.k7
         refine hK'.out _ _ ⟨e1,e2,e3,e4,e5,e6⟩ (fun hHeld=>?_)
         clear hK' K'
         refine wpAnyH_ready (rs:=[29]) (by kernel_rfl) (by simp) ?_
         refine AllReadyH.cons rfl (fun K' hK'=>?_) AllReadyH.nil
         go_simp
         refine (hTx2 _ P10).mono ?_
         rintro e w11 ⟨rfl,hb⟩
         have P11:=P10.keep hb
         replace e5:=(hb_cell hb hgd).trans e5
         replace e6:=(hb_cell hb hgd).trans e6
         replace hgd:=Nat.lt_of_lt_of_le hgd hb.size
         clear P10 hb e1 e2 e3 e4
         obtain ⟨_,e3,e4,_,_,_,_,_⟩:=P11.hd.q8
         obtain ⟨e1,_,_,_,_,_,e2⟩:=P11.tl.hd.k7
         refine hK'.out _ _ ⟨e1,e2,e3,e4,e5,e6⟩ (fun hHeld=>?_)
         clear hK' K'
         refine tkw 30 ⟨some 75,.binOp .eql 9 (.tmp 69) (.tmp 74) 9,4,"l4_check.go:71",#[⟨24,.data⟩,⟨29,.data⟩,⟨15,.guard⟩],some (15,true)⟩ ?_
         refine tkw 31 ⟨some 76,.pick (.tmp 60) (.tmp 75) (.const (.bool false)),4,"l4_check.go:71",#[⟨15,.data⟩,⟨30,.data⟩],none⟩ ?_
         refine wpAnyH_done (by kernel_rfl) ?_ _
         clear e1 e2 e3 e4 e5 e6
         go_wp2_with fail
         go_meet
         case rel=>exact ⟨by first|rfl|rw [hq'];rfl,P11⟩
        | false=>
         refine tkw 14 ⟨some 59,.binOp .eql 9 (.tmp 53) (.tmp 58) 9,4,"l4_check.go:71",#[⟨8,.data⟩,⟨13,.data⟩],none⟩ ?_
         refine tkw 15 ⟨some 60,.move (.tmp 59),4,"l4_check.go:71",#[⟨14,.data⟩,⟨13,.chain⟩],none⟩ ?_
         refine wpAnyH_skip (by kernel_rfl) (fun _ _ _ _ h=>h) (by assumption) [(16,61)] (by kernel_rfl) ?_
         (try simp only [skipL,skipA,s_p,s_a,s_z,s_s])
         refine wpAnyH_skip (by kernel_rfl) (fun _ _ _ _ h=>h) (by assumption) [(17,62)] (by kernel_rfl) ?_
         (try simp only [skipL,skipA,s_p,s_a,s_z,s_s])
         refine wpAnyH_skip (by kernel_rfl) (fun _ _ _ _ h=>h) (by assumption) [(18,63)] (by kernel_rfl) ?_
         (try simp only [skipL,skipA,s_p,s_a,s_z,s_s])
         refine wpAnyH_skip (by kernel_rfl) (fun _ _ _ _ h=>h) (by assumption) [(19,64)] (by kernel_rfl) ?_
         (try simp only [skipL,skipA,s_p,s_a,s_z,s_s])
         refine wpAnyH_skip (by kernel_rfl) (fun _ _ _ _ h=>h) (by assumption) [(20,65)] (by kernel_rfl) ?_
         (try simp only [skipL,skipA,s_p,s_a,s_z,s_s])
         refine wpAnyH_skip (by kernel_rfl) (fun _ _ _ _ h=>h) (by assumption) [(21,66)] (by kernel_rfl) ?_
         (try simp only [skipL,skipA,s_p,s_a,s_z,s_s])
         refine wpAnyH_skip (by kernel_rfl) (fun _ _ _ _ h=>h) (by assumption) [(22,67)] (by kernel_rfl) ?_
         (try simp only [skipL,skipA,s_p,s_a,s_z,s_s])
         refine wpAnyH_skip (by kernel_rfl) (fun _ _ _ _ h=>h) (by assumption) [(23,68)] (by kernel_rfl) ?_
         (try simp only [skipL,skipA,s_p,s_a,s_z,s_s])
         refine wpAnyH_skip (by kernel_rfl) (fun _ _ _ _ h=>h) (by assumption) [(24,69)] (by kernel_rfl) ?_
         (try simp only [skipL,skipA,s_p,s_a,s_z,s_s])
         refine wpAnyH_skip (by kernel_rfl) (fun _ _ _ _ h=>h) (by assumption) [(25,70)] (by kernel_rfl) ?_
         (try simp only [skipL,skipA,s_p,s_a,s_z,s_s])
         refine wpAnyH_skip (by kernel_rfl) (fun _ _ _ _ h=>h) (by assumption) [(26,71)] (by kernel_rfl) ?_
         (try simp only [skipL,skipA,s_p,s_a,s_z,s_s])
         refine wpAnyH_skip (by kernel_rfl) (fun _ _ _ _ h=>h) (by assumption) [(27,72)] (by kernel_rfl) ?_
         (try simp only [skipL,skipA,s_p,s_a,s_z,s_s])
         refine wpAnyH_skip (by kernel_rfl) (fun _ _ _ _ h=>h) (by assumption) [(28,73)] (by kernel_rfl) ?_
         (try simp only [skipL,skipA,s_p,s_a,s_z,s_s])
         refine wpAnyH_skip (by kernel_rfl) (fun _ _ _ _ h=>h) (by assumption) [(29,74)] (by kernel_rfl) ?_
         (try simp only [skipL,skipA,s_p,s_a,s_z,s_s])
         refine wpAnyH_skip (by kernel_rfl) (fun _ _ _ _ h=>h) (by assumption) [(30,75)] (by kernel_rfl) ?_
         (try simp only [skipL,skipA,s_p,s_a,s_z,s_s])
         refine tkw 31 ⟨some 76,.pick (.tmp 60) (.tmp 75) (.const (.bool false)),4,"l4_check.go:71",#[⟨15,.data⟩,⟨30,.data⟩],none⟩ ?_
         refine wpAnyH_done (by kernel_rfl) ?_ _
         clear e1 e2 e3 e4 e5 e6
         go_wp2_with fail
         go_meet
         case rel=>exact ⟨rfl,P9⟩
       case rest=>
        obtain ⟨rfl,P7⟩:=hcut
        clear P6 d0 d1 d2 d3 d4 d5 d6 d7 c0 c1 c2 c3 c4 c5 c6 g1 g2 hTy1 hTx1 hTy2 hTx2 hgl
        have HB7:=hid P7.b
        cases hqq:(q && q') with
        | true=>
         have HN:=hid (show ¬methodsP c from fun h=>by
          simp only [Bool.and_eq_true] at hqq
          refine h.u k hlt m hmk ?_
          show txtC c.pool c.methods[m].name=txtC c.pool c.methods[k].name∧txtC c.pool c.methods[m].desc=txtC c.pool c.methods[k].desc
          rw [HX.out,HY.out,HSN.out,HSY.out,HSD.out,HSZ.out]
          exact ⟨text_eq.1 (hq.trans hqq.1),text_eq.1 (hq'.trans hqq.2)⟩)
         clear P7 HT HO HL hq hq' hqq
         go_wp2
         go_ret
         first|exact ⟨false,rfl,⟨fun h=>(by cases h),fun h=>absurd h HN.out⟩,HB7.out⟩|exact .inl ⟨rfl,HN.out,HB7.out⟩
        | false=>
         have HM':=hid (show ∀ b (hb:b<c.methods.length),b<m+1→¬(txtC c.pool c.methods[b].name=sN∧txtC c.pool c.methods[b].desc=sD) from fun b hb h=>by
          by_cases e:b=m
          ·subst e
           rw [HY.out,HSY.out,HSZ.out]
           rintro ⟨h1,h2⟩
           rw [text_eq.2 h1] at hq
           rw [text_eq.2 h2] at hq'
           rw [← hq,← hq'] at hqq
           cases hqq
          ·exact HM.out b hb (by omega))
         clear HM hq hq' hqq
         go_wp2
         go_roundw
         case rel=>exact ⟨m+1,by omega,by go_num,HM',P7⟩
         case measure=>simp [intOf];omega
      ·have HU':=hid (show ∀ i (h:i<c.methods.length) j (hj:j<i),i<k+1→¬(txtC c.pool (c.methods[j]'(by omega)).name=txtC c.pool c.methods[i].name∧txtC c.pool (c.methods[j]'(by omega)).desc=txtC c.pool c.methods[i].desc) from fun i hi j hj h=>by
        by_cases e:i=k
        ·subst e
         rw [HX.out,HSN.out,HSD.out]
         exact HM.out j (by omega) (by omega)
        ·exact HU.out i hi j hj (by omega))
       clear HU HM
       go_wp2
       go_roundw
       case rel=>exact ⟨k+1,by omega,by go_num,HE',HU',P6.tl⟩
       case measure=>simp [intOf];omega
  ·have HY:=hid (show methodsP c from ⟨fun a h=>HE.out a h (by omega),fun i hi j hj=>HU.out i hi j hj (by omega)⟩)
   have HB:=hid P.b
   clear HE HU P
   go_wp2
   go_ret
   first|exact ⟨true,rfl,⟨fun _=>HY.out,fun _=>rfl⟩,HB.out⟩|exact .inr ⟨rfl,HY.out,HB.out⟩
end Go.Proofs.YtecbcdfkedocbaaGreatDoor
