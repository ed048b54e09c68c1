/- Gathered: ChkKindsS ChkBodyI ChkBodyI2. -/
import Derived.Test.YtecbcdfkedocbaaGreatDoorK02
import Derived.Test.YtecbcdfkedocbaaGreatDoorK03
import Derived.Deep.CutBlock
import Derived.Deep.DeepCutAuto
import Derived.Deep.RegionHeld
import Derived.Test.YtecbcdfkedocbaaGreatDoorG01
namespace Go.Proofs.YtecbcdfkedocbaaGreatDoor
open Mx Go.RowKit
set_option maxHeartbeats 4000000
set_option maxRecDepth 20000
set_option linter.unusedVariables false
def kindS (cl:Int→Bool) (k:MKind):Bool:=inI k.tag 0 3 && kindB cl k
theorem l4Kinds_any (c:MClass) (vp vi vf vm v:Value) (B Bk:Nat) (ks:List MKind) (w:World) (hc:c.few) (hkl:ks.length≤1048576) (h:ClassW w B vp vi vf vm c) (hk:w.ownsRow Bk 144 2 v ks.length (rowKind ks)) :
  Calls Tryz.prog 164 #[.agg #[vp,.int .i64 c.flags,.int .i64 c.name,.int .i64 c.super,vi,vf,vm],v] w fun e w'=>e=.returned (.bool (ks.all (kindS (clsC c.pool))))∧Below w.heap.size w w':=by
 obtain ⟨o1,j1,hv1⟩:=own_len h.p
 obtain ⟨o2,j2,hv2⟩:=own_len h.i
 obtain ⟨o3,j3,hv3⟩:=own_len h.f
 obtain ⟨o4,j4,hv4⟩:=h.m.len
 obtain ⟨o5,j5,hv5⟩:=own_len hk
 subst hv1 hv2 hv3 hv4 hv5
 have P0:=HB.one w (arrK (.slice o1 c.pool.length j1) c.flags c.name c.super (.slice o2 c.faces.length j2) (.slice o3 c.fields.length j3) (.slice o4 c.methods.length j4)) 36
 have hPW:PoolW w (.slice o1 c.pool.length j1) c.pool:=⟨B,h.p⟩
 have HC0:=hid (fun x W (hW:HB w [(w.heap.size,arrK (.slice o1 c.pool.length j1) c.flags c.name c.super (.slice o2 c.faces.length j2) (.slice o3 c.fields.length j3) (.slice o4 c.methods.length j4),36)] W)=>l2Class_any (.slice o1 c.pool.length j1) c.pool x W hc.pool hc.texts (hPW.keep hW.b))
 have HO:=hid hk
 clear h hc hPW hk
 go_enter Tryz.func164,Tryz.ntmps164
 go_wp2_with fail
 go_loopw [5] (fun i wr=>∃ (m:Nat),m≤ks.length∧i=.int .i64 m∧Hid (∀ a (h:a<ks.length),a<m→kindS (clsC c.pool) ks[a]=true)∧HB w [(w.heap.size,arrK (.slice o1 c.pool.length j1) c.flags c.name c.super (.slice o2 c.faces.length j2) (.slice o3 c.fields.length j3) (.slice o4 c.methods.length j4),36)] wr) (fun i _=>ks.length - (intOf i).toNat)
 case atStart=>exact ⟨0,by omega,rfl,fun a _ h=>by omega,P0⟩
 case round=>
  obtain ⟨m,hm,rfl,HE,P⟩:=hrel
  clear P0
  by_cases hlt:m<ks.length
  ·obtain ⟨g,hg⟩:=own_some HO.out (by omega)
   subst hg
   obtain ⟨g0,g1⟩:=ownKind_at (own_below HO.out P.b) hlt
   have hgl:=((own_below HO.out P.b).lt g rfl).2
   generalize hX:ks[m]=x at g0 g1
   have HX:=hid hX
   clear hX
   obtain ⟨tg,cl⟩:=x
   simp only at g0 g1
   have z4:(m:Int)<(ks.length:Int):=by omega
   have hI:=fun W=>l1InI_any tg 0 3 W
   have HC:=hid (fun W hW=>HC0.out cl W hW)
   have HK:=hid (cls_bne c.pool cl)
   have HS:=hid (show kindS (clsC c.pool) ⟨tg,cl⟩=(inI tg 0 3 && if tg=3 then clsC c.pool cl else decide (cl=0)) from rfl)
   generalize clsC c.pool cl=kq at HK HS
   generalize clsT c.pool cl=kt at HC HK
   obtain ⟨q1,hq1⟩:∃ q,inI tg 0 3=q:=⟨_,rfl⟩
   rw [hq1] at hI HS
   clear hq1
   obtain ⟨R,hR⟩:∃ R,Hid (kindS (clsC c.pool) ⟨tg,cl⟩=R):=⟨_,hid rfl⟩
   rw [hR.out] at HS
   go_upto_region 4 with fail
   go_cut [53] (fun v wc=>v=.bool (!R)∧HB w [(w.heap.size,arrK (.slice o1 c.pool.length j1) c.flags c.name c.super (.slice o2 c.faces.length j2) (.slice o3 c.fields.length j3) (.slice o4 c.methods.length j4),36)] wc)
   case first=>
    have hdr:Below wr.heap.size wr wr.drew:=(Below.refl _ _).drew
    have PD:=P.keep hdr
    have e2:=(hb_cell hdr hgl).trans g0
    have e3:=(hb_cell hdr hgl).trans g1
    have hgd:g<wr.drew.heap.size:=Nat.lt_of_lt_of_le hgl hdr.size
    clear P g0 g1 hdr hgl
    obtain ⟨e1,_,_,_,_,_,_⟩:=PD.hd.k7
    cases q1 with
    | false=>
     refine wp_region_held_drew (S:=(fun w':World=>w'.cell? ⟨w.heap.size,0,none⟩=some (.slice o1 c.pool.length j1)∧w'.cell? ⟨g,m*2,none⟩=some (.int .i64 tg)∧w'.cell? ⟨g,m*2+1,none⟩=some (.int .i64 cl))) (by kernel_rfl) ⟨e1,e2,e3⟩ (fun hHeld=>?_)
     refine tkw 0 ⟨some 12,.move (.tmp 1),112,"l4_check.go:115",#[],none⟩ ?_
     refine tkw 1 ⟨some 13,.move (.tmp 5),3,"l4_check.go:115",#[],none⟩ ?_
     refine tkw 2 ⟨some 14,.indexAddr 112 (.tmp 12) (.tmp 13),0,"l4_check.go:115",#[⟨0,.data⟩,⟨1,.data⟩],none⟩ ?_
     refine tkw 3 ⟨some 15,.fieldAddr 144 (.tmp 14) 0,0,"l4_check.go:115",#[⟨2,.data⟩],none⟩ ?_
     refine tkw 4 ⟨some 16,.load 3 (.tmp 15),3,"l4_check.go:115",#[⟨3,.data⟩],none⟩ ?_
     refine wpAnyH_ready (rs:=[5]) (by kernel_rfl) (by simp) ?_
     refine AllReadyH.cons rfl (fun K' hK'=>?_) AllReadyH.nil
     go_simp
     refine (hI _).mono ?_
     rintro e w8 ⟨rfl,hw⟩
     replace hw:=hw.symm
     subst hw
     refine hK'.out _ _ ⟨e1,e2,e3⟩ (fun hHeld=>?_)
     clear hK' K'
     refine tkw 6 ⟨some 18,.unOp .not 4 (.tmp 17),4,"l4_check.go:115",#[⟨5,.data⟩],none⟩ ?_
     refine tkw 7 ⟨some 19,.move (.tmp 18),4,"l4_check.go:115",#[⟨6,.data⟩,⟨5,.chain⟩],none⟩ ?_
     refine wpAnyH_skip (by kernel_rfl) (fun _ _ _ _ h=>h) (by assumption) [(8,20),(9,21),(10,22),(11,23),(12,24),(13,25),(14,26),(15,27),(16,28),(17,29),(18,30),(19,31),(20,32),(21,33),(22,34),(23,35),(24,36)] (by kernel_rfl) ?_
     (try simp only [skipL,skipA,s_p,s_a,s_z,s_s])
     refine tkw 25 ⟨some 37,.pick (.tmp 19) (.const (.bool true)) (.tmp 36),4,"l4_check.go:115",#[⟨7,.data⟩,⟨24,.data⟩],none⟩ ?_
     refine tkw 26 ⟨some 38,.move (.tmp 37),4,"l4_check.go:115",#[⟨25,.data⟩,⟨22,.chain⟩],none⟩ ?_
     refine wpAnyH_skip (by kernel_rfl) (fun _ _ _ _ h=>h) (by assumption) [(27,39),(28,40),(29,41),(30,42),(31,43),(32,44),(33,45),(34,46),(35,47),(36,48),(37,49),(38,50),(39,51),(40,52)] (by kernel_rfl) ?_
     (try simp only [skipL,skipA,s_p,s_a,s_z,s_s])
     refine tkw 41 ⟨some 53,.pick (.tmp 38) (.const (.bool true)) (.tmp 52),4,"l4_check.go:115",#[⟨26,.data⟩,⟨40,.data⟩],none⟩ ?_
     refine wpAnyH_done (by kernel_rfl) ?_ _
     clear e1 e2 e3
     go_wp2_with fail
     go_meet
     case rel=>exact ⟨by rw [HS.out];rfl,PD⟩
    | true=>
     by_cases h3:tg=3
     ·subst h3
      refine wp_region_held_drew (S:=(fun w':World=>w'.cell? ⟨w.heap.size,0,none⟩=some (.slice o1 c.pool.length j1)∧w'.cell? ⟨g,m*2,none⟩=some (.int .i64 3)∧w'.cell? ⟨g,m*2+1,none⟩=some (.int .i64 cl))) (by kernel_rfl) ⟨e1,e2,e3⟩ (fun hHeld=>?_)
      refine tkw 0 ⟨some 12,.move (.tmp 1),112,"l4_check.go:115",#[],none⟩ ?_
      refine tkw 1 ⟨some 13,.move (.tmp 5),3,"l4_check.go:115",#[],none⟩ ?_
      refine tkw 2 ⟨some 14,.indexAddr 112 (.tmp 12) (.tmp 13),0,"l4_check.go:115",#[⟨0,.data⟩,⟨1,.data⟩],none⟩ ?_
      refine tkw 3 ⟨some 15,.fieldAddr 144 (.tmp 14) 0,0,"l4_check.go:115",#[⟨2,.data⟩],none⟩ ?_
      refine tkw 4 ⟨some 16,.load 3 (.tmp 15),3,"l4_check.go:115",#[⟨3,.data⟩],none⟩ ?_
      refine wpAnyH_ready (rs:=[5]) (by kernel_rfl) (by simp) ?_
      refine AllReadyH.cons rfl (fun K' hK'=>?_) AllReadyH.nil
      go_simp
      refine (hI _).mono ?_
      rintro e w8 ⟨rfl,hw⟩
      replace hw:=hw.symm
      subst hw
      refine hK'.out _ _ ⟨e1,e2,e3⟩ (fun hHeld=>?_)
      clear hK' K'
      refine tkw 6 ⟨some 18,.unOp .not 4 (.tmp 17),4,"l4_check.go:115",#[⟨5,.data⟩],none⟩ ?_
      refine tkw 7 ⟨some 19,.move (.tmp 18),4,"l4_check.go:115",#[⟨6,.data⟩,⟨5,.chain⟩],none⟩ ?_
      refine tkw 8 ⟨some 20,.move (.tmp 1),112,"l4_check.go:115",#[⟨7,.guard⟩],some (7,false)⟩ ?_
      refine tkw 9 ⟨some 21,.move (.tmp 5),3,"l4_check.go:115",#[⟨7,.guard⟩],some (7,false)⟩ ?_
      refine tkw 10 ⟨some 22,.indexAddr 112 (.tmp 20) (.tmp 21),0,"l4_check.go:115",#[⟨8,.data⟩,⟨9,.data⟩,⟨7,.guard⟩],some (7,false)⟩ ?_
      refine tkw 11 ⟨some 23,.fieldAddr 144 (.tmp 22) 0,0,"l4_check.go:115",#[⟨10,.data⟩,⟨7,.guard⟩],some (7,false)⟩ ?_
      refine tkw 12 ⟨some 24,.load 3 (.tmp 23),3,"l4_check.go:115",#[⟨11,.data⟩,⟨7,.guard⟩],some (7,false)⟩ ?_
      refine tkw 13 ⟨some 25,.binOp .eql 3 (.tmp 24) (.const (.int .i64 3)) 3,4,"l4_check.go:115",#[⟨12,.data⟩,⟨7,.guard⟩],some (7,false)⟩ ?_
      refine tkw 14 ⟨some 26,.move (.tmp 25),4,"l4_check.go:115",#[⟨13,.data⟩,⟨7,.chain⟩,⟨7,.guard⟩],some (7,false)⟩ ?_
      refine tkw 15 ⟨some 27,.fieldAddr 36 (.tmp 2) 0,0,"l4_check.go:115",#[⟨14,.guard⟩],some (14,true)⟩ ?_
      refine tkw 16 ⟨some 28,.load 32 (.tmp 27),32,"l4_check.go:115",#[⟨15,.data⟩,⟨14,.guard⟩],some (14,true)⟩ ?_
      refine tkw 17 ⟨some 29,.move (.tmp 1),112,"l4_check.go:115",#[⟨14,.guard⟩],some (14,true)⟩ ?_
      refine tkw 18 ⟨some 30,.move (.tmp 5),3,"l4_check.go:115",#[⟨14,.guard⟩],some (14,true)⟩ ?_
      refine tkw 19 ⟨some 31,.indexAddr 112 (.tmp 29) (.tmp 30),0,"l4_check.go:115",#[⟨17,.data⟩,⟨18,.data⟩,⟨14,.guard⟩],some (14,true)⟩ ?_
      refine tkw 20 ⟨some 32,.fieldAddr 144 (.tmp 31) 1,0,"l4_check.go:115",#[⟨19,.data⟩,⟨14,.guard⟩],some (14,true)⟩ ?_
      refine tkw 21 ⟨some 33,.load 3 (.tmp 32),3,"l4_check.go:115",#[⟨20,.data⟩,⟨14,.guard⟩],some (14,true)⟩ ?_
      refine wpAnyH_ready (rs:=[22]) (by kernel_rfl) (by simp) ?_
      refine AllReadyH.cons rfl (fun K' hK'=>?_) AllReadyH.nil
      go_simp
      refine (HC.out _ PD).mono ?_
      rintro e w9 ⟨rfl,hb⟩
      have P9:=PD.keep hb
      replace e2:=(hb_cell hb hgd).trans e2
      replace e3:=(hb_cell hb hgd).trans e3
      clear PD hb e1
      obtain ⟨e1,_,_,_,_,_,_⟩:=P9.hd.k7
      refine hK'.out _ _ ⟨e1,e2,e3⟩ (fun hHeld=>?_)
      clear hK' K'
      have hk2:kt.toList.isEmpty = !kq:=by rw [← HK.out];cases kt.toList<;>rfl
      cases kq with
      | false=>
       refine tkw 23 ⟨some 35,.binOp .eql 9 (.tmp 34) (.const (.string { data:=#[] })) 9,4,"l4_check.go:115",#[⟨22,.data⟩,⟨14,.guard⟩],some (14,true)⟩ ?_
       refine tkw 24 ⟨some 36,.pick (.tmp 26) (.tmp 35) (.const (.bool false)),4,"l4_check.go:115",#[⟨14,.data⟩,⟨23,.data⟩,⟨7,.guard⟩],some (7,false)⟩ ?_
       refine tkw 25 ⟨some 37,.pick (.tmp 19) (.const (.bool true)) (.tmp 36),4,"l4_check.go:115",#[⟨7,.data⟩,⟨24,.data⟩],none⟩ ?_
       refine tkw 26 ⟨some 38,.move (.tmp 37),4,"l4_check.go:115",#[⟨25,.data⟩,⟨22,.chain⟩],none⟩ ?_
       refine wpAnyH_skip (by kernel_rfl) (fun _ _ _ _ h=>h) (by assumption) [(27,39),(28,40),(29,41),(30,42),(31,43),(32,44),(33,45),(34,46),(35,47),(36,48),(37,49),(38,50),(39,51),(40,52)] (by kernel_rfl) ?_
       (try simp only [skipL,skipA,s_p,s_a,s_z,s_s])
       refine tkw 41 ⟨some 53,.pick (.tmp 38) (.const (.bool true)) (.tmp 52),4,"l4_check.go:115",#[⟨26,.data⟩,⟨40,.data⟩],none⟩ ?_
       refine wpAnyH_done (by kernel_rfl) ?_ _
       clear e1 e2 e3
       go_wp2_with fail
       go_meet
       case rel=>exact ⟨by rw [HS.out];rfl,P9⟩
      | true=>
       refine tkw 23 ⟨some 35,.binOp .eql 9 (.tmp 34) (.const (.string { data:=#[] })) 9,4,"l4_check.go:115",#[⟨22,.data⟩,⟨14,.guard⟩],some (14,true)⟩ ?_
       refine tkw 24 ⟨some 36,.pick (.tmp 26) (.tmp 35) (.const (.bool false)),4,"l4_check.go:115",#[⟨14,.data⟩,⟨23,.data⟩,⟨7,.guard⟩],some (7,false)⟩ ?_
       refine tkw 25 ⟨some 37,.pick (.tmp 19) (.const (.bool true)) (.tmp 36),4,"l4_check.go:115",#[⟨7,.data⟩,⟨24,.data⟩],none⟩ ?_
       refine tkw 26 ⟨some 38,.move (.tmp 37),4,"l4_check.go:115",#[⟨25,.data⟩,⟨22,.chain⟩],none⟩ ?_
       refine tkw 27 ⟨some 39,.move (.tmp 1),112,"l4_check.go:115",#[⟨26,.guard⟩],some (26,false)⟩ ?_
       refine tkw 28 ⟨some 40,.move (.tmp 5),3,"l4_check.go:115",#[⟨26,.guard⟩],some (26,false)⟩ ?_
       refine tkw 29 ⟨some 41,.indexAddr 112 (.tmp 39) (.tmp 40),0,"l4_check.go:115",#[⟨27,.data⟩,⟨28,.data⟩,⟨26,.guard⟩],some (26,false)⟩ ?_
       refine tkw 30 ⟨some 42,.fieldAddr 144 (.tmp 41) 0,0,"l4_check.go:115",#[⟨29,.data⟩,⟨26,.guard⟩],some (26,false)⟩ ?_
       refine tkw 31 ⟨some 43,.load 3 (.tmp 42),3,"l4_check.go:115",#[⟨30,.data⟩,⟨26,.guard⟩],some (26,false)⟩ ?_
       refine tkw 32 ⟨some 44,.binOp .neq 3 (.tmp 43) (.const (.int .i64 3)) 3,4,"l4_check.go:115",#[⟨31,.data⟩,⟨26,.guard⟩],some (26,false)⟩ ?_
       refine tkw 33 ⟨some 45,.move (.tmp 44),4,"l4_check.go:115",#[⟨32,.data⟩,⟨26,.chain⟩,⟨26,.guard⟩],some (26,false)⟩ ?_
       refine wpAnyH_skip (by kernel_rfl) (fun _ _ _ _ h=>h) (by assumption) [(34,46),(35,47),(36,48),(37,49),(38,50),(39,51)] (by kernel_rfl) ?_
       (try simp only [skipL,skipA,s_p,s_a,s_z,s_s])
       refine tkw 40 ⟨some 52,.pick (.tmp 45) (.tmp 51) (.const (.bool false)),4,"l4_check.go:115",#[⟨33,.data⟩,⟨39,.data⟩,⟨26,.guard⟩],some (26,false)⟩ ?_
       refine tkw 41 ⟨some 53,.pick (.tmp 38) (.const (.bool true)) (.tmp 52),4,"l4_check.go:115",#[⟨26,.data⟩,⟨40,.data⟩],none⟩ ?_
       refine wpAnyH_done (by kernel_rfl) ?_ _
       clear e1 e2 e3
       go_wp2_with fail
       go_meet
       case rel=>exact ⟨by rw [HS.out];rfl,P9⟩
     ·have hb3:(tg==3)=false:=by simpa using h3
      have hb4:(tg != 3)=true:=by simpa using h3
      rw [if_neg h3] at HS
      refine wp_region_held_drew (S:=(fun w':World=>w'.cell? ⟨w.heap.size,0,none⟩=some (.slice o1 c.pool.length j1)∧w'.cell? ⟨g,m*2,none⟩=some (.int .i64 tg)∧w'.cell? ⟨g,m*2+1,none⟩=some (.int .i64 cl))) (by kernel_rfl) ⟨e1,e2,e3⟩ (fun hHeld=>?_)
      refine tkw 0 ⟨some 12,.move (.tmp 1),112,"l4_check.go:115",#[],none⟩ ?_
      refine tkw 1 ⟨some 13,.move (.tmp 5),3,"l4_check.go:115",#[],none⟩ ?_
      refine tkw 2 ⟨some 14,.indexAddr 112 (.tmp 12) (.tmp 13),0,"l4_check.go:115",#[⟨0,.data⟩,⟨1,.data⟩],none⟩ ?_
      refine tkw 3 ⟨some 15,.fieldAddr 144 (.tmp 14) 0,0,"l4_check.go:115",#[⟨2,.data⟩],none⟩ ?_
      refine tkw 4 ⟨some 16,.load 3 (.tmp 15),3,"l4_check.go:115",#[⟨3,.data⟩],none⟩ ?_
      refine wpAnyH_ready (rs:=[5]) (by kernel_rfl) (by simp) ?_
      refine AllReadyH.cons rfl (fun K' hK'=>?_) AllReadyH.nil
      go_simp
      refine (hI _).mono ?_
      rintro e w8 ⟨rfl,hw⟩
      replace hw:=hw.symm
      subst hw
      refine hK'.out _ _ ⟨e1,e2,e3⟩ (fun hHeld=>?_)
      clear hK' K'
      refine tkw 6 ⟨some 18,.unOp .not 4 (.tmp 17),4,"l4_check.go:115",#[⟨5,.data⟩],none⟩ ?_
      refine tkw 7 ⟨some 19,.move (.tmp 18),4,"l4_check.go:115",#[⟨6,.data⟩,⟨5,.chain⟩],none⟩ ?_
      refine tkw 8 ⟨some 20,.move (.tmp 1),112,"l4_check.go:115",#[⟨7,.guard⟩],some (7,false)⟩ ?_
      refine tkw 9 ⟨some 21,.move (.tmp 5),3,"l4_check.go:115",#[⟨7,.guard⟩],some (7,false)⟩ ?_
      refine tkw 10 ⟨some 22,.indexAddr 112 (.tmp 20) (.tmp 21),0,"l4_check.go:115",#[⟨8,.data⟩,⟨9,.data⟩,⟨7,.guard⟩],some (7,false)⟩ ?_
      refine tkw 11 ⟨some 23,.fieldAddr 144 (.tmp 22) 0,0,"l4_check.go:115",#[⟨10,.data⟩,⟨7,.guard⟩],some (7,false)⟩ ?_
      refine tkw 12 ⟨some 24,.load 3 (.tmp 23),3,"l4_check.go:115",#[⟨11,.data⟩,⟨7,.guard⟩],some (7,false)⟩ ?_
      refine tkw 13 ⟨some 25,.binOp .eql 3 (.tmp 24) (.const (.int .i64 3)) 3,4,"l4_check.go:115",#[⟨12,.data⟩,⟨7,.guard⟩],some (7,false)⟩ ?_
      refine tkw 14 ⟨some 26,.move (.tmp 25),4,"l4_check.go:115",#[⟨13,.data⟩,⟨7,.chain⟩,⟨7,.guard⟩],some (7,false)⟩ ?_
      refine wpAnyH_skip (by kernel_rfl) (fun _ _ _ _ h=>h) (by assumption) [(15,27),(16,28),(17,29),(18,30),(19,31),(20,32),(21,33),(22,34),(23,35)] (by kernel_rfl) ?_
      (try simp only [skipL,skipA,s_p,s_a,s_z,s_s])
      refine tkw 24 ⟨some 36,.pick (.tmp 26) (.tmp 35) (.const (.bool false)),4,"l4_check.go:115",#[⟨14,.data⟩,⟨23,.data⟩,⟨7,.guard⟩],some (7,false)⟩ ?_
      refine tkw 25 ⟨some 37,.pick (.tmp 19) (.const (.bool true)) (.tmp 36),4,"l4_check.go:115",#[⟨7,.data⟩,⟨24,.data⟩],none⟩ ?_
      refine tkw 26 ⟨some 38,.move (.tmp 37),4,"l4_check.go:115",#[⟨25,.data⟩,⟨22,.chain⟩],none⟩ ?_
      refine tkw 27 ⟨some 39,.move (.tmp 1),112,"l4_check.go:115",#[⟨26,.guard⟩],some (26,false)⟩ ?_
      refine tkw 28 ⟨some 40,.move (.tmp 5),3,"l4_check.go:115",#[⟨26,.guard⟩],some (26,false)⟩ ?_
      refine tkw 29 ⟨some 41,.indexAddr 112 (.tmp 39) (.tmp 40),0,"l4_check.go:115",#[⟨27,.data⟩,⟨28,.data⟩,⟨26,.guard⟩],some (26,false)⟩ ?_
      refine tkw 30 ⟨some 42,.fieldAddr 144 (.tmp 41) 0,0,"l4_check.go:115",#[⟨29,.data⟩,⟨26,.guard⟩],some (26,false)⟩ ?_
      refine tkw 31 ⟨some 43,.load 3 (.tmp 42),3,"l4_check.go:115",#[⟨30,.data⟩,⟨26,.guard⟩],some (26,false)⟩ ?_
      refine tkw 32 ⟨some 44,.binOp .neq 3 (.tmp 43) (.const (.int .i64 3)) 3,4,"l4_check.go:115",#[⟨31,.data⟩,⟨26,.guard⟩],some (26,false)⟩ ?_
      refine tkw 33 ⟨some 45,.move (.tmp 44),4,"l4_check.go:115",#[⟨32,.data⟩,⟨26,.chain⟩,⟨26,.guard⟩],some (26,false)⟩ ?_
      refine tkw 34 ⟨some 46,.move (.tmp 1),112,"l4_check.go:115",#[⟨33,.guard⟩],some (33,true)⟩ ?_
      refine tkw 35 ⟨some 47,.move (.tmp 5),3,"l4_check.go:115",#[⟨33,.guard⟩],some (33,true)⟩ ?_
      refine tkw 36 ⟨some 48,.indexAddr 112 (.tmp 46) (.tmp 47),0,"l4_check.go:115",#[⟨34,.data⟩,⟨35,.data⟩,⟨33,.guard⟩],some (33,true)⟩ ?_
      refine tkw 37 ⟨some 49,.fieldAddr 144 (.tmp 48) 1,0,"l4_check.go:115",#[⟨36,.data⟩,⟨33,.guard⟩],some (33,true)⟩ ?_
      refine tkw 38 ⟨some 50,.load 3 (.tmp 49),3,"l4_check.go:115",#[⟨37,.data⟩,⟨33,.guard⟩],some (33,true)⟩ ?_
      refine tkw 39 ⟨some 51,.binOp .neq 3 (.tmp 50) (.const (.int .i64 0)) 3,4,"l4_check.go:115",#[⟨38,.data⟩,⟨33,.guard⟩],some (33,true)⟩ ?_
      refine tkw 40 ⟨some 52,.pick (.tmp 45) (.tmp 51) (.const (.bool false)),4,"l4_check.go:115",#[⟨33,.data⟩,⟨39,.data⟩,⟨26,.guard⟩],some (26,false)⟩ ?_
      refine tkw 41 ⟨some 53,.pick (.tmp 38) (.const (.bool true)) (.tmp 52),4,"l4_check.go:115",#[⟨26,.data⟩,⟨40,.data⟩],none⟩ ?_
      refine wpAnyH_done (by kernel_rfl) ?_ _
      clear e1 e2 e3
      go_wp2_with fail
      go_meet
      case rel=>exact ⟨by rw [HS.out];congr 1,PD⟩
   case rest=>
    obtain ⟨rfl,P1⟩:=hcut
    clear P g0 g1 hgl HC HK HS hI
    have HB1:=hid P1.b
    cases R with
    | false=>
     have HN:=hid (show ks.all (kindS (clsC c.pool))=false from by
      rw [List.all_eq_false]
      exact ⟨ks[m],List.getElem_mem _,by rw [HX.out,hR.out];simp⟩)
     clear P1
     go_wp2
     go_ret
     exact ⟨ret_bool HN.out.symm,HB1.out⟩
    | true=>
     have HE':=hid (show ∀ a (h:a<ks.length),a<m+1→kindS (clsC c.pool) ks[a]=true from fun a h h2=>by
      by_cases e:a=m
      ·subst e;rw [HX.out];exact hR.out
      ·exact HE.out a h (by omega))
     clear HE
     go_wp2
     go_roundw
     case rel=>exact ⟨m+1,by omega,by go_num,HE',P1⟩
     case measure=>simp [intOf];omega
  ·have HY:=hid (show ks.all (kindS (clsC c.pool))=true from by
    rw [List.all_eq_true]
    intro x hx
    obtain ⟨a,ha,rfl⟩:=List.mem_iff_getElem.1 hx
    exact HE.out a ha (by omega))
   have HB:=hid P.b
   clear HE P
   go_wp2
   go_ret
   exact ⟨ret_bool HY.out.symm,HB.out⟩
theorem l4Takes_any (c:MClass) (m:MMethod) (vp vi vf vm:Value) (B:Nat) (a5:Option Addr) (n5 k5:Nat) (a6:Option Addr) (n6 k6:Nat) (w:World) (hc:c.few) (h0:0≤m.flags) (h255:m.flags≤255) (h:ClassW w B vp vi vf vm c) :
  Calls Tryz.prog 118 #[.agg #[vp,.int .i64 c.flags,.int .i64 c.name,.int .i64 c.super,vi,vf,vm],.agg #[.int .i64 m.flags,.int .i64 m.name,.int .i64 m.desc,.int .i64 m.deep,.int .i64 m.locals,.string m.code,.slice a5 n5 k5,.slice a6 n6 k6]] w fun e w'=>e=.returned (.int .i64 (takesI (txtC c.pool m.desc) (bitB m.flags 1)))∧Below w.heap.size w w':=by
 obtain ⟨o1,j1,hv1⟩:=own_len h.p
 obtain ⟨o2,j2,hv2⟩:=own_len h.i
 obtain ⟨o3,j3,hv3⟩:=own_len h.f
 obtain ⟨o4,j4,hv4⟩:=h.m.len
 subst hv1 hv2 hv3 hv4
 have P0:=HB.two w (arrK (.slice o1 c.pool.length j1) c.flags c.name c.super (.slice o2 c.faces.length j2) (.slice o3 c.fields.length j3) (.slice o4 c.methods.length j4)) (arrQ m (.slice a5 n5 k5) (.slice a6 n6 k6)) 36 75
 have hPW:PoolW w (.slice o1 c.pool.length j1) c.pool:=⟨B,h.p⟩
 have hN:=l2Text_any (.slice o1 c.pool.length j1) c.pool m.desc _ hc.pool (hPW.keep P0.b)
 have hsz:=txtC_small hc.texts m.desc
 have hD:=fun W=>l2Desc_any (txtC c.pool m.desc) W hsz
 have hH:=fun W=>l4Has_any m.flags 1 W h0 h255 (by simp)
 have HR:=hid (show takesI (txtC c.pool m.desc) (bitB m.flags 1)=((dTs (txtC c.pool m.desc)).length:Int)+(if bitB m.flags 1=true then 0 else 1) from rfl)
 have hdl:=dTs_len (txtC c.pool m.desc)
 unfold DescPost at hD
 generalize takesI (txtC c.pool m.desc) (bitB m.flags 1)=R at HR ⊢
 generalize txtC c.pool m.desc=d at hN hD HR hdl
 generalize dTs d=ds at hD HR hdl
 generalize bitB m.flags 1=st at hH HR
 clear h hc hPW hsz h0 h255
 go_enter Tryz.func118,Tryz.ntmps118
 go_wp2_with fail
 refine hN.mono ?_
 rintro e w1 ⟨rfl,hb1⟩
 have P1:=P0.keep hb1
 clear P0 hb1 hN
 go_wp2_with fail
 refine (hD _).mono ?_
 rintro e w2 ⟨v,rfl,ho,hb2⟩
 obtain ⟨dv,dc,hv⟩:=own_len ho
 subst hv
 have P2:=P1.keep hb2
 clear P1 hb2 hD ho
 obtain ⟨d0,d1,d2,d3,d4,d5,d6,d7⟩:=P2.hd.q8
 have HB2:=hid P2.b
 clear P2
 cases st
 all_goals go_wp2_with (go_at_call 115;refine (hH _).mono ?_;rintro e w3 ⟨rfl,hw⟩;replace hw:=hw.symm;subst hw)
 all_goals go_ret
 all_goals refine ⟨ret_i64 ?_,HB2.out⟩
 all_goals (rw [HR.out];simp)
set_option maxHeartbeats 2000000
def arrF (m:MMethod) (vt vr vp vo:Value):Array Value:=#[.int .i64 m.flags,.int .i64 m.name,.int .i64 m.desc,.int .i64 m.deep,.int .i64 m.locals,.string m.code,vt,vr,vp,vo]
theorem Lk.f10 {W:World} {C:Nat} {m:MMethod} {vt vr vp vo:Value} {T:TypeId} (h:Lk W C (arrF m vt vr vp vo) T):W.cell? ⟨C,0,none⟩=some (.int .i64 m.flags)∧W.cell? ⟨C,1,none⟩=some (.int .i64 m.name)∧W.cell? ⟨C,2,none⟩=some (.int .i64 m.desc)∧W.cell? ⟨C,3,none⟩=some (.int .i64 m.deep)∧W.cell? ⟨C,4,none⟩=some (.int .i64 m.locals)∧W.cell? ⟨C,5,none⟩=some (.string m.code)∧W.cell? ⟨C,6,none⟩=some vt∧W.cell? ⟨C,7,none⟩=some vr∧W.cell? ⟨C,8,none⟩=some vp∧W.cell? ⟨C,9,none⟩=some vo:=
 ⟨h.c 0 _ rfl,h.c 1 _ rfl,h.c 2 _ rfl,h.c 3 _ rfl,h.c 4 _ rfl,h.c 5 _ rfl,h.c 6 _ rfl,h.c 7 _ rfl,h.c 8 _ rfl,h.c 9 _ rfl⟩
def arrD (k:MKind):Array Value:=#[.int .i64 k.tag,.int .i64 k.cls]
theorem Lk.d2 {W:World} {C:Nat} {k:MKind} {T:TypeId} (h:Lk W C (arrD k) T):W.cell? ⟨C,0,none⟩=some (.int .i64 k.tag)∧W.cell? ⟨C,1,none⟩=some (.int .i64 k.cls):=⟨h.c 0 _ rfl,h.c 1 _ rfl⟩
theorem kindFine_any (m:MMethod) (ts:List C4) (os:List MIns) (a5:Option Addr) (n5 k5:Nat) (a6:Option Addr) (n6 k6:Nat) (o1:Option Addr) (j1:Nat) (o5:Option Addr) (j5:Nat) (k:MKind) (w:World) (hpl:ts.length≤1048576) (hP:PoolW w (.slice o1 ts.length j1) ts) :
  Calls Tryz.prog 231 #[.agg #[.int .i64 m.flags,.int .i64 m.name,.int .i64 m.desc,.int .i64 m.deep,.int .i64 m.locals,.string m.code,.slice a5 n5 k5,.slice a6 n6 k6,.slice o1 ts.length j1,.slice o5 os.length j5],.agg #[.int .i64 k.tag,.int .i64 k.cls]] w fun e w'=>e=.returned (.bool (kindB (clsK ts) k))∧Below w.heap.size w w':=by
 have P0:=HB.two w (arrF m (.slice a5 n5 k5) (.slice a6 n6 k6) (.slice o1 ts.length j1) (.slice o5 os.length j5)) (arrD k) 243 144
 have hC:=isClassAt_any (.slice o1 ts.length j1) ts k.cls _ hpl (hP.keep P0.b)
 have HB0:=hid P0.b
 unfold kindB
 rw [show clsK ts k.cls=decide ((atC ts k.cls).kind=2) from rfl]
 generalize decide ((atC ts k.cls).kind=2)=q at hC ⊢
 clear P0 hP
 by_cases h3:k.tag=3
 ·rw [if_pos h3]
  obtain ⟨kt,kc⟩:=k
  simp only at h3 hC HB0 ⊢
  subst h3
  go_enter Tryz.func231,Tryz.ntmps231
  go_wp2_with fail
  refine hC.mono ?_
  rintro e w1 ⟨rfl,hb1⟩
  have HB1:=hid (HB0.out.trans (hb1.mono HB0.out.size))
  clear hb1 hC
  go_wp2
  go_ret
  exact ⟨rfl,HB1.out⟩
 ·rw [if_neg h3]
  clear hC
  go_enter Tryz.func231,Tryz.ntmps231
  go_wp2
  go_ret
  exact ⟨ret_bool (by first|rfl|(rw [Bool.eq_iff_iff];simp)),HB0.out⟩
theorem kindBehind_any (n:Int) (w:World) :
  Calls Tryz.prog 225 #[.int .i64 n] w fun e w'=>e=.returned (.int .i64 (kindOf n))∧w'=w:=by
 have HA:Hid (kindOf n=if 20≤n∧n≤23 then 4 else if 24≤n∧n≤26 then 5 else if n=27 then 6 else 2):=rfl
 go_enter Tryz.func225,Tryz.ntmps225
 go_wp2
 all_goals go_ret
 all_goals refine ⟨ret_i64 ?_,rfl⟩
 all_goals (rw [HA.out];simp only [beq_iff_eq,beq_eq_false_iff_ne,ne_eq] at *;repeat (first|omega|split))
theorem namesPlace_yes (n:Int) (w:World) (h1:14≤n) (h2:n≤18) :
  Calls Tryz.prog 223 #[.int .i64 n] w fun e w'=>e=.returned (.bool true)∧w'=w:=by
 go_enter Tryz.func223,Tryz.ntmps223
 go_wp2
 go_ret
 exact ⟨rfl,rfl⟩
theorem namesPlace_no (n:Int) (w:World) (h:¬(14≤n∧n≤18)) :
  Calls Tryz.prog 223 #[.int .i64 n] w fun e w'=>e=.returned (.bool false)∧w'=w:=by
 by_cases h1:14≤n
 ·have h2:¬n≤18:=fun h2=>h ⟨h1,h2⟩
  clear h
  go_enter Tryz.func223,Tryz.ntmps223
  go_wp2
  go_ret
  exact ⟨rfl,rfl⟩
 ·clear h
  go_enter Tryz.func223,Tryz.ntmps223
  go_wp2
  go_ret
  exact ⟨rfl,rfl⟩
theorem opFine_any (m:MMethod) (ts:List C4) (os:List MIns) (a5:Option Addr) (n5 k5:Nat) (a6:Option Addr) (n6 k6:Nat) (o1:Option Addr) (j1:Nat) (o5:Option Addr) (j5:Nat) (x:MIns) (w:World) (hpl:ts.length≤1048576) (hol:os.length≤1048576) (hP:PoolW w (.slice o1 ts.length j1) ts) (hO:OpsW w (.slice o5 os.length j5) os) (ha:ascO os) :
  Calls Tryz.prog 191 #[.agg #[.int .i64 m.flags,.int .i64 m.name,.int .i64 m.desc,.int .i64 m.deep,.int .i64 m.locals,.string m.code,.slice a5 n5 k5,.slice a6 n6 k6,.slice o1 ts.length j1,.slice o5 os.length j5],.agg #[.int .i64 x.at_,.int .i64 x.op,.int .i64 x.num]] w fun e w'=>e=.returned (.bool (opB ts m.locals os x))∧Below w.heap.size w w':=by
 have P0:=HB.two w (arrF m (.slice a5 n5 k5) (.slice a6 n6 k6) (.slice o1 ts.length j1) (.slice o5 os.length j5)) (arrN x) 243 169
 have HB0:=hid P0.b
 unfold opB
 by_cases h1:3≤x.op∧x.op≤6
 ·rw [if_pos h1]
  obtain ⟨h1a,h1b⟩:=h1
  clear P0 hP hO ha
  go_enter Tryz.func191,Tryz.ntmps191
  go_wp2
  go_ret
  exact ⟨rfl,HB0.out⟩
 rw [if_neg h1]
 by_cases h2:14≤x.op∧x.op≤18
 ·rw [if_pos h2]
  obtain ⟨h2a,h2b⟩:=h2
  have h1c:¬x.op≤6:=by omega
  have h1d:3≤x.op:=by omega
  have hN:=fun W=>namesPlace_yes x.op W h2a h2b
  have hC:=isOpAt_any _ os x.num _ hol (hO.keep P0.b) ha
  generalize atB os x.num=q at hC ⊢
  clear P0 hP hO ha h1
  go_enter Tryz.func191,Tryz.ntmps191
  go_wp2_with fail
  refine (hN _).mono ?_
  rintro e w0 ⟨rfl,hw⟩
  replace hw:=hw.symm
  subst hw
  go_wp2_with fail
  refine hC.mono ?_
  rintro e w1 ⟨rfl,hb1⟩
  have HB1:=hid (HB0.out.trans (hb1.mono HB0.out.size))
  clear hb1 hC
  go_wp2
  go_ret
  exact ⟨rfl,HB1.out⟩
 rw [if_neg h2]
 by_cases h3:19≤x.op∧x.op≤29
 ·rw [if_pos h3]
  obtain ⟨h3a,h3b⟩:=h3
  have h1c:¬x.op≤6:=by omega
  have h1d:3≤x.op:=by omega
  have h2c:¬x.op≤18:=by omega
  have h2d:14≤x.op:=by omega
  have hN:=fun W=>namesPlace_no x.op W h2
  have HC:=hid (fun W (hW:HB w [(w.heap.size+1,arrN x,169),(w.heap.size,arrF m (.slice a5 n5 k5) (.slice a6 n6 k6) (.slice o1 ts.length j1) (.slice o5 os.length j5),243)] W)=>constAt_any _ ts x.num W hpl (hP.keep hW.b))
  have hK:=fun W=>kindBehind_any x.op W
  generalize kindOf x.op=kk at hK ⊢
  generalize hA:atC ts x.num=u at HC ⊢
  have hf:=field_kind u
  clear hP hO ha h1 h2 hA
  go_enter Tryz.func191,Tryz.ntmps191
  go_wp2_with fail
  refine (hN _).mono ?_
  rintro e w0 ⟨rfl,hw⟩
  replace hw:=hw.symm
  subst hw
  clear hN
  go_upto_region 6 with fail
  have PD:=P0.keep (show Below _ _ _ from (Below.refl _ _).drew)
  clear P0
  obtain ⟨t0,t1,t2⟩:=PD.hd.n3
  obtain ⟨f0,f1,f2,f3,f4,f5,f6,f7,f8,f9⟩:=PD.tl.hd.f10
  refine wp_region_held_drew (S:=(fun w':World=>w'.cell? ⟨w.heap.size,8,none⟩=some (.slice o1 ts.length j1)∧w'.cell? ⟨w.heap.size+1,1,none⟩=some (.int .i64 x.op)∧w'.cell? ⟨w.heap.size+1,2,none⟩=some (.int .i64 x.num))) (by kernel_rfl) ⟨f8,t1,t2⟩ (fun hHeld=>?_)
  clear t0 t1 t2 f0 f1 f2 f3 f4 f5 f6 f7 f8 f9
  refine tkw 0 ⟨some 38,.fieldAddr 243 (.tmp 2) 1,0,"l4_check.go:186",#[],none⟩ ?_
  refine tkw 1 ⟨some 39,.load 32 (.tmp 38),32,"l4_check.go:186",#[⟨0,.data⟩],none⟩ ?_
  refine tkw 2 ⟨some 40,.fieldAddr 169 (.tmp 3) 2,0,"l4_check.go:186",#[],none⟩ ?_
  refine tkw 3 ⟨some 41,.load 3 (.tmp 40),3,"l4_check.go:186",#[⟨2,.data⟩],none⟩ ?_
  refine tkw 6 ⟨some 44,.fieldAddr 169 (.tmp 3) 1,0,"l4_check.go:186",#[],none⟩ ?_
  refine tkw 7 ⟨some 45,.load 3 (.tmp 44),3,"l4_check.go:186",#[⟨6,.data⟩],none⟩ ?_
  refine wpAnyH_ready (rs:=[4]) (by kernel_rfl) (by simp) ?_
  refine AllReadyH.cons rfl (fun K' hK'=>?_) AllReadyH.nil
  go_simp
  refine (HC.out _ PD).mono ?_
  rintro e w8 ⟨rfl,hb8⟩
  have P8:=PD.keep hb8
  clear PD hb8 HC
  obtain ⟨t0,t1,t2⟩:=P8.hd.n3
  obtain ⟨f0,f1,f2,f3,f4,f5,f6,f7,f8,f9⟩:=P8.tl.hd.f10
  refine hK'.out _ _ ⟨f8,t1,t2⟩ (fun hHeld=>?_)
  clear hK' K'
  refine tkw 5 ⟨some 43,.field 40 (.tmp 42) 0,3,"l4_check.go:186",#[⟨4,.data⟩],none⟩ ?_
  refine wpAnyH_ready (rs:=[8]) (by kernel_rfl) (by simp) ?_
  refine AllReadyH.cons rfl (fun K' hK'=>?_) AllReadyH.nil
  go_simp
  refine (hK _).mono ?_
  rintro e w9 ⟨rfl,hw⟩
  replace hw:=hw.symm
  subst hw
  refine hK'.out _ _ ⟨f8,t1,t2⟩ (fun hHeld=>?_)
  clear hK' K'
  refine tkw 9 ⟨some 47,.binOp .eql 3 (.tmp 43) (.tmp 46) 3,4,"l4_check.go:186",#[⟨5,.data⟩,⟨8,.data⟩],none⟩ ?_
  refine tkw 10 ⟨some 4,.assign (.tmp 47),4,"l4_check.go:186",#[⟨9,.data⟩,⟨8,.chain⟩,⟨0,.phase⟩,⟨1,.phase⟩,⟨2,.phase⟩,⟨3,.phase⟩,⟨4,.phase⟩,⟨5,.phase⟩,⟨6,.phase⟩,⟨7,.phase⟩,⟨8,.phase⟩,⟨9,.phase⟩],none⟩ ?_
  refine wpAnyH_done (by kernel_rfl) ?_ _
  have HB8:=hid P8.b
  clear P8 t0 t1 t2 f0 f1 f2 f3 f4 f5 f6 f7 f8 f9
  go_wp2
  go_ret
  exact ⟨ret_bool (by rw [Bool.eq_iff_iff];simp),HB8.out⟩
 ·rw [if_neg h3]
  have hN:=fun W=>namesPlace_no x.op W h2
  by_cases h4:x.op<3
  ·clear P0 hP hO ha h1 h2 h3
   go_enter Tryz.func191,Tryz.ntmps191
   go_wp2_with (go_at_call 223;refine (hN _).mono ?_;rintro e w0 ⟨rfl,hw⟩;replace hw:=hw.symm;subst hw)
   all_goals first|(go_ret;exact ⟨rfl,HB0.out⟩)|(exfalso;omega)
  ·have h1d:3≤x.op:=by omega
   have h1c:¬x.op≤6:=by omega
   clear P0 hP hO ha h1 h4
   go_enter Tryz.func191,Tryz.ntmps191
   go_wp2_with (go_at_call 223;refine (hN _).mono ?_;rintro e w0 ⟨rfl,hw⟩;replace hw:=hw.symm;subst hw)
   all_goals first|(go_ret;exact ⟨rfl,HB0.out⟩)|(exfalso;omega)
theorem trapFine_any (m:MMethod) (ts:List C4) (os:List MIns) (a5:Option Addr) (n5 k5:Nat) (a6:Option Addr) (n6 k6:Nat) (o1:Option Addr) (j1:Nat) (o5:Option Addr) (j5:Nat) (t:MTrap) (w:World) (hpl:ts.length≤1048576) (hol:os.length≤1048576) (hP:PoolW w (.slice o1 ts.length j1) ts) (hO:OpsW w (.slice o5 os.length j5) os) (ha:ascO os) :
  Calls Tryz.prog 193 #[.agg #[.int .i64 m.flags,.int .i64 m.name,.int .i64 m.desc,.int .i64 m.deep,.int .i64 m.locals,.string m.code,.slice a5 n5 k5,.slice a6 n6 k6,.slice o1 ts.length j1,.slice o5 os.length j5],.agg #[.int .i64 t.from_,.int .i64 t.to_,.int .i64 t.at_,.int .i64 t.cls]] w fun e w'=>e=.returned (.bool (trapB (clsK ts) m.code.size os t))∧Below w.heap.size w w':=by
 have P0:=HB.two w (arrF m (.slice a5 n5 k5) (.slice a6 n6 k6) (.slice o1 ts.length j1) (.slice o5 os.length j5)) (arrT t) 243 140
 have HF:=hid (fun x W (hW:HB w [(w.heap.size+1,arrT t,140),(w.heap.size,arrF m (.slice a5 n5 k5) (.slice a6 n6 k6) (.slice o1 ts.length j1) (.slice o5 os.length j5),243)] W)=>isOpAt_any (.slice o5 os.length j5) os x W hol (hO.keep hW.b) ha)
 have HC:=hid (fun W (hW:HB w [(w.heap.size+1,arrT t,140),(w.heap.size,arrF m (.slice a5 n5 k5) (.slice a6 n6 k6) (.slice o1 ts.length j1) (.slice o5 os.length j5),243)] W)=>isClassAt_any (.slice o1 ts.length j1) ts t.cls W hpl (hP.keep hW.b))
 have HR:=hid (show trapB (clsK ts) m.code.size os t=(decide (t.from_<t.to_) && atB os t.from_ && atB os t.at_ && (decide (t.to_=(m.code.size:Int)) || atB os t.to_) && (decide (t.cls=0) || decide ((atC ts t.cls).kind=2))) from rfl)
 generalize trapB (clsK ts) m.code.size os t=R at HR ⊢
 generalize decide ((atC ts t.cls).kind=2)=kk at HR HC
 have hF1:=HF.out t.from_ _ P0
 have HF2:=hid (fun W hW=>HF.out t.at_ W hW)
 have HF3:=hid (fun W hW=>HF.out t.to_ W hW)
 generalize atB os t.from_=q1 at HR hF1
 generalize atB os t.at_=q3 at HR HF2
 generalize atB os t.to_=q2 at HR HF3
 have HB0:=hid P0.b
 clear hP hO hol ha
 by_cases h1:¬t.from_<t.to_
 ·have e1:decide (t.from_<t.to_)=false:=by simpa using h1
  rw [e1] at HR
  clear P0 HF HF2 HF3 hF1 HC e1
  go_enter Tryz.func193,Tryz.ntmps193
  go_wp2
  go_ret
  exact ⟨ret_bool (by rw [HR.out];simp),HB0.out⟩
 replace h1:=Classical.not_not.1 h1
 have e1:decide (t.from_<t.to_)=true:=by simpa using h1
 rw [e1] at HR
 clear e1
 obtain ⟨t0,t1,t2,t3⟩:=P0.hd.t4
 obtain ⟨f0,f1,f2,f3,f4,f5,f6,f7,f8,f9⟩:=P0.tl.hd.f10
 go_enter Tryz.func193,Tryz.ntmps193
 go_wp2_with fail
 refine hF1.mono ?_
 rintro e w1 ⟨rfl,hb⟩
 have P1:=P0.keep hb
 clear P0 hb hF1 t0 t1 t2 t3 f0 f1 f2 f3 f4 f5 f6 f7 f8 f9
 obtain ⟨t0,t1,t2,t3⟩:=P1.hd.t4
 obtain ⟨f0,f1,f2,f3,f4,f5,f6,f7,f8,f9⟩:=P1.tl.hd.f10
 have HBP1:=hid P1.b
 clear HB0
 cases q1 with
 | false=>
  clear P1 HF HF2 HF3 HC
  go_wp2
  go_ret
  exact ⟨ret_bool (by rw [HR.out];simp),HBP1.out⟩
 | true=>
 have hF2:=HF2.out _ P1
 go_wp2_with fail
 refine hF2.mono ?_
 rintro e w2 ⟨rfl,hb⟩
 have P2:=P1.keep hb
 clear P1 hb hF2 HF2 HBP1 t0 t1 t2 t3 f0 f1 f2 f3 f4 f5 f6 f7 f8 f9
 obtain ⟨t0,t1,t2,t3⟩:=P2.hd.t4
 obtain ⟨f0,f1,f2,f3,f4,f5,f6,f7,f8,f9⟩:=P2.tl.hd.f10
 have HBP2:=hid P2.b
 cases q3 with
 | false=>
  clear P2 HF HF3 HC
  go_wp2
  go_ret
  exact ⟨ret_bool (by rw [HR.out];simp),HBP2.out⟩
 | true=>
 by_cases hn:t.to_=(m.code.size:Int)
 ·have e2:decide (t.to_=(m.code.size:Int))=true:=by simpa using hn
  rw [e2] at HR
  clear e2 HF3
  by_cases hz:t.cls=0
  ·rw [hz] at t3
   simp only [hz,decide_true] at HR
   clear P2 HF HC hz
   go_wp2
   go_ret
   exact ⟨ret_bool (by rw [HR.out];simp),HBP2.out⟩
  ·have hz':decide (t.cls=0)=false:=by simpa using hz
   rw [hz'] at HR
   have hC:=HC.out _ P2
   clear HF HC hz'
   go_wp2_with fail
   refine hC.mono ?_
   rintro e w8 ⟨rfl,hb8⟩
   have HB8:=hid (HBP2.out.trans (hb8.mono HBP2.out.size))
   clear hb8 hC P2 HBP2
   go_wp2
   go_ret
   refine ⟨ret_bool ?_,HB8.out⟩
   rw [HR.out]
   simp [hz]
 ·have e2:decide (t.to_=(m.code.size:Int))=false:=by simpa using hn
  rw [e2] at HR
  clear e2
  have hF3:=HF3.out _ P2
  go_wp2_with fail
  refine hF3.mono ?_
  rintro e w3 ⟨rfl,hb⟩
  have P3:=P2.keep hb
  clear P2 hb hF3 HF3 HBP2 t0 t1 t2 t3 f0 f1 f2 f3 f4 f5 f6 f7 f8 f9
  obtain ⟨t0,t1,t2,t3⟩:=P3.hd.t4
  obtain ⟨f0,f1,f2,f3,f4,f5,f6,f7,f8,f9⟩:=P3.tl.hd.f10
  have HBP3:=hid P3.b
  cases q2 with
  | false=>
   clear P3 HF HC
   go_wp2
   go_ret
   exact ⟨ret_bool (by rw [HR.out];simp),HBP3.out⟩
  | true=>
  by_cases hz:t.cls=0
  ·rw [hz] at t3
   simp only [hz,decide_true] at HR
   clear P3 HF HC hz
   go_wp2
   go_ret
   exact ⟨ret_bool (by rw [HR.out];simp),HBP3.out⟩
  ·have hz':decide (t.cls=0)=false:=by simpa using hz
   rw [hz'] at HR
   have hC:=HC.out _ P3
   clear HF HC hz'
   go_wp2_with fail
   refine hC.mono ?_
   rintro e w8 ⟨rfl,hb8⟩
   have HB8:=hid (HBP3.out.trans (hb8.mono HBP3.out.size))
   clear hb8 hC P3 HBP3
   go_wp2
   go_ret
   refine ⟨ret_bool ?_,HB8.out⟩
   rw [HR.out]
   simp [hz]
def arrE (x:SFrame):Array Value:=#[.int .i64 x.at_,x.l,x.s]
theorem Lk.e3 {W:World} {C:Nat} {x:SFrame} {T:TypeId} (h:Lk W C (arrE x) T):W.cell? ⟨C,0,none⟩=some (.int .i64 x.at_)∧W.cell? ⟨C,1,none⟩=some x.l∧W.cell? ⟨C,2,none⟩=some x.s:=⟨h.c 0 _ rfl,h.c 1 _ rfl,h.c 2 _ rfl⟩
theorem allKinds_any (m:MMethod) (ts:List C4) (os:List MIns) (a5:Option Addr) (n5 k5:Nat) (a6:Option Addr) (n6 k6:Nat) (o1:Option Addr) (j1:Nat) (o5:Option Addr) (j5:Nat) (B:Nat) (v:Value) (ks:List MKind) (w:World) (hpl:ts.length≤1048576) (hkl:ks.length≤1048576) (hP:PoolW w (.slice o1 ts.length j1) ts) (hk:w.ownsRow B 144 2 v ks.length (rowKind ks)) :
  Calls Tryz.prog 230 #[v,.func (.func 231) #[.agg #[.int .i64 m.flags,.int .i64 m.name,.int .i64 m.desc,.int .i64 m.deep,.int .i64 m.locals,.string m.code,.slice a5 n5 k5,.slice a6 n6 k6,.slice o1 ts.length j1,.slice o5 os.length j5]] #[]] w fun e w'=>e=.returned (.bool (kindsB (clsK ts) ks))∧Below w.heap.size w w':=by
 refine (allKind_any (.agg #[.int .i64 m.flags,.int .i64 m.name,.int .i64 m.desc,.int .i64 m.deep,.int .i64 m.locals,.string m.code,.slice a5 n5 k5,.slice a6 n6 k6,.slice o1 ts.length j1,.slice o5 os.length j5]) v ks B (fun k=>(ks[k]?.map (kindB (clsK ts))).getD true) w hkl hk (fun k hk' W hW=>?_)).mono ?_
 ·rw [List.getElem?_eq_getElem hk']
  exact kindFine_any m ts os a5 n5 k5 a6 n6 k6 o1 j1 o5 j5 ks[k] W hpl (hP.keep hW)
 ·rintro e w1 ⟨b,rfl,hb,hb1⟩
  refine ⟨ret_bool ?_,hb1⟩
  rw [Bool.eq_iff_iff,hb]
  unfold kindsB
  rw [List.all_eq_true]
  constructor
  ·intro h x hx
   obtain ⟨k,hk',rfl⟩:=List.mem_iff_getElem.1 hx
   have:=h k hk'
   rw [List.getElem?_eq_getElem hk'] at this
   exact this
  ·intro h k hk'
   rw [List.getElem?_eq_getElem hk']
   exact h _ (List.getElem_mem _)
theorem frameFine_any (m:MMethod) (ts:List C4) (os:List MIns) (a5:Option Addr) (n5 k5:Nat) (a6:Option Addr) (n6 k6:Nat) (o1:Option Addr) (j1:Nat) (o5:Option Addr) (j5:Nat) (B:Nat) (x:SFrame) (f:MFrame) (w:World) (hpl:ts.length≤1048576) (hol:os.length≤1048576) (hP:PoolW w (.slice o1 ts.length j1) ts) (hO:OpsW w (.slice o5 os.length j5) os) (ha:ascO os) (hw:FrameW w B x f) (hl1:f.locals.length≤1048576) (hl2:f.stack.length≤1048576) :
  Calls Tryz.prog 195 #[.agg #[.int .i64 m.flags,.int .i64 m.name,.int .i64 m.desc,.int .i64 m.deep,.int .i64 m.locals,.string m.code,.slice a5 n5 k5,.slice a6 n6 k6,.slice o1 ts.length j1,.slice o5 os.length j5],.agg #[.int .i64 x.at_,x.l,x.s]] w fun e w'=>e=.returned (.bool (frameB (clsK ts) m.locals m.deep os f))∧Below w.heap.size w w':=by
 obtain ⟨xa,xl,xs⟩:=x
 obtain ⟨hat,hl,hs⟩:=hw
 simp only at hat hl hs ⊢
 subst hat
 obtain ⟨g1,i1,e1⟩:=own_len hl
 obtain ⟨g2,i2,e2⟩:=own_len hs
 subst e1 e2
 have P0:=HB.two w (arrF m (.slice a5 n5 k5) (.slice a6 n6 k6) (.slice o1 ts.length j1) (.slice o5 os.length j5)) (arrE ⟨f.at_,.slice g1 f.locals.length i1,.slice g2 f.stack.length i2⟩) 243 114
 have hF1:=isOpAt_any (.slice o5 os.length j5) os f.at_ _ hol (hO.keep P0.b) ha
 have HK1:=hid (fun W (hW:HB w [(w.heap.size+1,arrE ⟨f.at_,.slice g1 f.locals.length i1,.slice g2 f.stack.length i2⟩,114),(w.heap.size,arrF m (.slice a5 n5 k5) (.slice a6 n6 k6) (.slice o1 ts.length j1) (.slice o5 os.length j5),243)] W)=>allKinds_any m ts os a5 n5 k5 a6 n6 k6 o1 j1 o5 j5 B _ f.locals W hpl hl1 (hP.keep hW.b) (own_below hl hW.b))
 have HK2:=hid (fun W (hW:HB w [(w.heap.size+1,arrE ⟨f.at_,.slice g1 f.locals.length i1,.slice g2 f.stack.length i2⟩,114),(w.heap.size,arrF m (.slice a5 n5 k5) (.slice a6 n6 k6) (.slice o1 ts.length j1) (.slice o5 os.length j5),243)] W)=>allKinds_any m ts os a5 n5 k5 a6 n6 k6 o1 j1 o5 j5 B _ f.stack W hpl hl2 (hP.keep hW.b) (own_below hs hW.b))
 have HR:=hid (show frameB (clsK ts) m.locals m.deep os f=(atB os f.at_ && decide ((f.locals.length:Int)=m.locals) && decide ((f.stack.length:Int)≤m.deep) && kindsB (clsK ts) f.locals && kindsB (clsK ts) f.stack) from rfl)
 generalize frameB (clsK ts) m.locals m.deep os f=R at HR ⊢
 generalize atB os f.at_=q1 at HR hF1
 generalize kindsB (clsK ts) f.locals=q2 at HR HK1
 generalize kindsB (clsK ts) f.stack=q3 at HR HK2
 have hmf:∀ (fn:Fn) (first cap:Array Value) (w:World),(Instr.makeFunc fn first cap).run Tryz.prog w=.ok (.func fn first cap) w:=fun _ _ _ _=>rfl
 have HB0:=hid P0.b
 clear hP hO hol ha hl hs
 obtain ⟨t0,t1,t2⟩:=P0.hd.e3
 obtain ⟨f0,f1,f2,f3,f4,f5,f6,f7,f8,f9⟩:=P0.tl.hd.f10
 go_enter Tryz.func195,Tryz.ntmps195
 go_wp2_with fail
 refine hF1.mono ?_
 rintro e w1 ⟨rfl,hb⟩
 have P1:=P0.keep hb
 clear P0 hb hF1 t0 t1 t2 f0 f1 f2 f3 f4 f5 f6 f7 f8 f9
 obtain ⟨t0,t1,t2⟩:=P1.hd.e3
 obtain ⟨f0,f1,f2,f3,f4,f5,f6,f7,f8,f9⟩:=P1.tl.hd.f10
 have HBP1:=hid P1.b
 clear HB0
 cases q1 with
 | false=>
  clear P1 HK1 HK2
  go_wp2
  go_ret
  exact ⟨ret_bool (by rw [HR.out];simp),HBP1.out⟩
 | true=>
 by_cases h1:¬(f.locals.length:Int)=m.locals
 ·have e1:decide ((f.locals.length:Int)=m.locals)=false:=by simpa using h1
  rw [e1] at HR
  clear P1 HK1 HK2 e1
  go_wp2
  go_ret
  exact ⟨ret_bool (by rw [HR.out];simp),HBP1.out⟩
 replace h1:=Classical.not_not.1 h1
 have e1:decide ((f.locals.length:Int)=m.locals)=true:=by simpa using h1
 rw [e1] at HR
 clear e1
 by_cases h2:¬(f.stack.length:Int)≤m.deep
 ·have e1:decide ((f.stack.length:Int)≤m.deep)=false:=by simpa using h2
  rw [e1] at HR
  have h2':m.deep<(f.stack.length:Int):=by omega
  clear P1 HK1 HK2 e1 h2
  go_wp2
  go_ret
  exact ⟨ret_bool (by rw [HR.out];simp),HBP1.out⟩
 replace h2:=Classical.not_not.1 h2
 have e1:decide ((f.stack.length:Int)≤m.deep)=true:=by simpa using h2
 rw [e1] at HR
 clear e1
 have h2':¬m.deep<(f.stack.length:Int):=by omega
 have hK1:=HK1.out _ P1
 go_wp2_with fail
 refine hK1.mono ?_
 rintro e w2 ⟨rfl,hb⟩
 have P2:=P1.keep hb
 clear P1 hb hK1 HK1 HBP1 t0 t1 t2 f0 f1 f2 f3 f4 f5 f6 f7 f8 f9
 obtain ⟨t0,t1,t2⟩:=P2.hd.e3
 obtain ⟨f0,f1,f2,f3,f4,f5,f6,f7,f8,f9⟩:=P2.tl.hd.f10
 have HBP2:=hid P2.b
 cases q2 with
 | false=>
  clear P2 HK2
  go_wp2
  go_ret
  exact ⟨ret_bool (by rw [HR.out];simp),HBP2.out⟩
 | true=>
 have hK2:=HK2.out _ P2
 go_wp2_with fail
 refine hK2.mono ?_
 rintro e w3 ⟨rfl,hb3⟩
 have HB3:=hid (HBP2.out.trans (hb3.mono HBP2.out.size))
 clear hb3 hK2 P2 HK2 HBP2
 go_wp2
 go_ret
 exact ⟨ret_bool (by rw [HR.out];simp),HB3.out⟩
end Go.Proofs.YtecbcdfkedocbaaGreatDoor
