/- Gathered: ChkFramesS. -/
import Derived.Test.YtecbcdfkedocbaaGreatDoorK04
import Derived.Test.YtecbcdfkedocbaaGreatDoorG01
namespace Go.Proofs.YtecbcdfkedocbaaGreatDoor
open Mx Go.RowKit
set_option maxHeartbeats 4000000
set_option maxRecDepth 20000
set_option linter.unusedVariables false
def frameS (cl:Int→Bool) (lo dp:Int) (os:List Op3) (f:MFrame):Bool:=
 atB os f.at_ && decide ((f.locals.length:Int)=lo) && decide ((f.stack.length:Int)≤dp) && f.locals.all (kindS cl) && f.stack.all (kindS cl)
theorem l4Frames_any (c:MClass) (m:MMethod) (vp vi vf vm vr vo:Value) (B Bm:Nat) (a5:Option Addr) (n5 k5:Nat) (os:List MIns) (w:World) (hc:c.few) (hm:m.few) (hol:os.length≤1048576) (h:ClassW w B vp vi vf vm c) (hM:FramesW w Bm vr m.frames) (hos:OpsW w vo os) :
  Calls Tryz.prog 121 #[.agg #[vp,.int .i64 c.flags,.int .i64 c.name,.int .i64 c.super,vi,vf,vm],.agg #[.int .i64 m.flags,.int .i64 m.name,.int .i64 m.desc,.int .i64 m.deep,.int .i64 m.locals,.string m.code,.slice a5 n5 k5,vr],vo] w fun e w'=>∃ b:Bool,e=.returned (.bool b)∧(b=true↔(∀ i (h:i<m.frames.length),frameS (clsC c.pool) m.locals m.deep os m.frames[i]=true)∧ascF m.frames)∧Below w.heap.size w w':=by
 obtain ⟨o1,j1,hv1⟩:=own_len h.p
 obtain ⟨o2,j2,hv2⟩:=own_len h.i
 obtain ⟨o3,j3,hv3⟩:=own_len h.f
 obtain ⟨o4,j4,hv4⟩:=h.m.len
 obtain ⟨o5,j5,hv5⟩:=hos.len
 obtain ⟨a6,k6,hv6⟩:=hM.len
 subst hv1 hv2 hv3 hv4 hv5 hv6
 have P0:=HB.two w (arrK (.slice o1 c.pool.length j1) c.flags c.name c.super (.slice o2 c.faces.length j2) (.slice o3 c.fields.length j3) (.slice o4 c.methods.length j4)) (arrQ m (.slice a5 n5 k5) (.slice a6 m.frames.length k6)) 36 75
 have hfl:=hm.2.2.1
 have HF0:=hid (fun x W (hW:Below w.heap.size w W) q hq=>l3FindT_any (.slice o5 os.length j5) os x W hol (hos.keep hW) q hq)
 have HK0:=hid (fun (ks:List MKind) v Bk W (hW:Below w.heap.size w W) (hl:ks.length≤1048576) (hk:w.ownsRow Bk 144 2 v ks.length (rowKind ks))=>l4Kinds_any c _ _ _ _ v B Bk ks W hc hl (h.keep hW) (own_below hk hW))
 obtain ⟨xs,hxl,hxo,hxe⟩:=hM
 have HO:=hid hxo
 have HE0:=hid (fun k (h:k<m.frames.length) (h':k<xs.length)=>show ∃ g1 i1 g2 i2,xs[k]=⟨m.frames[k].at_,.slice g1 m.frames[k].locals.length i1,.slice g2 m.frames[k].stack.length i2⟩∧m.frames[k].locals.length≤1048576∧m.frames[k].stack.length≤1048576∧w.ownsRow Bm 144 2 (.slice g1 m.frames[k].locals.length i1) m.frames[k].locals.length (rowKind m.frames[k].locals)∧w.ownsRow Bm 144 2 (.slice g2 m.frames[k].stack.length i2) m.frames[k].stack.length (rowKind m.frames[k].stack) from by
  have hw:=hxe k h h'
  have hf:=hm.2.2.2 _ (List.getElem_mem h)
  obtain ⟨a1,k1,e1⟩:=own_len hw.l
  obtain ⟨a2,k2,e2⟩:=own_len hw.s
  have hl:=hw.l
  have hs:=hw.s
  have ha:=hw.at_
  generalize xs[k]=x at e1 e2 hl hs ha
  obtain ⟨x0,x1,x2⟩:=x
  simp only at e1 e2 hl hs ha
  subst e1 e2 ha
  exact ⟨a1,k1,a2,k2,rfl,hf.1,hf.2,hl,hs⟩)
 have HXL:=hid hxl
 clear h hc hm hxo hxe hxl hol hos
 go_enter Tryz.func121,Tryz.ntmps121
 go_wp2_with fail
 go_loopw [7] (fun i wr=>∃ (k:Nat),k≤m.frames.length∧i=.int .i64 k∧Hid (∀ a (h:a<m.frames.length),a<k→frameS (clsC c.pool) m.locals m.deep os m.frames[a]=true)∧Hid (∀ a (h:a+1<m.frames.length),a+1<k→m.frames[a].at_<m.frames[a+1].at_)∧HB w [(w.heap.size+1,arrQ m (.slice a5 n5 k5) (.slice a6 m.frames.length k6),75),(w.heap.size,arrK (.slice o1 c.pool.length j1) c.flags c.name c.super (.slice o2 c.faces.length j2) (.slice o3 c.fields.length j3) (.slice o4 c.methods.length j4),36)] wr) (fun i _=>m.frames.length - (intOf i).toNat)
 case atStart=>exact ⟨0,by omega,rfl,fun a _ h=>by omega,fun a _ h=>by omega,P0⟩
 case round=>
  obtain ⟨k,hk,rfl,HE,HU,P⟩:=hrel
  clear P0
  obtain ⟨d0,d1,d2,d3,d4,d5,d6,d7⟩:=P.hd.q8
  by_cases hlt:k<m.frames.length
  ·obtain ⟨g,hg⟩:=own_some HO.out (by omega)
   subst hg
   obtain ⟨x0,x1,x2⟩:=ownFrame_at (own_below HO.out P.b) HXL.out (k:=k) (by rw [HXL.out];exact hlt)
   have hgl:=((own_below HO.out P.b).lt g rfl).2
   obtain ⟨g1,i1,g2,i2,hxk,hl1,hl2,hr1,hr2⟩:=HE0.out k hlt (by rw [HXL.out];exact hlt)
   rw [hxk] at x0 x1 x2
   have HPV:=hid (fun j (hj:j+1=k)=>show wr.cell? ⟨g,j*3,none⟩=some (.int .i64 (m.frames[j]'(by omega)).at_) from by
    have hj2:j<m.frames.length:=by omega
    obtain ⟨y0,_,_⟩:=ownFrame_at (own_below HO.out P.b) HXL.out (k:=j) (by rw [HXL.out];exact hj2)
    obtain ⟨_,_,_,_,hxj,_,_,_,_⟩:=HE0.out j hj2 (by rw [HXL.out];exact hj2)
    rw [hxj] at y0
    exact y0)
   generalize hX:m.frames[k]=f at x0 x1 x2 hxk hl1 hl2 hr1 hr2
   have HX:=hid hX
   simp only at x0 x1 x2
   clear hX hxk
   have HK1:=hid (fun W (hW:HB w ((wr.heap.size,arrE ⟨f.at_,.slice g1 f.locals.length i1,.slice g2 f.stack.length i2⟩,114) :: [(w.heap.size+1,arrQ m (.slice a5 n5 k5) (.slice (some ⟨g,0,none⟩) m.frames.length k6),75),(w.heap.size,arrK (.slice o1 c.pool.length j1) c.flags c.name c.super (.slice o2 c.faces.length j2) (.slice o3 c.fields.length j3) (.slice o4 c.methods.length j4),36)]) W)=>HK0.out f.locals _ Bm W hW.b hl1 hr1)
   have HK2:=hid (fun W (hW:HB w ((wr.heap.size,arrE ⟨f.at_,.slice g1 f.locals.length i1,.slice g2 f.stack.length i2⟩,114) :: [(w.heap.size+1,arrQ m (.slice a5 n5 k5) (.slice (some ⟨g,0,none⟩) m.frames.length k6),75),(w.heap.size,arrK (.slice o1 c.pool.length j1) c.flags c.name c.super (.slice o2 c.faces.length j2) (.slice o3 c.fields.length j3) (.slice o4 c.methods.length j4),36)]) W)=>HK0.out f.stack _ Bm W hW.b hl2 hr2)
   have HF:=hid (fun W (hW:HB w ((wr.heap.size,arrE ⟨f.at_,.slice g1 f.locals.length i1,.slice g2 f.stack.length i2⟩,114) :: [(w.heap.size+1,arrQ m (.slice a5 n5 k5) (.slice (some ⟨g,0,none⟩) m.frames.length k6),75),(w.heap.size,arrK (.slice o1 c.pool.length j1) c.flags c.name c.super (.slice o2 c.faces.length j2) (.slice o3 c.fields.length j3) (.slice o4 c.methods.length j4),36)]) W) q hq=>HF0.out f.at_ W hW.b q hq)
   clear hr1 hr2
   go_upto_region 4 with fail
   go_cut [8] (fun v wc=>v=.pointer (some ⟨wr.heap.size,0,none⟩)∧HB w ((wr.heap.size,arrE ⟨f.at_,.slice g1 f.locals.length i1,.slice g2 f.stack.length i2⟩,114) :: [(w.heap.size+1,arrQ m (.slice a5 n5 k5) (.slice (some ⟨g,0,none⟩) m.frames.length k6),75),(w.heap.size,arrK (.slice o1 c.pool.length j1) c.flags c.name c.super (.slice o2 c.faces.length j2) (.slice o3 c.fields.length j3) (.slice o4 c.methods.length j4),36)]) wc∧Hid (Below wr.heap.size wr wc))
   case first=>
    go_wp2_with fail
    go_meet
    case rel=>exact ⟨rfl,P.add _ _ rfl,hid ((Below.refl _ _).alloc (Nat.le_refl _) _)⟩
   case rest=>
    obtain ⟨rfl,P1,HBB⟩:=hcut
    replace HPV:=hid (fun j (hj:j+1=k)=>(hb_cell HBB.out hgl).trans (HPV.out j hj))
    have hg1:=Nat.lt_of_lt_of_le hgl HBB.out.size
    clear P d0 d1 d2 d3 d4 d5 d6 d7 x0 x1 x2 HBB hgl
    generalize wr.heap.size=n at P1 HK1 HK2 HF ⊢
    have HS:=hid (show frameS (clsC c.pool) m.locals m.deep os f=(atB os f.at_ && decide ((f.locals.length:Int)=m.locals) && decide ((f.stack.length:Int)≤m.deep) && f.locals.all (kindS (clsC c.pool)) && f.stack.all (kindS (clsC c.pool))) from rfl)
    obtain ⟨R,hR⟩:∃ R,Hid (frameS (clsC c.pool) m.locals m.deep os f=R):=⟨_,hid rfl⟩
    rw [hR.out] at HS
    obtain ⟨q1,hq1⟩:∃ q,Hid (atB os f.at_=q):=⟨_,hid rfl⟩
    rw [hq1.out] at HS
    generalize f.locals.all (kindS (clsC c.pool))=q2 at HS HK1
    generalize f.stack.all (kindS (clsC c.pool))=q3 at HS HK2
    obtain ⟨U,hU⟩:∃ U:Bool,Hid (U=true↔∀ j (hj:j+1=k),(m.frames[j]'(by omega)).at_<f.at_):=by
     refine ⟨@decide (∀ j (hj:j+1=k),(m.frames[j]'(by omega)).at_<f.at_) (Classical.propDecidable _),hid ?_⟩
     rw [@decide_eq_true_iff _ (Classical.propDecidable _)]
    go_upto_region 5 with fail
    go_cut [71] (fun v wc=>v=.bool (!(R && U))∧HB w ((n,arrE ⟨f.at_,.slice g1 f.locals.length i1,.slice g2 f.stack.length i2⟩,114) :: [(w.heap.size+1,arrQ m (.slice a5 n5 k5) (.slice (some ⟨g,0,none⟩) m.frames.length k6),75),(w.heap.size,arrK (.slice o1 c.pool.length j1) c.flags c.name c.super (.slice o2 c.faces.length j2) (.slice o3 c.fields.length j3) (.slice o4 c.methods.length j4),36)]) wc)
    case first=>
     have hdr:Below wc.heap.size wc wc.drew:=(Below.refl _ _).drew
     have PD:=P1.keep hdr
     replace HPV:=hid (fun j (hj:j+1=k)=>(hb_cell hdr hg1).trans (HPV.out j hj))
     have hgd:g<wc.drew.heap.size:=Nat.lt_of_lt_of_le hg1 hdr.size
     clear P1 hdr hg1
     obtain ⟨t0,t1,t2⟩:=PD.hd.e3
     obtain ⟨_,_,_,d3,d4,_,_,d7⟩:=PD.tl.hd.q8
     obtain ⟨c0,c1,c2,c3,c4,c5,c6⟩:=PD.tl.tl.hd.k7
     have hF:=HF.out _ PD q1 hq1.out
     by_cases hk0:k=0
     ·have hUt:U=true:=hU.out.2 (fun j hj=>by omega)
      subst hUt
      subst hk0
      refine wp_region_held_drew (S:=(fun w':World=>w'.cell? ⟨w.heap.size,0,none⟩=some (.slice o1 c.pool.length j1)∧w'.cell? ⟨w.heap.size,1,none⟩=some (.int .i64 c.flags)∧w'.cell? ⟨w.heap.size,2,none⟩=some (.int .i64 c.name)∧w'.cell? ⟨w.heap.size,3,none⟩=some (.int .i64 c.super)∧w'.cell? ⟨w.heap.size,4,none⟩=some (.slice o2 c.faces.length j2)∧w'.cell? ⟨w.heap.size,5,none⟩=some (.slice o3 c.fields.length j3)∧w'.cell? ⟨w.heap.size,6,none⟩=some (.slice o4 c.methods.length j4)∧w'.cell? ⟨w.heap.size+1,3,none⟩=some (.int .i64 m.deep)∧w'.cell? ⟨w.heap.size+1,4,none⟩=some (.int .i64 m.locals)∧w'.cell? ⟨w.heap.size+1,7,none⟩=some (.slice (some ⟨g,0,none⟩) m.frames.length k6)∧w'.cell? ⟨n,0,none⟩=some (.int .i64 f.at_)∧w'.cell? ⟨n,1,none⟩=some (.slice g1 f.locals.length i1)∧w'.cell? ⟨n,2,none⟩=some (.slice g2 f.stack.length i2))) (by kernel_rfl) ⟨c0,c1,c2,c3,c4,c5,c6,d3,d4,d7,t0,t1,t2⟩ (fun hHeld=>?_)
      refine tkw 0 ⟨some 21,.move (.tmp 2),163,"l4_check.go:125",#[],none⟩ ?_
      refine tkw 1 ⟨some 22,.fieldAddr 114 (.tmp 8) 0,0,"l4_check.go:125",#[],none⟩ ?_
      refine tkw 2 ⟨some 23,.load 3 (.tmp 22),3,"l4_check.go:125",#[⟨1,.data⟩],none⟩ ?_
      refine wpAnyH_ready (rs:=[3]) (by kernel_rfl) (by simp) ?_
      refine AllReadyH.cons rfl (fun K' hK'=>?_) AllReadyH.nil
      go_simp
      refine (hF).mono ?_
      rintro e w8 ⟨r,rfl,hr,hb⟩
      have P8:=PD.keep hb
      clear PD hb c0 c1 c2 c3 c4 c5 c6 d3 d4 d7 t0 t1 t2
      obtain ⟨t0,t1,t2⟩:=P8.hd.e3
      obtain ⟨_,_,_,d3,d4,_,_,d7⟩:=P8.tl.hd.q8
      obtain ⟨c0,c1,c2,c3,c4,c5,c6⟩:=P8.tl.tl.hd.k7
      refine hK'.out _ _ ⟨c0,c1,c2,c3,c4,c5,c6,d3,d4,d7,t0,t1,t2⟩ (fun hHeld=>?_)
      clear hK' K'
      cases q1 with
      | false=>
       replace hr:r<0:=by simpa using hr
       refine tkw 4 ⟨some 25,.binOp .lss 3 (.tmp 24) (.const (.int .i64 0)) 3,4,"l4_check.go:125",#[⟨3,.data⟩],none⟩ ?_
       refine tkw 5 ⟨some 26,.move (.tmp 25),4,"l4_check.go:125",#[⟨4,.data⟩,⟨3,.chain⟩],none⟩ ?_
       refine wpAnyH_skip (by kernel_rfl) (fun _ _ _ _ h=>h) (by assumption) [(6,27),(7,28),(8,29),(9,30),(10,31),(11,32),(12,33),(13,34),(14,35),(15,36),(16,37),(17,38),(18,39),(19,40)] (by kernel_rfl) ?_
       (try simp only [skipL,skipA,s_p,s_a,s_z,s_s])
       refine tkw 20 ⟨some 41,.pick (.tmp 26) (.const (.bool true)) (.tmp 40),4,"l4_check.go:125",#[⟨5,.data⟩,⟨19,.data⟩],none⟩ ?_
       refine tkw 21 ⟨some 42,.move (.tmp 41),4,"l4_check.go:125",#[⟨20,.data⟩,⟨8,.chain⟩],none⟩ ?_
       refine wpAnyH_skip (by kernel_rfl) (fun _ _ _ _ h=>h) (by assumption) [(22,43),(23,44),(24,45),(25,46),(26,47),(27,48)] (by kernel_rfl) ?_
       (try simp only [skipL,skipA,s_p,s_a,s_z,s_s])
       refine tkw 28 ⟨some 49,.pick (.tmp 42) (.const (.bool true)) (.tmp 48),4,"l4_check.go:125",#[⟨21,.data⟩,⟨27,.data⟩],none⟩ ?_
       refine tkw 29 ⟨some 50,.move (.tmp 49),4,"l4_check.go:125",#[⟨28,.data⟩,⟨21,.chain⟩],none⟩ ?_
       refine wpAnyH_skip (by kernel_rfl) (fun _ _ _ _ h=>h) (by assumption) [(30,51),(31,52),(32,53),(33,54),(34,55),(35,56)] (by kernel_rfl) ?_
       (try simp only [skipL,skipA,s_p,s_a,s_z,s_s])
       refine tkw 36 ⟨some 57,.pick (.tmp 50) (.const (.bool true)) (.tmp 56),4,"l4_check.go:125",#[⟨29,.data⟩,⟨35,.data⟩],none⟩ ?_
       refine tkw 37 ⟨some 58,.move (.tmp 57),4,"l4_check.go:125",#[⟨36,.data⟩,⟨29,.chain⟩],none⟩ ?_
       refine wpAnyH_skip (by kernel_rfl) (fun _ _ _ _ h=>h) (by assumption) [(38,59),(39,60),(40,61),(41,62),(42,63)] (by kernel_rfl) ?_
       (try simp only [skipL,skipA,s_p,s_a,s_z,s_s])
       refine tkw 43 ⟨some 64,.pick (.tmp 58) (.const (.bool true)) (.tmp 63),4,"l4_check.go:125",#[⟨37,.data⟩,⟨42,.data⟩],none⟩ ?_
       refine tkw 44 ⟨some 65,.move (.tmp 64),4,"l4_check.go:125",#[⟨43,.data⟩,⟨41,.chain⟩],none⟩ ?_
       refine wpAnyH_skip (by kernel_rfl) (fun _ _ _ _ h=>h) (by assumption) [(45,66),(46,67),(47,68),(48,69),(49,70)] (by kernel_rfl) ?_
       (try simp only [skipL,skipA,s_p,s_a,s_z,s_s])
       refine tkw 50 ⟨some 71,.pick (.tmp 65) (.const (.bool true)) (.tmp 70),4,"l4_check.go:125",#[⟨44,.data⟩,⟨49,.data⟩],none⟩ ?_
       refine wpAnyH_done (by kernel_rfl) ?_ _
       clear c0 c1 c2 c3 c4 c5 c6 d3 d4 d7 t0 t1 t2
       go_wp2_with fail
       go_meet
       case rel=>exact ⟨by rw [HS.out];simp,P8⟩
      | true=>
      replace hr:¬r<0:=by
       have:0≤r:=by simpa using hr
       omega
      refine tkw 4 ⟨some 25,.binOp .lss 3 (.tmp 24) (.const (.int .i64 0)) 3,4,"l4_check.go:125",#[⟨3,.data⟩],none⟩ ?_
      refine tkw 5 ⟨some 26,.move (.tmp 25),4,"l4_check.go:125",#[⟨4,.data⟩,⟨3,.chain⟩],none⟩ ?_
      refine tkw 6 ⟨some 27,.move (.tmp 7),3,"l4_check.go:125",#[⟨5,.guard⟩],some (5,false)⟩ ?_
      refine tkw 7 ⟨some 28,.binOp .gtr 3 (.tmp 27) (.const (.int .i64 0)) 3,4,"l4_check.go:125",#[⟨6,.data⟩,⟨5,.guard⟩],some (5,false)⟩ ?_
      refine tkw 8 ⟨some 29,.move (.tmp 28),4,"l4_check.go:125",#[⟨7,.data⟩,⟨5,.chain⟩,⟨5,.guard⟩],some (5,false)⟩ ?_
      refine wpAnyH_skip (by kernel_rfl) (fun _ _ _ _ h=>h) (by assumption) [(9,30),(10,31),(11,32),(12,33),(13,34),(14,35),(15,36),(16,37),(17,38),(18,39)] (by kernel_rfl) ?_
      (try simp only [skipL,skipA,s_p,s_a,s_z,s_s])
      refine tkw 19 ⟨some 40,.pick (.tmp 29) (.tmp 39) (.const (.bool false)),4,"l4_check.go:125",#[⟨8,.data⟩,⟨18,.data⟩,⟨5,.guard⟩],some (5,false)⟩ ?_
      refine tkw 20 ⟨some 41,.pick (.tmp 26) (.const (.bool true)) (.tmp 40),4,"l4_check.go:125",#[⟨5,.data⟩,⟨19,.data⟩],none⟩ ?_
      by_cases h1:¬(f.locals.length:Int)=m.locals
      ·have hb1:((f.locals.length:Int)==m.locals)=false:=by simpa using h1
       have hb2:((f.locals.length:Int) != m.locals)=true:=by simpa using h1
       have hd1:decide ((f.locals.length:Int)=m.locals)=false:=by simpa using h1
       rw [hd1] at HS
       refine tkw 21 ⟨some 42,.move (.tmp 41),4,"l4_check.go:125",#[⟨20,.data⟩,⟨8,.chain⟩],none⟩ ?_
       refine tkw 22 ⟨some 43,.fieldAddr 114 (.tmp 8) 1,0,"l4_check.go:125",#[⟨21,.guard⟩],some (21,false)⟩ ?_
       refine tkw 23 ⟨some 44,.load 112 (.tmp 43),112,"l4_check.go:125",#[⟨22,.data⟩,⟨21,.guard⟩],some (21,false)⟩ ?_
       refine tkw 24 ⟨some 45,.call { callee:=.builtin .len,args:=#[.tmp 44],argTypes:=#[112] },3,"l4_check.go:125",#[⟨23,.data⟩,⟨21,.guard⟩],some (21,false)⟩ ?_
       refine tkw 25 ⟨some 46,.fieldAddr 75 (.tmp 4) 4,0,"l4_check.go:125",#[⟨21,.guard⟩],some (21,false)⟩ ?_
       refine tkw 26 ⟨some 47,.load 3 (.tmp 46),3,"l4_check.go:125",#[⟨25,.data⟩,⟨21,.guard⟩],some (21,false)⟩ ?_
       refine tkw 27 ⟨some 48,.binOp .neq 3 (.tmp 45) (.tmp 47) 3,4,"l4_check.go:125",#[⟨24,.data⟩,⟨26,.data⟩,⟨21,.guard⟩],some (21,false)⟩ ?_
       refine tkw 28 ⟨some 49,.pick (.tmp 42) (.const (.bool true)) (.tmp 48),4,"l4_check.go:125",#[⟨21,.data⟩,⟨27,.data⟩],none⟩ ?_
       refine tkw 29 ⟨some 50,.move (.tmp 49),4,"l4_check.go:125",#[⟨28,.data⟩,⟨21,.chain⟩],none⟩ ?_
       refine wpAnyH_skip (by kernel_rfl) (fun _ _ _ _ h=>h) (by assumption) [(30,51),(31,52),(32,53),(33,54),(34,55),(35,56)] (by kernel_rfl) ?_
       (try simp only [skipL,skipA,s_p,s_a,s_z,s_s])
       refine tkw 36 ⟨some 57,.pick (.tmp 50) (.const (.bool true)) (.tmp 56),4,"l4_check.go:125",#[⟨29,.data⟩,⟨35,.data⟩],none⟩ ?_
       refine tkw 37 ⟨some 58,.move (.tmp 57),4,"l4_check.go:125",#[⟨36,.data⟩,⟨29,.chain⟩],none⟩ ?_
       refine wpAnyH_skip (by kernel_rfl) (fun _ _ _ _ h=>h) (by assumption) [(38,59),(39,60),(40,61),(41,62),(42,63)] (by kernel_rfl) ?_
       (try simp only [skipL,skipA,s_p,s_a,s_z,s_s])
       refine tkw 43 ⟨some 64,.pick (.tmp 58) (.const (.bool true)) (.tmp 63),4,"l4_check.go:125",#[⟨37,.data⟩,⟨42,.data⟩],none⟩ ?_
       refine tkw 44 ⟨some 65,.move (.tmp 64),4,"l4_check.go:125",#[⟨43,.data⟩,⟨41,.chain⟩],none⟩ ?_
       refine wpAnyH_skip (by kernel_rfl) (fun _ _ _ _ h=>h) (by assumption) [(45,66),(46,67),(47,68),(48,69),(49,70)] (by kernel_rfl) ?_
       (try simp only [skipL,skipA,s_p,s_a,s_z,s_s])
       refine tkw 50 ⟨some 71,.pick (.tmp 65) (.const (.bool true)) (.tmp 70),4,"l4_check.go:125",#[⟨44,.data⟩,⟨49,.data⟩],none⟩ ?_
       refine wpAnyH_done (by kernel_rfl) ?_ _
       clear c0 c1 c2 c3 c4 c5 c6 d3 d4 d7 t0 t1 t2
       go_wp2_with fail
       go_meet
       case rel=>exact ⟨by rw [HS.out];simp,P8⟩
      replace h1:=Classical.not_not.1 h1
      have hb1:((f.locals.length:Int)==m.locals)=true:=by simpa using h1
      have hb2:((f.locals.length:Int) != m.locals)=false:=by simpa using h1
      have hd1:decide ((f.locals.length:Int)=m.locals)=true:=by simpa using h1
      rw [hd1] at HS
      clear h1 hd1
      refine tkw 21 ⟨some 42,.move (.tmp 41),4,"l4_check.go:125",#[⟨20,.data⟩,⟨8,.chain⟩],none⟩ ?_
      refine tkw 22 ⟨some 43,.fieldAddr 114 (.tmp 8) 1,0,"l4_check.go:125",#[⟨21,.guard⟩],some (21,false)⟩ ?_
      refine tkw 23 ⟨some 44,.load 112 (.tmp 43),112,"l4_check.go:125",#[⟨22,.data⟩,⟨21,.guard⟩],some (21,false)⟩ ?_
      refine tkw 24 ⟨some 45,.call { callee:=.builtin .len,args:=#[.tmp 44],argTypes:=#[112] },3,"l4_check.go:125",#[⟨23,.data⟩,⟨21,.guard⟩],some (21,false)⟩ ?_
      refine tkw 25 ⟨some 46,.fieldAddr 75 (.tmp 4) 4,0,"l4_check.go:125",#[⟨21,.guard⟩],some (21,false)⟩ ?_
      refine tkw 26 ⟨some 47,.load 3 (.tmp 46),3,"l4_check.go:125",#[⟨25,.data⟩,⟨21,.guard⟩],some (21,false)⟩ ?_
      refine tkw 27 ⟨some 48,.binOp .neq 3 (.tmp 45) (.tmp 47) 3,4,"l4_check.go:125",#[⟨24,.data⟩,⟨26,.data⟩,⟨21,.guard⟩],some (21,false)⟩ ?_
      refine tkw 28 ⟨some 49,.pick (.tmp 42) (.const (.bool true)) (.tmp 48),4,"l4_check.go:125",#[⟨21,.data⟩,⟨27,.data⟩],none⟩ ?_
      refine tkw 29 ⟨some 50,.move (.tmp 49),4,"l4_check.go:125",#[⟨28,.data⟩,⟨21,.chain⟩],none⟩ ?_
      by_cases h2:m.deep<(f.stack.length:Int)
      ·have hd2:decide ((f.stack.length:Int)≤m.deep)=false:=by simpa using h2
       rw [hd2] at HS
       refine tkw 30 ⟨some 51,.fieldAddr 114 (.tmp 8) 2,0,"l4_check.go:125",#[⟨29,.guard⟩],some (29,false)⟩ ?_
       refine tkw 31 ⟨some 52,.load 112 (.tmp 51),112,"l4_check.go:125",#[⟨30,.data⟩,⟨29,.guard⟩],some (29,false)⟩ ?_
       refine tkw 32 ⟨some 53,.call { callee:=.builtin .len,args:=#[.tmp 52],argTypes:=#[112] },3,"l4_check.go:125",#[⟨31,.data⟩,⟨29,.guard⟩],some (29,false)⟩ ?_
       refine tkw 33 ⟨some 54,.fieldAddr 75 (.tmp 4) 3,0,"l4_check.go:125",#[⟨29,.guard⟩],some (29,false)⟩ ?_
       refine tkw 34 ⟨some 55,.load 3 (.tmp 54),3,"l4_check.go:125",#[⟨33,.data⟩,⟨29,.guard⟩],some (29,false)⟩ ?_
       refine tkw 35 ⟨some 56,.binOp .gtr 3 (.tmp 53) (.tmp 55) 3,4,"l4_check.go:125",#[⟨32,.data⟩,⟨34,.data⟩,⟨29,.guard⟩],some (29,false)⟩ ?_
       refine tkw 36 ⟨some 57,.pick (.tmp 50) (.const (.bool true)) (.tmp 56),4,"l4_check.go:125",#[⟨29,.data⟩,⟨35,.data⟩],none⟩ ?_
       refine tkw 37 ⟨some 58,.move (.tmp 57),4,"l4_check.go:125",#[⟨36,.data⟩,⟨29,.chain⟩],none⟩ ?_
       refine wpAnyH_skip (by kernel_rfl) (fun _ _ _ _ h=>h) (by assumption) [(38,59),(39,60),(40,61),(41,62),(42,63)] (by kernel_rfl) ?_
       (try simp only [skipL,skipA,s_p,s_a,s_z,s_s])
       refine tkw 43 ⟨some 64,.pick (.tmp 58) (.const (.bool true)) (.tmp 63),4,"l4_check.go:125",#[⟨37,.data⟩,⟨42,.data⟩],none⟩ ?_
       refine tkw 44 ⟨some 65,.move (.tmp 64),4,"l4_check.go:125",#[⟨43,.data⟩,⟨41,.chain⟩],none⟩ ?_
       refine wpAnyH_skip (by kernel_rfl) (fun _ _ _ _ h=>h) (by assumption) [(45,66),(46,67),(47,68),(48,69),(49,70)] (by kernel_rfl) ?_
       (try simp only [skipL,skipA,s_p,s_a,s_z,s_s])
       refine tkw 50 ⟨some 71,.pick (.tmp 65) (.const (.bool true)) (.tmp 70),4,"l4_check.go:125",#[⟨44,.data⟩,⟨49,.data⟩],none⟩ ?_
       refine wpAnyH_done (by kernel_rfl) ?_ _
       clear c0 c1 c2 c3 c4 c5 c6 d3 d4 d7 t0 t1 t2
       go_wp2_with fail
       go_meet
       case rel=>exact ⟨by rw [HS.out];simp,P8⟩
      have hd2:decide ((f.stack.length:Int)≤m.deep)=true:=by simpa using h2
      rw [hd2] at HS
      clear hd2
      refine tkw 30 ⟨some 51,.fieldAddr 114 (.tmp 8) 2,0,"l4_check.go:125",#[⟨29,.guard⟩],some (29,false)⟩ ?_
      refine tkw 31 ⟨some 52,.load 112 (.tmp 51),112,"l4_check.go:125",#[⟨30,.data⟩,⟨29,.guard⟩],some (29,false)⟩ ?_
      refine tkw 32 ⟨some 53,.call { callee:=.builtin .len,args:=#[.tmp 52],argTypes:=#[112] },3,"l4_check.go:125",#[⟨31,.data⟩,⟨29,.guard⟩],some (29,false)⟩ ?_
      refine tkw 33 ⟨some 54,.fieldAddr 75 (.tmp 4) 3,0,"l4_check.go:125",#[⟨29,.guard⟩],some (29,false)⟩ ?_
      refine tkw 34 ⟨some 55,.load 3 (.tmp 54),3,"l4_check.go:125",#[⟨33,.data⟩,⟨29,.guard⟩],some (29,false)⟩ ?_
      refine tkw 35 ⟨some 56,.binOp .gtr 3 (.tmp 53) (.tmp 55) 3,4,"l4_check.go:125",#[⟨32,.data⟩,⟨34,.data⟩,⟨29,.guard⟩],some (29,false)⟩ ?_
      refine tkw 36 ⟨some 57,.pick (.tmp 50) (.const (.bool true)) (.tmp 56),4,"l4_check.go:125",#[⟨29,.data⟩,⟨35,.data⟩],none⟩ ?_
      refine tkw 37 ⟨some 58,.move (.tmp 57),4,"l4_check.go:125",#[⟨36,.data⟩,⟨29,.chain⟩],none⟩ ?_
      refine tkw 38 ⟨some 59,.load 36 (.tmp 3),36,"l4_check.go:125",#[⟨37,.guard⟩],some (37,false)⟩ ?_
      refine tkw 39 ⟨some 60,.fieldAddr 114 (.tmp 8) 1,0,"l4_check.go:125",#[⟨37,.guard⟩],some (37,false)⟩ ?_
      refine tkw 40 ⟨some 61,.load 112 (.tmp 60),112,"l4_check.go:125",#[⟨39,.data⟩,⟨37,.guard⟩],some (37,false)⟩ ?_
      refine wpAnyH_ready (rs:=[41]) (by kernel_rfl) (by simp) ?_
      refine AllReadyH.cons rfl (fun K' hK'=>?_) AllReadyH.nil
      go_simp
      refine (HK1.out _ P8).mono ?_
      rintro e w10 ⟨rfl,hb⟩
      have P10:=P8.keep hb
      clear P8 hb c0 c1 c2 c3 c4 c5 c6 d3 d4 d7 t0 t1 t2
      obtain ⟨t0,t1,t2⟩:=P10.hd.e3
      obtain ⟨_,_,_,d3,d4,_,_,d7⟩:=P10.tl.hd.q8
      obtain ⟨c0,c1,c2,c3,c4,c5,c6⟩:=P10.tl.tl.hd.k7
      refine hK'.out _ _ ⟨c0,c1,c2,c3,c4,c5,c6,d3,d4,d7,t0,t1,t2⟩ (fun hHeld=>?_)
      clear hK' K'
      cases q2 with
      | false=>
       refine tkw 42 ⟨some 63,.unOp .not 4 (.tmp 62),4,"l4_check.go:125",#[⟨41,.data⟩,⟨37,.guard⟩],some (37,false)⟩ ?_
       refine tkw 43 ⟨some 64,.pick (.tmp 58) (.const (.bool true)) (.tmp 63),4,"l4_check.go:125",#[⟨37,.data⟩,⟨42,.data⟩],none⟩ ?_
       refine tkw 44 ⟨some 65,.move (.tmp 64),4,"l4_check.go:125",#[⟨43,.data⟩,⟨41,.chain⟩],none⟩ ?_
       refine wpAnyH_skip (by kernel_rfl) (fun _ _ _ _ h=>h) (by assumption) [(45,66),(46,67),(47,68),(48,69),(49,70)] (by kernel_rfl) ?_
       (try simp only [skipL,skipA,s_p,s_a,s_z,s_s])
       refine tkw 50 ⟨some 71,.pick (.tmp 65) (.const (.bool true)) (.tmp 70),4,"l4_check.go:125",#[⟨44,.data⟩,⟨49,.data⟩],none⟩ ?_
       refine wpAnyH_done (by kernel_rfl) ?_ _
       clear c0 c1 c2 c3 c4 c5 c6 d3 d4 d7 t0 t1 t2
       go_wp2_with fail
       go_meet
       case rel=>exact ⟨by rw [HS.out];simp,P10⟩
      | true=>
      refine tkw 42 ⟨some 63,.unOp .not 4 (.tmp 62),4,"l4_check.go:125",#[⟨41,.data⟩,⟨37,.guard⟩],some (37,false)⟩ ?_
      refine tkw 43 ⟨some 64,.pick (.tmp 58) (.const (.bool true)) (.tmp 63),4,"l4_check.go:125",#[⟨37,.data⟩,⟨42,.data⟩],none⟩ ?_
      refine tkw 44 ⟨some 65,.move (.tmp 64),4,"l4_check.go:125",#[⟨43,.data⟩,⟨41,.chain⟩],none⟩ ?_
      refine tkw 45 ⟨some 66,.load 36 (.tmp 3),36,"l4_check.go:125",#[⟨44,.guard⟩],some (44,false)⟩ ?_
      refine tkw 46 ⟨some 67,.fieldAddr 114 (.tmp 8) 2,0,"l4_check.go:125",#[⟨44,.guard⟩],some (44,false)⟩ ?_
      refine tkw 47 ⟨some 68,.load 112 (.tmp 67),112,"l4_check.go:125",#[⟨46,.data⟩,⟨44,.guard⟩],some (44,false)⟩ ?_
      refine wpAnyH_ready (rs:=[48]) (by kernel_rfl) (by simp) ?_
      refine AllReadyH.cons rfl (fun K' hK'=>?_) AllReadyH.nil
      go_simp
      refine (HK2.out _ P10).mono ?_
      rintro e w11 ⟨rfl,hb⟩
      have P11:=P10.keep hb
      clear P10 hb c0 c1 c2 c3 c4 c5 c6 d3 d4 d7 t0 t1 t2
      obtain ⟨t0,t1,t2⟩:=P11.hd.e3
      obtain ⟨_,_,_,d3,d4,_,_,d7⟩:=P11.tl.hd.q8
      obtain ⟨c0,c1,c2,c3,c4,c5,c6⟩:=P11.tl.tl.hd.k7
      refine hK'.out _ _ ⟨c0,c1,c2,c3,c4,c5,c6,d3,d4,d7,t0,t1,t2⟩ (fun hHeld=>?_)
      clear hK' K'
      refine tkw 49 ⟨some 70,.unOp .not 4 (.tmp 69),4,"l4_check.go:125",#[⟨48,.data⟩,⟨44,.guard⟩],some (44,false)⟩ ?_
      refine tkw 50 ⟨some 71,.pick (.tmp 65) (.const (.bool true)) (.tmp 70),4,"l4_check.go:125",#[⟨44,.data⟩,⟨49,.data⟩],none⟩ ?_
      refine wpAnyH_done (by kernel_rfl) ?_ _
      clear c0 c1 c2 c3 c4 c5 c6 d3 d4 d7 t0 t1 t2
      go_wp2_with fail
      go_meet
      case rel=>exact ⟨by rw [HS.out];simp,P11⟩
     ·obtain ⟨j,rfl⟩:∃ j,k=j+1:=⟨k - 1,by omega⟩
      have e5:=HPV.out j rfl
      have hUj:=hid (show U=true↔(m.frames[j]'(by omega)).at_<f.at_ from hU.out.trans ⟨fun h=>h j rfl,fun h i hi=>by
       have:i=j:=by omega
       subst this
       exact h⟩)
      generalize (m.frames[j]'(by omega)).at_=pa at e5 hUj
      have z0:(0:Int)<(j:Int)+1:=by omega
      have z1:IntKind.i64.wrap (j:Int)=(j:Int):=by rw [IntKind.wrap_i64];omega
      have z2:(j:Int)<(m.frames.length:Int):=by omega
      refine wp_region_held_drew (S:=(fun w':World=>w'.cell? ⟨w.heap.size,0,none⟩=some (.slice o1 c.pool.length j1)∧w'.cell? ⟨w.heap.size,1,none⟩=some (.int .i64 c.flags)∧w'.cell? ⟨w.heap.size,2,none⟩=some (.int .i64 c.name)∧w'.cell? ⟨w.heap.size,3,none⟩=some (.int .i64 c.super)∧w'.cell? ⟨w.heap.size,4,none⟩=some (.slice o2 c.faces.length j2)∧w'.cell? ⟨w.heap.size,5,none⟩=some (.slice o3 c.fields.length j3)∧w'.cell? ⟨w.heap.size,6,none⟩=some (.slice o4 c.methods.length j4)∧w'.cell? ⟨w.heap.size+1,3,none⟩=some (.int .i64 m.deep)∧w'.cell? ⟨w.heap.size+1,4,none⟩=some (.int .i64 m.locals)∧w'.cell? ⟨w.heap.size+1,7,none⟩=some (.slice (some ⟨g,0,none⟩) m.frames.length k6)∧w'.cell? ⟨n,0,none⟩=some (.int .i64 f.at_)∧w'.cell? ⟨n,1,none⟩=some (.slice g1 f.locals.length i1)∧w'.cell? ⟨n,2,none⟩=some (.slice g2 f.stack.length i2)∧w'.cell? ⟨g,j*3,none⟩=some (.int .i64 pa))) (by kernel_rfl) ⟨c0,c1,c2,c3,c4,c5,c6,d3,d4,d7,t0,t1,t2,e5⟩ (fun hHeld=>?_)
      refine tkw 0 ⟨some 21,.move (.tmp 2),163,"l4_check.go:125",#[],none⟩ ?_
      refine tkw 1 ⟨some 22,.fieldAddr 114 (.tmp 8) 0,0,"l4_check.go:125",#[],none⟩ ?_
      refine tkw 2 ⟨some 23,.load 3 (.tmp 22),3,"l4_check.go:125",#[⟨1,.data⟩],none⟩ ?_
      refine wpAnyH_ready (rs:=[3]) (by kernel_rfl) (by simp) ?_
      refine AllReadyH.cons rfl (fun K' hK'=>?_) AllReadyH.nil
      go_simp
      refine (hF).mono ?_
      rintro e w8 ⟨r,rfl,hr,hb⟩
      have P8:=PD.keep hb
      replace e5:=(hb_cell hb hgd).trans e5
      replace hgd:=Nat.lt_of_lt_of_le hgd hb.size
      clear PD hb c0 c1 c2 c3 c4 c5 c6 d3 d4 d7 t0 t1 t2
      obtain ⟨t0,t1,t2⟩:=P8.hd.e3
      obtain ⟨_,_,_,d3,d4,_,_,d7⟩:=P8.tl.hd.q8
      obtain ⟨c0,c1,c2,c3,c4,c5,c6⟩:=P8.tl.tl.hd.k7
      refine hK'.out _ _ ⟨c0,c1,c2,c3,c4,c5,c6,d3,d4,d7,t0,t1,t2,e5⟩ (fun hHeld=>?_)
      clear hK' K'
      cases q1 with
      | false=>
       replace hr:r<0:=by simpa using hr
       refine tkw 4 ⟨some 25,.binOp .lss 3 (.tmp 24) (.const (.int .i64 0)) 3,4,"l4_check.go:125",#[⟨3,.data⟩],none⟩ ?_
       refine tkw 5 ⟨some 26,.move (.tmp 25),4,"l4_check.go:125",#[⟨4,.data⟩,⟨3,.chain⟩],none⟩ ?_
       refine wpAnyH_skip (by kernel_rfl) (fun _ _ _ _ h=>h) (by assumption) [(6,27),(7,28),(8,29),(9,30),(10,31),(11,32),(12,33),(13,34),(14,35),(15,36),(16,37),(17,38),(18,39),(19,40)] (by kernel_rfl) ?_
       (try simp only [skipL,skipA,s_p,s_a,s_z,s_s])
       refine tkw 20 ⟨some 41,.pick (.tmp 26) (.const (.bool true)) (.tmp 40),4,"l4_check.go:125",#[⟨5,.data⟩,⟨19,.data⟩],none⟩ ?_
       refine tkw 21 ⟨some 42,.move (.tmp 41),4,"l4_check.go:125",#[⟨20,.data⟩,⟨8,.chain⟩],none⟩ ?_
       refine wpAnyH_skip (by kernel_rfl) (fun _ _ _ _ h=>h) (by assumption) [(22,43),(23,44),(24,45),(25,46),(26,47),(27,48)] (by kernel_rfl) ?_
       (try simp only [skipL,skipA,s_p,s_a,s_z,s_s])
       refine tkw 28 ⟨some 49,.pick (.tmp 42) (.const (.bool true)) (.tmp 48),4,"l4_check.go:125",#[⟨21,.data⟩,⟨27,.data⟩],none⟩ ?_
       refine tkw 29 ⟨some 50,.move (.tmp 49),4,"l4_check.go:125",#[⟨28,.data⟩,⟨21,.chain⟩],none⟩ ?_
       refine wpAnyH_skip (by kernel_rfl) (fun _ _ _ _ h=>h) (by assumption) [(30,51),(31,52),(32,53),(33,54),(34,55),(35,56)] (by kernel_rfl) ?_
       (try simp only [skipL,skipA,s_p,s_a,s_z,s_s])
       refine tkw 36 ⟨some 57,.pick (.tmp 50) (.const (.bool true)) (.tmp 56),4,"l4_check.go:125",#[⟨29,.data⟩,⟨35,.data⟩],none⟩ ?_
       refine tkw 37 ⟨some 58,.move (.tmp 57),4,"l4_check.go:125",#[⟨36,.data⟩,⟨29,.chain⟩],none⟩ ?_
       refine wpAnyH_skip (by kernel_rfl) (fun _ _ _ _ h=>h) (by assumption) [(38,59),(39,60),(40,61),(41,62),(42,63)] (by kernel_rfl) ?_
       (try simp only [skipL,skipA,s_p,s_a,s_z,s_s])
       refine tkw 43 ⟨some 64,.pick (.tmp 58) (.const (.bool true)) (.tmp 63),4,"l4_check.go:125",#[⟨37,.data⟩,⟨42,.data⟩],none⟩ ?_
       refine tkw 44 ⟨some 65,.move (.tmp 64),4,"l4_check.go:125",#[⟨43,.data⟩,⟨41,.chain⟩],none⟩ ?_
       refine wpAnyH_skip (by kernel_rfl) (fun _ _ _ _ h=>h) (by assumption) [(45,66),(46,67),(47,68),(48,69),(49,70)] (by kernel_rfl) ?_
       (try simp only [skipL,skipA,s_p,s_a,s_z,s_s])
       refine tkw 50 ⟨some 71,.pick (.tmp 65) (.const (.bool true)) (.tmp 70),4,"l4_check.go:125",#[⟨44,.data⟩,⟨49,.data⟩],none⟩ ?_
       refine wpAnyH_done (by kernel_rfl) ?_ _
       clear c0 c1 c2 c3 c4 c5 c6 d3 d4 d7 t0 t1 t2
       go_wp2_with fail
       go_meet
       case rel=>exact ⟨by rw [HS.out];simp,P8⟩
      | true=>
      replace hr:¬r<0:=by
       have:0≤r:=by simpa using hr
       omega
      by_cases hpa:f.at_≤pa
      ·have hUf:U=false:=by
        cases hu:U with
        | false=>rfl
        | true=>have:=hUj.out.1 hu;omega
       subst hUf
       refine tkw 4 ⟨some 25,.binOp .lss 3 (.tmp 24) (.const (.int .i64 0)) 3,4,"l4_check.go:125",#[⟨3,.data⟩],none⟩ ?_
       refine tkw 5 ⟨some 26,.move (.tmp 25),4,"l4_check.go:125",#[⟨4,.data⟩,⟨3,.chain⟩],none⟩ ?_
       refine tkw 6 ⟨some 27,.move (.tmp 7),3,"l4_check.go:125",#[⟨5,.guard⟩],some (5,false)⟩ ?_
       refine tkw 7 ⟨some 28,.binOp .gtr 3 (.tmp 27) (.const (.int .i64 0)) 3,4,"l4_check.go:125",#[⟨6,.data⟩,⟨5,.guard⟩],some (5,false)⟩ ?_
       refine tkw 8 ⟨some 29,.move (.tmp 28),4,"l4_check.go:125",#[⟨7,.data⟩,⟨5,.chain⟩,⟨5,.guard⟩],some (5,false)⟩ ?_
       refine tkw 9 ⟨some 30,.fieldAddr 114 (.tmp 8) 0,0,"l4_check.go:125",#[⟨8,.guard⟩],some (8,true)⟩ ?_
       refine tkw 10 ⟨some 31,.load 3 (.tmp 30),3,"l4_check.go:125",#[⟨9,.data⟩,⟨8,.guard⟩],some (8,true)⟩ ?_
       refine tkw 11 ⟨some 32,.fieldAddr 75 (.tmp 4) 7,0,"l4_check.go:125",#[⟨8,.guard⟩],some (8,true)⟩ ?_
       refine tkw 12 ⟨some 33,.load 73 (.tmp 32),73,"l4_check.go:125",#[⟨11,.data⟩,⟨8,.guard⟩],some (8,true)⟩ ?_
       refine tkw 13 ⟨some 34,.move (.tmp 7),3,"l4_check.go:125",#[⟨8,.guard⟩],some (8,true)⟩ ?_
       refine tkw 14 ⟨some 35,.binOp .sub 3 (.tmp 34) (.const (.int .i64 1)) 3,3,"l4_check.go:125",#[⟨13,.data⟩,⟨8,.guard⟩],some (8,true)⟩ ?_
       refine tkw 15 ⟨some 36,.indexAddr 73 (.tmp 33) (.tmp 35),0,"l4_check.go:125",#[⟨12,.data⟩,⟨14,.data⟩,⟨8,.guard⟩],some (8,true)⟩ ?_
       refine tkw 16 ⟨some 37,.fieldAddr 114 (.tmp 36) 0,0,"l4_check.go:125",#[⟨15,.data⟩,⟨8,.guard⟩],some (8,true)⟩ ?_
       refine tkw 17 ⟨some 38,.load 3 (.tmp 37),3,"l4_check.go:125",#[⟨16,.data⟩,⟨8,.guard⟩],some (8,true)⟩ ?_
       refine tkw 18 ⟨some 39,.binOp .leq 3 (.tmp 31) (.tmp 38) 3,4,"l4_check.go:125",#[⟨10,.data⟩,⟨17,.data⟩,⟨8,.guard⟩],some (8,true)⟩ ?_
       refine tkw 19 ⟨some 40,.pick (.tmp 29) (.tmp 39) (.const (.bool false)),4,"l4_check.go:125",#[⟨8,.data⟩,⟨18,.data⟩,⟨5,.guard⟩],some (5,false)⟩ ?_
       refine tkw 20 ⟨some 41,.pick (.tmp 26) (.const (.bool true)) (.tmp 40),4,"l4_check.go:125",#[⟨5,.data⟩,⟨19,.data⟩],none⟩ ?_
       refine tkw 21 ⟨some 42,.move (.tmp 41),4,"l4_check.go:125",#[⟨20,.data⟩,⟨8,.chain⟩],none⟩ ?_
       refine wpAnyH_skip (by kernel_rfl) (fun _ _ _ _ h=>h) (by assumption) [(22,43),(23,44),(24,45),(25,46),(26,47),(27,48)] (by kernel_rfl) ?_
       (try simp only [skipL,skipA,s_p,s_a,s_z,s_s])
       refine tkw 28 ⟨some 49,.pick (.tmp 42) (.const (.bool true)) (.tmp 48),4,"l4_check.go:125",#[⟨21,.data⟩,⟨27,.data⟩],none⟩ ?_
       refine tkw 29 ⟨some 50,.move (.tmp 49),4,"l4_check.go:125",#[⟨28,.data⟩,⟨21,.chain⟩],none⟩ ?_
       refine wpAnyH_skip (by kernel_rfl) (fun _ _ _ _ h=>h) (by assumption) [(30,51),(31,52),(32,53),(33,54),(34,55),(35,56)] (by kernel_rfl) ?_
       (try simp only [skipL,skipA,s_p,s_a,s_z,s_s])
       refine tkw 36 ⟨some 57,.pick (.tmp 50) (.const (.bool true)) (.tmp 56),4,"l4_check.go:125",#[⟨29,.data⟩,⟨35,.data⟩],none⟩ ?_
       refine tkw 37 ⟨some 58,.move (.tmp 57),4,"l4_check.go:125",#[⟨36,.data⟩,⟨29,.chain⟩],none⟩ ?_
       refine wpAnyH_skip (by kernel_rfl) (fun _ _ _ _ h=>h) (by assumption) [(38,59),(39,60),(40,61),(41,62),(42,63)] (by kernel_rfl) ?_
       (try simp only [skipL,skipA,s_p,s_a,s_z,s_s])
       refine tkw 43 ⟨some 64,.pick (.tmp 58) (.const (.bool true)) (.tmp 63),4,"l4_check.go:125",#[⟨37,.data⟩,⟨42,.data⟩],none⟩ ?_
       refine tkw 44 ⟨some 65,.move (.tmp 64),4,"l4_check.go:125",#[⟨43,.data⟩,⟨41,.chain⟩],none⟩ ?_
       refine wpAnyH_skip (by kernel_rfl) (fun _ _ _ _ h=>h) (by assumption) [(45,66),(46,67),(47,68),(48,69),(49,70)] (by kernel_rfl) ?_
       (try simp only [skipL,skipA,s_p,s_a,s_z,s_s])
       refine tkw 50 ⟨some 71,.pick (.tmp 65) (.const (.bool true)) (.tmp 70),4,"l4_check.go:125",#[⟨44,.data⟩,⟨49,.data⟩],none⟩ ?_
       refine wpAnyH_done (by kernel_rfl) ?_ _
       clear c0 c1 c2 c3 c4 c5 c6 d3 d4 d7 t0 t1 t2
       go_wp2_with fail
       go_meet
       case rel=>exact ⟨by simp,P8⟩
      have hUt:U=true:=hUj.out.2 (by omega)
      subst hUt
      refine tkw 4 ⟨some 25,.binOp .lss 3 (.tmp 24) (.const (.int .i64 0)) 3,4,"l4_check.go:125",#[⟨3,.data⟩],none⟩ ?_
      refine tkw 5 ⟨some 26,.move (.tmp 25),4,"l4_check.go:125",#[⟨4,.data⟩,⟨3,.chain⟩],none⟩ ?_
      refine tkw 6 ⟨some 27,.move (.tmp 7),3,"l4_check.go:125",#[⟨5,.guard⟩],some (5,false)⟩ ?_
      refine tkw 7 ⟨some 28,.binOp .gtr 3 (.tmp 27) (.const (.int .i64 0)) 3,4,"l4_check.go:125",#[⟨6,.data⟩,⟨5,.guard⟩],some (5,false)⟩ ?_
      refine tkw 8 ⟨some 29,.move (.tmp 28),4,"l4_check.go:125",#[⟨7,.data⟩,⟨5,.chain⟩,⟨5,.guard⟩],some (5,false)⟩ ?_
      refine tkw 9 ⟨some 30,.fieldAddr 114 (.tmp 8) 0,0,"l4_check.go:125",#[⟨8,.guard⟩],some (8,true)⟩ ?_
      refine tkw 10 ⟨some 31,.load 3 (.tmp 30),3,"l4_check.go:125",#[⟨9,.data⟩,⟨8,.guard⟩],some (8,true)⟩ ?_
      refine tkw 11 ⟨some 32,.fieldAddr 75 (.tmp 4) 7,0,"l4_check.go:125",#[⟨8,.guard⟩],some (8,true)⟩ ?_
      refine tkw 12 ⟨some 33,.load 73 (.tmp 32),73,"l4_check.go:125",#[⟨11,.data⟩,⟨8,.guard⟩],some (8,true)⟩ ?_
      refine tkw 13 ⟨some 34,.move (.tmp 7),3,"l4_check.go:125",#[⟨8,.guard⟩],some (8,true)⟩ ?_
      refine tkw 14 ⟨some 35,.binOp .sub 3 (.tmp 34) (.const (.int .i64 1)) 3,3,"l4_check.go:125",#[⟨13,.data⟩,⟨8,.guard⟩],some (8,true)⟩ ?_
      refine tkw 15 ⟨some 36,.indexAddr 73 (.tmp 33) (.tmp 35),0,"l4_check.go:125",#[⟨12,.data⟩,⟨14,.data⟩,⟨8,.guard⟩],some (8,true)⟩ ?_
      refine tkw 16 ⟨some 37,.fieldAddr 114 (.tmp 36) 0,0,"l4_check.go:125",#[⟨15,.data⟩,⟨8,.guard⟩],some (8,true)⟩ ?_
      refine tkw 17 ⟨some 38,.load 3 (.tmp 37),3,"l4_check.go:125",#[⟨16,.data⟩,⟨8,.guard⟩],some (8,true)⟩ ?_
      refine tkw 18 ⟨some 39,.binOp .leq 3 (.tmp 31) (.tmp 38) 3,4,"l4_check.go:125",#[⟨10,.data⟩,⟨17,.data⟩,⟨8,.guard⟩],some (8,true)⟩ ?_
      refine tkw 19 ⟨some 40,.pick (.tmp 29) (.tmp 39) (.const (.bool false)),4,"l4_check.go:125",#[⟨8,.data⟩,⟨18,.data⟩,⟨5,.guard⟩],some (5,false)⟩ ?_
      refine tkw 20 ⟨some 41,.pick (.tmp 26) (.const (.bool true)) (.tmp 40),4,"l4_check.go:125",#[⟨5,.data⟩,⟨19,.data⟩],none⟩ ?_
      by_cases h1:¬(f.locals.length:Int)=m.locals
      ·have hb1:((f.locals.length:Int)==m.locals)=false:=by simpa using h1
       have hb2:((f.locals.length:Int) != m.locals)=true:=by simpa using h1
       have hd1:decide ((f.locals.length:Int)=m.locals)=false:=by simpa using h1
       rw [hd1] at HS
       refine tkw 21 ⟨some 42,.move (.tmp 41),4,"l4_check.go:125",#[⟨20,.data⟩,⟨8,.chain⟩],none⟩ ?_
       refine tkw 22 ⟨some 43,.fieldAddr 114 (.tmp 8) 1,0,"l4_check.go:125",#[⟨21,.guard⟩],some (21,false)⟩ ?_
       refine tkw 23 ⟨some 44,.load 112 (.tmp 43),112,"l4_check.go:125",#[⟨22,.data⟩,⟨21,.guard⟩],some (21,false)⟩ ?_
       refine tkw 24 ⟨some 45,.call { callee:=.builtin .len,args:=#[.tmp 44],argTypes:=#[112] },3,"l4_check.go:125",#[⟨23,.data⟩,⟨21,.guard⟩],some (21,false)⟩ ?_
       refine tkw 25 ⟨some 46,.fieldAddr 75 (.tmp 4) 4,0,"l4_check.go:125",#[⟨21,.guard⟩],some (21,false)⟩ ?_
       refine tkw 26 ⟨some 47,.load 3 (.tmp 46),3,"l4_check.go:125",#[⟨25,.data⟩,⟨21,.guard⟩],some (21,false)⟩ ?_
       refine tkw 27 ⟨some 48,.binOp .neq 3 (.tmp 45) (.tmp 47) 3,4,"l4_check.go:125",#[⟨24,.data⟩,⟨26,.data⟩,⟨21,.guard⟩],some (21,false)⟩ ?_
       refine tkw 28 ⟨some 49,.pick (.tmp 42) (.const (.bool true)) (.tmp 48),4,"l4_check.go:125",#[⟨21,.data⟩,⟨27,.data⟩],none⟩ ?_
       refine tkw 29 ⟨some 50,.move (.tmp 49),4,"l4_check.go:125",#[⟨28,.data⟩,⟨21,.chain⟩],none⟩ ?_
       refine wpAnyH_skip (by kernel_rfl) (fun _ _ _ _ h=>h) (by assumption) [(30,51),(31,52),(32,53),(33,54),(34,55),(35,56)] (by kernel_rfl) ?_
       (try simp only [skipL,skipA,s_p,s_a,s_z,s_s])
       refine tkw 36 ⟨some 57,.pick (.tmp 50) (.const (.bool true)) (.tmp 56),4,"l4_check.go:125",#[⟨29,.data⟩,⟨35,.data⟩],none⟩ ?_
       refine tkw 37 ⟨some 58,.move (.tmp 57),4,"l4_check.go:125",#[⟨36,.data⟩,⟨29,.chain⟩],none⟩ ?_
       refine wpAnyH_skip (by kernel_rfl) (fun _ _ _ _ h=>h) (by assumption) [(38,59),(39,60),(40,61),(41,62),(42,63)] (by kernel_rfl) ?_
       (try simp only [skipL,skipA,s_p,s_a,s_z,s_s])
       refine tkw 43 ⟨some 64,.pick (.tmp 58) (.const (.bool true)) (.tmp 63),4,"l4_check.go:125",#[⟨37,.data⟩,⟨42,.data⟩],none⟩ ?_
       refine tkw 44 ⟨some 65,.move (.tmp 64),4,"l4_check.go:125",#[⟨43,.data⟩,⟨41,.chain⟩],none⟩ ?_
       refine wpAnyH_skip (by kernel_rfl) (fun _ _ _ _ h=>h) (by assumption) [(45,66),(46,67),(47,68),(48,69),(49,70)] (by kernel_rfl) ?_
       (try simp only [skipL,skipA,s_p,s_a,s_z,s_s])
       refine tkw 50 ⟨some 71,.pick (.tmp 65) (.const (.bool true)) (.tmp 70),4,"l4_check.go:125",#[⟨44,.data⟩,⟨49,.data⟩],none⟩ ?_
       refine wpAnyH_done (by kernel_rfl) ?_ _
       clear c0 c1 c2 c3 c4 c5 c6 d3 d4 d7 t0 t1 t2
       go_wp2_with fail
       go_meet
       case rel=>exact ⟨by rw [HS.out];simp,P8⟩
      replace h1:=Classical.not_not.1 h1
      have hb1:((f.locals.length:Int)==m.locals)=true:=by simpa using h1
      have hb2:((f.locals.length:Int) != m.locals)=false:=by simpa using h1
      have hd1:decide ((f.locals.length:Int)=m.locals)=true:=by simpa using h1
      rw [hd1] at HS
      clear h1 hd1
      refine tkw 21 ⟨some 42,.move (.tmp 41),4,"l4_check.go:125",#[⟨20,.data⟩,⟨8,.chain⟩],none⟩ ?_
      refine tkw 22 ⟨some 43,.fieldAddr 114 (.tmp 8) 1,0,"l4_check.go:125",#[⟨21,.guard⟩],some (21,false)⟩ ?_
      refine tkw 23 ⟨some 44,.load 112 (.tmp 43),112,"l4_check.go:125",#[⟨22,.data⟩,⟨21,.guard⟩],some (21,false)⟩ ?_
      refine tkw 24 ⟨some 45,.call { callee:=.builtin .len,args:=#[.tmp 44],argTypes:=#[112] },3,"l4_check.go:125",#[⟨23,.data⟩,⟨21,.guard⟩],some (21,false)⟩ ?_
      refine tkw 25 ⟨some 46,.fieldAddr 75 (.tmp 4) 4,0,"l4_check.go:125",#[⟨21,.guard⟩],some (21,false)⟩ ?_
      refine tkw 26 ⟨some 47,.load 3 (.tmp 46),3,"l4_check.go:125",#[⟨25,.data⟩,⟨21,.guard⟩],some (21,false)⟩ ?_
      refine tkw 27 ⟨some 48,.binOp .neq 3 (.tmp 45) (.tmp 47) 3,4,"l4_check.go:125",#[⟨24,.data⟩,⟨26,.data⟩,⟨21,.guard⟩],some (21,false)⟩ ?_
      refine tkw 28 ⟨some 49,.pick (.tmp 42) (.const (.bool true)) (.tmp 48),4,"l4_check.go:125",#[⟨21,.data⟩,⟨27,.data⟩],none⟩ ?_
      refine tkw 29 ⟨some 50,.move (.tmp 49),4,"l4_check.go:125",#[⟨28,.data⟩,⟨21,.chain⟩],none⟩ ?_
      by_cases h2:m.deep<(f.stack.length:Int)
      ·have hd2:decide ((f.stack.length:Int)≤m.deep)=false:=by simpa using h2
       rw [hd2] at HS
       refine tkw 30 ⟨some 51,.fieldAddr 114 (.tmp 8) 2,0,"l4_check.go:125",#[⟨29,.guard⟩],some (29,false)⟩ ?_
       refine tkw 31 ⟨some 52,.load 112 (.tmp 51),112,"l4_check.go:125",#[⟨30,.data⟩,⟨29,.guard⟩],some (29,false)⟩ ?_
       refine tkw 32 ⟨some 53,.call { callee:=.builtin .len,args:=#[.tmp 52],argTypes:=#[112] },3,"l4_check.go:125",#[⟨31,.data⟩,⟨29,.guard⟩],some (29,false)⟩ ?_
       refine tkw 33 ⟨some 54,.fieldAddr 75 (.tmp 4) 3,0,"l4_check.go:125",#[⟨29,.guard⟩],some (29,false)⟩ ?_
       refine tkw 34 ⟨some 55,.load 3 (.tmp 54),3,"l4_check.go:125",#[⟨33,.data⟩,⟨29,.guard⟩],some (29,false)⟩ ?_
       refine tkw 35 ⟨some 56,.binOp .gtr 3 (.tmp 53) (.tmp 55) 3,4,"l4_check.go:125",#[⟨32,.data⟩,⟨34,.data⟩,⟨29,.guard⟩],some (29,false)⟩ ?_
       refine tkw 36 ⟨some 57,.pick (.tmp 50) (.const (.bool true)) (.tmp 56),4,"l4_check.go:125",#[⟨29,.data⟩,⟨35,.data⟩],none⟩ ?_
       refine tkw 37 ⟨some 58,.move (.tmp 57),4,"l4_check.go:125",#[⟨36,.data⟩,⟨29,.chain⟩],none⟩ ?_
       refine wpAnyH_skip (by kernel_rfl) (fun _ _ _ _ h=>h) (by assumption) [(38,59),(39,60),(40,61),(41,62),(42,63)] (by kernel_rfl) ?_
       (try simp only [skipL,skipA,s_p,s_a,s_z,s_s])
       refine tkw 43 ⟨some 64,.pick (.tmp 58) (.const (.bool true)) (.tmp 63),4,"l4_check.go:125",#[⟨37,.data⟩,⟨42,.data⟩],none⟩ ?_
       refine tkw 44 ⟨some 65,.move (.tmp 64),4,"l4_check.go:125",#[⟨43,.data⟩,⟨41,.chain⟩],none⟩ ?_
       refine wpAnyH_skip (by kernel_rfl) (fun _ _ _ _ h=>h) (by assumption) [(45,66),(46,67),(47,68),(48,69),(49,70)] (by kernel_rfl) ?_
       (try simp only [skipL,skipA,s_p,s_a,s_z,s_s])
       refine tkw 50 ⟨some 71,.pick (.tmp 65) (.const (.bool true)) (.tmp 70),4,"l4_check.go:125",#[⟨44,.data⟩,⟨49,.data⟩],none⟩ ?_
       refine wpAnyH_done (by kernel_rfl) ?_ _
       clear c0 c1 c2 c3 c4 c5 c6 d3 d4 d7 t0 t1 t2
       go_wp2_with fail
       go_meet
       case rel=>exact ⟨by rw [HS.out];simp,P8⟩
      have hd2:decide ((f.stack.length:Int)≤m.deep)=true:=by simpa using h2
      rw [hd2] at HS
      clear hd2
      refine tkw 30 ⟨some 51,.fieldAddr 114 (.tmp 8) 2,0,"l4_check.go:125",#[⟨29,.guard⟩],some (29,false)⟩ ?_
      refine tkw 31 ⟨some 52,.load 112 (.tmp 51),112,"l4_check.go:125",#[⟨30,.data⟩,⟨29,.guard⟩],some (29,false)⟩ ?_
      refine tkw 32 ⟨some 53,.call { callee:=.builtin .len,args:=#[.tmp 52],argTypes:=#[112] },3,"l4_check.go:125",#[⟨31,.data⟩,⟨29,.guard⟩],some (29,false)⟩ ?_
      refine tkw 33 ⟨some 54,.fieldAddr 75 (.tmp 4) 3,0,"l4_check.go:125",#[⟨29,.guard⟩],some (29,false)⟩ ?_
      refine tkw 34 ⟨some 55,.load 3 (.tmp 54),3,"l4_check.go:125",#[⟨33,.data⟩,⟨29,.guard⟩],some (29,false)⟩ ?_
      refine tkw 35 ⟨some 56,.binOp .gtr 3 (.tmp 53) (.tmp 55) 3,4,"l4_check.go:125",#[⟨32,.data⟩,⟨34,.data⟩,⟨29,.guard⟩],some (29,false)⟩ ?_
      refine tkw 36 ⟨some 57,.pick (.tmp 50) (.const (.bool true)) (.tmp 56),4,"l4_check.go:125",#[⟨29,.data⟩,⟨35,.data⟩],none⟩ ?_
      refine tkw 37 ⟨some 58,.move (.tmp 57),4,"l4_check.go:125",#[⟨36,.data⟩,⟨29,.chain⟩],none⟩ ?_
      refine tkw 38 ⟨some 59,.load 36 (.tmp 3),36,"l4_check.go:125",#[⟨37,.guard⟩],some (37,false)⟩ ?_
      refine tkw 39 ⟨some 60,.fieldAddr 114 (.tmp 8) 1,0,"l4_check.go:125",#[⟨37,.guard⟩],some (37,false)⟩ ?_
      refine tkw 40 ⟨some 61,.load 112 (.tmp 60),112,"l4_check.go:125",#[⟨39,.data⟩,⟨37,.guard⟩],some (37,false)⟩ ?_
      refine wpAnyH_ready (rs:=[41]) (by kernel_rfl) (by simp) ?_
      refine AllReadyH.cons rfl (fun K' hK'=>?_) AllReadyH.nil
      go_simp
      refine (HK1.out _ P8).mono ?_
      rintro e w10 ⟨rfl,hb⟩
      have P10:=P8.keep hb
      replace e5:=(hb_cell hb hgd).trans e5
      replace hgd:=Nat.lt_of_lt_of_le hgd hb.size
      clear P8 hb c0 c1 c2 c3 c4 c5 c6 d3 d4 d7 t0 t1 t2
      obtain ⟨t0,t1,t2⟩:=P10.hd.e3
      obtain ⟨_,_,_,d3,d4,_,_,d7⟩:=P10.tl.hd.q8
      obtain ⟨c0,c1,c2,c3,c4,c5,c6⟩:=P10.tl.tl.hd.k7
      refine hK'.out _ _ ⟨c0,c1,c2,c3,c4,c5,c6,d3,d4,d7,t0,t1,t2,e5⟩ (fun hHeld=>?_)
      clear hK' K'
      cases q2 with
      | false=>
       refine tkw 42 ⟨some 63,.unOp .not 4 (.tmp 62),4,"l4_check.go:125",#[⟨41,.data⟩,⟨37,.guard⟩],some (37,false)⟩ ?_
       refine tkw 43 ⟨some 64,.pick (.tmp 58) (.const (.bool true)) (.tmp 63),4,"l4_check.go:125",#[⟨37,.data⟩,⟨42,.data⟩],none⟩ ?_
       refine tkw 44 ⟨some 65,.move (.tmp 64),4,"l4_check.go:125",#[⟨43,.data⟩,⟨41,.chain⟩],none⟩ ?_
       refine wpAnyH_skip (by kernel_rfl) (fun _ _ _ _ h=>h) (by assumption) [(45,66),(46,67),(47,68),(48,69),(49,70)] (by kernel_rfl) ?_
       (try simp only [skipL,skipA,s_p,s_a,s_z,s_s])
       refine tkw 50 ⟨some 71,.pick (.tmp 65) (.const (.bool true)) (.tmp 70),4,"l4_check.go:125",#[⟨44,.data⟩,⟨49,.data⟩],none⟩ ?_
       refine wpAnyH_done (by kernel_rfl) ?_ _
       clear c0 c1 c2 c3 c4 c5 c6 d3 d4 d7 t0 t1 t2
       go_wp2_with fail
       go_meet
       case rel=>exact ⟨by rw [HS.out];simp,P10⟩
      | true=>
      refine tkw 42 ⟨some 63,.unOp .not 4 (.tmp 62),4,"l4_check.go:125",#[⟨41,.data⟩,⟨37,.guard⟩],some (37,false)⟩ ?_
      refine tkw 43 ⟨some 64,.pick (.tmp 58) (.const (.bool true)) (.tmp 63),4,"l4_check.go:125",#[⟨37,.data⟩,⟨42,.data⟩],none⟩ ?_
      refine tkw 44 ⟨some 65,.move (.tmp 64),4,"l4_check.go:125",#[⟨43,.data⟩,⟨41,.chain⟩],none⟩ ?_
      refine tkw 45 ⟨some 66,.load 36 (.tmp 3),36,"l4_check.go:125",#[⟨44,.guard⟩],some (44,false)⟩ ?_
      refine tkw 46 ⟨some 67,.fieldAddr 114 (.tmp 8) 2,0,"l4_check.go:125",#[⟨44,.guard⟩],some (44,false)⟩ ?_
      refine tkw 47 ⟨some 68,.load 112 (.tmp 67),112,"l4_check.go:125",#[⟨46,.data⟩,⟨44,.guard⟩],some (44,false)⟩ ?_
      refine wpAnyH_ready (rs:=[48]) (by kernel_rfl) (by simp) ?_
      refine AllReadyH.cons rfl (fun K' hK'=>?_) AllReadyH.nil
      go_simp
      refine (HK2.out _ P10).mono ?_
      rintro e w11 ⟨rfl,hb⟩
      have P11:=P10.keep hb
      replace e5:=(hb_cell hb hgd).trans e5
      replace hgd:=Nat.lt_of_lt_of_le hgd hb.size
      clear P10 hb c0 c1 c2 c3 c4 c5 c6 d3 d4 d7 t0 t1 t2
      obtain ⟨t0,t1,t2⟩:=P11.hd.e3
      obtain ⟨_,_,_,d3,d4,_,_,d7⟩:=P11.tl.hd.q8
      obtain ⟨c0,c1,c2,c3,c4,c5,c6⟩:=P11.tl.tl.hd.k7
      refine hK'.out _ _ ⟨c0,c1,c2,c3,c4,c5,c6,d3,d4,d7,t0,t1,t2,e5⟩ (fun hHeld=>?_)
      clear hK' K'
      refine tkw 49 ⟨some 70,.unOp .not 4 (.tmp 69),4,"l4_check.go:125",#[⟨48,.data⟩,⟨44,.guard⟩],some (44,false)⟩ ?_
      refine tkw 50 ⟨some 71,.pick (.tmp 65) (.const (.bool true)) (.tmp 70),4,"l4_check.go:125",#[⟨44,.data⟩,⟨49,.data⟩],none⟩ ?_
      refine wpAnyH_done (by kernel_rfl) ?_ _
      clear c0 c1 c2 c3 c4 c5 c6 d3 d4 d7 t0 t1 t2
      go_wp2_with fail
      go_meet
      case rel=>exact ⟨by rw [HS.out];simp,P11⟩
    case rest=>
     obtain ⟨rfl,P2⟩:=hcut
     clear P1 HK1 HK2 HF HS HPV hq1
     have HB2:=hid P2.b
     cases hru:(R && U) with
     | false=>
      have HN:=hid (show ¬((∀ i (h:i<m.frames.length),frameS (clsC c.pool) m.locals m.deep os m.frames[i]=true)∧ascF m.frames) from fun h=>by
       have h1:=h.1 k hlt
       rw [HX.out,hR.out] at h1
       have h2:U=true:=hU.out.2 (fun j hj=>by
        subst hj
        have:=h.2 j hlt
        rw [HX.out] at this
        exact this)
       rw [h1,h2] at hru
       cases hru)
      clear P2 hru
      go_wp2
      go_ret
      first|exact ⟨false,rfl,⟨fun h=>(by cases h),fun h=>absurd h HN.out⟩,HB2.out⟩|exact .inl ⟨rfl,HN.out,HB2.out⟩
     | true=>
      have HE':=hid (show ∀ a (h:a<m.frames.length),a<k+1→frameS (clsC c.pool) m.locals m.deep os m.frames[a]=true from fun a h h2=>by
       simp only [Bool.and_eq_true] at hru
       by_cases e:a=k
       ·subst e;rw [HX.out,hR.out];exact hru.1
       ·exact HE.out a h (by omega))
      have HU':=hid (show ∀ a (h:a+1<m.frames.length),a+1<k+1→m.frames[a].at_<m.frames[a+1].at_ from fun a h h2=>by
       simp only [Bool.and_eq_true] at hru
       by_cases e:a+1=k
       ·subst e
        rw [HX.out]
        exact hU.out.1 hru.2 a rfl
       ·exact HU.out a h (by omega))
      clear HE HU hru
      go_wp2
      go_roundw
      case rel=>exact ⟨k+1,by omega,by go_num,HE',HU',P2.tl⟩
      case measure=>simp [intOf];omega
  ·have HY:=hid (show (∀ i (h:i<m.frames.length),frameS (clsC c.pool) m.locals m.deep os m.frames[i]=true)∧ascF m.frames from ⟨fun a h=>HE.out a h (by omega),fun a h=>HU.out a h (by omega)⟩)
   have HB:=hid P.b
   clear HE HU P
   go_wp2
   go_ret
   first|exact ⟨true,rfl,⟨fun _=>HY.out,fun _=>rfl⟩,HB.out⟩|exact .inr ⟨rfl,HY.out,HB.out⟩
end Go.Proofs.YtecbcdfkedocbaaGreatDoor
