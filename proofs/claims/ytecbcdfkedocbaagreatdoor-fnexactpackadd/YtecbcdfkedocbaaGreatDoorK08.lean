/- Gathered: ChkFieldB ChkFieldS. -/
import Derived.Test.YtecbcdfkedocbaaGreatDoorK01
import Derived.Test.YtecbcdfkedocbaaGreatDoorG01
namespace Go.Proofs.YtecbcdfkedocbaaGreatDoor
open Mx Go.RowKit
set_option maxHeartbeats 2000000
set_option maxRecDepth 20000
set_option linter.unusedVariables false
structure fieldsI (c:MClass):Prop where
 e:∀ i (h:i<c.fields.length),fieldI c c.fields[i]
 u:∀ i (h:i<c.fields.length) j (hj:j<i),¬rawT c.pool (c.fields[j]'(by omega)).name=rawT c.pool c.fields[i].name
theorem fieldQ_ex (c:MClass):∃ q:Nat→Bool,∀ k (h:k<c.fields.length),(q k=true↔fieldI c c.fields[k]):=
 ⟨fun k=>@decide (∀ h:k<c.fields.length,fieldI c c.fields[k]) (Classical.propDecidable _),fun k h=>by
  rw [@decide_eq_true_iff _ (Classical.propDecidable _)]
  exact ⟨fun g=>g h,fun g _=>g⟩⟩
theorem fieldFn_any (c:MClass) (f:MField) (vp vi vf vm:Value) (B n:Nat) (w:World) (hc:c.few) (h:ClassW w B vp vi vf vm c) (hk:Lk w n (arrK vp c.flags c.name c.super vi vf vm) 36) :
  Calls Tryz.prog 135 #[.agg #[.int .i64 f.flags,.int .i64 f.name,.int .i64 f.typ],.pointer (some ⟨n,0,none⟩)] w fun e w'=>∃ b:Bool,e=.returned (.bool b)∧(b=true↔fieldI c f)∧Below w.heap.size w w':=by
 have hbo:=(Below.refl w.heap.size w).alloc (Nat.le_refl _) (.cells #[.int .i64 f.flags,.int .i64 f.name,.int .i64 f.typ] 79)
 have hC:=fieldFine_any c f vp vi vf vm B _ hc (h.keep hbo)
 have hlt:=hk.lt
 have hne:¬n=w.heap.size:=by omega
 obtain ⟨o1,j1,hv1⟩:=own_len h.p
 obtain ⟨o2,j2,hv2⟩:=own_len h.i
 obtain ⟨o3,j3,hv3⟩:=own_len h.f
 obtain ⟨o4,j4,hv4⟩:=h.m.len
 subst hv1 hv2 hv3 hv4
 obtain ⟨c0,c1,c2,c3,c4,c5,c6⟩:=hk.k7
 have HO:=hid hbo
 clear hbo h hk
 go_enter Tryz.func135,Tryz.ntmps135
 go_wp2_with fail
 refine hC.mono ?_
 rintro e w1 ⟨b,rfl,hb,hb1⟩
 have HB:=hid (HO.out.trans (hb1.mono HO.out.size))
 have HR:=hid hb
 clear hb1 hC HO hb c0 c1 c2 c3 c4 c5 c6
 go_wp2
 go_ret
 exact ⟨b,rfl,HR.out,HB.out⟩
theorem fieldKey_any (vp:Value) (ts:List C4) (f:MField) (n:Nat) (w:World) (hl:ts.length≤1048576) (hp:PoolW w vp ts) (hc:w.cell? ⟨n,0,none⟩=some vp) (hlt:n<w.heap.size) :
  Calls Tryz.prog 137 #[.agg #[.int .i64 f.flags,.int .i64 f.name,.int .i64 f.typ],.pointer (some ⟨n,0,none⟩)] w fun e w'=>e=.returned (.string (rawT ts f.name))∧Below w.heap.size w w':=by
 have hbo:=(Below.refl w.heap.size w).alloc (Nat.le_refl _) (.cells #[.int .i64 f.flags,.int .i64 f.name,.int .i64 f.typ] 79)
 have hC:=nameTextAt_any vp ts f.name _ hl (hp.keep hbo)
 have hne:¬n=w.heap.size:=by omega
 obtain ⟨ao,cap,rfl⟩:=hp.len
 generalize rawT ts f.name=q at hC ⊢
 have HO:=hid hbo
 clear hp hbo
 go_enter Tryz.func137,Tryz.ntmps137
 go_wp2_with fail
 refine hC.mono ?_
 rintro e w1 ⟨rfl,hb1⟩
 have HB:=hid (HO.out.trans (hb1.mono HO.out.size))
 clear hb1 hC HO
 go_wp2
 go_ret
 exact ⟨rfl,HB.out⟩
theorem checkFields_any (c:MClass) (vp vi vf vm:Value) (B:Nat) (w:World) (hc:c.few) (h:ClassW w B vp vi vf vm c) :
  Calls Tryz.prog 95 #[.agg #[vp,.int .i64 c.flags,.int .i64 c.name,.int .i64 c.super,vi,vf,vm]] w fun e w'=>∃ b:Bool,e=.returned (errV b 4)∧(b=true↔fieldsI c)∧Below w.heap.size w w':=by
 obtain ⟨o1,j1,hv1⟩:=own_len h.p
 obtain ⟨o2,j2,hv2⟩:=own_len h.i
 obtain ⟨o3,j3,hv3⟩:=own_len h.f
 obtain ⟨o4,j4,hv4⟩:=h.m.len
 subst hv1 hv2 hv3 hv4
 have P0:=CB.start w (arrK (.slice o1 c.pool.length j1) c.flags c.name c.super (.slice o2 c.faces.length j2) (.slice o3 c.fields.length j3) (.slice o4 c.methods.length j4))
 obtain ⟨q,hq⟩:=fieldQ_ex c
 have hPW:PoolW w (.slice o1 c.pool.length j1) c.pool:=⟨B,h.p⟩
 have hA:=fun W (hW:CB w (arrK (.slice o1 c.pool.length j1) c.flags c.name c.super (.slice o2 c.faces.length j2) (.slice o3 c.fields.length j3) (.slice o4 c.methods.length j4)) W)=>allField_any (.pointer (some ⟨w.heap.size,0,none⟩)) (.slice o3 c.fields.length j3) c.fields B q W hc.fields (own_below h.f hW.b) (fun k hk W' hW'=>by
  have P:=hW.keep hW'
  refine (fieldFn_any c c.fields[k] _ _ _ _ B w.heap.size W' hc (h.keep P.b) P.k).mono ?_
  rintro e w1 ⟨b,rfl,hb,hb1⟩
  refine ⟨ret_bool ?_,hb1⟩
  rw [Bool.eq_iff_iff,hb,hq k hk])
 have hU:=fun W (hW:CB w (arrK (.slice o1 c.pool.length j1) c.flags c.name c.super (.slice o2 c.faces.length j2) (.slice o3 c.fields.length j3) (.slice o4 c.methods.length j4)) W)=>unlikeD_any (fun f=>rawT c.pool f.name) (.pointer (some ⟨w.heap.size,0,none⟩)) (.slice o3 c.fields.length j3) c.fields B W hc.fields (own_below h.f hW.b) (fun x W' hW'=>by
  have P:=hW.keep hW'
  exact fieldKey_any (.slice o1 c.pool.length j1) c.pool x w.heap.size W' hc.pool (hPW.keep P.b) P.k.k7.1 P.k.lt)
 have hmf:∀ (fn:Fn) (first cap:Array Value) (w:World),(Instr.makeFunc fn first cap).run Tryz.prog w=.ok (.func fn first cap) w:=fun _ _ _ _=>rfl
 have HA:=hid hA
 have HU:=hid hU
 have HQ:=hid hq
 clear h hc hA hU hq hPW
 go_enter Tryz.func95,Tryz.ntmps95
 go_wp2_with fail
 refine (HA.out _ P0).mono ?_
 rintro e w1 ⟨b1,rfl,r1,hb1⟩
 have P1:=P0.keep hb1
 have R1:=hid r1
 clear P0 hb1 r1 HA
 obtain ⟨c0,c1,c2,c3,c4,c5,c6⟩:=P1.k.k7
 have HB1:=hid P1.b
 cases b1 with
 | false=>
  have HN:=hid (show ¬fieldsI c from fun h=>by have:=R1.out.2 (fun k hk=>(HQ.out k hk).2 (h.e k hk));cases this)
  clear R1 P1 HU HQ
  go_wp2_with (go_at_call 131;refine (formUnless_any _ _ _).mono ?_;rintro e w5 ⟨rfl,hb5⟩;have HB5:=hid (HB1.out.trans (hb5.mono HB1.out.size));clear hb5)
  go_ret
  exact ⟨false,rfl,⟨fun h=>(by cases h),fun h=>absurd h HN.out⟩,HB5.out⟩
 | true=>
  replace R1:=hid (R1.out.1 rfl)
  go_wp2_with fail
  refine (HU.out _ P1).mono ?_
  rintro e w2 ⟨b2,rfl,r2,hb2⟩
  have R2:=hid (show b2=true↔fieldsI c from r2.trans ⟨fun h=>⟨fun k hk=>(HQ.out k hk).1 (R1.out k hk),h⟩,fun h=>h.u⟩)
  have HB2:=hid (HB1.out.trans (hb2.mono HB1.out.size))
  clear P1 hb2 r2 HU R1 HB1 HQ c0 c1 c2 c3 c4 c5 c6
  go_wp2_with (go_at_call 131;refine (formUnless_any _ _ _).mono ?_;rintro e w5 ⟨rfl,hb5⟩;have HB5:=hid (HB2.out.trans (hb5.mono HB2.out.size));clear hb5)
  go_ret
  exact ⟨b2,rfl,R2.out,HB5.out⟩
set_option maxHeartbeats 4000000
structure FB (n:Nat) (t:MField) (W:World):Prop where
 k:Lk W n #[.int .i64 t.flags,.int .i64 t.name,.int .i64 t.typ] 79
theorem FB.keep {n:Nat} {t:MField} {W W':World} (h:FB n t W) (hb:Below W.heap.size W W'):FB n t W':=⟨h.k.keep hb⟩
theorem l4Fields_any (c:MClass) (vp vi vf vm:Value) (B:Nat) (w:World) (hc:c.few) (h0:0≤c.flags) (h255:c.flags≤255) (h:ClassW w B vp vi vf vm c) :
  Calls Tryz.prog 75 #[.agg #[vp,.int .i64 c.flags,.int .i64 c.name,.int .i64 c.super,vi,vf,vm]] w fun e w'=>∃ b:Bool,e=.returned (.bool b)∧(b=true↔fieldsP c)∧Below w.heap.size w w':=by
 obtain ⟨o1,j1,hv1⟩:=own_len h.p
 obtain ⟨o2,j2,hv2⟩:=own_len h.i
 obtain ⟨o3,j3,hv3⟩:=own_len h.f
 obtain ⟨o4,j4,hv4⟩:=h.m.len
 subst hv1 hv2 hv3 hv4
 have P0:=CB.start w (arrK (.slice o1 c.pool.length j1) c.flags c.name c.super (.slice o2 c.faces.length j2) (.slice o3 c.fields.length j3) (.slice o4 c.methods.length j4))
 have hfl:=hc.fields
 have hPW:PoolW w (.slice o1 c.pool.length j1) c.pool:=⟨B,h.p⟩
 have HT:=hid (fun x W (hW:CB w (arrK (.slice o1 c.pool.length j1) c.flags c.name c.super (.slice o2 c.faces.length j2) (.slice o3 c.fields.length j3) (.slice o4 c.methods.length j4)) W)=>l2Text_any (.slice o1 c.pool.length j1) c.pool x W hc.pool (hPW.keep hW.b))
 have HI:=hid h.f
 have HZ:=hid (fun x=>txtC_small hc.texts x)
 have hH:=fun W=>l4Has_any c.flags 1 W h0 h255 (by simp)
 obtain ⟨q4,hq4⟩:∃ q,Hid (bitB c.flags 1=q):=⟨_,hid rfl⟩
 rw [hq4.out] at hH
 clear h hc hPW h0 h255
 go_enter Tryz.func75,Tryz.ntmps75
 go_wp2_with fail
 go_loopw [3] (fun i wr=>∃ (k:Nat),k≤c.fields.length∧i=.int .i64 k∧Hid (∀ a (h:a<c.fields.length),a<k→fieldP c c.fields[a])∧Hid (∀ i (h:i<c.fields.length) j (hj:j<i),i<k→¬txtC c.pool (c.fields[j]'(by omega)).name=txtC c.pool c.fields[i].name)∧CB w (arrK (.slice o1 c.pool.length j1) c.flags c.name c.super (.slice o2 c.faces.length j2) (.slice o3 c.fields.length j3) (.slice o4 c.methods.length j4)) wr) (fun i _=>c.fields.length - (intOf i).toNat)
 case atStart=>exact ⟨0,by omega,rfl,fun a _ h=>by omega,fun i hi j hj h=>by omega,P0⟩
 case round=>
  obtain ⟨k,hk,rfl,HE,HU,P⟩:=hrel
  clear P0
  obtain ⟨c0,c1,c2,c3,c4,c5,c6⟩:=P.k.k7
  by_cases hlt:k<c.fields.length
  ·obtain ⟨g,hg⟩:=own_some HI.out (by omega)
   subst hg
   obtain ⟨g0,g1,g2⟩:=ownField_at (own_below HI.out P.b) hlt
   generalize hX:c.fields[k]=x at g0 g1 g2
   have HX:=hid hX
   clear hX
   go_upto_region 4 with fail
   go_cut [4] (fun v wc=>v=.pointer (some ⟨wr.heap.size,0,none⟩)∧FB wr.heap.size x wc∧CB w (arrK (.slice o1 c.pool.length j1) c.flags c.name c.super (.slice o2 c.faces.length j2) (.slice (some ⟨g,0,none⟩) c.fields.length j3) (.slice o4 c.methods.length j4)) wc)
   case first=>
    go_wp2_with fail
    go_meet
    case rel=>exact ⟨rfl,⟨Lk.new _ _ _⟩,P.keep ((Below.refl _ _).alloc (Nat.le_refl _) _)⟩
   case rest=>
    obtain ⟨rfl,Q1,P1⟩:=hcut
    clear P c0 c1 c2 c3 c4 c5 c6 g0 g1 g2
    generalize wr.heap.size=n at Q1 ⊢
    have z1:=HZ.out x.name
    have z2:=HZ.out x.typ
    have hN:=fun W=>l2Name_any (txtC c.pool x.name) W (by unfold maxLen;omega)
    have hTy:=fun W=>l2Type_any (txtC c.pool x.typ) W (by omega)
    have hI3:=fun W=>l1InI_any x.flags 0 3 W
    have hT1:=HT.out x.name _ P1
    obtain ⟨q1,hq1⟩:∃ q,Hid (nameC c.pool x.name=q):=⟨_,hid rfl⟩
    obtain ⟨q2,hq2⟩:∃ q,Hid (typeC c.pool x.typ=q):=⟨_,hid rfl⟩
    obtain ⟨q3,hq3⟩:∃ q,Hid (inI x.flags 0 3=q):=⟨_,hid rfl⟩
    rw [name_txt,hq1.out] at hN
    rw [type_txt,hq2.out] at hTy
    rw [hq3.out] at hI3
    clear z1 z2
    generalize hsN:txtC c.pool x.name=sN at hN hT1
    have HSN:=hid hsN
    clear hsN
    obtain ⟨c0,c1,c2,c3,c4,c5,c6⟩:=P1.k.k7
    obtain ⟨d0,d1,d2⟩:=Q1.k.f3
    go_wp2_with fail
    refine hT1.mono ?_
    rintro e w2 ⟨rfl,hb2⟩
    have P2:=P1.keep hb2
    have Q2:=Q1.keep hb2
    clear P1 Q1 hb2 hT1 c0 c1 c2 c3 c4 c5 c6 d0 d1 d2
    obtain ⟨c0,c1,c2,c3,c4,c5,c6⟩:=P2.k.k7
    obtain ⟨d0,d1,d2⟩:=Q2.k.f3
    have HB2:=hid P2.b
    cases q1 with
    | false=>
     have HN:=hid (show ¬fieldsP c from fun h=>by have:=(h.e k hlt).nm;rw [HX.out,hq1.out] at this;cases this)
     clear P2 Q2 HT HI
     go_wp2_with (first|(go_at_call 78;refine (hN _).mono ?_;rintro e w20 ⟨rfl,hw⟩;replace hw:=hw.symm;subst hw)|(go_at_call 79;refine (hTy _).mono ?_;rintro e w21 ⟨rfl,hw⟩;replace hw:=hw.symm;subst hw)|(go_at_call 84;refine (hI3 _).mono ?_;rintro e w22 ⟨rfl,hw⟩;replace hw:=hw.symm;subst hw)|(go_at_call 115;refine (hH _).mono ?_;rintro e w23 ⟨rfl,hw⟩;replace hw:=hw.symm;subst hw))
     go_ret
     first|exact ⟨false,rfl,⟨fun h=>(by cases h),fun h=>absurd h HN.out⟩,HB2.out⟩|exact .inl ⟨rfl,HN.out,HB2.out⟩
    | true=>
    have hT2:=HT.out x.typ _ P2
    generalize txtC c.pool x.typ=sT at hTy hT2
    go_wp2_with (first|(go_at_call 78;refine (hN _).mono ?_;rintro e w20 ⟨rfl,hw⟩;replace hw:=hw.symm;subst hw)|(go_at_call 79;refine (hTy _).mono ?_;rintro e w21 ⟨rfl,hw⟩;replace hw:=hw.symm;subst hw)|(go_at_call 84;refine (hI3 _).mono ?_;rintro e w22 ⟨rfl,hw⟩;replace hw:=hw.symm;subst hw)|(go_at_call 115;refine (hH _).mono ?_;rintro e w23 ⟨rfl,hw⟩;replace hw:=hw.symm;subst hw))
    refine hT2.mono ?_
    rintro e w3 ⟨rfl,hb3⟩
    have P3:=P2.keep hb3
    have Q3:=Q2.keep hb3
    clear P2 Q2 hb3 hT2 c0 c1 c2 c3 c4 c5 c6 d0 d1 d2 HB2
    obtain ⟨c0,c1,c2,c3,c4,c5,c6⟩:=P3.k.k7
    obtain ⟨d0,d1,d2⟩:=Q3.k.f3
    have HB3:=hid P3.b
    by_cases hall:q2=true∧q3=true∧(q4=true→x.flags=1)
    case neg=>
     have HN:=hid (show ¬fieldsP c from fun h=>by
      have hh:=h.e k hlt
      rw [HX.out] at hh
      exact hall ⟨by rw [← hq2.out];exact hh.ty,by rw [← hq3.out];exact hh.fl,by rw [← hq4.out];exact hh.fa⟩)
     clear P3 Q3 HT HI HZ HE HU HX HSN hq1 hq2 hq3 hq4
     cases q2 with
     | false=>
      clear hall
      go_wp2_with (first|(go_at_call 79;refine (hTy _).mono ?_;rintro e w21 ⟨rfl,hw⟩;replace hw:=hw.symm;subst hw)|(go_at_call 84;refine (hI3 _).mono ?_;rintro e w22 ⟨rfl,hw⟩;replace hw:=hw.symm;subst hw)|(go_at_call 115;refine (hH _).mono ?_;rintro e w23 ⟨rfl,hw⟩;replace hw:=hw.symm;subst hw))
      go_ret
      first|exact ⟨false,rfl,⟨fun h=>(by cases h),fun h=>absurd h HN.out⟩,HB3.out⟩|exact .inl ⟨rfl,HN.out,HB3.out⟩
     | true=>
     cases q3 with
     | false=>
      clear hall
      go_wp2_with (first|(go_at_call 79;refine (hTy _).mono ?_;rintro e w21 ⟨rfl,hw⟩;replace hw:=hw.symm;subst hw)|(go_at_call 84;refine (hI3 _).mono ?_;rintro e w22 ⟨rfl,hw⟩;replace hw:=hw.symm;subst hw)|(go_at_call 115;refine (hH _).mono ?_;rintro e w23 ⟨rfl,hw⟩;replace hw:=hw.symm;subst hw))
      go_ret
      first|exact ⟨false,rfl,⟨fun h=>(by cases h),fun h=>absurd h HN.out⟩,HB3.out⟩|exact .inl ⟨rfl,HN.out,HB3.out⟩
     | true=>
     cases q4 with
     | false=>exact absurd ⟨rfl,rfl,fun h=>(by cases h)⟩ hall
     | true=>
      have hx1:¬x.flags=1:=fun h=>hall ⟨rfl,rfl,fun _=>h⟩
      clear hall
      go_wp2_with (first|(go_at_call 79;refine (hTy _).mono ?_;rintro e w21 ⟨rfl,hw⟩;replace hw:=hw.symm;subst hw)|(go_at_call 84;refine (hI3 _).mono ?_;rintro e w22 ⟨rfl,hw⟩;replace hw:=hw.symm;subst hw)|(go_at_call 115;refine (hH _).mono ?_;rintro e w23 ⟨rfl,hw⟩;replace hw:=hw.symm;subst hw))
      go_ret
      first|exact ⟨false,rfl,⟨fun h=>(by cases h),fun h=>absurd h HN.out⟩,HB3.out⟩|exact .inl ⟨rfl,HN.out,HB3.out⟩
    case pos=>
     obtain ⟨rfl,rfl,hfa⟩:=hall
     have HE':=hid (show ∀ a (h:a<c.fields.length),a<k+1→fieldP c c.fields[a] from fun a h h2=>by
      by_cases e:a=k
      ·subst e;rw [HX.out];exact ⟨hq1.out,hq2.out,hq3.out,by rw [hq4.out];exact hfa⟩
      ·exact HE.out a h (by omega))
     clear HE hq1 hq2 hq3
     go_upto_region 7 with (first|(go_at_call 79;refine (hTy _).mono ?_;rintro e w21 ⟨rfl,hw⟩;replace hw:=hw.symm;subst hw)|(go_at_call 84;refine (hI3 _).mono ?_;rintro e w22 ⟨rfl,hw⟩;replace hw:=hw.symm;subst hw)|(go_at_call 115;refine (hH _).mono ?_;rintro e w23 ⟨rfl,hw⟩;replace hw:=hw.symm;subst hw))
     go_cut [47] (fun v wc=>v=.bool false∧FB n x wc∧CB w (arrK (.slice o1 c.pool.length j1) c.flags c.name c.super (.slice o2 c.faces.length j2) (.slice (some ⟨g,0,none⟩) c.fields.length j3) (.slice o4 c.methods.length j4)) wc)
     case first=>
      cases q4 with
      | true=>
       have hx1:=hfa rfl
       clear hfa
       go_wp2_with (first|(go_at_call 79;refine (hTy _).mono ?_;rintro e w21 ⟨rfl,hw⟩;replace hw:=hw.symm;subst hw)|(go_at_call 84;refine (hI3 _).mono ?_;rintro e w22 ⟨rfl,hw⟩;replace hw:=hw.symm;subst hw)|(go_at_call 115;refine (hH _).mono ?_;rintro e w23 ⟨rfl,hw⟩;replace hw:=hw.symm;subst hw))
       go_meet
       case rel=>exact ⟨by first|rfl|simp [hx1],Q3,P3⟩
      | false=>
       clear hfa
       go_wp2_with (first|(go_at_call 79;refine (hTy _).mono ?_;rintro e w21 ⟨rfl,hw⟩;replace hw:=hw.symm;subst hw)|(go_at_call 84;refine (hI3 _).mono ?_;rintro e w22 ⟨rfl,hw⟩;replace hw:=hw.symm;subst hw)|(go_at_call 115;refine (hH _).mono ?_;rintro e w23 ⟨rfl,hw⟩;replace hw:=hw.symm;subst hw))
       go_meet
       case rel=>exact ⟨rfl,Q3,P3⟩
     case rest=>
     obtain ⟨rfl,Q4,P4⟩:=hcut
     clear P3 Q3 c0 c1 c2 c3 c4 c5 c6 d0 d1 d2 HB3 hfa hN hTy hI3
     go_upto_region 10 with fail
     go_loopw [5] (fun j wd=>∃ (m:Nat),m≤k∧j=.int .i64 m∧Hid (∀ b (hb:b<c.fields.length),b<m→¬txtC c.pool c.fields[b].name=sN)∧FB n x wd∧CB w (arrK (.slice o1 c.pool.length j1) c.flags c.name c.super (.slice o2 c.faces.length j2) (.slice (some ⟨g,0,none⟩) c.fields.length j3) (.slice o4 c.methods.length j4)) wd) (fun j _=>k - (intOf j).toNat)
     case atStart=>exact ⟨0,by omega,rfl,fun b hb h=>by omega,Q4,P4⟩
     case round=>
      obtain ⟨m,hm,rfl,HM,Q5,P5⟩:=hrel
      clear P4 Q4
      obtain ⟨c0,c1,c2,c3,c4,c5,c6⟩:=P5.k.k7
      obtain ⟨d0,d1,d2⟩:=Q5.k.f3
      by_cases hmk:m<k
      ·have hml:m<c.fields.length:=by omega
       obtain ⟨g0,g1,g2⟩:=ownField_at (own_below HI.out P5.b) hml
       generalize hY:c.fields[m]=y at g0 g1 g2
       have HY:=hid hY
       have z4:(m:Int)<(c.fields.length:Int):=by omega
       have hTy:=fun W (hW:CB w (arrK (.slice o1 c.pool.length j1) c.flags c.name c.super (.slice o2 c.faces.length j2) (.slice (some ⟨g,0,none⟩) c.fields.length j3) (.slice o4 c.methods.length j4)) W)=>HT.out y.name W hW
       have hTx:=fun W (hW:CB w (arrK (.slice o1 c.pool.length j1) c.flags c.name c.super (.slice o2 c.faces.length j2) (.slice (some ⟨g,0,none⟩) c.fields.length j3) (.slice o4 c.methods.length j4)) W)=>HT.out x.name W hW
       rw [HSN.out] at hTx
       generalize hsy:txtC c.pool y.name=sy at hTy
       have HSY:=hid hsy
       clear hY hsy
       obtain ⟨q,hq⟩:∃ q,(sy.toList==sN.toList)=q:=⟨_,rfl⟩
       have HP5:=hid P5
       have HQ5:=hid Q5
       have hgl:=((own_below HI.out P5.b).lt g rfl).2
       have hnl:=Q5.k.lt
       clear P5 Q5
       go_upto_region 12 with fail
       go_cut [67] (fun v wc=>v=.bool q∧FB n x wc∧CB w (arrK (.slice o1 c.pool.length j1) c.flags c.name c.super (.slice o2 c.faces.length j2) (.slice (some ⟨g,0,none⟩) c.fields.length j3) (.slice o4 c.methods.length j4)) wc)
       case first=>
        have hdr:Below wr.heap.size wr wr.drew:=(Below.refl _ _).drew
        have PD:=HP5.out.keep hdr
        have QD:=HQ5.out.keep hdr
        obtain ⟨e0,_,_,_,_,e5,_⟩:=PD.k.k7
        obtain ⟨_,e1,_⟩:=QD.k.f3
        have e8:=(hb_cell hdr hgl).trans g1
        have hgd:g<wr.drew.heap.size:=Nat.lt_of_lt_of_le hgl hdr.size
        clear HP5 HQ5 c0 c1 c2 c3 c4 c5 c6 d0 d1 d2 g0 g1 g2 hdr hgl hnl
        refine wp_region_held_drew (S:=(fun w':World=>w'.cell? ⟨w.heap.size,0,none⟩=some (.slice o1 c.pool.length j1)∧w'.cell? ⟨w.heap.size,5,none⟩=some (.slice (some ⟨g,0,none⟩) c.fields.length j3)∧w'.cell? ⟨n,1,none⟩=some (.int .i64 x.name)∧w'.cell? ⟨g,m*3+1,none⟩=some (.int .i64 y.name))) (by kernel_rfl) ⟨e0,e5,e1,e8⟩ (fun hHeld=>?_)
        refine tkw 0 ⟨some 53,.fieldAddr 36 (.tmp 1) 0,0,"l4_check.go:42",#[],none⟩ ?_
        refine tkw 1 ⟨some 54,.load 32 (.tmp 53),32,"l4_check.go:42",#[⟨0,.data⟩],none⟩ ?_
        refine tkw 2 ⟨some 55,.fieldAddr 36 (.tmp 1) 5,0,"l4_check.go:42",#[],none⟩ ?_
        refine tkw 3 ⟨some 56,.load 33 (.tmp 55),33,"l4_check.go:42",#[⟨2,.data⟩],none⟩ ?_
        refine tkw 4 ⟨some 57,.move (.tmp 5),3,"l4_check.go:42",#[],none⟩ ?_
        refine tkw 5 ⟨some 58,.indexAddr 33 (.tmp 56) (.tmp 57),0,"l4_check.go:42",#[⟨3,.data⟩,⟨4,.data⟩],none⟩ ?_
        refine tkw 6 ⟨some 59,.fieldAddr 79 (.tmp 58) 1,0,"l4_check.go:42",#[⟨5,.data⟩],none⟩ ?_
        refine tkw 7 ⟨some 60,.load 3 (.tmp 59),3,"l4_check.go:42",#[⟨6,.data⟩],none⟩ ?_
        refine tkw 9 ⟨some 62,.fieldAddr 36 (.tmp 1) 0,0,"l4_check.go:42",#[],none⟩ ?_
        refine tkw 10 ⟨some 63,.load 32 (.tmp 62),32,"l4_check.go:42",#[⟨9,.data⟩],none⟩ ?_
        refine tkw 11 ⟨some 64,.fieldAddr 79 (.tmp 4) 1,0,"l4_check.go:42",#[],none⟩ ?_
        refine tkw 12 ⟨some 65,.load 3 (.tmp 64),3,"l4_check.go:42",#[⟨11,.data⟩],none⟩ ?_
        refine wpAnyH_ready (rs:=[8]) (by kernel_rfl) (by simp) ?_
        refine AllReadyH.cons rfl (fun K' hK'=>?_) AllReadyH.nil
        go_simp
        refine (hTy _ PD).mono ?_
        rintro e w8 ⟨rfl,hb8⟩
        have P8:=PD.keep hb8
        have Q8:=QD.keep hb8
        obtain ⟨f0,_,_,_,_,f5,_⟩:=P8.k.k7
        obtain ⟨_,f1,_⟩:=Q8.k.f3
        have f8:=(hb_cell hb8 hgd).trans e8
        have hg8:=Nat.lt_of_lt_of_le hgd hb8.size
        refine hK'.out _ _ ⟨f0,f5,f1,f8⟩ (fun hHeld=>?_)
        clear hK' K' hb8 PD QD e0 e5 e1 e8 hTy hgd
        refine wpAnyH_ready (rs:=[13]) (by kernel_rfl) (by simp) ?_
        refine AllReadyH.cons rfl (fun K' hK'=>?_) AllReadyH.nil
        go_simp
        refine (hTx _ P8).mono ?_
        rintro e w9 ⟨rfl,hb9⟩
        have P9:=P8.keep hb9
        have Q9:=Q8.keep hb9
        obtain ⟨e0,_,_,_,_,e5,_⟩:=P9.k.k7
        obtain ⟨_,e1,_⟩:=Q9.k.f3
        have e8:=(hb_cell hb9 hg8).trans f8
        refine hK'.out _ _ ⟨e0,e5,e1,e8⟩ (fun hHeld=>?_)
        clear hK' K' hb9 P8 Q8 f0 f5 f1 f8 hg8
        refine tkw 14 ⟨some 67,.binOp .eql 9 (.tmp 61) (.tmp 66) 9,4,"l4_check.go:42",#[⟨8,.data⟩,⟨13,.data⟩],none⟩ ?_
        refine wpAnyH_done (by kernel_rfl) ?_ _
        go_wp2_with fail
        go_meet
        case rel=>exact ⟨by first|rfl|rw [hq],Q9,P9⟩
       case rest=>
        obtain ⟨rfl,Q6,P6⟩:=hcut
        clear HP5 HQ5 c0 c1 c2 c3 c4 c5 c6 d0 d1 d2 g0 g1 g2 hTy hTx hgl hnl
        have HB6:=hid P6.b
        cases q with
        | true=>
         have HN:=hid (show ¬fieldsP c from fun h=>by
          refine h.u k hlt m hmk ?_
          show txtC c.pool c.fields[m].name=txtC c.pool c.fields[k].name
          rw [HX.out,HY.out,HSN.out,HSY.out]
          exact text_eq.1 hq)
         clear P6 Q6 HT HI
         go_wp2
         go_ret
         first|exact ⟨false,rfl,⟨fun h=>(by cases h),fun h=>absurd h HN.out⟩,HB6.out⟩|exact .inl ⟨rfl,HN.out,HB6.out⟩
        | false=>
         have HM':=hid (show ∀ b (hb:b<c.fields.length),b<m+1→¬txtC c.pool c.fields[b].name=sN from fun b hb h=>by
          by_cases e:b=m
          ·subst e
           rw [HY.out,HSY.out]
           intro h'
           rw [text_eq.2 h'] at hq
           cases hq
          ·exact HM.out b hb (by omega))
         clear HM hq
         go_wp2
         go_roundw
         case rel=>exact ⟨m+1,by omega,by go_num,HM',Q6,P6⟩
         case measure=>simp [intOf];omega
      ·have HU':=hid (show ∀ i (h:i<c.fields.length) j (hj:j<i),i<k+1→¬txtC c.pool (c.fields[j]'(by omega)).name=txtC c.pool c.fields[i].name from fun i hi j hj h=>by
        by_cases e:i=k
        ·subst e
         rw [HX.out,HSN.out]
         exact HM.out j (by omega) (by omega)
        ·exact HU.out i hi j hj (by omega))
       clear HU HM
       go_wp2
       go_roundw
       case rel=>exact ⟨k+1,by omega,by go_num,HE',HU',P5⟩
       case measure=>simp [intOf];omega
  ·have HY:=hid (show fieldsP c from ⟨fun a h=>HE.out a h (by omega),fun i hi j hj=>HU.out i hi j hj (by omega)⟩)
   have HB:=hid P.b
   clear HE HU P
   go_wp2
   go_ret
   first|exact ⟨true,rfl,⟨fun _=>HY.out,fun _=>rfl⟩,HB.out⟩|exact .inr ⟨rfl,HY.out,HB.out⟩
end Go.Proofs.YtecbcdfkedocbaaGreatDoor
