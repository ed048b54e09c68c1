/- Gathered: AnyFrame ChkAsc AnyIns AnyTrap AnyCode. -/
import Derived.Test.YtecbcdfkedocbaaGreatDoorG01
import Derived.Test.YtecbcdfkedocbaaGreatDoorG03
import Derived.Deep.CutBlock
import Derived.Deep.DeepCutAuto
import Derived.Deep.RegionHeld
import Derived.Test.YtecbcdfkedocbaaGreatDoorK01
import Derived.Test.YtecbcdfkedocbaaGreatDoorK02
namespace Go.Proofs.YtecbcdfkedocbaaGreatDoor
open Go.RowKit
set_option maxHeartbeats 1000000
set_option maxRecDepth 20000
set_option linter.unusedVariables false
def SlicedFrame (ts:List SFrame):Prop:=∀ k (h:k<ts.length),∃ a0 n0 c0 a1 n1 c1,ts[k].l=.slice a0 n0 c0∧ts[k].s=.slice a1 n1 c1
theorem indexFrame_any (u0:Value) (v:Value) (ts:List SFrame) (B:Nat) (p:Nat→Bool) (w:World) (hl:ts.length≤1048576) (ho:w.ownsRow B 114 3 v ts.length (rowFrame ts)) (hS:SlicedFrame ts)
  (hF:∀ k (h:k<ts.length) W,Below w.heap.size w W→Calls Tryz.prog 229 #[.agg #[.int .i64 ts[k].at_,ts[k].l,ts[k].s],u0] W fun e w'=>e=.returned (.bool (p k))∧Below W.heap.size W w') :
  Calls Tryz.prog 247 #[v,.func (.func 229) #[] #[u0]] w fun e w'=>∃ r:Int,e=.returned (.int .i64 r)∧(0≤r↔∃ k,k<ts.length∧p k=true)∧Below w.heap.size w w':=by
 obtain ⟨ao,cap,hv⟩:=own_len ho
 subst hv
 have HO:=hid ho
 have HF:=hid hF
 have HS:=hid hS
 clear ho hF hS
 go_enter Tryz.func247,Tryz.ntmps247
 go_wp2_with fail
 go_loopw [8] (fun i wr=>∃ (k:Nat),k≤ts.length∧i=.int .i64 k∧Hid (∀ j,j<k→p j=false)∧Hid (Below w.heap.size w wr)) (fun i _=>ts.length - (intOf i).toNat)
 case atStart=>exact ⟨0,by omega,rfl,fun j hj=>by omega,Below.refl _ _⟩
 case round=>
  obtain ⟨k,hk,rfl,HE,HB⟩:=hrel
  by_cases hlt:k<ts.length
  ·obtain ⟨g,hg⟩:=own_some HO.out (by omega)
   subst hg
   obtain ⟨c0,c1,c2⟩:=ownFrame_at (own_below HO.out HB.out) rfl hlt
   have hC:=HF.out k hlt
   obtain ⟨a0,n0,k0,a1,n1,k1,s0,s1⟩:=HS.out k hlt
   generalize ts[k]=t at c0 c1 c2 hC s0 s1
   obtain ⟨t0,t1,t2⟩:=t
   simp only at c0 c1 c2 hC s0 s1
   subst s0 s1
   obtain ⟨q,hq⟩:∃ q,Hid (p k=q):=⟨_,hid rfl⟩
   rw [hq.out] at hC
   go_wp2_with fail
   refine (hC _ HB.out).mono ?_
   rintro e w1 ⟨rfl,hb1⟩
   have HB1:=hid (HB.out.trans (hb1.mono HB.out.size))
   clear hb1 hC c0 c1 c2
   cases q with
   | true=>
    have HR:=hid (show ∃ j,j<ts.length∧p j=true from ⟨k,hlt,hq.out⟩)
    go_wp2
    go_ret
    exact ⟨_,rfl,⟨fun _=>HR.out,fun _=>by omega⟩,HB1.out⟩
   | false=>
    have HN:=hid (show ∀ j,j<k+1→p j=false from fun j hj=>by
     by_cases e:j=k
     ·rw [e];exact hq.out
     ·exact HE.out j (by omega))
    go_wp2
    go_roundw
    case rel=>exact ⟨k+1,by omega,by go_num,HN,HB1⟩
    case measure=>simp [intOf];omega
  ·have HN:=hid (show ¬ ∃ j,j<ts.length∧p j=true from by
    rintro ⟨j,hj,hp⟩
    have:=HE.out j (by omega)
    rw [this] at hp
    cases hp)
   go_wp2
   go_ret
   exact ⟨-1,rfl,⟨fun h=>absurd h (by omega),fun h=>absurd h HN.out⟩,HB.out⟩
theorem containsFrame_any (u0:Value) (v:Value) (ts:List SFrame) (B:Nat) (p:Nat→Bool) (w:World) (hl:ts.length≤1048576) (ho:w.ownsRow B 114 3 v ts.length (rowFrame ts)) (hS:SlicedFrame ts)
  (hF:∀ k (h:k<ts.length) W,Below w.heap.size w W→Calls Tryz.prog 229 #[.agg #[.int .i64 ts[k].at_,ts[k].l,ts[k].s],u0] W fun e w'=>e=.returned (.bool (p k))∧Below W.heap.size W w') :
  Calls Tryz.prog 228 #[v,.func (.func 229) #[] #[u0]] w fun e w'=>∃ b:Bool,e=.returned (.bool b)∧(b=true↔∃ k,k<ts.length∧p k=true)∧Below w.heap.size w w':=by
 have hI:=indexFrame_any u0 v ts B p w hl ho hS hF
 clear hF ho hS
 go_enter Tryz.func228,Tryz.ntmps228
 go_wp2_with fail
 refine hI.mono ?_
 rintro e w1 ⟨r,rfl,hr,hb⟩
 have HR:=hid hr
 have HB:=hid hb
 clear hr hb hI
 go_wp2
 go_ret
 refine ⟨_,rfl, ?_,HB.out⟩
 rw [← HR.out]
 simp
theorem notFrame_any (rv:Value) (t:SFrame) (c:Nat) (q:Bool) (w:World) (hs:∃ a0 n0 c0 a1 n1 c1,t.l=.slice a0 n0 c0∧t.s=.slice a1 n1 c1) (hc:w.cell? ⟨c,0,none⟩=some (.func (.func 195) #[rv] #[])) (hlt:c<w.heap.size)
  (hG:∀ W,Below w.heap.size w W→Calls Tryz.prog 195 #[rv,.agg #[.int .i64 t.at_,t.l,t.s]] W fun e w'=>e=.returned (.bool q)∧Below W.heap.size W w') :
  Calls Tryz.prog 229 #[.agg #[.int .i64 t.at_,t.l,t.s],.pointer (some ⟨c,0,none⟩)] w fun e w'=>e=.returned (.bool (!q))∧Below w.heap.size w w':=by
 have hbo:=(Below.refl w.heap.size w).alloc (Nat.le_refl _) (.cells #[.int .i64 t.at_,t.l,t.s] 114)
 have hC:=hG _ hbo
 have hne:¬c=w.heap.size:=by omega
 have HO:=hid hbo
 clear hG hbo
 obtain ⟨a0,n0,k0,a1,n1,k1,s0,s1⟩:=hs
 obtain ⟨t0,t1,t2⟩:=t
 simp only at hC HO s0 s1
 subst s0 s1
 go_enter Tryz.func229,Tryz.ntmps229
 go_wp2_with fail
 refine hC.mono ?_
 rintro e w1 ⟨rfl,hb1⟩
 have HB:=hid (HO.out.trans (hb1.mono HO.out.size))
 clear hb1 hC HO
 go_wp2
 go_ret
 exact ⟨rfl,HB.out⟩
theorem allFrame_any (rv:Value) (v:Value) (ts:List SFrame) (B:Nat) (q:Nat→Bool) (w:World) (hl:ts.length≤1048576) (ho:w.ownsRow B 114 3 v ts.length (rowFrame ts)) (hS:SlicedFrame ts)
  (hG:∀ k (h:k<ts.length) W,Below w.heap.size w W→Calls Tryz.prog 195 #[rv,.agg #[.int .i64 ts[k].at_,ts[k].l,ts[k].s]] W fun e w'=>e=.returned (.bool (q k))∧Below W.heap.size W w') :
  Calls Tryz.prog 194 #[v,.func (.func 195) #[rv] #[]] w fun e w'=>∃ b:Bool,e=.returned (.bool b)∧(b=true↔∀ k,k<ts.length→q k=true)∧Below w.heap.size w w':=by
 obtain ⟨ao,cp,hv⟩:=own_len ho
 subst hv
 have hbo:=(Below.refl w.heap.size w).alloc (Nat.le_refl _) (.cells #[.func (.func 195) #[rv] #[]] 249)
 have hC:=containsFrame_any (.pointer (some ⟨w.heap.size,0,none⟩)) (.slice ao ts.length cp) ts B (fun k=>!q k) _ hl (own_below ho hbo) hS (fun k h W hW=>notFrame_any rv ts[k] w.heap.size (q k) W (hS k h) ((hW.cell (p:=⟨w.heap.size,0,none⟩) (by simp)).trans (by simp [go_sem])) (by have:=hW.size;simp at this;omega) (fun W' hW'=>hG k h W' (hbo.trans ((hW.trans (hW'.mono hW.size)).mono (by simp)))))
 have hmf:∀ (fn:Fn) (first cap:Array Value) (w:World),(Instr.makeFunc fn first cap).run Tryz.prog w=.ok (.func fn first cap) w:=fun _ _ _ _=>rfl
 have HO:=hid hbo
 clear hG ho hbo hS
 go_enter Tryz.func194,Tryz.ntmps194
 go_wp2_with fail
 refine hC.mono ?_
 rintro e w1 ⟨b,rfl,hb,hb1⟩
 have HB:=hid (HO.out.trans (hb1.mono (by simp)))
 have HR:=hid hb
 clear hb hb1 hC HO
 go_wp2
 go_ret
 refine ⟨!b,rfl, ?_,HB.out⟩
 have:=HR.out
 cases b with
 | true=>
  obtain ⟨k,hk,hq⟩:=this.1 rfl
  constructor
  ·intro h;cases h
  ·intro h;rw [h k hk] at hq;cases hq
 | false=>
  constructor
  ·intro _ k hk
   cases hq:q k with
   | true=>rfl
   | false=>exact absurd (this.2 ⟨k,hk,by simp [hq]⟩) (by simp)
  ·intro _;rfl
set_option maxHeartbeats 2000000
theorem frameAt_any (x:Int) (a1:Option Addr) (n1 p1:Nat) (a2:Option Addr) (n2 p2:Nat) (w:World) :
  Calls Tryz.prog 197 #[.agg #[.int .i64 x,.slice a1 n1 p1,.slice a2 n2 p2]] w fun e w'=>e=.returned (.int .i64 x)∧Below w.heap.size w w':=by
 have HO:=hid ((Below.refl w.heap.size w).alloc (Nat.le_refl _) (.cells #[.int .i64 x,.slice a1 n1 p1,.slice a2 n2 p2] 114))
 go_enter Tryz.func197,Tryz.ntmps197
 go_wp2
 go_ret
 exact ⟨rfl,HO.out⟩
structure AF2 (w0:World) (t0 u0:Int) (a1:Option Addr) (n1 p1:Nat) (a2:Option Addr) (n2 p2:Nat) (b1:Option Addr) (m1 r1:Nat) (b2:Option Addr) (m2 r2:Nat) (g k:Nat) (W:World):Prop where
 b:Below w0.heap.size w0 W
 k0:W.cell? ⟨g,k*3,none⟩=some (.int .i64 t0)
 k1:W.cell? ⟨g,k*3+1,none⟩=some (.slice a1 n1 p1)
 k2:W.cell? ⟨g,k*3+2,none⟩=some (.slice a2 n2 p2)
 k3:W.cell? ⟨g,(k+1)*3,none⟩=some (.int .i64 u0)
 k4:W.cell? ⟨g,(k+1)*3+1,none⟩=some (.slice b1 m1 r1)
 k5:W.cell? ⟨g,(k+1)*3+2,none⟩=some (.slice b2 m2 r2)
 l0:g<W.heap.size
theorem AF2.keep {w0 W W':World} {t0 u0:Int} {a1:Option Addr} {n1 p1:Nat} {a2:Option Addr} {n2 p2:Nat} {b1:Option Addr} {m1 r1:Nat} {b2:Option Addr} {m2 r2:Nat} {g k:Nat} (h:AF2 w0 t0 u0 a1 n1 p1 a2 n2 p2 b1 m1 r1 b2 m2 r2 g k W) (hb:Below W.heap.size W W'):AF2 w0 t0 u0 a1 n1 p1 a2 n2 p2 b1 m1 r1 b2 m2 r2 g k W':=
 ⟨h.b.trans (hb.mono h.b.size),(hb_cell hb h.l0).trans h.k0,(hb_cell hb h.l0).trans h.k1,(hb_cell hb h.l0).trans h.k2,(hb_cell hb h.l0).trans h.k3,(hb_cell hb h.l0).trans h.k4,(hb_cell hb h.l0).trans h.k5,Nat.lt_of_lt_of_le h.l0 hb.size⟩
def AscS (ts:List SFrame):Prop:=∀ i (hi:i+1<ts.length),ts[i].at_<ts[i+1].at_
theorem ascFrame_any (v:Value) (ts:List SFrame) (B:Nat) (w:World) (hl:ts.length≤1048576) (ho:w.ownsRow B 114 3 v ts.length (rowFrame ts)) (hS:SlicedFrame ts) :
  Calls Tryz.prog 196 #[v,.func (.func 197) #[] #[]] w fun e w'=>∃ b:Bool,e=.returned (.bool b)∧(b=true↔AscS ts)∧Below w.heap.size w w':=by
 obtain ⟨ao,cap,hv⟩:=own_len ho
 subst hv
 have HO:=hid ho
 have HS:=hid hS
 clear ho hS
 go_enter Tryz.func196,Tryz.ntmps196
 go_wp2_with fail
 go_loopw [5] (fun i wr=>∃ (k:Nat),k≤ts.length∧i=.int .i64 ((k:Int)+1)∧Hid (∀ i (hi:i+1<ts.length),i<k→ts[i].at_<ts[i+1].at_)∧Hid (Below w.heap.size w wr)) (fun i _=>ts.length+1 - (intOf i).toNat)
 case atStart=>exact ⟨0,by omega,rfl,fun i hi h=>by omega,Below.refl _ _⟩
 case round=>
  obtain ⟨k,hk,rfl,HE,HB⟩:=hrel
  by_cases hlt:k+1<ts.length
  ·obtain ⟨g,hg⟩:=own_some HO.out (by omega)
   subst hg
   obtain ⟨c0,c1,c2⟩:=ownFrame_at (own_below HO.out HB.out) rfl (k:=k) (by omega)
   obtain ⟨d0,d1,d2⟩:=ownFrame_at (own_below HO.out HB.out) rfl hlt
   have hgl:=((own_below HO.out HB.out).lt g rfl).2
   obtain ⟨a1,n1,p1,a2,n2,p2,s1,s2⟩:=HS.out k (by omega)
   obtain ⟨b1,m1,r1,b2,m2,r2,s3,s4⟩:=HS.out (k+1) hlt
   rw [s1] at c1
   rw [s2] at c2
   rw [s3] at d1
   rw [s4] at d2
   obtain ⟨t0,hT⟩:∃ t,Hid (ts[k].at_=t):=⟨_,hid rfl⟩
   obtain ⟨u0,hU⟩:∃ t,Hid (ts[k+1].at_=t):=⟨_,hid rfl⟩
   rw [hT.out] at c0
   rw [hU.out] at d0
   clear s1 s2 s3 s4
   obtain ⟨q,hq⟩:∃ q,Hid (decide (u0≤t0)=q):=⟨_,hid rfl⟩
   have z0:(0:Int)≤(k:Int)+1:=by omega
   have z1:IntKind.i64.wrap (k:Int)=(k:Int):=by rw [IntKind.wrap_i64];omega
   have z2:(k:Int)<(ts.length:Int):=by omega
   go_upto_region 4 with fail
   go_cut [25] (fun x wc=>x=.bool q∧Hid (Below w.heap.size w wc))
   case first=>
    have PD:=(AF2.mk HB.out c0 c1 c2 d0 d1 d2 hgl).keep (show Below wr.heap.size wr wr.drew from (Below.refl _ _).drew)
    obtain ⟨_,e0,e1,e2,e3,e4,e5,_⟩:=id PD
    refine wp_region_held_drew (S:=(fun w':World=>w'.cell? ⟨g,k*3,none⟩=some (.int .i64 t0)∧w'.cell? ⟨g,k*3+1,none⟩=some (.slice a1 n1 p1)∧w'.cell? ⟨g,k*3+2,none⟩=some (.slice a2 n2 p2)∧w'.cell? ⟨g,(k+1)*3,none⟩=some (.int .i64 u0)∧w'.cell? ⟨g,(k+1)*3+1,none⟩=some (.slice b1 m1 r1)∧w'.cell? ⟨g,(k+1)*3+2,none⟩=some (.slice b2 m2 r2))) (by kernel_rfl) ⟨e0,e1,e2,e3,e4,e5⟩ (fun hHeld=>?_)
    refine tkw 0 ⟨some 12,.move (.tmp 1),251,"l4_check.go:263",#[],none⟩ ?_
    refine tkw 1 ⟨some 13,.move (.tmp 0),73,"l4_check.go:263",#[],none⟩ ?_
    refine tkw 2 ⟨some 14,.move (.tmp 5),3,"l4_check.go:263",#[],none⟩ ?_
    refine tkw 3 ⟨some 15,.indexAddr 73 (.tmp 13) (.tmp 14),0,"l4_check.go:263",#[⟨1,.data⟩,⟨2,.data⟩],none⟩ ?_
    refine tkw 4 ⟨some 16,.load 114 (.tmp 15),114,"l4_check.go:263",#[⟨3,.data⟩],none⟩ ?_
    refine tkw 6 ⟨some 18,.move (.tmp 1),251,"l4_check.go:263",#[],none⟩ ?_
    refine tkw 7 ⟨some 19,.move (.tmp 0),73,"l4_check.go:263",#[],none⟩ ?_
    refine tkw 8 ⟨some 20,.move (.tmp 5),3,"l4_check.go:263",#[],none⟩ ?_
    refine tkw 9 ⟨some 21,.binOp .sub 3 (.tmp 20) (.const (.int .i64 1)) 3,3,"l4_check.go:263",#[⟨8,.data⟩],none⟩ ?_
    refine tkw 10 ⟨some 22,.indexAddr 73 (.tmp 19) (.tmp 21),0,"l4_check.go:263",#[⟨7,.data⟩,⟨9,.data⟩],none⟩ ?_
    refine tkw 11 ⟨some 23,.load 114 (.tmp 22),114,"l4_check.go:263",#[⟨10,.data⟩],none⟩ ?_
    refine wpAnyH_ready (rs:=[5]) (by kernel_rfl) (by simp) ?_
    refine AllReadyH.cons rfl (fun K' hK'=>?_) AllReadyH.nil
    go_simp
    refine (frameAt_any _ _ _ _ _ _ _ _).mono ?_
    rintro e w8 ⟨rfl,hb8⟩
    have P8:=PD.keep hb8
    clear PD hb8 e0 e1 e2 e3 e4 e5
    refine hK'.out _ _ ⟨P8.k0,P8.k1,P8.k2,P8.k3,P8.k4,P8.k5⟩ (fun hHeld=>?_)
    clear hK' K'
    refine wpAnyH_ready (rs:=[12]) (by kernel_rfl) (by simp) ?_
    refine AllReadyH.cons rfl (fun K' hK'=>?_) AllReadyH.nil
    go_simp
    refine (frameAt_any _ _ _ _ _ _ _ _).mono ?_
    rintro e w9 ⟨rfl,hb9⟩
    have P9:=P8.keep hb9
    clear P8 hb9
    refine hK'.out _ _ ⟨P9.k0,P9.k1,P9.k2,P9.k3,P9.k4,P9.k5⟩ (fun hHeld=>?_)
    clear hK' K'
    refine tkw 13 ⟨some 25,.binOp .leq 3 (.tmp 17) (.tmp 24) 3,4,"l4_check.go:263",#[⟨5,.data⟩,⟨12,.data⟩],none⟩ ?_
    refine wpAnyH_done (by kernel_rfl) ?_ _
    have HB9:=hid P9.b
    clear P9
    go_wp2_with fail
    go_meet
    case rel=>exact ⟨by rw [← hq.out],HB9⟩
   case rest=>
    obtain ⟨rfl,HB1⟩:=hcut
    clear c0 c1 c2 d0 d1 d2
    cases q with
    | true=>
     have HN:=hid (show ¬AscS ts from fun h=>by
      have:=h k hlt
      rw [hT.out,hU.out] at this
      have h2:=of_decide_eq_true hq.out
      omega)
     go_wp2
     go_ret
     exact ⟨false,rfl,⟨fun h=>(by cases h),fun h=>absurd h HN.out⟩,HB1.out⟩
    | false=>
     have HN:=hid (show ∀ i (hi:i+1<ts.length),i<k+1→ts[i].at_<ts[i+1].at_ from fun i hi h=>by
      by_cases e:i=k
      ·subst e
       rw [hT.out,hU.out]
       have h2:=of_decide_eq_false hq.out
       omega
      ·exact HE.out i hi (by omega))
     go_wp2
     go_roundw
     case rel=>exact ⟨k+1,by omega,by go_num,HN,HB1⟩
     case measure=>simp [intOf];omega
  ·have HN:=hid (show AscS ts from fun i hi=>HE.out i hi (by omega))
   go_wp2
   go_ret
   exact ⟨true,rfl,⟨fun _=>HN.out,fun _=>rfl⟩,HB.out⟩
set_option maxHeartbeats 1000000
theorem indexIns_any (u0:Value) (v:Value) (ts:List MIns) (B:Nat) (p:Nat→Bool) (w:World) (hl:ts.length≤1048576) (ho:w.ownsRow B 169 3 v ts.length (rowIns ts))
  (hF:∀ k (h:k<ts.length) W,Below w.heap.size w W→Calls Tryz.prog 222 #[.agg #[.int .i64 ts[k].at_,.int .i64 ts[k].op,.int .i64 ts[k].num],u0] W fun e w'=>e=.returned (.bool (p k))∧Below W.heap.size W w') :
  Calls Tryz.prog 242 #[v,.func (.func 222) #[] #[u0]] w fun e w'=>∃ r:Int,e=.returned (.int .i64 r)∧(0≤r↔∃ k,k<ts.length∧p k=true)∧Below w.heap.size w w':=by
 obtain ⟨ao,cap,hv⟩:=own_len ho
 subst hv
 have HO:=hid ho
 have HF:=hid hF
 clear ho hF
 go_enter Tryz.func242,Tryz.ntmps242
 go_wp2_with fail
 go_loopw [8] (fun i wr=>∃ (k:Nat),k≤ts.length∧i=.int .i64 k∧Hid (∀ j,j<k→p j=false)∧Hid (Below w.heap.size w wr)) (fun i _=>ts.length - (intOf i).toNat)
 case atStart=>exact ⟨0,by omega,rfl,fun j hj=>by omega,Below.refl _ _⟩
 case round=>
  obtain ⟨k,hk,rfl,HE,HB⟩:=hrel
  by_cases hlt:k<ts.length
  ·obtain ⟨g,hg⟩:=own_some HO.out (by omega)
   subst hg
   obtain ⟨c0,c1,c2⟩:=ownIns_at (own_below HO.out HB.out) hlt
   have hC:=HF.out k hlt
   generalize ts[k]=t at c0 c1 c2 hC
   obtain ⟨q,hq⟩:∃ q,Hid (p k=q):=⟨_,hid rfl⟩
   rw [hq.out] at hC
   go_wp2_with fail
   refine (hC _ HB.out).mono ?_
   rintro e w1 ⟨rfl,hb1⟩
   have HB1:=hid (HB.out.trans (hb1.mono HB.out.size))
   clear hb1 hC c0 c1 c2
   cases q with
   | true=>
    have HR:=hid (show ∃ j,j<ts.length∧p j=true from ⟨k,hlt,hq.out⟩)
    go_wp2
    go_ret
    exact ⟨_,rfl,⟨fun _=>HR.out,fun _=>by omega⟩,HB1.out⟩
   | false=>
    have HN:=hid (show ∀ j,j<k+1→p j=false from fun j hj=>by
     by_cases e:j=k
     ·rw [e];exact hq.out
     ·exact HE.out j (by omega))
    go_wp2
    go_roundw
    case rel=>exact ⟨k+1,by omega,by go_num,HN,HB1⟩
    case measure=>simp [intOf];omega
  ·have HN:=hid (show ¬ ∃ j,j<ts.length∧p j=true from by
    rintro ⟨j,hj,hp⟩
    have:=HE.out j (by omega)
    rw [this] at hp
    cases hp)
   go_wp2
   go_ret
   exact ⟨-1,rfl,⟨fun h=>absurd h (by omega),fun h=>absurd h HN.out⟩,HB.out⟩
theorem containsIns_any (u0:Value) (v:Value) (ts:List MIns) (B:Nat) (p:Nat→Bool) (w:World) (hl:ts.length≤1048576) (ho:w.ownsRow B 169 3 v ts.length (rowIns ts))
  (hF:∀ k (h:k<ts.length) W,Below w.heap.size w W→Calls Tryz.prog 222 #[.agg #[.int .i64 ts[k].at_,.int .i64 ts[k].op,.int .i64 ts[k].num],u0] W fun e w'=>e=.returned (.bool (p k))∧Below W.heap.size W w') :
  Calls Tryz.prog 221 #[v,.func (.func 222) #[] #[u0]] w fun e w'=>∃ b:Bool,e=.returned (.bool b)∧(b=true↔∃ k,k<ts.length∧p k=true)∧Below w.heap.size w w':=by
 have hI:=indexIns_any u0 v ts B p w hl ho hF
 clear hF ho
 go_enter Tryz.func221,Tryz.ntmps221
 go_wp2_with fail
 refine hI.mono ?_
 rintro e w1 ⟨r,rfl,hr,hb⟩
 have HR:=hid hr
 have HB:=hid hb
 clear hr hb hI
 go_wp2
 go_ret
 refine ⟨_,rfl, ?_,HB.out⟩
 rw [← HR.out]
 simp
theorem notIns_any (rv:Value) (t:MIns) (c:Nat) (q:Bool) (w:World) (hc:w.cell? ⟨c,0,none⟩=some (.func (.func 191) #[rv] #[])) (hlt:c<w.heap.size)
  (hG:∀ W,Below w.heap.size w W→Calls Tryz.prog 191 #[rv,.agg #[.int .i64 t.at_,.int .i64 t.op,.int .i64 t.num]] W fun e w'=>e=.returned (.bool q)∧Below W.heap.size W w') :
  Calls Tryz.prog 222 #[.agg #[.int .i64 t.at_,.int .i64 t.op,.int .i64 t.num],.pointer (some ⟨c,0,none⟩)] w fun e w'=>e=.returned (.bool (!q))∧Below w.heap.size w w':=by
 have hbo:=(Below.refl w.heap.size w).alloc (Nat.le_refl _) (.cells #[.int .i64 t.at_,.int .i64 t.op,.int .i64 t.num] 169)
 have hC:=hG _ hbo
 have hne:¬c=w.heap.size:=by omega
 have HO:=hid hbo
 clear hG hbo
 go_enter Tryz.func222,Tryz.ntmps222
 go_wp2_with fail
 refine hC.mono ?_
 rintro e w1 ⟨rfl,hb1⟩
 have HB:=hid (HO.out.trans (hb1.mono HO.out.size))
 clear hb1 hC HO
 go_wp2
 go_ret
 exact ⟨rfl,HB.out⟩
theorem allIns_any (rv:Value) (v:Value) (ts:List MIns) (B:Nat) (q:Nat→Bool) (w:World) (hl:ts.length≤1048576) (ho:w.ownsRow B 169 3 v ts.length (rowIns ts))
  (hG:∀ k (h:k<ts.length) W,Below w.heap.size w W→Calls Tryz.prog 191 #[rv,.agg #[.int .i64 ts[k].at_,.int .i64 ts[k].op,.int .i64 ts[k].num]] W fun e w'=>e=.returned (.bool (q k))∧Below W.heap.size W w') :
  Calls Tryz.prog 190 #[v,.func (.func 191) #[rv] #[]] w fun e w'=>∃ b:Bool,e=.returned (.bool b)∧(b=true↔∀ k,k<ts.length→q k=true)∧Below w.heap.size w w':=by
 obtain ⟨ao,cp,hv⟩:=own_len ho
 subst hv
 have hbo:=(Below.refl w.heap.size w).alloc (Nat.le_refl _) (.cells #[.func (.func 191) #[rv] #[]] 245)
 have hC:=containsIns_any (.pointer (some ⟨w.heap.size,0,none⟩)) (.slice ao ts.length cp) ts B (fun k=>!q k) _ hl (own_below ho hbo) (fun k h W hW=>notIns_any rv ts[k] w.heap.size (q k) W ((hW.cell (p:=⟨w.heap.size,0,none⟩) (by simp)).trans (by simp [go_sem])) (by have:=hW.size;simp at this;omega) (fun W' hW'=>hG k h W' (hbo.trans ((hW.trans (hW'.mono hW.size)).mono (by simp)))))
 have hmf:∀ (fn:Fn) (first cap:Array Value) (w:World),(Instr.makeFunc fn first cap).run Tryz.prog w=.ok (.func fn first cap) w:=fun _ _ _ _=>rfl
 have HO:=hid hbo
 clear hG ho hbo
 go_enter Tryz.func190,Tryz.ntmps190
 go_wp2_with fail
 refine hC.mono ?_
 rintro e w1 ⟨b,rfl,hb,hb1⟩
 have HB:=hid (HO.out.trans (hb1.mono (by simp)))
 have HR:=hid hb
 clear hb hb1 hC HO
 go_wp2
 go_ret
 refine ⟨!b,rfl, ?_,HB.out⟩
 have:=HR.out
 cases b with
 | true=>
  obtain ⟨k,hk,hq⟩:=this.1 rfl
  constructor
  ·intro h;cases h
  ·intro h;rw [h k hk] at hq;cases hq
 | false=>
  constructor
  ·intro _ k hk
   cases hq:q k with
   | true=>rfl
   | false=>exact absurd (this.2 ⟨k,hk,by simp [hq]⟩) (by simp)
  ·intro _;rfl
theorem indexTrap_any (u0:Value) (v:Value) (ts:List MTrap) (B:Nat) (p:Nat→Bool) (w:World) (hl:ts.length≤1048576) (ho:w.ownsRow B 140 4 v ts.length (rowTrap ts))
  (hF:∀ k (h:k<ts.length) W,Below w.heap.size w W→Calls Tryz.prog 227 #[.agg #[.int .i64 ts[k].from_,.int .i64 ts[k].to_,.int .i64 ts[k].at_,.int .i64 ts[k].cls],u0] W fun e w'=>e=.returned (.bool (p k))∧Below W.heap.size W w') :
  Calls Tryz.prog 246 #[v,.func (.func 227) #[] #[u0]] w fun e w'=>∃ r:Int,e=.returned (.int .i64 r)∧(0≤r↔∃ k,k<ts.length∧p k=true)∧Below w.heap.size w w':=by
 obtain ⟨ao,cap,hv⟩:=own_len ho
 subst hv
 have HO:=hid ho
 have HF:=hid hF
 clear ho hF
 go_enter Tryz.func246,Tryz.ntmps246
 go_wp2_with fail
 go_loopw [8] (fun i wr=>∃ (k:Nat),k≤ts.length∧i=.int .i64 k∧Hid (∀ j,j<k→p j=false)∧Hid (Below w.heap.size w wr)) (fun i _=>ts.length - (intOf i).toNat)
 case atStart=>exact ⟨0,by omega,rfl,fun j hj=>by omega,Below.refl _ _⟩
 case round=>
  obtain ⟨k,hk,rfl,HE,HB⟩:=hrel
  by_cases hlt:k<ts.length
  ·obtain ⟨g,hg⟩:=own_some HO.out (by omega)
   subst hg
   obtain ⟨c0,c1,c2,c3⟩:=ownTrap_at (own_below HO.out HB.out) hlt
   have hC:=HF.out k hlt
   generalize ts[k]=t at c0 c1 c2 c3 hC
   obtain ⟨q,hq⟩:∃ q,Hid (p k=q):=⟨_,hid rfl⟩
   rw [hq.out] at hC
   go_wp2_with fail
   refine (hC _ HB.out).mono ?_
   rintro e w1 ⟨rfl,hb1⟩
   have HB1:=hid (HB.out.trans (hb1.mono HB.out.size))
   clear hb1 hC c0 c1 c2 c3
   cases q with
   | true=>
    have HR:=hid (show ∃ j,j<ts.length∧p j=true from ⟨k,hlt,hq.out⟩)
    go_wp2
    go_ret
    exact ⟨_,rfl,⟨fun _=>HR.out,fun _=>by omega⟩,HB1.out⟩
   | false=>
    have HN:=hid (show ∀ j,j<k+1→p j=false from fun j hj=>by
     by_cases e:j=k
     ·rw [e];exact hq.out
     ·exact HE.out j (by omega))
    go_wp2
    go_roundw
    case rel=>exact ⟨k+1,by omega,by go_num,HN,HB1⟩
    case measure=>simp [intOf];omega
  ·have HN:=hid (show ¬ ∃ j,j<ts.length∧p j=true from by
    rintro ⟨j,hj,hp⟩
    have:=HE.out j (by omega)
    rw [this] at hp
    cases hp)
   go_wp2
   go_ret
   exact ⟨-1,rfl,⟨fun h=>absurd h (by omega),fun h=>absurd h HN.out⟩,HB.out⟩
theorem containsTrap_any (u0:Value) (v:Value) (ts:List MTrap) (B:Nat) (p:Nat→Bool) (w:World) (hl:ts.length≤1048576) (ho:w.ownsRow B 140 4 v ts.length (rowTrap ts))
  (hF:∀ k (h:k<ts.length) W,Below w.heap.size w W→Calls Tryz.prog 227 #[.agg #[.int .i64 ts[k].from_,.int .i64 ts[k].to_,.int .i64 ts[k].at_,.int .i64 ts[k].cls],u0] W fun e w'=>e=.returned (.bool (p k))∧Below W.heap.size W w') :
  Calls Tryz.prog 226 #[v,.func (.func 227) #[] #[u0]] w fun e w'=>∃ b:Bool,e=.returned (.bool b)∧(b=true↔∃ k,k<ts.length∧p k=true)∧Below w.heap.size w w':=by
 have hI:=indexTrap_any u0 v ts B p w hl ho hF
 clear hF ho
 go_enter Tryz.func226,Tryz.ntmps226
 go_wp2_with fail
 refine hI.mono ?_
 rintro e w1 ⟨r,rfl,hr,hb⟩
 have HR:=hid hr
 have HB:=hid hb
 clear hr hb hI
 go_wp2
 go_ret
 refine ⟨_,rfl, ?_,HB.out⟩
 rw [← HR.out]
 simp
theorem notTrap_any (rv:Value) (t:MTrap) (c:Nat) (q:Bool) (w:World) (hc:w.cell? ⟨c,0,none⟩=some (.func (.func 193) #[rv] #[])) (hlt:c<w.heap.size)
  (hG:∀ W,Below w.heap.size w W→Calls Tryz.prog 193 #[rv,.agg #[.int .i64 t.from_,.int .i64 t.to_,.int .i64 t.at_,.int .i64 t.cls]] W fun e w'=>e=.returned (.bool q)∧Below W.heap.size W w') :
  Calls Tryz.prog 227 #[.agg #[.int .i64 t.from_,.int .i64 t.to_,.int .i64 t.at_,.int .i64 t.cls],.pointer (some ⟨c,0,none⟩)] w fun e w'=>e=.returned (.bool (!q))∧Below w.heap.size w w':=by
 have hbo:=(Below.refl w.heap.size w).alloc (Nat.le_refl _) (.cells #[.int .i64 t.from_,.int .i64 t.to_,.int .i64 t.at_,.int .i64 t.cls] 140)
 have hC:=hG _ hbo
 have hne:¬c=w.heap.size:=by omega
 have HO:=hid hbo
 clear hG hbo
 go_enter Tryz.func227,Tryz.ntmps227
 go_wp2_with fail
 refine hC.mono ?_
 rintro e w1 ⟨rfl,hb1⟩
 have HB:=hid (HO.out.trans (hb1.mono HO.out.size))
 clear hb1 hC HO
 go_wp2
 go_ret
 exact ⟨rfl,HB.out⟩
theorem allTrap_any (rv:Value) (v:Value) (ts:List MTrap) (B:Nat) (q:Nat→Bool) (w:World) (hl:ts.length≤1048576) (ho:w.ownsRow B 140 4 v ts.length (rowTrap ts))
  (hG:∀ k (h:k<ts.length) W,Below w.heap.size w W→Calls Tryz.prog 193 #[rv,.agg #[.int .i64 ts[k].from_,.int .i64 ts[k].to_,.int .i64 ts[k].at_,.int .i64 ts[k].cls]] W fun e w'=>e=.returned (.bool (q k))∧Below W.heap.size W w') :
  Calls Tryz.prog 192 #[v,.func (.func 193) #[rv] #[]] w fun e w'=>∃ b:Bool,e=.returned (.bool b)∧(b=true↔∀ k,k<ts.length→q k=true)∧Below w.heap.size w w':=by
 obtain ⟨ao,cp,hv⟩:=own_len ho
 subst hv
 have hbo:=(Below.refl w.heap.size w).alloc (Nat.le_refl _) (.cells #[.func (.func 193) #[rv] #[]] 247)
 have hC:=containsTrap_any (.pointer (some ⟨w.heap.size,0,none⟩)) (.slice ao ts.length cp) ts B (fun k=>!q k) _ hl (own_below ho hbo) (fun k h W hW=>notTrap_any rv ts[k] w.heap.size (q k) W ((hW.cell (p:=⟨w.heap.size,0,none⟩) (by simp)).trans (by simp [go_sem])) (by have:=hW.size;simp at this;omega) (fun W' hW'=>hG k h W' (hbo.trans ((hW.trans (hW'.mono hW.size)).mono (by simp)))))
 have hmf:∀ (fn:Fn) (first cap:Array Value) (w:World),(Instr.makeFunc fn first cap).run Tryz.prog w=.ok (.func fn first cap) w:=fun _ _ _ _=>rfl
 have HO:=hid hbo
 clear hG ho hbo
 go_enter Tryz.func192,Tryz.ntmps192
 go_wp2_with fail
 refine hC.mono ?_
 rintro e w1 ⟨b,rfl,hb,hb1⟩
 have HB:=hid (HO.out.trans (hb1.mono (by simp)))
 have HR:=hid hb
 clear hb hb1 hC HO
 go_wp2
 go_ret
 refine ⟨!b,rfl, ?_,HB.out⟩
 have:=HR.out
 cases b with
 | true=>
  obtain ⟨k,hk,hq⟩:=this.1 rfl
  constructor
  ·intro h;cases h
  ·intro h;rw [h k hk] at hq;cases hq
 | false=>
  constructor
  ·intro _ k hk
   cases hq:q k with
   | true=>rfl
   | false=>exact absurd (this.2 ⟨k,hk,by simp [hq]⟩) (by simp)
  ·intro _;rfl
theorem notCode_any (cv:Value) (t:SMethod) (c:Nat) (q:Bool) (w:World) (hs:∃ a1 n1 c1 a2 n2 c2,t.traps=.slice a1 n1 c1∧t.frames=.slice a2 n2 c2) (hc:w.cell? ⟨c,0,none⟩=some (.func (.func 147) #[] #[cv])) (hlt:c<w.heap.size)
  (hG:∀ W,Below w.heap.size w W→Calls Tryz.prog 147 #[.agg #[.int .i64 t.flags,.int .i64 t.name,.int .i64 t.desc,.int .i64 t.deep,.int .i64 t.locals,.string t.code,t.traps,t.frames],cv] W fun e w'=>e=.returned (.bool q)∧Below W.heap.size W w') :
  Calls Tryz.prog 186 #[.agg #[.int .i64 t.flags,.int .i64 t.name,.int .i64 t.desc,.int .i64 t.deep,.int .i64 t.locals,.string t.code,t.traps,t.frames],.pointer (some ⟨c,0,none⟩)] w fun e w'=>e=.returned (.bool (!q))∧Below w.heap.size w w':=by
 have hbo:=(Below.refl w.heap.size w).alloc (Nat.le_refl _) (.cells #[.int .i64 t.flags,.int .i64 t.name,.int .i64 t.desc,.int .i64 t.deep,.int .i64 t.locals,.string t.code,t.traps,t.frames] 75)
 have hC:=hG _ hbo
 have hne:¬c=w.heap.size:=by omega
 have HO:=hid hbo
 clear hG hbo
 obtain ⟨a1,n1,k1,a2,n2,k2,s1,s2⟩:=hs
 obtain ⟨t1,t2,t3,t4,t5,t6,tw,tp⟩:=t
 simp only at s1 s2 hC HO
 subst s1 s2
 go_enter Tryz.func186,Tryz.ntmps186
 go_wp2_with fail
 refine hC.mono ?_
 rintro e w1 ⟨rfl,hb1⟩
 have HB:=hid (HO.out.trans (hb1.mono HO.out.size))
 clear hb1 hC HO
 go_wp2
 go_ret
 exact ⟨rfl,HB.out⟩
theorem allCode_any (cv:Value) (v:Value) (ts:List SMethod) (B:Nat) (q:Nat→Bool) (w:World) (hl:ts.length≤1048576) (ho:w.ownsRow B 75 8 v ts.length (rowMethod ts)) (hS:SlicedM ts)
  (hG:∀ k (h:k<ts.length) W,Below w.heap.size w W→Calls Tryz.prog 147 #[.agg #[.int .i64 ts[k].flags,.int .i64 ts[k].name,.int .i64 ts[k].desc,.int .i64 ts[k].deep,.int .i64 ts[k].locals,.string ts[k].code,ts[k].traps,ts[k].frames],cv] W fun e w'=>e=.returned (.bool (q k))∧Below W.heap.size W w') :
  Calls Tryz.prog 145 #[v,.func (.func 147) #[] #[cv]] w fun e w'=>∃ b:Bool,e=.returned (.bool b)∧(b=true↔∀ k,k<ts.length→q k=true)∧Below w.heap.size w w':=by
 obtain ⟨ao,cp,hv⟩:=own_len ho
 subst hv
 have hbo:=(Below.refl w.heap.size w).alloc (Nat.le_refl _) (.cells #[.func (.func 147) #[] #[cv]] 201)
 have hC:=containsMethod_any (.pointer (some ⟨w.heap.size,0,none⟩)) (.slice ao ts.length cp) ts B (fun k=>!q k) _ hl (own_below ho hbo) hS (fun k h W hW=>notCode_any cv ts[k] w.heap.size (q k) W (hS k h) ((hW.cell (p:=⟨w.heap.size,0,none⟩) (by simp)).trans (by simp [go_sem])) (by have:=hW.size;simp at this;omega) (fun W' hW'=>hG k h W' (hbo.trans ((hW.trans (hW'.mono hW.size)).mono (by simp)))))
 have hmf:∀ (fn:Fn) (first cap:Array Value) (w:World),(Instr.makeFunc fn first cap).run Tryz.prog w=.ok (.func fn first cap) w:=fun _ _ _ _=>rfl
 have HO:=hid hbo
 clear hG ho hbo hS
 go_enter Tryz.func145,Tryz.ntmps145
 go_wp2_with fail
 refine hC.mono ?_
 rintro e w1 ⟨b,rfl,hb,hb1⟩
 have HB:=hid (HO.out.trans (hb1.mono (by simp)))
 have HR:=hid hb
 clear hb hb1 hC HO
 go_wp2
 go_ret
 refine ⟨!b,rfl, ?_,HB.out⟩
 have:=HR.out
 cases b with
 | true=>
  obtain ⟨k,hk,hq⟩:=this.1 rfl
  constructor
  ·intro h;cases h
  ·intro h;rw [h k hk] at hq;cases hq
 | false=>
  constructor
  ·intro _ k hk
   cases hq:q k with
   | true=>rfl
   | false=>exact absurd (this.2 ⟨k,hk,by simp [hq]⟩) (by simp)
  ·intro _;rfl
end Go.Proofs.YtecbcdfkedocbaaGreatDoor
