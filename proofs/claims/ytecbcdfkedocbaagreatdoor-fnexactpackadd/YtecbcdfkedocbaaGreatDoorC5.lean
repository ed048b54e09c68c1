/- Gathered: CpApp AxSpecM. -/
import Derived.Test.YtecbcdfkedocbaaGreatDoorG03
import Derived.Laws.AppendOwnNone
import Derived.Test.YtecbcdfkedocbaaGreatDoorC3
namespace Go.Proofs.YtecbcdfkedocbaaGreatDoor
open Mx Go.RowKit
set_option maxHeartbeats 1000000
set_option linter.unusedVariables false
theorem app_copy {P:Program} (W:World) {ops:Array Oper} {rest:List Oper} {o:Oper} {a:Act} {Q:Exit→Act→World→Prop} (hgd:o.guard=none) (s x:Operand) (t:TypeId)
  (ho:o.op=.call { callee:=.builtin .append,args:=#[s,x],argTypes:=#[t,t] })
  (e:TypeId) (i:TypeInfo) (z:Value) (size bytes:Nat) (ht:P.underlying t=some (.slice e)) (hi:P.info? e=some i) (hz:i.zero=some z)
  (hsize:i.size=size) (hby:i.bytes=bytes) (hzs:z.cells.size=size) (hsz:0<size) (hb:bytes≤104)
  (H:Nat) (hH:W.heap.size=H) (hs:a.eval s=.slice (some ⟨H,0,none⟩) 0 0) (u:Value) (m B:Nat) (ys:List Value) (hx:a.eval x=u) (hu:W.ownsRow B e size u m ys) (h1:∀ u∈ys,u.oneCell'=true) (hm:m≤1048576)
  (h:∀ v' w',w'.ownsRow W.heap.size e size v' m ys→Below W.heap.size W w'→wpList P ops Q rest (a.put o.dst v') w'):wpList P ops Q (o :: rest) a (W.alloc (.cells #[] e)):=by
 subst hH
 have hmade:(W.alloc (.cells #[] e)).ownsRow W.heap.size e size (.slice (some ⟨W.heap.size,0,none⟩) 0 0) 0 []:=World.ownsRow_made W #[] 0 (Nat.le_refl _) (by unfold maxLen;omega) (by simp)
 have hal:Below W.heap.size W (W.alloc (.cells #[] e)):=(Below.refl _ _).alloc (Nat.le_refl _) _
 rcases Joins.ownsRow_forms hu with ⟨hv,hn0⟩|⟨g,cap,hv⟩
 ·subst hv hn0
  obtain rfl:ys=[]:=List.eq_nil_of_length_eq_zero (by have:=hu.1;omega)
  exact wpList_append_own_none hgd s x t ho W.heap.size e i size ht hi _ 0 [] hs hmade hx (h _ _ hmade hal)
 ·subst hv
  have hg:=(hu.lt g rfl).2
  refine wpList_append_own _ hgd s x t ho W.heap.size e i z size bytes ht hi hz hsize hby hzs hsz _ 0 [] hs hmade ⟨g,0,none⟩ m cap ys hx hu.1 (fun j u hj=>(hal.cell (p:=(⟨g,0,none⟩:Addr).add j) (by rw [addr_add];exact hg)).trans (hu.cells (g:=g) rfl j u hj)) h1 (by unfold maxLen;omega) (by
   have:(0+m)*bytes≤1048576*104:=Nat.mul_le_mul (by omega) hb
   omega) (by simp) fun v' w' hown hgrow _=>h v' w' (by simpa using hown) (below_grown hal hgrow (by simp) (Nat.le_refl _))
set_option maxHeartbeats 4000000
set_option maxRecDepth 20000
theorem below_sz {W W':World} {n:Nat} (hb:Below n W W') (h:n=W.heap.size):Below W.heap.size W W':=by subst h;exact hb
structure SM (w:World) (T:TypeId) (x y z:Array Value) (W:World):Prop where
 b:Below w.heap.size w W
 box:Lk W w.heap.size x T
 res:Lk W (w.heap.size+1) y T
 out:Lk W (w.heap.size+2) z T
theorem SM.new (w:World) (T:TypeId) (x y z:Array Value):SM w T x y z (((w.alloc (.cells x T)).alloc (.cells y T)).alloc (.cells z T)):=by
 have h:=HB.three w x y z T T T
 exact ⟨h.b,h.tl.tl.hd,h.tl.hd,h.hd⟩
theorem SM.keep {w W W':World} {T:TypeId} {x y z:Array Value} (h:SM w T x y z W) (hb:Below W.heap.size W W'):SM w T x y z W':=⟨h.b.trans (hb.mono h.b.size),h.box.keep hb,h.res.keep hb,h.out.keep hb⟩
theorem SM.set {w W:World} {T:TypeId} {x y z z':Array Value} (h:SM w T x y z W) (j:Nat) (u:Value) (hu:z.setIfInBounds j u=z'):SM w T x y z' (W.setCell ⟨w.heap.size+2,j,none⟩ u):=
 ⟨h.b.setCell (by dsimp only;omega) _,h.box.other u (by dsimp only;omega),h.res.other u (by dsimp only;omega),h.out.set j u hu⟩
theorem SM.far {w W:World} {T:TypeId} {x y z:Array Value} (h:SM w T x y z W) {a:Addr} (ha:w.heap.size+2<a.block) (u:Value):SM w T x y z (W.setCell a u):=
 ⟨h.b.setCell (by omega) _,h.box.other u (by omega),h.res.other u (by omega),h.out.other u (by omega)⟩
theorem SM.grown {w W W':World} {T:TypeId} {x y z:Array Value} {v:Value} (h:SM w T x y z W) (hg:W.grownBy W' v.ownBlock) (hv:∀ k,v.ownBlock=some k→w.heap.size+2<k):SM w T x y z W':=by
 have hb:=h.b.size
 have l:=h.out.lt
 have keep:∀ {C:Nat} {cs:Array Value},Lk W C cs T→C≤w.heap.size+2→Lk W' C cs T:=fun {C cs} q hC=>by
  unfold Lk at *
  rw [hg.block C (by omega) (fun e=>by have:=hv C e.symm;omega)]
  exact q
 exact ⟨h.b.grown hg hb (fun k hk=>by have:=hv k hk;omega),keep h.box (by omega),keep h.res (by omega),keep h.out (by omega)⟩
theorem FX.setV {W:World} {B C:Nat} {v:Value} {fs:List MFrame} {us:List SFrame} {cs:Array Value} (h:FX W B v fs us) (hk:Lk W C cs 114) (hv:v.ownBlock≠some C) (j:Nat) (u:Value):FX (W.setCell ⟨C,j,none⟩ u) B v fs us:=
 ⟨h.len,ownsRow_set_ne h.row u hv,fun k q1 q2=>⟨(h.each k q1 q2).at_,ownsRow_set_ne (h.each k q1 q2).l u (own_ne (h.each k q1 q2).l hk (by decide)),ownsRow_set_ne (h.each k q1 q2).s u (own_ne (h.each k q1 q2).s hk (by decide))⟩⟩
theorem l5CopyMethod_any (m:MMethod) (a5 a6:Option Addr) (k5 k6 B:Nat) (w:World) (hm:m.few) (h:MethodW w B (.slice a5 m.traps.length k5) (.slice a6 m.frames.length k6) m) :
  Calls Tryz.prog 45 #[.agg #[.int .i64 m.flags,.int .i64 m.name,.int .i64 m.desc,.int .i64 m.deep,.int .i64 m.locals,.string m.code,.slice a5 m.traps.length k5,.slice a6 m.frames.length k6]] w fun e w'=>∃ b5 j5 b6 j6,e=.returned (.agg #[.int .i64 m.flags,.int .i64 m.name,.int .i64 m.desc,.int .i64 m.deep,.int .i64 m.locals,.string m.code,.slice b5 m.traps.length j5,.slice b6 m.frames.length j6])∧MethodW w' w.heap.size (.slice b5 m.traps.length j5) (.slice b6 m.frames.length j6) m∧Below w.heap.size w w':=by
 have P0:=SM.new w 75 #[.int .i64 m.flags,.int .i64 m.name,.int .i64 m.desc,.int .i64 m.deep,.int .i64 m.locals,.string m.code,.slice a5 m.traps.length k5,.slice a6 m.frames.length k6] #[.int .i64 0,.int .i64 0,.int .i64 0,.int .i64 0,.int .i64 0,.string ⟨#[]⟩,.slice none 0 0,.slice none 0 0] #[.int .i64 m.flags,.int .i64 m.name,.int .i64 m.desc,.int .i64 m.deep,.int .i64 m.locals,.string m.code,.slice a5 m.traps.length k5,.slice a6 m.frames.length k6]
 have ht0:=own_below h.t P0.b
 obtain ⟨i0,hi,hz0,hz1,hz2⟩:=info_parts infoTrap
 obtain ⟨j0,hj,hy0,hy1,hy2⟩:=info_parts infoKind
 obtain ⟨iF,hf,hx0,hx1,hx2⟩:=info_parts infoFrame
 obtain ⟨ys,hyl,hyo,hye⟩:=h.f
 have HO:=hid hyo
 have HYL:=hid hyl
 have HE:=hid hye
 have HFW:=hid hm.2.2.2
 have hml:=hm.2.2.1
 have htl:=hm.2.1
 obtain ⟨⟨c0,c1,c2,c3,c4,c5,c6,c7⟩,z0,z1,z2,z3,z4,z5,z6,z7⟩:=P0.box.x8
 obtain ⟨⟨d0,d1,d2,d3,d4,d5,d6,d7⟩,e0,e1,e2,e3,e4,e5,e6,e7⟩:=P0.out.x8
 clear h hm hyo hyl hye
 go_enter Tryz.func45,Tryz.ntmps45
 go_wp2_with (at_builtin;go_loud (refine app_copy _ rfl _ _ 72 rfl 140 i0 (.agg #[.int .i64 0,.int .i64 0,.int .i64 0,.int .i64 0]) 4 32 Tryz.underlying72 hi hz0 hz1 hz2 rfl (by decide) (by decide) _ (by simp) rfl (.slice a5 m.traps.length k5) m.traps.length B (rowTrap m.traps) rfl ht0 (one_trap _) htl ?_))
 intro v1 w1 ho1 hb1
 obtain ⟨b5,j5,rfl⟩:=own_len ho1
 replace hb1:=below_sz hb1 (by simp)
 have P1:=P0.keep hb1
 have O1:=hid (show w1.ownsRow (w.heap.size+3) 140 4 (.slice b5 m.traps.length j5) m.traps.length (rowTrap m.traps) from Joins.ownsRow_le ho1 (by omega))
 clear P0 hb1 ho1 ht0 c0 c1 c2 c3 c4 c5 c6 c7 z0 z1 z2 z3 z4 z5 z6 z7 d0 d1 d2 d3 d4 d5 d6 d7 e0 e1 e2 e3 e4 e5 e6 e7
 obtain ⟨⟨c0,c1,c2,c3,c4,c5,c6,c7⟩,z0,z1,z2,z3,z4,z5,z6,z7⟩:=P1.box.x8
 obtain ⟨⟨d0,d1,d2,d3,d4,d5,d6,d7⟩,e0,e1,e2,e3,e4,e5,e6,e7⟩:=P1.out.x8
 have P2:=(P1.set (z':=#[.int .i64 m.flags,.int .i64 m.name,.int .i64 m.desc,.int .i64 m.deep,.int .i64 m.locals,.string m.code,.slice b5 m.traps.length j5,.slice a6 m.frames.length k6]) 6 (.slice b5 m.traps.length j5) rfl).set (z':=#[.int .i64 m.flags,.int .i64 m.name,.int .i64 m.desc,.int .i64 m.deep,.int .i64 m.locals,.string m.code,.slice b5 m.traps.length j5,.slice none 0 0]) 7 (.slice none 0 0) rfl
 have O2:=hid (ownsRow_setCell_below (ownsRow_setCell_below O1.out (a:=⟨w.heap.size+2,6,none⟩) (by simp) (.slice b5 m.traps.length j5)) (a:=⟨w.heap.size+2,7,none⟩) (by simp) (.slice none 0 0))
 clear P1 O1
 go_wp2
 go_loopw [4] (fun i wr=>∃ (k:Nat) (v:Value) (us:List SFrame),k≤m.frames.length∧i=.int .i64 k∧SM w 75 #[.int .i64 m.flags,.int .i64 m.name,.int .i64 m.desc,.int .i64 m.deep,.int .i64 m.locals,.string m.code,.slice a5 m.traps.length k5,.slice a6 m.frames.length k6] #[.int .i64 0,.int .i64 0,.int .i64 0,.int .i64 0,.int .i64 0,.string ⟨#[]⟩,.slice none 0 0,.slice none 0 0] #[.int .i64 m.flags,.int .i64 m.name,.int .i64 m.desc,.int .i64 m.deep,.int .i64 m.locals,.string m.code,.slice b5 m.traps.length j5,v] wr∧Hid (FX wr (w.heap.size+3) v (m.frames.take k) us)∧Hid (wr.ownsRow (w.heap.size+3) 140 4 (.slice b5 m.traps.length j5) m.traps.length (rowTrap m.traps))) (fun i _=>m.frames.length - (intOf i).toNat)
 case atStart=>exact ⟨0,.slice none 0 0,[],by omega,by first|rfl|go_num,P2,FX.nil _ _,O2⟩
 case round=>
  obtain ⟨k,v,us,hk,rfl,P,hX,O⟩:=hrel
  have hown:=hX.out.rowk hk
  clear P2 O2 c0 c1 c2 c3 c4 c5 c6 c7 z0 z1 z2 z3 z4 z5 z6 z7 d0 d1 d2 d3 d4 d5 d6 d7 e0 e1 e2 e3 e4 e5 e6 e7
  obtain ⟨b6,j6,rfl⟩:=own_len hown
  have HVB:=hid hown.lt
  obtain ⟨⟨c0,c1,c2,c3,c4,c5,c6,c7⟩,z0,z1,z2,z3,z4,z5,z6,z7⟩:=P.box.x8
  obtain ⟨⟨d0,d1,d2,d3,d4,d5,d6,d7⟩,e0,e1,e2,e3,e4,e5,e6,e7⟩:=P.out.x8
  by_cases hlt:k<m.frames.length
  ·obtain ⟨g,hg⟩:=own_some HO.out (by omega)
   subst hg
   have hky:k<ys.length:=by rw [HYL.out];exact hlt
   obtain ⟨g0,g1,g2⟩:=ownFrame_at (own_below HO.out P.b) (k:=k) HYL.out hky
   have hgl:=((own_below HO.out P.b).lt g rfl).2
   have hw:=HE.out k hlt hky
   obtain ⟨a1,n1,e1⟩:=own_len hw.l
   obtain ⟨a2,n2,e2⟩:=own_len hw.s
   have hfk:=HFW.out _ (List.getElem_mem hlt)
   have hl1:=own_below hw.l P.b
   have hl2:=own_below hw.s P.b
   rw [e1] at g1 hl1
   rw [e2] at g2 hl2
   have q1:=hfk.1
   have q2:=hfk.2
   have HTK:=hid (show m.frames.take (k+1)=m.frames.take k++[m.frames[k]] from List.take_succ_eq_append_getElem hlt)
   rw [hw.at_] at g0
   clear hw hfk e1 e2
   generalize m.frames[k]=f at g0 g1 hl1 q1 g2 hl2 q2 HTK
   have z5:(k:Int)<(m.frames.length:Int):=by omega
   have hsz:w.heap.size+3≤wr.heap.size:=by have:=P.out.lt;omega
   have La:=Lk.new wr #[.int .i64 f.at_,.slice a1 f.locals.length n1,.slice a2 f.stack.length n2] 114
   have hal:Below wr.heap.size wr (wr.alloc (.cells #[.int .i64 f.at_,.slice a1 f.locals.length n1,.slice a2 f.stack.length n2] 114)):=(Below.refl _ _).alloc (Nat.le_refl _) _
   have Pa:=P.keep hal
   have Oa:=hid (own_below O.out hal)
   have Ha:=hid (hX.out.keep hal)
   have h1a:=own_below hl1 hal
   have H2a:=hid (own_below hl2 hal)
   obtain ⟨⟨f0,f1,f2⟩,y0,y1,y2⟩:=La.x3
   clear P O hX hown hl1 hl2
   go_wp2_with (at_builtin;go_loud (refine app_copy _ rfl _ _ 112 rfl 144 j0 (.agg #[.int .i64 0,.int .i64 0]) 2 16 Tryz.underlying112 hj hy0 hy1 hy2 rfl (by decide) (by decide) _ (by simp) rfl (.slice a1 f.locals.length n1) f.locals.length B (rowKind f.locals) rfl h1a (one_kind _) q1 ?_))
   intro v3 w3 ho3 hb3
   obtain ⟨b1,m1,rfl⟩:=own_len ho3
   replace hb3:=below_sz hb3 (by simp)
   have P3:=Pa.keep hb3
   have O3:=hid (own_below Oa.out hb3)
   have H3:=hid (Ha.out.keep hb3)
   have R3:=hid (show w3.ownsRow (w.heap.size+3) 144 2 (.slice b1 f.locals.length m1) f.locals.length (rowKind f.locals) from Joins.ownsRow_le ho3 (by first|omega|(simp;omega)))
   have h2b:=own_below H2a.out hb3
   have L3:=La.keep hb3
   have hs3:wr.heap.size<w3.heap.size:=L3.lt
   clear Pa Oa Ha H2a La h1a hb3 ho3 hal c0 c1 c2 c3 c4 c5 c6 c7 z0 z1 z2 z3 z4 z5 z6 z7 d0 d1 d2 d3 d4 d5 d6 d7 e0 e1 e2 e3 e4 e5 e6 e7 f0 f1 f2 y0 y1 y2 g0 g1 g2 hgl
   have P4:=P3.far (a:=⟨wr.heap.size,1,none⟩) (by dsimp only;omega) (.slice b1 f.locals.length m1)
   have L4:=L3.set (cs':=#[.int .i64 f.at_,.slice b1 f.locals.length m1,.slice a2 f.stack.length n2]) 1 (.slice b1 f.locals.length m1) rfl
   have O4:=hid (ownsRow_setCell_other O3.out (a:=⟨wr.heap.size,1,none⟩) (own_ne O3.out L3 (by decide)) (.slice b1 f.locals.length m1))
   have H4:=hid (H3.out.setV L3 (fun q=>Nat.lt_irrefl _ (HVB.out _ q).2) 1 (.slice b1 f.locals.length m1))
   have R4:=hid (ownsRow_setCell_other R3.out (a:=⟨wr.heap.size,1,none⟩) (own_ne R3.out L3 (by decide)) (.slice b1 f.locals.length m1))
   have h2c:=ownsRow_setCell_other h2b (a:=⟨wr.heap.size,1,none⟩) (own_ne h2b L3 (by decide)) (.slice b1 f.locals.length m1)
   obtain ⟨⟨c0,c1,c2,c3,c4,c5,c6,c7⟩,z0,z1,z2,z3,z4,z5,z6,z7⟩:=P3.box.x8
   obtain ⟨⟨d0,d1,d2,d3,d4,d5,d6,d7⟩,e0,e1,e2,e3,e4,e5,e6,e7⟩:=P3.out.x8
   obtain ⟨⟨f0,f1,f2⟩,y0,y1,y2⟩:=L3.x3
   clear P3 O3 H3 L3 h2b R3
   go_wp2_with (at_builtin;go_loud (refine app_copy _ rfl _ _ 112 rfl 144 j0 (.agg #[.int .i64 0,.int .i64 0]) 2 16 Tryz.underlying112 hj hy0 hy1 hy2 rfl (by decide) (by decide) _ (by simp) rfl (.slice a2 f.stack.length n2) f.stack.length B (rowKind f.stack) rfl h2c (one_kind _) q2 ?_))
   intro v5 w5 ho5 hb5
   obtain ⟨b2,m2,rfl⟩:=own_len ho5
   replace hb5:=below_sz hb5 (by simp)
   have P5:=P4.keep hb5
   have O5:=hid (own_below O4.out hb5)
   have H5:=hid (H4.out.keep hb5)
   have R5:=hid (own_below R4.out hb5)
   have Z5:=hid (show w5.ownsRow (w.heap.size+3) 144 2 (.slice b2 f.stack.length m2) f.stack.length (rowKind f.stack) from Joins.ownsRow_le ho5 (by first|omega|(simp;omega)))
   have L5:=L4.keep hb5
   clear P4 O4 H4 L4 R4 h2c hb5 ho5 c0 c1 c2 c3 c4 c5 c6 c7 z0 z1 z2 z3 z4 z5 z6 z7 d0 d1 d2 d3 d4 d5 d6 d7 e0 e1 e2 e3 e4 e5 e6 e7 f0 f1 f2 y0 y1 y2
   have P6:=P5.far (a:=⟨wr.heap.size,2,none⟩) (by dsimp only;omega) (.slice b2 f.stack.length m2)
   have L6:=L5.set (cs':=#[.int .i64 f.at_,.slice b1 f.locals.length m1,.slice b2 f.stack.length m2]) 2 (.slice b2 f.stack.length m2) rfl
   have O6:=hid (ownsRow_setCell_other O5.out (a:=⟨wr.heap.size,2,none⟩) (own_ne O5.out L5 (by decide)) (.slice b2 f.stack.length m2))
   have H6:=hid (H5.out.setV L5 (fun q=>Nat.lt_irrefl _ (HVB.out _ q).2) 2 (.slice b2 f.stack.length m2))
   have H6r:=hid (H6.out.rowk hk)
   have F6:=hid (show FrameW (w5.setCell ⟨wr.heap.size,2,none⟩ (.slice b2 f.stack.length m2)) (w.heap.size+3) ⟨f.at_,.slice b1 f.locals.length m1,.slice b2 f.stack.length m2⟩ f from ⟨rfl,ownsRow_setCell_other R5.out (a:=⟨wr.heap.size,2,none⟩) (own_ne R5.out L5 (by decide)) _,ownsRow_setCell_other Z5.out (a:=⟨wr.heap.size,2,none⟩) (own_ne Z5.out L5 (by decide)) _⟩)
   obtain ⟨⟨c0,c1,c2,c3,c4,c5,c6,c7⟩,z0,z1,z2,z3,z4,z5,z6,z7⟩:=P5.box.x8
   obtain ⟨⟨d0,d1,d2,d3,d4,d5,d6,d7⟩,e0,e1,e2,e3,e4,e5,e6,e7⟩:=P5.out.x8
   obtain ⟨⟨f0,f1,f2⟩,y0,y1,y2⟩:=L5.x3
   have hs5:w.heap.size+3≤w5.heap.size:=by have:=P5.out.lt;omega
   clear P5 O5 H5 L5 L6 R5 Z5
   go_wp2_with (at_builtin;go_loud (refine wpList_append_own _ rfl _ _ 73 rfl (w.heap.size+3) 114 iF (.agg #[.int .i64 0,.slice none 0 0,.slice none 0 0]) 3 56 Tryz.underlying73 hf hx0 hx1 hx2 rfl (by decide) (.slice b6 k j6) k (rowFrame us) rfl (H6r.out.alloc _) ⟨w5.heap.size,0,none⟩ 1 1 [.int .i64 f.at_,.slice b1 f.locals.length m1,.slice b2 f.stack.length m2] rfl rfl ?c1 ?c2 ?c3 ?c4 ?c5 ?_))
   case c1=>exact fun j u hj=>(by simpa using cells_new (w5.setCell ⟨wr.heap.size,2,none⟩ (.slice b2 f.stack.length m2)) #[.int .i64 f.at_,.slice b1 f.locals.length m1,.slice b2 f.stack.length m2] 114 j u hj)
   case c2=>intro u hu;simp at hu;rcases hu with rfl|rfl|rfl<;>rfl
   case c3=>unfold maxLen;omega
   case c4=>omega
   case c5=>simp;omega
   intro v7 w7 hown7 hgrow7 _
   obtain ⟨b7,j7,rfl⟩:=own_len hown7
   have kp:=Kp.grow (B:=w.heap.size+3) H6r.out hgrow7
   have ha0:∀ o,Below (w5.setCell ⟨wr.heap.size,2,none⟩ (.slice b2 f.stack.length m2)).heap.size (w5.setCell ⟨wr.heap.size,2,none⟩ (.slice b2 f.stack.length m2)) ((w5.setCell ⟨wr.heap.size,2,none⟩ (.slice b2 f.stack.length m2)).alloc o):=fun o=>(Below.refl _ _).alloc (Nat.le_refl _) o
   have X7:=hid (show FX w7 (w.heap.size+3) (.slice b7 (k+1) j7) (m.frames.take (k+1)) (us++[⟨f.at_,.slice b1 f.locals.length m1,.slice b2 f.stack.length m2⟩]) from by
    rw [HTK.out]
    exact FX.snoc (H6.out.keep (ha0 _)) (F6.out.keep (ha0 _)) hgrow7 (by rw [List.length_take,Nat.min_eq_left hk];exact hown7))
   have O7:=hid (kp _ _ _ _ _ (by decide) O6.out)
   have P7:=(P6.keep ((Below.refl _ _).alloc (Nat.le_refl _) (.cells #[.int .i64 f.at_,.slice b1 f.locals.length m1,.slice b2 f.stack.length m2] 114))).grown hgrow7 (fun q hq=>by have:=(HVB.out q hq).1;omega)
   clear P6 O6 H6 H6r F6 ha0 hown7 hgrow7 kp c0 c1 c2 c3 c4 c5 c6 c7 z0 z1 z2 z3 z4 z5 z6 z7 d0 d1 d2 d3 d4 d5 d6 d7 e0 e1 e2 e3 e4 e5 e6 e7 f0 f1 f2 y0 y1 y2
   obtain ⟨⟨c0,c1,c2,c3,c4,c5,c6,c7⟩,z0,z1,z2,z3,z4,z5,z6,z7⟩:=P7.box.x8
   obtain ⟨⟨d0,d1,d2,d3,d4,d5,d6,d7⟩,e0,e1,e2,e3,e4,e5,e6,e7⟩:=P7.out.x8
   have P8:=P7.set (z':=#[.int .i64 m.flags,.int .i64 m.name,.int .i64 m.desc,.int .i64 m.deep,.int .i64 m.locals,.string m.code,.slice b5 m.traps.length j5,.slice b7 (k+1) j7]) 7 (.slice b7 (k+1) j7) rfl
   have O8:=hid (ownsRow_setCell_below O7.out (a:=⟨w.heap.size+2,7,none⟩) (by simp) (.slice b7 (k+1) j7))
   have W8:=hid (X7.out.low (a:=⟨w.heap.size+2,7,none⟩) (by simp) (.slice b7 (k+1) j7))
   clear P7 O7 X7
   go_wp2
   go_roundw
   case rel=>exact ⟨k+1,_,_,by omega,by go_num,P8,W8,O8⟩
   case measure=>simp [intOf];omega
  ·obtain rfl:k=m.frames.length:=by omega
   obtain ⟨⟨r0,r1,r2,r3,r4,r5,r6,r7⟩,q0,q1,q2,q3,q4,q5,q6,q7⟩:=P.res.x8
   have HB3:=hid P.b
   have HM1:=hid (show M1 wr (w.heap.size+3) (.slice b5 m.traps.length j5) (.slice b6 m.frames.length j6) m us from ⟨O.out,by have:=hX.out;rwa [List.take_length] at this⟩)
   clear P hown HVB hX
   go_wp2
   refine bodyPost_ret (v:=.agg #[.int .i64 m.flags,.int .i64 m.name,.int .i64 m.desc,.int .i64 m.deep,.int .i64 m.locals,.string m.code,.slice b5 m.traps.length j5,.slice b6 m.frames.length j6]) (by simp [results,Tryz.results45,go_sem, *]) rfl ⟨b5,j5,b6,j6,rfl, ?_, ?_⟩
   ·have o0:=HM1.out
    have o1:=o0.low (a:=⟨w.heap.size+1,0,none⟩) (by simp) (.int .i64 m.flags)
    have o2:=o1.low (a:=⟨w.heap.size+1,1,none⟩) (by simp) (.int .i64 m.name)
    have o3:=o2.low (a:=⟨w.heap.size+1,2,none⟩) (by simp) (.int .i64 m.desc)
    have o4:=o3.low (a:=⟨w.heap.size+1,3,none⟩) (by simp) (.int .i64 m.deep)
    have o5:=o4.low (a:=⟨w.heap.size+1,4,none⟩) (by simp) (.int .i64 m.locals)
    have o6:=o5.low (a:=⟨w.heap.size+1,5,none⟩) (by simp) (.string m.code)
    have o7:=o6.low (a:=⟨w.heap.size+1,6,none⟩) (by simp) (.slice b5 m.traps.length j5)
    have o8:=o7.low (a:=⟨w.heap.size+1,7,none⟩) (by simp) (.slice b6 m.frames.length j6)
    have o9:=o8.mono (show w.heap.size≤w.heap.size+3 by omega)
    exact ⟨o9.t,o9.f.all⟩
   ·exact (((((((HB3.out.setCell (by simp) _).setCell (by simp) _).setCell (by simp) _).setCell (by simp) _).setCell (by simp) _).setCell (by simp) _).setCell (by simp) _).setCell (by simp) _
end Go.Proofs.YtecbcdfkedocbaaGreatDoor
