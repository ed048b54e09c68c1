/- Gathered: CpLess CpApp. -/
import Derived.Test.YtadgoaogkkffmaaGreatDoorC3
import Derived.Test.YtadgoaogkkffmaaGreatDoorC4
import Derived.Test.YtadgoaogkkffmaaGreatDoorG03
import Derived.Laws.AppendOwnNone
namespace Go.Proofs.YtadgoaogkkffmaaGreatDoor
open Mx Go.RowKit
set_option maxHeartbeats 2000000
set_option maxRecDepth 20000
set_option linter.unusedVariables false
def lessM (m:MMethod):MMethod:={ m with frames:=[] }
def lessC (c:MClass):MClass:={ c with methods:=c.methods.map lessM }
def noneC:MClass:=⟨[],0,0,0,[],[],[]⟩
def lessR (c:MClass) (n:Int):MClass:=if n=0 then lessC c else noneC
theorem setMethodF (us:List SMethod) (k:Nat) (u:Value) (h:k<us.length):(rowMethod us).set (k*8+7) u=rowMethod (us.set k { us[k] with frames:=u }):=by
 have hl:(rowMethod (us.take k)).length=k*8:=by rw [rowMethod_len,List.length_take];omega
 have h':k<(us.set k { us[k] with frames:=u }).length:=by simpa using h
 rw [rowMethod_at us k h,List.set_append_right _ _ (by omega),hl,show k*8+7 - k*8=7 by omega,rowMethod_at _ k h',List.take_set_of_le (Nat.le_refl k),List.drop_set_of_lt (Nat.lt_succ_self k),List.getElem_set_self]
 rfl
theorem Kp.grow0 {W W':World} {B B':Nat} {e0:TypeId} {z n:Nat} {v:Value} {xs:List Value} (hv:W.ownsRow B' e0 z v n xs) (g:W.grownBy W' v.ownBlock):Kp W W' B e0:=fun e z v n xs he ho=>own_grow ho hv he g
theorem apart_none {vs:List Value} (h:∀ v∈vs,v.ownBlock=none):Apart vs:=by
 induction vs with
 | nil=>exact Apart.nil
 | cons v vs ih=>
  refine List.Pairwise.cons (fun u hu i j hi _=>?_) (ih fun u hu=>h u (List.mem_cons_of_mem _ hu))
  rw [h v (List.mem_cons_self ..)] at hi
  cases hi
structure LE (w:World) (H g:Nat) (o1 o2 o3 o4:Value) (c:MClass) (k:Nat) (xs:List SMethod) (W:World):Prop where
 b:Below w.heap.size w W
 res:Lk W (w.heap.size+1) #[.slice none 0 0,.int .i64 0,.int .i64 0,.int .i64 0,.slice none 0 0,.slice none 0 0,.slice none 0 0] 34
 out:Lk W g #[o1,.int .i64 c.flags,.int .i64 c.name,.int .i64 c.super,o2,o3,o4] 34
 cc:CpC W H o1 o2 o3 o4 c xs
 no:∀ j (h:j<xs.length),j<k→xs[j].frames=.slice none 0 0
theorem LE.step {w W:World} {H g gm k4:Nat} {o1 o2 o3:Value} {c:MClass} {k:Nat} {xs:List SMethod} (h:LE w H g o1 o2 o3 (.slice (some ⟨gm,0,none⟩) c.methods.length k4) c k xs W) (hH:w.heap.size+2≤H) (hk:k<xs.length) :
  LE w H g o1 o2 o3 (.slice (some ⟨gm,0,none⟩) c.methods.length k4) c (k+1) (xs.set k { xs[k] with frames:=.slice none 0 0 }) (W.setCell ⟨gm,k*8+7,none⟩ (.slice none 0 0)):=by
 obtain ⟨s1,s2⟩:=h.cc.m.row.stored (k*8+7) (.slice none 0 0)
 have kp:Kp W (W.setCell ⟨gm,k*8+7,none⟩ (.slice none 0 0)) H 74:=Kp.grow0 h.cc.m.row s2
 have hg:=h.cc.m.row.lt gm rfl
 have hne:=own_ne h.cc.m.row h.out (by decide)
 have hx:∀ j (hj:j<(xs.set k { xs[k] with frames:=.slice none 0 0 }).length),(xs.set k { xs[k] with frames:=.slice none 0 0 })[j].traps=(xs[j]'(by simpa using hj)).traps:=by
  intro j hj
  rw [List.getElem_set]
  split
  ·rename_i e;subst e;rfl
  ·rfl
 have hlen:(xs.set k { xs[k] with frames:=.slice none 0 0 }).length=xs.length:=by simp
 refine ⟨h.b.setCell (by dsimp only;omega) _,h.res.other _ (by dsimp only;omega),h.out.other _ (fun q=>hne (by rw [q];rfl)),⟨kp _ _ _ _ _ (by decide) h.cc.p,kp _ _ _ _ _ (by decide) h.cc.i,kp _ _ _ _ _ (by decide) h.cc.f,⟨by rw [hlen];exact h.cc.m.len, ?_,fun j p q=>?_,fun j p q=>?_,fun j q=>?_, ?_⟩⟩,fun j q hj=>?_⟩
 ·rw [← setMethodF xs k _ hk];exact s1
 ·have e:=h.cc.m.sh j p (by omega)
  rw [List.getElem_set]
  split
  ·rename_i e';subst e';rw [e];rfl
  ·exact e
 ·rw [hx j q]
  exact kp _ _ _ _ _ (by decide) (h.cc.m.tr j p (by omega))
 ·rw [List.getElem_set]
  split
  ·exact ⟨_,_,_,rfl⟩
  ·exact h.cc.m.fr j (by omega)
 ·have e:(xs.set k { xs[k] with frames:=.slice none 0 0 }).map SMethod.traps=xs.map SMethod.traps:=by
   apply List.ext_getElem
   ·simp
   ·intro j h1 h2
    rw [List.getElem_map,List.getElem_map]
    exact hx j (by simpa using h1)
  rw [e];exact h.cc.m.at_
 ·rw [List.getElem_set]
  split
  ·rfl
  ·exact h.no j (by omega) (by omega)
theorem CpC.less {W:World} {B:Nat} {vp vi vf vm:Value} {c:MClass} {xs:List SMethod} (h:CpC W B vp vi vf vm c xs) (hn:∀ j (h:j<xs.length),xs[j].frames=.slice none 0 0):ClA W B vp vi vf vm (lessC c) xs (xs.map fun _=>[]):=by
 have hl:=h.m.len
 refine ⟨h.p,h.i,h.f,⟨by simp [lessC,hl],by simp [lessC,hl], ?_,fun k p q=>?_,fun k p q=>?_,fun k p q r=>?_,h.m.at_, ?_, ?_⟩⟩
 ·have:=h.m.row
  simpa [lessC] using this
 ·have:=h.m.sh k (by simpa [lessC] using p) q
  rw [this]
  simp [lessC,lessM,shM]
 ·have:=h.m.tr k (by simpa [lessC] using p) q
  simpa [lessC,lessM] using this
 ·rw [hn k q]
  simp only [lessC,List.getElem_map,lessM]
  exact ⟨rfl,World.ownsRow_nil _ _ _ _,fun j hj=>by simp at hj⟩
 ·exact apart_none fun v hv=>by
   obtain ⟨x,hx,rfl⟩:=List.mem_map.1 hv
   obtain ⟨j,hj,rfl⟩:=List.getElem_of_mem hx
   rw [hn j hj];rfl
 ·have e:(xs.map fun _=>([]:List SFrame)).flatMap kb=[]:=by
   apply List.flatMap_eq_nil_iff.2
   intro y hy
   obtain ⟨_,_,rfl⟩:=List.mem_map.1 hy
   rfl
  rw [e];exact Apart.nil
theorem ClA.nothing (W:World) (B:Nat):ClA W B (.slice none 0 0) (.slice none 0 0) (.slice none 0 0) (.slice none 0 0) noneC [] []:=
 ⟨World.ownsRow_nil _ _ _ _,World.ownsRow_nil _ _ _ _,World.ownsRow_nil _ _ _ _,MA.nil _ _⟩
theorem implLess_any (c:MClass) (vp vi vf vm:Value) (B:Nat) (w:World) (Q:Int→Prop) (hc:c.few) (h:ClassW w B vp vi vf vm c)
  (hI:∀ W,Below w.heap.size w W→Calls Tryz.prog 12 #[.agg #[vp,.int .i64 c.flags,.int .i64 c.name,.int .i64 c.super,vi,vf,vm]] W fun e w'=>∃ n:Int,e=.returned (.int .i64 n)∧Q n∧Below W.heap.size W w') :
  Calls Tryz.prog 15 #[.agg #[vp,.int .i64 c.flags,.int .i64 c.name,.int .i64 c.super,vi,vf,vm]] w fun e w'=>∃ n up ui uf um xs,Q n∧e=.returned (.agg #[up,.int .i64 (lessR c n).flags,.int .i64 (lessR c n).name,.int .i64 (lessR c n).super,ui,uf,um])∧ClA w' w.heap.size up ui uf um (lessR c n) xs (xs.map fun _=>[])∧Below w.heap.size w w':=by
 obtain ⟨o1,j1,hv1⟩:=own_len h.p
 obtain ⟨o2,j2,hv2⟩:=own_len h.i
 obtain ⟨o3,j3,hv3⟩:=own_len h.f
 obtain ⟨o4,j4,hv4⟩:=h.m.len
 subst hv1 hv2 hv3 hv4
 have S0:=TwoB.new w 34 #[.slice o1 c.pool.length j1,.int .i64 c.flags,.int .i64 c.name,.int .i64 c.super,.slice o2 c.faces.length j2,.slice o3 c.fields.length j3,.slice o4 c.methods.length j4] #[.slice none 0 0,.int .i64 0,.int .i64 0,.int .i64 0,.slice none 0 0,.slice none 0 0,.slice none 0 0]
 have hX:=hI _ S0.b
 have HC:=hid (fun W (hW:Below w.heap.size w W)=>copyClass_any c _ _ _ _ B W hc (h.keep hW))
 obtain ⟨⟨c0,c1,c2,c3,c4,c5,c6⟩,z0,z1,z2,z3,z4,z5,z6⟩:=S0.box.x7
 clear h hI
 go_enter Tryz.func15,Tryz.ntmps15
 go_wp2_with fail
 refine hX.mono ?_
 rintro e w1 ⟨n,rfl,hn,hb1⟩
 have T1:=S0.keep hb1
 have HN:=hid hn
 clear S0 hb1 hX hn c0 c1 c2 c3 c4 c5 c6 z0 z1 z2 z3 z4 z5 z6
 obtain ⟨⟨c0,c1,c2,c3,c4,c5,c6⟩,z0,z1,z2,z3,z4,z5,z6⟩:=T1.box.x7
 by_cases h0:n=0
 ·subst h0
  have hC:=HC.out _ T1.b
  have hml:=hc.methods
  clear HC hc
  go_wp2_with fail
  refine hC.mono ?_
  rintro e w2 ⟨v1,v2,v3,v4,xs,rfl,hcc,hb2⟩
  obtain ⟨p1,k1,rfl⟩:=own_len hcc.p
  obtain ⟨p2,k2,rfl⟩:=own_len hcc.i
  obtain ⟨p3,k3,rfl⟩:=own_len hcc.f
  obtain ⟨p4,k4,rfl⟩:=own_len hcc.m.row
  have T2:=T1.keep hb2
  have hsz1:w.heap.size+2≤w1.heap.size:=by have:=T1.res.lt;omega
  have ha:Below w2.heap.size w2 (w2.alloc (.cells #[.slice p1 c.pool.length k1,.int .i64 c.flags,.int .i64 c.name,.int .i64 c.super,.slice p2 c.faces.length k2,.slice p3 c.fields.length k3,.slice p4 c.methods.length k4] 34)):=(Below.refl _ _).alloc (Nat.le_refl _) _
  have L0:LE w w1.heap.size w2.heap.size (.slice p1 c.pool.length k1) (.slice p2 c.faces.length k2) (.slice p3 c.fields.length k3) (.slice p4 c.methods.length k4) c 0 xs (w2.alloc (.cells #[.slice p1 c.pool.length k1,.int .i64 c.flags,.int .i64 c.name,.int .i64 c.super,.slice p2 c.faces.length k2,.slice p3 c.fields.length k3,.slice p4 c.methods.length k4] 34)):=
   ⟨(T2.keep ha).b,(T2.keep ha).res,Lk.new _ _ _,hcc.keep ha,fun j _ hj=>by omega⟩
  have HXL:=hcc.m.len
  clear hcc hC hb2 T1 T2 ha c0 c1 c2 c3 c4 c5 c6 z0 z1 z2 z3 z4 z5 z6
  obtain ⟨⟨c0,c1,c2,c3,c4,c5,c6⟩,z0,z1,z2,z3,z4,z5,z6⟩:=L0.out.x7
  go_wp2
  go_loopw [14] (fun i wr=>∃ (k:Nat) (ys:List SMethod),k≤c.methods.length∧i=.int .i64 k∧ys.length=c.methods.length∧LE w w1.heap.size w2.heap.size (.slice p1 c.pool.length k1) (.slice p2 c.faces.length k2) (.slice p3 c.fields.length k3) (.slice p4 c.methods.length k4) c k ys wr) (fun i _=>c.methods.length - (intOf i).toNat)
  case atStart=>exact ⟨0,xs,by omega,by first|rfl|go_num,HXL,L0⟩
  case round=>
   obtain ⟨k,ys,hk,rfl,hyl,L⟩:=hrel
   clear L0 c0 c1 c2 c3 c4 c5 c6 z0 z1 z2 z3 z4 z5 z6
   obtain ⟨⟨c0,c1,c2,c3,c4,c5,c6⟩,z0,z1,z2,z3,z4,z5,z6⟩:=L.out.x7
   by_cases hlt:k<c.methods.length
   ·obtain ⟨gm,hg⟩:=own_some L.cc.m.row (by omega)
    subst hg
    obtain ⟨g0,g1,g2,g3,g4,g5,g6,g7⟩:=ownMethod_at L.cc.m.row (k:=k) hyl (by omega)
    obtain ⟨a9,n9,k9,e9⟩:=L.cc.m.fr k (by omega)
    rw [e9] at g7
    have zf:=L.cc.m.row.frozenAt (k*8+7)
    have L1:=L.step hsz1 (show k<ys.length by omega)
    have z5:(k:Int)<(c.methods.length:Int):=by omega
    have HYL:=hid (show (ys.set k { ys[k]'(by omega) with frames:=.slice none 0 0 }).length=c.methods.length by simpa using hyl)
    generalize ys.set k { ys[k]'(by omega) with frames:=.slice none 0 0 }=zs at L1 HYL
    have HL1:=hid L1
    clear L L1 e9 g0 g1 g2 g3 g4 g5 g6
    go_wp2
    go_roundw
    case rel=>exact ⟨k+1,zs,by omega,by go_num,HYL.out,HL1.out⟩
    case measure=>simp [intOf];omega
   ·obtain rfl:k=c.methods.length:=by omega
    obtain ⟨⟨r0,r1,r2,r3,r4,r5,r6⟩,q0,q1,q2,q3,q4,q5,q6⟩:=L.res.x7
    have HL:=hid L
    clear L
    go_wp2
    refine bodyPost_ret (v:=.agg #[.slice p1 c.pool.length k1,.int .i64 c.flags,.int .i64 c.name,.int .i64 c.super,.slice p2 c.faces.length k2,.slice p3 c.fields.length k3,.slice p4 c.methods.length k4]) (by simp [results,Tryz.results15,go_sem, *]) rfl ⟨0,_,_,_,_,ys,HN.out,rfl, ?_, ?_⟩
    ·have s0:=HL.out.cc
     have s1:=s0.set (a:=⟨w.heap.size+1,0,none⟩) (by dsimp only;omega) (.slice p1 c.pool.length k1)
     have s2:=s1.set (a:=⟨w.heap.size+1,1,none⟩) (by dsimp only;omega) (.int .i64 c.flags)
     have s3:=s2.set (a:=⟨w.heap.size+1,2,none⟩) (by dsimp only;omega) (.int .i64 c.name)
     have s4:=s3.set (a:=⟨w.heap.size+1,3,none⟩) (by dsimp only;omega) (.int .i64 c.super)
     have s5:=s4.set (a:=⟨w.heap.size+1,4,none⟩) (by dsimp only;omega) (.slice p2 c.faces.length k2)
     have s6:=s5.set (a:=⟨w.heap.size+1,5,none⟩) (by dsimp only;omega) (.slice p3 c.fields.length k3)
     have s7:=s6.set (a:=⟨w.heap.size+1,6,none⟩) (by dsimp only;omega) (.slice p4 c.methods.length k4)
     exact (s7.mono (show w.heap.size≤w1.heap.size by omega)).less fun j hj=>HL.out.no j hj (by omega)
    ·exact ((((((HL.out.b.setCell (by simp) _).setCell (by simp) _).setCell (by simp) _).setCell (by simp) _).setCell (by simp) _).setCell (by simp) _).setCell (by simp) _
 ·obtain ⟨⟨r0,r1,r2,r3,r4,r5,r6⟩,q0,q1,q2,q3,q4,q5,q6⟩:=T1.res.x7
  have HB:=hid T1.b
  have e1:lessR c n=noneC:=by unfold lessR;rw [if_neg h0]
  clear T1 HC
  go_wp2
  refine bodyPost_ret (v:=.agg #[.slice none 0 0,.int .i64 0,.int .i64 0,.int .i64 0,.slice none 0 0,.slice none 0 0,.slice none 0 0]) (by simp [results,Tryz.results15,go_sem, *]) rfl ⟨n,_,_,_,_,[],HN.out,by rw [e1];rfl,by rw [e1];exact ClA.nothing _ _, ?_⟩
  exact ((((((HB.out.setCell (by simp) _).setCell (by simp) _).setCell (by simp) _).setCell (by simp) _).setCell (by simp) _).setCell (by simp) _).setCell (by simp) _
set_option maxHeartbeats 1000000
theorem app_copy {P:Program} (W:World) {ops:Array Oper} {rest:List Oper} {o:Oper} {a:Act} {Q:Exit→Act→World→Prop} (hgd:o.guard=none) (s x:Operand) (t:TypeId)
  (ho:o.op=.call { callee:=.builtin .append,args:=#[s,x],argTypes:=#[t,t] })
  (e:TypeId) (i:TypeInfo) (z:Value) (size bytes:Nat) (ht:P.underlying t=some (.slice e)) (hi:P.info? e=some i) (hz:i.zero=some z)
  (hsize:i.size=size) (hby:i.bytes=bytes) (hzs:z.cells.size=size) (hsz:0<size) (hb:bytes≤104)
  (H:Nat) (hH:W.heap.size=H) (hs:a.eval s=.slice (some ⟨H,0,none⟩) 0 0) (u:Value) (m B:Nat) (ys:List Value) (hx:a.eval x=u) (hu:W.ownsRow B e size u m ys) (h1:∀ u∈ys,u.oneCell'=true) (hm:m≤1048576)
  (h:∀ v' w',w'.ownsRow W.heap.size e size v' m ys→Below W.heap.size W w'→wpList P ops Q rest (a.put o.dst v') w'):wpList P ops Q (o :: rest) a (W.alloc (.cells #[] e)):=by
 subst hH
 have hmade:(W.alloc (.cells #[] e)).ownsRow W.heap.size e size (.slice (some ⟨W.heap.size,0,none⟩) 0 0) 0 []:=World.ownsRow_made W #[] 0 (Nat.le_refl _) (by unfold maxLen;omega) (by simp)
 have hal:Below W.heap.size W (W.alloc (.cells #[] e)):=(Below.refl _ _).alloc (Nat.le_refl _) _
 rcases Joins.ownsRow_forms hu with ⟨hv,hn0⟩|⟨g,cap,hv⟩
 ·subst hv hn0
  obtain rfl:ys=[]:=List.eq_nil_of_length_eq_zero (by have:=hu.1;omega)
  exact wpList_append_own_none hgd s x t ho W.heap.size e i size ht hi _ 0 [] hs hmade hx (h _ _ hmade hal)
 ·subst hv
  have hg:=(hu.lt g rfl).2
  refine wpList_append_own _ hgd s x t ho W.heap.size e i z size bytes ht hi hz hsize hby hzs hsz _ 0 [] hs hmade ⟨g,0,none⟩ m cap ys hx hu.1 (fun j u hj=>(hal.cell (p:=(⟨g,0,none⟩:Addr).add j) (by rw [addr_add];exact hg)).trans (hu.cells (g:=g) rfl j u hj)) h1 (by unfold maxLen;omega) (by
   have:(0+m)*bytes≤1048576*104:=Nat.mul_le_mul (by omega) hb
   omega) (by simp) fun v' w' hown hgrow _=>h v' w' (by simpa using hown) (below_grown hal hgrow (by simp) (Nat.le_refl _))
end Go.Proofs.YtadgoaogkkffmaaGreatDoor
