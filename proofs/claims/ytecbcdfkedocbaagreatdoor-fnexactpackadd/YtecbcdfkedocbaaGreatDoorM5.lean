/- Gathered: MkMethod MkMethodW. -/
import Derived.Test.YtecbcdfkedocbaaGreatDoorM4
import Derived.Test.YtecbcdfkedocbaaGreatDoorC4
namespace Go.Proofs.YtecbcdfkedocbaaGreatDoor
open Go.RowKit
set_option maxHeartbeats 2000000
set_option maxRecDepth 20000
set_option linter.unusedVariables false
theorem setMethod6 (us:List SMethod) (k:Nat) (a0 a1 a2 a3 a4:Int) (x:ByteArray) (h:k<us.length) :
  ((((((rowMethod us).set (k*8) (.int .i64 a0)).set (k*8+1) (.int .i64 a1)).set (k*8+2) (.int .i64 a2)).set (k*8+3) (.int .i64 a3)).set (k*8+4) (.int .i64 a4)).set (k*8+5) (.string x)=rowMethod (us.set k ⟨a0,a1,a2,a3,a4,x,us[k].traps,us[k].frames⟩):=by
 have e2:us.set k ⟨a0,a1,a2,a3,a4,x,us[k].traps,us[k].frames⟩=us.take k++⟨a0,a1,a2,a3,a4,x,us[k].traps,us[k].frames⟩ :: us.drop (k+1):=by rw [List.set_eq_take_append_cons_drop,if_pos h]
 have hl:(rowMethod (us.take k)).length=k*8:=by rw [rowMethod_len,List.length_take];omega
 have e1:rowMethod us=rowMethod (us.take k)++(.int .i64 us[k].flags :: .int .i64 us[k].name :: .int .i64 us[k].desc :: .int .i64 us[k].deep :: .int .i64 us[k].locals :: .string us[k].code :: us[k].traps :: us[k].frames :: rowMethod (us.drop (k+1))):=rowMethod_at us k h
 rw [e2,e1,List.set_append_right _ _ (by omega),hl,Nat.sub_self,List.set_cons_zero,List.set_append_right _ _ (by omega),hl,show k*8+1 - k*8=1 by omega,List.set_cons_succ,List.set_cons_zero,List.set_append_right _ _ (by omega),hl,show k*8+2 - k*8=2 by omega,List.set_cons_succ,List.set_cons_succ,List.set_cons_zero,List.set_append_right _ _ (by omega),hl,show k*8+3 - k*8=3 by omega,List.set_cons_succ,List.set_cons_succ,List.set_cons_succ,List.set_cons_zero,List.set_append_right _ _ (by omega),hl,show k*8+4 - k*8=4 by omega,List.set_cons_succ,List.set_cons_succ,List.set_cons_succ,List.set_cons_succ,List.set_cons_zero,List.set_append_right _ _ (by omega),hl,show k*8+5 - k*8=5 by omega,List.set_cons_succ,List.set_cons_succ,List.set_cons_succ,List.set_cons_succ,List.set_cons_succ,List.set_cons_zero]
 unfold rowMethod
 rw [List.flatMap_append,List.flatMap_cons];rfl
def nF (fs:List MFrame):Nat:=(fs.map cF).sum
theorem kF_all (k:Nat) (fs:List MFrame):kF k fs fs.length=k+nF fs:=by unfold kF nF;rw [List.take_length]
def cM (m:MMethod):Nat:=6+m.traps.length*4+nF m.frames
def kM (k:Nat) (ms:List MMethod) (j:Nat):Nat:=k+((ms.take j).map cM).sum
theorem kM_zero (k:Nat) (ms:List MMethod):kM k ms 0=k:=by simp [kM]
theorem kM_succ (k:Nat) (ms:List MMethod) (j:Nat) (h:j<ms.length):kM k ms (j+1)=kM k ms j+cM ms[j]:=by
 unfold kM
 have e:ms.take (j+1)=ms.take j++[ms[j]]:=by rw [List.take_add_one,List.getElem?_eq_getElem h];rfl
 rw [e,List.map_append,List.sum_append]
 simp only [List.map_cons,List.map_nil,List.sum_cons,List.sum_nil]
 omega
def shortM (m:MMethod):Prop:=m.traps.length≤3∧m.frames.length≤8∧∀ f∈m.frames,shortF f
theorem nF_le (fs:List MFrame) (hn:fs.length≤8) (hs:∀ f∈fs,shortF f):nF fs≤264:=by
 have:=kF_le 0 fs hs fs.length (Nat.le_refl _)
 rw [kF_all] at this
 omega
theorem kM_le (k:Nat) (ms:List MMethod) (hs:∀ m∈ms,shortM m) (j:Nat) (h:j≤ms.length):kM k ms j≤k+282*j:=by
 induction j with
 | zero=>rw [kM_zero];omega
 | succ j ih=>
  rw [kM_succ k ms j (by omega)]
  have:=ih (by omega)
  obtain ⟨h1,h2,h3⟩:=hs ms[j] (List.getElem_mem _)
  have:=nF_le _ h2 h3
  unfold cM
  omega
theorem FM.kind {W:World} {B:Nat} {v:Value} {fs:List MFrame} {us:List SFrame} {k i:Nat} (h:FM W B v fs us k i):∀ x∈kb us,∃ n xs,W.ownsRow B 144 2 x n xs:=by
 intro x hx
 obtain ⟨y,hy,hm⟩:=List.mem_flatMap.1 hx
 obtain ⟨j,hj,rfl⟩:=List.getElem_of_mem hy
 have hl:=h.len
 simp at hm
 rcases hm with rfl|rfl
 ·obtain ⟨xs,q,_⟩:=h.l j hj (by omega)
  exact ⟨_,xs,q⟩
 ·obtain ⟨xs,q,_⟩:=h.s j hj (by omega)
  exact ⟨_,xs,q⟩
theorem FM.other {W W':World} {B B':Nat} {v u:Value} {fs:List MFrame} {us:List SFrame} {k i:Nat} {e:TypeId} {z n:Nat} {xs:List Value} (h:FM W B v fs us k i) (hm:Mod [u] W W') (hu:W.ownsRow B' e z u n xs) (h1:114≠e) (h2:144≠e):FM W' B v fs us k i:=
 h.mod hm (fun a ha q hq=>by simp at ha;subst ha;exact own_types h.row hu h1 q hq) (fun x hx a ha q hq=>by
  simp at ha;subst ha
  obtain ⟨n',xs',ho⟩:=h.kind x hx
  exact own_types ho hu h2 q hq)
theorem Mod.other {W W':World} {B B':Nat} {v u:Value} {e e':TypeId} {z n z' n':Nat} {xs xs':List Value} (hm:Mod [u] W W') (h:W.ownsRow B e z v n xs) (hu:W.ownsRow B' e' z' u n' xs') (hne:e≠e'):W'.ownsRow B e z v n xs:=hm.own h (fun a ha q hq=>by simp at ha;subst ha;exact own_types h hu hne q hq)
theorem Mod.frames {W W':World} {B B':Nat} {v vf:Value} {e:TypeId} {z n:Nat} {xs:List Value} {fs:List MFrame} {us:List SFrame} {k i:Nat} (hm:Mod (vf :: kb us) W W') (h:W.ownsRow B e z v n xs) (hf:FM W B' vf fs us k i) (h1:e≠114) (h2:e≠144):W'.ownsRow B e z v n xs:=hm.own h (fun a ha q hq=>by
 rcases List.mem_cons.1 ha with rfl|ha
 ·exact own_types h hf.row h1 q hq
 ·obtain ⟨n',xs',ho⟩:=hf.kind a ha
  exact own_types h ho h2 q hq)
theorem ak_ne {ys:List (List SFrame)} (h:Apart (ys.flatMap kb)) {i j:Nat} (hi:i<ys.length) (hj:j<ys.length) (hij:i≠j):∀ x∈kb ys[j],∀ u∈kb ys[i],∀ q,x.ownBlock=some q→u.ownBlock≠some q:=by
 intro x hx u hu q h1 h2
 have hp:=(List.pairwise_flatMap.1 h).2
 rcases Nat.lt_or_gt_of_ne hij with hl|hl
 ·have:=List.pairwise_iff_getElem.1 hp i j hi hj hl u hu x hx q q h2 h1
  omega
 ·have:=List.pairwise_iff_getElem.1 hp j i hj hi hl x hx u hu q q h1 h2
  omega
structure MK (W:World) (B:Nat) (v:Value) (ms:List MMethod) (us:List SMethod) (ys:List (List SFrame)) (k i:Nat):Prop where
 len:us.length=ms.length
 len2:ys.length=ms.length
 row:W.ownsRow B 75 8 v ms.length (rowMethod us)
 hd:∀ j (h:j<us.length),j<i→us[j]=⟨kM k ms j,kM k ms j+1,kM k ms j+2,kM k ms j+3,kM k ms j+4,mt (kM k ms j+5),us[j].traps,us[j].frames⟩
 tr:∀ j (h:j<us.length) (h':j<ms.length),∃ xs,W.ownsRow B 140 4 us[j].traps ms[j].traps.length xs∧(j<i→xs=cnt (kM k ms j+6) (ms[j].traps.length*4))
 fm:∀ j (h:j<us.length) (h':j<ms.length) (h'':j<ys.length),∃ p,FM W B us[j].frames ms[j].frames ys[j] (kM k ms j+6+ms[j].traps.length*4) p∧(j<i→p=ms[j].frames.length)∧(¬j<i→p=0)
 at_:Apart (us.map SMethod.traps)
 af:Apart (us.map SMethod.frames)
 ak:Apart (ys.flatMap kb)
theorem MA.mk0 {W:World} {B:Nat} {v:Value} {ms:List MMethod} {us:List SMethod} {ys:List (List SFrame)} (h:MA W B v ms us ys) (k:Nat):MK W B v ms us ys k 0:=
 ⟨h.len,h.len2,h.row,fun j _ hj=>absurd hj (by omega),fun j h1 h2=>⟨_,h.tr j h2 h1,fun hj=>absurd hj (by omega)⟩,fun j h1 h2 h3=>⟨0,(h.fx j h2 h1 h3).fm ((List.pairwise_flatMap.1 h.ak).1 _ (List.getElem_mem h3)) _,fun hj=>absurd hj (by omega),fun _=>rfl⟩,h.at_,h.af,h.ak⟩
theorem map_set_same {α β:Type} (f:α→β) (us:List α) (i:Nat) (x:α) (hi:i<us.length) (hx:f x=f us[i]):(us.set i x).map f=us.map f:=by
 rw [List.map_set,hx]
 apply List.ext_getElem
 ·simp
 ·intro j h1 h2
  rw [List.getElem_set]
  split
  ·rename_i e;subst e;simp
  ·rfl
theorem flat_set_same (ys:List (List SFrame)) (i:Nat) (y:List SFrame) (hi:i<ys.length) (hy:kb y=kb ys[i]):(ys.set i y).flatMap kb=ys.flatMap kb:=by
 rw [List.flatMap_def,List.flatMap_def,map_set_same kb ys i y hi hy]
theorem MK.next {W W1 W2 W3:World} {B:Nat} {v:Value} {ms:List MMethod} {us:List SMethod} {ys:List (List SFrame)} {k i:Nat} {y:List SFrame} {x:SMethod} (h:MK W B v ms us ys k i) (hi:i<us.length) (hi':i<ms.length) (hi2:i<ys.length)
  (hx:x=⟨kM k ms i,kM k ms i+1,kM k ms i+2,kM k ms i+3,kM k ms i+4,mt (kM k ms i+5),us[i].traps,us[i].frames⟩)
  (r1:W1.ownsRow B 75 8 v ms.length (rowMethod (us.set i x))) (g1:Mod [v] W W1)
  (o2:W2.ownsRow B 140 4 us[i].traps ms[i].traps.length (cnt (kM k ms i+6) (ms[i].traps.length*4))) (g2:Mod [us[i].traps] W1 W2)
  (f3:FM W3 B us[i].frames ms[i].frames y (kM k ms i+6+ms[i].traps.length*4) ms[i].frames.length) (hy:kb y=kb ys[i]) (g3:Mod (us[i].frames :: kb ys[i]) W2 W3) :
  MK W3 B v ms (us.set i x) (ys.set i y) k (i+1)∧Mod (v :: (us.map SMethod.traps++(us.map SMethod.frames++ys.flatMap kb))) W W3:=by
 have hl:=h.len
 have hl2:=h.len2
 obtain ⟨tz,ht,_⟩:=h.tr i hi hi'
 have ht1:=g1.other ht h.row (by decide)
 obtain ⟨p0,hf,_,_⟩:=h.fm i hi hi' hi2
 have hf1:=hf.other g1 h.row (by decide) (by decide)
 have hf2:=hf1.other g2 ht1 (by decide) (by decide)
 have r2:=g2.other r1 ht1 (by decide)
 have r3:=Mod.frames g3 r2 hf2 (by decide) (by decide)
 have o3:=Mod.frames g3 o2 hf2 (by decide) (by decide)
 have ex1:x.traps=us[i].traps:=by rw [hx]
 have ex2:x.frames=us[i].frames:=by rw [hx]
 refine ⟨⟨by simp [hl],by simp [hl2],r3,fun j hj hji=>?_,fun j hj hj'=>?_,fun j hj hj' hj''=>?_,by rw [map_set_same _ us i x hi ex1];exact h.at_,by rw [map_set_same _ us i x hi ex2];exact h.af,by rw [flat_set_same ys i y hi2 hy];exact h.ak⟩, ?_⟩
 ·have hj2:j<us.length:=by simpa using hj
  rw [List.getElem_set]
  split
  ·rename_i e;subst e
   rw [hx]
  ·exact h.hd j hj2 (by omega)
 ·have hj2:j<us.length:=by simpa using hj
  by_cases e:i=j
  ·subst e
   exact ⟨_,by simpa [List.getElem_set,ex1] using o3,fun _=>rfl⟩
  ·obtain ⟨xs,q1,q2⟩:=h.tr j hj2 hj'
   refine ⟨xs, ?_,fun hji=>q2 (by omega)⟩
   have a1:=g1.other q1 h.row (by decide)
   have a2:=g2.own a1 (fun u hu q hq=>by
    simp at hu;subst hu
    have:=h.at_.ne (i:=j) (j:=i) (by simpa using hj2) (by simpa using hi) (fun e2=>e e2.symm) q (by simpa using hq)
    simpa using this)
   have a3:=Mod.frames g3 a2 hf2 (by decide) (by decide)
   simpa [List.getElem_set,e] using a3
 ·have hj2:j<us.length:=by simpa using hj
  have hj3:j<ys.length:=by simpa using hj''
  by_cases e:i=j
  ·subst e
   exact ⟨_,by simpa [List.getElem_set,ex2] using f3,fun _=>rfl,fun hn=>absurd (by omega) hn⟩
  ·obtain ⟨p,q1,q2,q3⟩:=h.fm j hj2 hj' hj3
   refine ⟨p, ?_,fun hji=>q2 (by omega),fun hji=>q3 (by omega)⟩
   have a1:=q1.other g1 h.row (by decide) (by decide)
   have a2:=a1.other g2 ht1 (by decide) (by decide)
   have a3:=a2.mod g3 (fun u hu q hq=>by
    rcases List.mem_cons.1 hu with rfl|hu
    ·have:=h.af.ne (i:=j) (j:=i) (by simpa using hj2) (by simpa using hi) (fun e2=>e e2.symm) q (by simpa using hq)
     simpa using this
    ·obtain ⟨n',xs',ho⟩:=hf2.kind u hu
     exact own_types a2.row ho (by decide) q hq) (fun z hz u hu q hq=>by
    rcases List.mem_cons.1 hu with rfl|hu
    ·obtain ⟨n',xs',ho⟩:=a2.kind z hz
     exact own_types ho hf2.row (by decide) q hq
    ·exact ak_ne h.ak hi2 hj3 e z hz u hu q hq)
   simpa [List.getElem_set,e] using a3
 ·refine ((g1.mono ?_).trans (g2.mono ?_)).trans (g3.mono ?_)
  ·intro u hu;simp at hu;subst hu;simp
  ·intro u hu;simp at hu;subst hu
   exact List.mem_cons_of_mem _ (List.mem_append_left _ (List.mem_map.2 ⟨us[i],List.getElem_mem _,rfl⟩))
  ·intro u hu
   refine List.mem_cons_of_mem _ (List.mem_append_right _ ?_)
   rcases List.mem_cons.1 hu with rfl|hu
   ·exact List.mem_append_left _ (List.mem_map.2 ⟨us[i],List.getElem_mem _,rfl⟩)
   ·exact List.mem_append_right _ (List.mem_flatMap.2 ⟨ys[i],List.getElem_mem _,hu⟩)
set_option maxHeartbeats 4000000
abbrev mods (v:Value) (us:List SMethod) (ys:List (List SFrame)):List Value:=v :: (us.map SMethod.traps++(us.map SMethod.frames++ys.flatMap kb))
theorem row6 {W w2:World} {B g n c:Nat} {us:List SMethod} {j:Nat} (a:Int) (x:ByteArray) (h:W.ownsRow B 75 8 (.slice (some ⟨g,0,none⟩) n c) n (rowMethod us)) (hj:j<us.length)
  (hb:Below ((((((W.setCell ⟨g,j*8,none⟩ (.int .i64 a)).setCell ⟨g,j*8+1,none⟩ (.int .i64 (a+1))).setCell ⟨g,j*8+2,none⟩ (.int .i64 (a+2))).setCell ⟨g,j*8+3,none⟩ (.int .i64 (a+3))).setCell ⟨g,j*8+4,none⟩ (.int .i64 (a+4)))).heap.size (((((W.setCell ⟨g,j*8,none⟩ (.int .i64 a)).setCell ⟨g,j*8+1,none⟩ (.int .i64 (a+1))).setCell ⟨g,j*8+2,none⟩ (.int .i64 (a+2))).setCell ⟨g,j*8+3,none⟩ (.int .i64 (a+3))).setCell ⟨g,j*8+4,none⟩ (.int .i64 (a+4))) w2) :
  w2.frozen? ⟨g,j*8+5,none⟩=false∧(w2.setCell ⟨g,j*8+5,none⟩ (.string x)).ownsRow B 75 8 (.slice (some ⟨g,0,none⟩) n c) n (rowMethod (us.set j ⟨a,a+1,a+2,a+3,a+4,x,us[j].traps,us[j].frames⟩))∧Mod [.slice (some ⟨g,0,none⟩) n c] W (w2.setCell ⟨g,j*8+5,none⟩ (.string x)):=by
 have s1:=h.stored (j*8) (.int .i64 a)
 have s2:=s1.1.stored (j*8+1) (.int .i64 (a+1))
 have s3:=s2.1.stored (j*8+2) (.int .i64 (a+2))
 have s4:=s3.1.stored (j*8+3) (.int .i64 (a+3))
 have s5:=s4.1.stored (j*8+4) (.int .i64 (a+4))
 have b5:=own_below s5.1 hb
 have s6:=b5.stored (j*8+5) (.string x)
 refine ⟨b5.frozenAt _,by rw [← setMethod6 us j a (a+1) (a+2) (a+3) (a+4) x hj];exact s6.1, ?_⟩
 have gg:=grown_trans (grown_trans (grown_trans (grown_trans (grown_trans (grown_trans s1.2 s2.2) s3.2) s4.2) s5.2) (below_grow hb)) s6.2
 exact Mod.grown (v:=.slice (some ⟨g,0,none⟩) n c) gg (by simp)
theorem markMethodS_any (v:Value) (k0 B:Nat) (ms:List MMethod) (us:List SMethod) (ys:List (List SFrame)) (w:World) (hn:ms.length≤6) (hs:∀ m∈ms,shortM m) (hk0:0<k0) (hk:k0≤50000) (h:MK w B v ms us ys k0 0) :
  Calls Tryz.prog 37 #[v,.int .i64 (k0:Int)] w fun e w'=>e=.returned (.int .i64 ((kM k0 ms ms.length:Nat):Int))∧∃ us' ys',MK w' B v ms us' ys' k0 ms.length∧Mod (mods v us ys) w w':=by
 by_cases hz:ms.length=0
 ·obtain ⟨ao1,c1,hv⟩:=own_len h.row
  subst hv
  have HO:=hid h
  rw [hz] at HO ⊢
  clear h
  go_enter Tryz.func37,Tryz.ntmps37
  go_wp2
  refine wp_loop_rounds 1 ?_
  rw [rounds_succ]
  go_wp2
  go_ret
  exact ⟨by rw [kM_zero];rfl,us,ys,HO.out,Mod.refl _ _⟩
 ·obtain ⟨g1,c1,hv⟩:=Joins.ownsRow_form h.row (by omega)
  subst hv
  have HL:=(show ∀ j,j≤ms.length→kM k0 ms j≤52000 from fun j hj=>by have:=kM_le k0 ms hs j hj;omega)
  have HP:=(show ∀ j,0<kM k0 ms j from fun j=>by unfold kM;omega)
  have H0:=hid h
  clear h
  go_enter Tryz.func37,Tryz.ntmps37
  go_wp2
  go_loopw [1,5] (fun kv i wr=>∃ (j a:Nat) (us':List SMethod) (ys':List (List SFrame)),j≤ms.length∧i=.int .i64 j∧kv=.int .i64 (a:Int)∧Hid (a=kM k0 ms j)∧Hid (MK wr B (.slice (some ⟨g1,0,none⟩) ms.length c1) ms us' ys' k0 j)∧Hid (us'.map SMethod.traps=us.map SMethod.traps∧us'.map SMethod.frames=us.map SMethod.frames∧ys'.flatMap kb=ys.flatMap kb)∧Hid (Mod (mods (.slice (some ⟨g1,0,none⟩) ms.length c1) us ys) w wr)) (fun _ i _=>ms.length - (intOf i).toNat)
  case atStart=>exact ⟨0,k0,us,ys,by omega,rfl,rfl,hid (by rw [kM_zero]),H0,hid ⟨rfl,rfl,rfl⟩,Mod.refl _ _⟩
  case round=>
   obtain ⟨j,a,us',ys',hj,rfl,rfl,ha,HO,HK,HM⟩:=hrel
   have hab:=HL j hj
   have hpos:=HP j
   rw [← ha.out] at hab hpos
   by_cases hlt:j<ms.length
   ·have hju:j<us'.length:=by rw [HO.out.len];exact hlt
    have hjy:j<ys'.length:=by rw [HO.out.len2];exact hlt
    obtain ⟨q1,q2,q3⟩:=hs ms[j] (List.getElem_mem _)
    obtain ⟨t0,t1,t2,t3,t4,t5,t6,t7⟩:=ownMethod_at HO.out.row HO.out.len hju
    have z0:=HO.out.row.frozenAt (j*8)
    have z1:=HO.out.row.frozenAt (j*8+1)
    have z2:=HO.out.row.frozenAt (j*8+2)
    have z3:=HO.out.row.frozenAt (j*8+3)
    have z4:=HO.out.row.frozenAt (j*8+4)
    have hgl:=(HO.out.row.lt g1 rfl).2
    obtain ⟨vt,hvt⟩:∃ vt,Hid (us'[j].traps=vt):=⟨_,hid rfl⟩
    obtain ⟨vf,hvf⟩:∃ vf,Hid (us'[j].frames=vf):=⟨_,hid rfl⟩
    obtain ⟨nt,hnt⟩:∃ nt,Hid (ms[j].traps.length=nt):=⟨_,hid rfl⟩
    rw [hnt.out] at q1
    rw [hvt.out] at t6
    rw [hvf.out] at t7
    obtain ⟨xt,hxt,_⟩:=HO.out.tr j hju hlt
    rw [hvt.out,hnt.out] at hxt
    obtain ⟨p,hfm,_,hp0⟩:=HO.out.fm j hju hlt hjy
    have hp0:=hp0 (by omega)
    subst hp0
    rw [hvf.out,hnt.out,← ha.out] at hfm
    have HXT:=hid hxt
    have HFM:=hid hfm
    obtain ⟨x,HX⟩:∃ x,Hid (mt (a+5)=x):=⟨_,rfl⟩
    have hM:∀ W,Calls Tryz.prog 63 #[.int .i64 ((a:Int)+5)] W fun e w'=>e=.returned (.string x)∧Below W.heap.size W w':=by
     intro W
     have:=markText_any (a+5) W (by omega) (by omega)
     rw [HX.out] at this
     simpa using this
    clear hxt hfm
    go_wp2_with fail
    refine (hM _).mono ?_
    rintro e w2 ⟨rfl,hb2⟩
    obtain ⟨z5,r6,m6⟩:=row6 (a:Int) x HO.out.row hju hb2
    have hc5:w2.cell? ⟨g1,j*8+5,none⟩=some (.string us'[j].code):=(hb_cell hb2 (by simpa [World.setCell] using hgl)).trans (by simp [go_sem,t5])
    have hc6:w2.cell? ⟨g1,j*8+6,none⟩=some vt:=(hb_cell hb2 (by simpa [World.setCell] using hgl)).trans (by simp [go_sem,t6])
    have R6:=hid r6
    have M6:=hid m6
    have hT:=(show ∀ W,W.ownsRow B 140 4 vt nt xt→Calls Tryz.prog 64 #[vt,.int .i64 ((a:Int)+6)] W fun e w'=>e=.returned (.int .i64 ((a+6+nt*4:Nat):Int))∧w'.ownsRow B 140 4 vt nt (cnt (a+6) (nt*4))∧W.grownBy w' vt.ownBlock from fun W hW=>by
     have:=markTrapS_any vt (a+6) nt B xt W (by omega) (by omega) hW
     rwa [show ((a+6:Nat):Int)=(a:Int)+6 by omega] at this)
    have T6:=hid (m6.other HXT.out HO.out.row (by decide))
    have F6:=hid (HFM.out.other m6 HO.out.row (by decide) (by decide))
    clear hb2 r6 m6 t0 t1 t2 t3 t4 t5 t6 t7 z0 z1 z2 z3 z4 hM
    go_wp2_with fail
    refine (hT _ T6.out).mono ?_
    rintro e w3 ⟨rfl,o3,g3⟩
    have m3:Mod [vt] _ w3:=Mod.grown g3 (by simp)
    have r3:=m3.other R6.out T6.out (by decide)
    have F3:=hid (F6.out.other m3 T6.out (by decide) (by decide))
    have t7':w3.cell? ⟨g1,j*8+7,none⟩=some vf:=by
     have:=(ownMethod_at (m:=ms.length) r3 (by simp [HO.out.len]) (k:=j) (by simpa using hju)).2.2.2.2.2.2.2
     simpa [hvf.out] using this
    have O3:=hid o3
    have M3:=hid m3
    obtain ⟨b,hb⟩:∃ b:Nat,Hid (a+6+nt*4=b):=⟨_,hid rfl⟩
    have hbb:b≤60000:=by have:=hb.out;omega
    have hF:=(show ∀ W,FM W B vf ms[j].frames ys'[j] b 0→Calls Tryz.prog 65 #[vf,.int .i64 (b:Int)] W fun e w'=>e=.returned (.int .i64 ((kF b ms[j].frames ms[j].frames.length:Nat):Int))∧∃ us',FM w' B vf ms[j].frames us' b ms[j].frames.length∧kb us'=kb ys'[j]∧Mod (vf :: kb ys'[j]) W w' from fun W hW=>markFrameS_any vf b B _ _ W q2 q3 (by omega) hW)
    rw [hb.out]
    clear o3 g3 m3 r3 T6 F6 hT hc5 hc6 z5
    go_wp2_with fail
    refine (hF _ (by have:=F3.out;rw [hb.out] at this;exact this)).mono ?_
    rintro e w4 ⟨rfl,y4,f4,k4,m4⟩
    have HN:=hid (HO.out.next (W1:=w2.setCell ⟨g1,j*8+5,none⟩ (.string x)) (W2:=w3) (W3:=w4) (y:=y4) (x:=⟨(a:Int),(a:Int)+1,(a:Int)+2,(a:Int)+3,(a:Int)+4,x,us'[j].traps,us'[j].frames⟩) hju hlt hjy
     (by rw [← HX.out,ha.out]) R6.out M6.out (by rw [hvt.out,hnt.out,← ha.out];exact O3.out) (by rw [hvt.out];exact M3.out) (by rw [hvf.out,hnt.out,← ha.out,hb.out];exact f4) k4 (by rw [hvf.out];exact m4))
    obtain ⟨c,hc⟩:∃ c:Nat,Hid (kF b ms[j].frames ms[j].frames.length=c):=⟨_,hid rfl⟩
    have HE:=hid (show c=kM k0 ms (j+1) from by rw [kM_succ k0 ms j hlt,← ha.out,← hc.out,kF_all,← hb.out];unfold cM;rw [hnt.out];omega)
    rw [hc.out]
    clear f4 m4 O3 M3 R6 M6 F3 hF t7' hc
    go_wp2
    go_roundw
    case rel=>exact ⟨j+1,c,_,_,by omega,by go_num,rfl,HE,HN.out.1,hid ⟨by rw [map_set_same SMethod.traps us' j _ hju (by rfl)];exact HK.out.1,by rw [map_set_same SMethod.frames us' j _ hju (by rfl)];exact HK.out.2.1,(flat_set_same ys' j y4 hjy k4).trans HK.out.2.2⟩,HM.out.trans (by have:=HN.out.2;rw [HK.out.1,HK.out.2.1,HK.out.2.2] at this;exact this)⟩
    case measure=>simp [intOf];omega
   ·have hj':=hid (show j=ms.length by omega)
    go_wp2
    go_ret
    refine ⟨ret_i64 (by rw [ha.out,hj'.out]),us',ys', ?_,HM.out⟩
    have:=HO.out
    rw [hj'.out] at this
    exact this
theorem heldMethodS_any (v:Value) (k0 B:Nat) (ms:List MMethod) (us:List SMethod) (ys:List (List SFrame)) (w:World) (hn:ms.length≤6) (hs:∀ m∈ms,shortM m) (hk0:0<k0) (hk:k0≤50000) (h:MK w B v ms us ys k0 ms.length) :
  Calls Tryz.prog 41 #[v,.int .i64 (k0:Int)] w fun e w'=>e=.returned (.int .i64 ((kM k0 ms ms.length:Nat):Int))∧Below w.heap.size w w':=by
 by_cases hz:ms.length=0
 ·obtain ⟨ao1,c1,hv⟩:=own_len h.row
  subst hv
  rw [hz]
  clear h
  go_enter Tryz.func41,Tryz.ntmps41
  go_wp2
  refine wp_loop_rounds 1 ?_
  rw [rounds_succ]
  go_wp2
  go_ret
  exact ⟨by rw [kM_zero];rfl,Below.refl _ _⟩
 ·obtain ⟨g1,c1,hv⟩:=Joins.ownsRow_form h.row (by omega)
  subst hv
  have HL:=(show ∀ j,j≤ms.length→kM k0 ms j≤52000 from fun j hj=>by have:=kM_le k0 ms hs j hj;omega)
  have HP:=(show ∀ j,0<kM k0 ms j from fun j=>by unfold kM;omega)
  have H0:=hid h
  have hg:=(h.row.lt g1 rfl).2
  clear h
  go_enter Tryz.func41,Tryz.ntmps41
  go_wp2
  go_loopw [1,5] (fun kv i wr=>∃ (j a:Nat),j≤ms.length∧i=.int .i64 j∧kv=.int .i64 (a:Int)∧Hid (a=kM k0 ms j)∧Hid (Below w.heap.size w wr)) (fun _ i _=>ms.length - (intOf i).toNat)
  case atStart=>exact ⟨0,k0,by omega,rfl,rfl,hid (by rw [kM_zero]),Below.refl _ _⟩
  case round=>
   obtain ⟨j,a,hj,rfl,rfl,ha,HB⟩:=hrel
   have hab:=HL j hj
   have hpos:=HP j
   rw [← ha.out] at hab hpos
   by_cases hlt:j<ms.length
   ·have hju:j<us.length:=by rw [H0.out.len];exact hlt
    have hjy:j<ys.length:=by rw [H0.out.len2];exact hlt
    obtain ⟨q1,q2,q3⟩:=hs ms[j] (List.getElem_mem _)
    obtain ⟨vt,hvt⟩:∃ vt,Hid (us[j].traps=vt):=⟨_,hid rfl⟩
    obtain ⟨vf,hvf⟩:∃ vf,Hid (us[j].frames=vf):=⟨_,hid rfl⟩
    obtain ⟨nt,hnt⟩:∃ nt,Hid (ms[j].traps.length=nt):=⟨_,hid rfl⟩
    rw [hnt.out] at q1
    obtain ⟨x,HX⟩:∃ x,Hid (mt (a+5)=x):=⟨_,rfl⟩
    obtain ⟨xt,hxt,et⟩:=H0.out.tr j hju hlt
    have et:=et hlt
    subst et
    rw [hvt.out,hnt.out,← ha.out] at hxt
    obtain ⟨p,hfm,hp1,_⟩:=H0.out.fm j hju hlt hjy
    have hp1:=hp1 hlt
    subst hp1
    rw [hvf.out,hnt.out,← ha.out] at hfm
    have HT:=hid (show ∀ W,Below w.heap.size w W→W.cell? ⟨g1,j*8,none⟩=some (.int .i64 (a:Int))∧W.cell? ⟨g1,j*8+1,none⟩=some (.int .i64 ((a:Int)+1))∧W.cell? ⟨g1,j*8+2,none⟩=some (.int .i64 ((a:Int)+2))∧W.cell? ⟨g1,j*8+3,none⟩=some (.int .i64 ((a:Int)+3))∧W.cell? ⟨g1,j*8+4,none⟩=some (.int .i64 ((a:Int)+4))∧W.cell? ⟨g1,j*8+5,none⟩=some (.string x)∧W.cell? ⟨g1,j*8+6,none⟩=some vt∧W.cell? ⟨g1,j*8+7,none⟩=some vf from fun W hW=>by
     obtain ⟨t0,t1,t2,t3,t4,t5,t6,t7⟩:=ownMethod_at H0.out.row H0.out.len hju
     rw [hvt.out] at t6
     rw [hvf.out] at t7
     rw [H0.out.hd j hju hlt,← ha.out] at t0 t1 t2 t3 t4 t5
     simp only [HX.out] at t0 t1 t2 t3 t4 t5
     exact ⟨(hW.cell (p:=⟨g1,j*8,none⟩) hg).trans t0,(hW.cell (p:=⟨g1,j*8+1,none⟩) hg).trans t1,(hW.cell (p:=⟨g1,j*8+2,none⟩) hg).trans t2,(hW.cell (p:=⟨g1,j*8+3,none⟩) hg).trans t3,(hW.cell (p:=⟨g1,j*8+4,none⟩) hg).trans t4,(hW.cell (p:=⟨g1,j*8+5,none⟩) hg).trans t5,(hW.cell (p:=⟨g1,j*8+6,none⟩) hg).trans t6,(hW.cell (p:=⟨g1,j*8+7,none⟩) hg).trans t7⟩)
    have hM:∀ W,Calls Tryz.prog 63 #[.int .i64 ((a:Int)+5)] W fun e w'=>e=.returned (.string x)∧Below W.heap.size W w':=by
     intro W
     have:=markText_any (a+5) W (by omega) (by omega)
     rw [HX.out] at this
     simpa using this
    obtain ⟨b,hb⟩:∃ b:Nat,Hid (a+6+nt*4=b):=⟨_,hid rfl⟩
    have hbb:b≤60000:=by have:=hb.out;omega
    have hK1:=hid (show ∀ W,Below w.heap.size w W→Calls Tryz.prog 66 #[vt,.int .i64 ((a:Int)+6)] W fun e w'=>e=.returned (.int .i64 (b:Int))∧Below W.heap.size W w' from fun W hW=>by
     have:=heldTrapS_any vt (a+6) nt B W (by omega) (by omega) (own_below hxt hW)
     rwa [show ((a+6:Nat):Int)=(a:Int)+6 by omega,hb.out] at this)
    obtain ⟨c,hc⟩:∃ c:Nat,Hid (kF b ms[j].frames ms[j].frames.length=c):=⟨_,hid rfl⟩
    have hK2:=hid (show ∀ W,Below w.heap.size w W→Calls Tryz.prog 67 #[vf,.int .i64 (b:Int)] W fun e w'=>e=.returned (.int .i64 (c:Int))∧Below W.heap.size W w' from fun W hW=>by
     have:=heldFrameS_any vf b B ms[j].frames ys[j] W q2 q3 (by omega) (by
      have hq:=hfm
      rw [hb.out] at hq
      exact hq.mod (S:=[]) (Mod.below hW) (by simp) (by simp))
     rwa [hc.out] at this)
    have HE:=hid (show c=kM k0 ms (j+1) from by rw [kM_succ k0 ms j hlt,← ha.out,← hc.out,kF_all,← hb.out];unfold cM;rw [hnt.out];omega)
    have hcn:¬((c:Int)<0):=by omega
    obtain ⟨t0,t1,t2,t3,t4,t5,t6,t7⟩:=HT.out _ HB.out
    have hg':g1<wr.heap.size:=Nat.lt_of_lt_of_le hg HB.out.size
    clear hxt hfm hc hb
    go_wp2
    go_region_with (go_at_call 63;refine (hM _).mono ?_;rintro e w1 ⟨rfl,hb1⟩;have hc9:w1.cell? ⟨g1,j*8+5,none⟩=some (.string x):=(hb1.cell (p:=⟨g1,j*8+5,none⟩) (by simpa using hg')).trans (by simpa using t5))
    all_goals
     have HB1:=hid (show Below w.heap.size w w1 from HB.out.drew.trans (hb1.mono (by have:=HB.out.size;simpa using this)))
     clear t0 t1 t2 t3 t4 t5 t6 t7 hb1 HB hM
     obtain ⟨t0,t1,t2,t3,t4,t5,t6,t7⟩:=HT.out _ HB1.out
     go_wp2_with fail
     refine (hK1.out _ HB1.out).mono ?_
     rintro e w2 ⟨rfl,hb2⟩
     have HB2:=hid (HB1.out.trans (hb2.mono HB1.out.size))
     clear t0 t1 t2 t3 t4 t5 t6 t7 hb2 HB1 hc9
     obtain ⟨t0,t1,t2,t3,t4,t5,t6,t7⟩:=HT.out _ HB2.out
     go_wp2_with fail
     refine (hK2.out _ HB2.out).mono ?_
     rintro e w3 ⟨rfl,hb3⟩
     have HB3:=hid (HB2.out.trans (hb3.mono HB2.out.size))
     clear t0 t1 t2 t3 t4 t5 t6 t7 hb3 HB2 HT
     go_wp2
     go_roundw
     case rel=>exact ⟨j+1,c,by omega,by go_num,rfl,HE,HB3⟩
     case measure=>simp [intOf];omega
   ·have hj':=hid (show j=ms.length by omega)
    go_wp2
    go_ret
    exact ⟨ret_i64 (by rw [ha.out,hj'.out]),HB.out⟩
end Go.Proofs.YtecbcdfkedocbaaGreatDoor
