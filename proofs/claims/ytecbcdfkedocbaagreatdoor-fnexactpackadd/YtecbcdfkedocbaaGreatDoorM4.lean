/- Gathered: MkFrame MkFrameW. -/
import Derived.Test.YtecbcdfkedocbaaGreatDoorM3
import Derived.Test.YtecbcdfkedocbaaGreatDoorC4
namespace Go.Proofs.YtecbcdfkedocbaaGreatDoor
open Go.RowKit
set_option maxHeartbeats 2000000
set_option maxRecDepth 20000
set_option linter.unusedVariables false
structure Mod (S:List Value) (w w':World):Prop where
 os:w'.os=w.os
 tape:w'.tape=w.tape
 output:w'.output=w.output
 size:w.heap.size≤w'.heap.size
 block:∀ k,k<w.heap.size→(∀ u∈S,u.ownBlock≠some k)→w'.heap[k]? = w.heap[k]?
theorem Mod.refl (S:List Value) (w:World):Mod S w w:=⟨rfl,rfl,rfl,Nat.le_refl _,fun _ _ _=>rfl⟩
theorem Mod.grown {S:List Value} {w w':World} {v:Value} (h:w.grownBy w' v.ownBlock) (hv:v∈S):Mod S w w':=⟨h.os,h.tape,h.output,h.size,fun k hk hn=>h.block k hk (fun e=>hn v hv e.symm)⟩
theorem Mod.below {S:List Value} {w w':World} (h:Below w.heap.size w w'):Mod S w w':=⟨h.os,h.tape,h.output,h.size,fun k hk _=>h.block k hk⟩
theorem Mod.trans {S:List Value} {w w1 w2:World} (h:Mod S w w1) (k:Mod S w1 w2):Mod S w w2:=⟨k.os.trans h.os,k.tape.trans h.tape,k.output.trans h.output,Nat.le_trans h.size k.size,fun j hj hn=>(k.block j (Nat.lt_of_lt_of_le hj h.size) hn).trans (h.block j hj hn)⟩
theorem Mod.mono {S S':List Value} {w w':World} (h:Mod S w w') (hs:∀ u∈S,u∈S'):Mod S' w w':=⟨h.os,h.tape,h.output,h.size,fun j hj hn=>h.block j hj (fun u hu=>hn u (hs u hu))⟩
theorem Mod.own {S:List Value} {w w':World} {B:Nat} {e:TypeId} {z n:Nat} {v:Value} {xs:List Value} (h:Mod S w w') (ho:w.ownsRow B e z v n xs) (hn:∀ u∈S,∀ k,v.ownBlock=some k→u.ownBlock≠some k):w'.ownsRow B e z v n xs:=by
 refine ⟨ho.1, ?_⟩
 rcases ho.2 with hh|⟨g,cap,cur,rfl,hg0,hgg,rest⟩
 ·exact .inl hh
 ·refine .inr ⟨g,cap,cur,rfl,hg0, ?_,rest⟩
  rw [h.block g (Array.getElem?_eq_some_iff.1 hgg).1 (fun u hu=>hn u hu g rfl)]
  exact hgg
theorem own_types {w:World} {B B':Nat} {e e':TypeId} {z z' n n':Nat} {v v':Value} {xs xs':List Value} (h:w.ownsRow B e z v n xs) (h':w.ownsRow B' e' z' v' n' xs') (hne:e≠e'):∀ k,v.ownBlock=some k→v'.ownBlock≠some k:=by
 intro k hk hk'
 rcases h.2 with ⟨rfl,_⟩|⟨g,cap,cur,rfl,_,hg1,_⟩
 ·simp [Value.ownBlock] at hk
 ·rcases h'.2 with ⟨rfl,_⟩|⟨g',cap',cur',rfl,_,hg2,_⟩
  ·simp [Value.ownBlock] at hk'
  ·simp only [Value.ownBlock,Option.some.injEq] at hk hk'
   subst hk
   subst hk'
   rw [hg1] at hg2
   simp only [Option.some.injEq,Obj.cells.injEq] at hg2
   exact hne hg2.2.1
theorem Apart.ne {vs:List Value} (h:Apart vs) {i j:Nat} (hi:i<vs.length) (hj:j<vs.length) (hij:i≠j):∀ k,vs[i].ownBlock=some k→vs[j].ownBlock≠some k:=by
 intro k h1 h2
 rcases Nat.lt_or_gt_of_ne hij with hl|hl
 ·have:=List.pairwise_iff_getElem.1 h i j hi hj hl k k h1 h2
  omega
 ·have:=List.pairwise_iff_getElem.1 h j i hj hi hl k k h2 h1
  omega
theorem kb_len (us:List SFrame):(kb us).length=us.length*2:=by
 induction us with
 | nil=>rfl
 | cons u us ih=>simp [kb] at ih ⊢;omega
theorem kb_l (us:List SFrame) (j:Nat) (h:j<us.length) (h':j*2<(kb us).length):(kb us)[j*2]=us[j].l:=by
 induction us generalizing j with
 | nil=>simp at h
 | cons u us ih=>
  cases j with
  | zero=>simp [kb]
  | succ j=>
   have e:(j+1)*2=j*2+1+1:=by omega
   have:=ih j (by simpa using h) (by rw [kb_len];simp at h;omega)
   simp only [e,kb,List.flatMap_cons,List.cons_append,List.nil_append,List.getElem_cons_succ] at this ⊢
   exact this
theorem kb_s (us:List SFrame) (j:Nat) (h:j<us.length) (h':j*2+1<(kb us).length):(kb us)[j*2+1]=us[j].s:=by
 induction us generalizing j with
 | nil=>simp at h
 | cons u us ih=>
  cases j with
  | zero=>simp [kb]
  | succ j=>
   have e:(j+1)*2+1=j*2+1+1+1:=by omega
   have:=ih j (by simpa using h) (by rw [kb_len];simp at h;omega)
   simp only [e,kb,List.flatMap_cons,List.cons_append,List.nil_append,List.getElem_cons_succ] at this ⊢
   exact this
theorem kb_set (us:List SFrame) (j:Nat) (a:Int) (h:j<us.length):kb (us.set j ⟨a,us[j].l,us[j].s⟩)=kb us:=by
 induction us generalizing j with
 | nil=>simp at h
 | cons u us ih=>
  cases j with
  | zero=>simp [kb]
  | succ j=>
   have:=ih j (by simpa using h)
   simp only [kb,List.set_cons_succ,List.flatMap_cons,List.getElem_cons_succ] at this ⊢
   rw [this]
theorem setFrame1 (us:List SFrame) (k:Nat) (a:Int) (h:k<us.length):(rowFrame us).set (k*3) (.int .i64 a)=rowFrame (us.set k ⟨a,us[k].l,us[k].s⟩):=by
 have e2:us.set k ⟨a,us[k].l,us[k].s⟩=us.take k++⟨a,us[k].l,us[k].s⟩ :: us.drop (k+1):=by rw [List.set_eq_take_append_cons_drop,if_pos h]
 have hl:(rowFrame (us.take k)).length=k*3:=by rw [rowFrame_len,List.length_take];omega
 have e1:rowFrame us=rowFrame (us.take k)++(.int .i64 us[k].at_ :: us[k].l :: us[k].s :: rowFrame (us.drop (k+1))):=rowFrame_at us k h
 rw [e2,e1,List.set_append_right _ _ (by omega),hl,Nat.sub_self,List.set_cons_zero]
 unfold rowFrame
 rw [List.flatMap_append,List.flatMap_cons];rfl
def cF (f:MFrame):Nat:=1+f.locals.length*2+f.stack.length*2
def kF (k:Nat) (fs:List MFrame) (j:Nat):Nat:=k+((fs.take j).map cF).sum
theorem kF_zero (k:Nat) (fs:List MFrame):kF k fs 0=k:=by simp [kF]
theorem kF_succ (k:Nat) (fs:List MFrame) (j:Nat) (h:j<fs.length):kF k fs (j+1)=kF k fs j+cF fs[j]:=by
 unfold kF
 have e:fs.take (j+1)=fs.take j++[fs[j]]:=by rw [List.take_add_one,List.getElem?_eq_getElem h];rfl
 rw [e,List.map_append,List.sum_append]
 simp only [List.map_cons,List.map_nil,List.sum_cons,List.sum_nil]
 omega
def shortF (f:MFrame):Prop:=f.locals.length≤8∧f.stack.length≤8
theorem kF_le (k:Nat) (fs:List MFrame) (hs:∀ f∈fs,shortF f) (j:Nat) (h:j≤fs.length):kF k fs j≤k+33*j:=by
 induction j with
 | zero=>rw [kF_zero];omega
 | succ j ih=>
  rw [kF_succ k fs j (by omega)]
  have:=ih (by omega)
  have h1:=hs fs[j] (List.getElem_mem _)
  unfold shortF at h1
  unfold cF
  omega
structure FM (W:World) (B:Nat) (v:Value) (fs:List MFrame) (us:List SFrame) (k i:Nat):Prop where
 len:us.length=fs.length
 row:W.ownsRow B 114 3 v fs.length (rowFrame us)
 at_:∀ j (h:j<us.length),j<i→us[j].at_=kF k fs j
 l:∀ j (h:j<us.length) (h':j<fs.length),∃ xs,W.ownsRow B 144 2 us[j].l fs[j].locals.length xs∧(j<i→xs=cnt (kF k fs j+1) (fs[j].locals.length*2))
 s:∀ j (h:j<us.length) (h':j<fs.length),∃ xs,W.ownsRow B 144 2 us[j].s fs[j].stack.length xs∧(j<i→xs=cnt (kF k fs j+1+fs[j].locals.length*2) (fs[j].stack.length*2))
 ap:Apart (kb us)
theorem FX.fm {W:World} {B:Nat} {v:Value} {fs:List MFrame} {us:List SFrame} (h:FX W B v fs us) (ha:Apart (kb us)) (k:Nat):FM W B v fs us k 0:=
 ⟨h.len,h.row,fun j _ hj=>absurd hj (by omega),fun j h1 h2=>⟨_,(h.each j h2 h1).l,fun hj=>absurd hj (by omega)⟩,fun j h1 h2=>⟨_,(h.each j h2 h1).s,fun hj=>absurd hj (by omega)⟩,ha⟩
theorem FM.mod {S:List Value} {W W':World} {B:Nat} {v:Value} {fs:List MFrame} {us:List SFrame} {k i:Nat} (h:FM W B v fs us k i) (hm:Mod S W W') (h1:∀ u∈S,∀ q,v.ownBlock=some q→u.ownBlock≠some q) (h2:∀ x∈kb us,∀ u∈S,∀ q,x.ownBlock=some q→u.ownBlock≠some q):FM W' B v fs us k i:=
 ⟨h.len,hm.own h.row h1,h.at_,fun j a b=>by
  obtain ⟨xs,q1,q2⟩:=h.l j a b
  exact ⟨xs,hm.own q1 (h2 _ (by rw [← kb_l us j a (by rw [kb_len];omega)];exact List.getElem_mem _)),q2⟩,fun j a b=>by
  obtain ⟨xs,q1,q2⟩:=h.s j a b
  exact ⟨xs,hm.own q1 (h2 _ (by rw [← kb_s us j a (by rw [kb_len];omega)];exact List.getElem_mem _)),q2⟩,h.ap⟩
theorem FM.at1 {W:World} {B g n c:Nat} {fs:List MFrame} {us:List SFrame} {k i:Nat} (h:FM W B (.slice (some ⟨g,0,none⟩) n c) fs us k i) (hn:n=fs.length) (hi:i<us.length) (a:Int) (ha:a=kF k fs i) :
  let W1:=W.setCell ⟨g,i*3,none⟩ (.int .i64 a)
  W1.ownsRow B 114 3 (.slice (some ⟨g,0,none⟩) n c) fs.length (rowFrame (us.set i ⟨a,us[i].l,us[i].s⟩))∧W.grownBy W1 (some g):=by
 have h0:=h.row
 rw [← hn] at h0 ⊢
 have:=h0.stored (i*3) (.int .i64 a)
 rw [setFrame1 us i a hi] at this
 exact this
theorem FM.next {W W1 W2 W3:World} {B g n c:Nat} {fs:List MFrame} {us:List SFrame} {k i:Nat} {a:Int} (h:FM W B (.slice (some ⟨g,0,none⟩) n c) fs us k i) (hi:i<us.length) (hi':i<fs.length) (ha:a=kF k fs i)
  (r1:W1.ownsRow B 114 3 (.slice (some ⟨g,0,none⟩) n c) fs.length (rowFrame (us.set i ⟨a,us[i].l,us[i].s⟩))) (g1:W.grownBy W1 (some g))
  (o2:W2.ownsRow B 144 2 us[i].l fs[i].locals.length (cnt (kF k fs i+1) (fs[i].locals.length*2))) (g2:W1.grownBy W2 us[i].l.ownBlock)
  (o3:W3.ownsRow B 144 2 us[i].s fs[i].stack.length (cnt (kF k fs i+1+fs[i].locals.length*2) (fs[i].stack.length*2))) (g3:W2.grownBy W3 us[i].s.ownBlock) :
  FM W3 B (.slice (some ⟨g,0,none⟩) n c) fs (us.set i ⟨a,us[i].l,us[i].s⟩) k (i+1)∧Mod (.slice (some ⟨g,0,none⟩) n c :: kb us) W W3:=by
 have hl:=h.len
 have m1:Mod [.slice (some ⟨g,0,none⟩) n c] W W1:=Mod.grown (v:=.slice (some ⟨g,0,none⟩) n c) g1 (by simp)
 have m2:Mod [us[i].l] W1 W2:=Mod.grown g2 (by simp)
 have m3:Mod [us[i].s] W2 W3:=Mod.grown g3 (by simp)
 have tl:∀ j (hj:j<us.length),∃ xs,W.ownsRow B 144 2 us[j].l fs[j].locals.length xs:=fun j hj=>(h.l j hj (by omega)).imp fun _ q=>q.1
 have ts:∀ j (hj:j<us.length),∃ xs,W.ownsRow B 144 2 us[j].s fs[j].stack.length xs:=fun j hj=>(h.s j hj (by omega)).imp fun _ q=>q.1
 have keep:∀ p (hp:p<(kb us).length) {nn:Nat} {xs:List Value},p≠i*2→p≠i*2+1→W.ownsRow B 144 2 (kb us)[p] nn xs→W3.ownsRow B 144 2 (kb us)[p] nn xs:=fun p hp {nn xs} hp1 hp2 ho=>by
  have q1:=m1.own ho (fun u hu q hq=>by simp at hu;subst hu;exact own_types ho h.row (by decide) q hq)
  have q2:=m2.own q1 (fun u hu q hq=>by
   simp at hu;subst hu
   rw [← kb_l us i hi (by rw [kb_len];omega)]
   exact h.ap.ne hp _ hp1 q hq)
  exact m3.own q2 (fun u hu q hq=>by
   simp at hu;subst hu
   rw [← kb_s us i hi (by rw [kb_len];omega)]
   exact h.ap.ne hp _ hp2 q hq)
 have o2':W3.ownsRow B 144 2 us[i].l fs[i].locals.length (cnt (kF k fs i+1) (fs[i].locals.length*2)):=m3.own o2 (fun u hu q hq=>by
  simp at hu;subst hu
  rw [← kb_s us i hi (by rw [kb_len];omega)]
  rw [← kb_l us i hi (by rw [kb_len];omega)] at hq
  exact h.ap.ne _ _ (by omega) q hq)
 obtain ⟨ys,hy⟩:=ts i hi
 have hy1:=m1.own hy (fun u hu q hq=>by simp at hu;subst hu;exact own_types hy h.row (by decide) q hq)
 obtain ⟨zs,hz⟩:=tl i hi
 have hz1:=m1.own hz (fun u hu q hq=>by simp at hu;subst hu;exact own_types hz h.row (by decide) q hq)
 have r2:=m2.own r1 (fun u hu q hq=>by simp at hu;subst hu;exact own_types r1 hz1 (by decide) q hq)
 have hy2:=m2.own hy1 (fun u hu q hq=>by
  simp at hu;subst hu
  rw [← kb_l us i hi (by rw [kb_len];omega)]
  rw [← kb_s us i hi (by rw [kb_len];omega)] at hq
  exact h.ap.ne _ _ (by omega) q hq)
 have r3:=m3.own r2 (fun u hu q hq=>by simp at hu;subst hu;exact own_types r2 hy2 (by decide) q hq)
 refine ⟨⟨by simp [hl],r3,fun j hj hji=>?_,fun j hj hj'=>?_,fun j hj hj'=>?_,by rw [kb_set us i a hi];exact h.ap⟩, ?_⟩
 ·rw [List.getElem_set]
  split
  ·rename_i e;subst e;exact ha
  ·exact h.at_ j (by simpa using hj) (by omega)
 ·have hj2:j<us.length:=by simpa using hj
  by_cases e:i=j
  ·subst e
   exact ⟨_,by simpa [List.getElem_set] using o2',fun _=>rfl⟩
  ·obtain ⟨xs,q1,q2⟩:=h.l j hj2 hj'
   refine ⟨xs, ?_,fun hji=>q2 (by omega)⟩
   have:=keep (j*2) (by rw [kb_len];omega) (nn:=fs[j].locals.length) (xs:=xs) (by omega) (by omega) (by rw [kb_l us j hj2];exact q1)
   rw [kb_l us j hj2] at this
   simpa [List.getElem_set,e] using this
 ·have hj2:j<us.length:=by simpa using hj
  by_cases e:i=j
  ·subst e
   exact ⟨_,by simpa [List.getElem_set] using o3,fun _=>rfl⟩
  ·obtain ⟨xs,q1,q2⟩:=h.s j hj2 hj'
   refine ⟨xs, ?_,fun hji=>q2 (by omega)⟩
   have:=keep (j*2+1) (by rw [kb_len];omega) (nn:=fs[j].stack.length) (xs:=xs) (by omega) (by omega) (by rw [kb_s us j hj2];exact q1)
   rw [kb_s us j hj2] at this
   simpa [List.getElem_set,e] using this
 ·refine ((m1.mono ?_).trans (m2.mono ?_)).trans (m3.mono ?_)
  ·intro u hu;simp at hu;subst hu;simp
  ·intro u hu;simp at hu;subst hu
   rw [← kb_l us i hi (by rw [kb_len];omega)]
   exact List.mem_cons_of_mem _ (List.getElem_mem _)
  ·intro u hu;simp at hu;subst hu
   rw [← kb_s us i hi (by rw [kb_len];omega)]
   exact List.mem_cons_of_mem _ (List.getElem_mem _)
theorem markFrameS_any (v:Value) (k0 B:Nat) (fs:List MFrame) (us:List SFrame) (w:World) (hn:fs.length≤8) (hs:∀ f∈fs,shortF f) (hk:k0≤100000) (h:FM w B v fs us k0 0) :
  Calls Tryz.prog 65 #[v,.int .i64 (k0:Int)] w fun e w'=>e=.returned (.int .i64 ((kF k0 fs fs.length:Nat):Int))∧∃ us',FM w' B v fs us' k0 fs.length∧kb us'=kb us∧Mod (v :: kb us) w w':=by
 by_cases hz:fs.length=0
 ·obtain ⟨ao1,c1,hv⟩:=own_len h.row
  subst hv
  have HO:=hid h
  rw [hz] at HO ⊢
  clear h
  go_enter Tryz.func65,Tryz.ntmps65
  go_wp2
  refine wp_loop_rounds 1 ?_
  rw [rounds_succ]
  go_wp2
  go_ret
  exact ⟨by rw [kF_zero];rfl,us,HO.out,rfl,Mod.refl _ _⟩
 ·obtain ⟨g1,c1,hv⟩:=Joins.ownsRow_form h.row (by omega)
  subst hv
  have HL:=(show ∀ j,j≤fs.length→kF k0 fs j≤101000 from fun j hj=>by have:=kF_le k0 fs hs j hj;omega)
  have H0:=hid h
  clear h
  go_enter Tryz.func65,Tryz.ntmps65
  go_wp2
  go_loopw [1,5] (fun kv i wr=>∃ (j a:Nat) (us':List SFrame),j≤fs.length∧i=.int .i64 j∧kv=.int .i64 (a:Int)∧Hid (a=kF k0 fs j)∧Hid (FM wr B (.slice (some ⟨g1,0,none⟩) fs.length c1) fs us' k0 j)∧Hid (kb us'=kb us)∧Hid (Mod (.slice (some ⟨g1,0,none⟩) fs.length c1 :: kb us) w wr)) (fun _ i _=>fs.length - (intOf i).toNat)
  case atStart=>exact ⟨0,k0,us,by omega,rfl,rfl,hid (by rw [kF_zero]),H0,hid rfl,Mod.refl _ _⟩
  case round=>
   obtain ⟨j,a,us',hj,rfl,rfl,ha,HO,HK,HM⟩:=hrel
   have hab:=HL j hj
   rw [← ha.out] at hab
   by_cases hlt:j<fs.length
   ·have hju:j<us'.length:=by rw [HO.out.len];exact hlt
    have hsf:=hs fs[j] (List.getElem_mem _)
    unfold shortF at hsf
    obtain ⟨t0,t1,t2⟩:=ownFrame_at HO.out.row HO.out.len hju
    have z0:=HO.out.row.frozenAt (j*3)
    obtain ⟨vl,hvl⟩:∃ vl,Hid (us'[j].l=vl):=⟨_,hid rfl⟩
    obtain ⟨vs,hvs⟩:∃ vs,Hid (us'[j].s=vs):=⟨_,hid rfl⟩
    obtain ⟨nl,hnl⟩:∃ nl,Hid (fs[j].locals.length=nl):=⟨_,hid rfl⟩
    obtain ⟨ns,hns⟩:∃ ns,Hid (fs[j].stack.length=ns):=⟨_,hid rfl⟩
    rw [hnl.out,hns.out] at hsf
    rw [hvl.out] at t1
    rw [hvs.out] at t2
    obtain ⟨xl,hxl,_⟩:=HO.out.l j hju hlt
    obtain ⟨xs,hxs,_⟩:=HO.out.s j hju hlt
    obtain ⟨r1,g1'⟩:=HO.out.at1 rfl hju (a:Int) (by rw [ha.out])
    have R1:=hid r1
    have G1:=hid g1'
    rw [hvl.out,hnl.out] at hxl
    rw [hvs.out,hns.out] at hxs
    have m1:Mod [.slice (some ⟨g1,0,none⟩) fs.length c1] wr (wr.setCell ⟨g1,j*3,none⟩ (.int .i64 (a:Int))):=Mod.grown (v:=.slice (some ⟨g1,0,none⟩) fs.length c1) g1' (by simp)
    have L1:=hid (m1.own hxl (fun u hu q hq=>by simp at hu;subst hu;exact own_types hxl HO.out.row (by decide) q hq))
    have S1:=hid (m1.own hxs (fun u hu q hq=>by simp at hu;subst hu;exact own_types hxs HO.out.row (by decide) q hq))
    have hK1:=(show ∀ W,W.ownsRow B 144 2 vl nl xl→Calls Tryz.prog 105 #[vl,.int .i64 ((a:Int)+1)] W fun e w'=>e=.returned (.int .i64 ((a+1+nl*2:Nat):Int))∧w'.ownsRow B 144 2 vl nl (cnt (a+1) (nl*2))∧W.grownBy w' vl.ownBlock from fun W hW=>by
     have:=markKindS_any vl (a+1) nl B xl W (by omega) (by omega) hW
     rwa [show ((a+1:Nat):Int)=(a:Int)+1 by omega] at this)
    clear hxl hxs r1 g1' m1
    go_wp2_with fail
    refine (hK1 _ L1.out).mono ?_
    rintro e w2 ⟨rfl,o2,g2⟩
    have O2:=hid o2
    have G2:=hid g2
    have m2:Mod [vl] (wr.setCell ⟨g1,j*3,none⟩ (.int .i64 (a:Int))) w2:=Mod.grown g2 (by simp)
    have r2:=m2.own R1.out (fun u hu q hq=>by simp at hu;subst hu;exact own_types R1.out L1.out (by decide) q hq)
    have hap:=HO.out.ap
    have S2:=hid (m2.own S1.out (fun u hu q hq=>by
     simp at hu;subst hu
     rw [← hvl.out,← kb_l us' j hju (by rw [kb_len];omega)]
     rw [← hvs.out,← kb_s us' j hju (by rw [kb_len];omega)] at hq
     exact hap.ne _ _ (by omega) q hq))
    have t2':w2.cell? ⟨g1,j*3+2,none⟩=some vs:=by
     have:=(ownFrame_at (m:=fs.length) r2 (by simp [HO.out.len]) (k:=j) (by simpa using hju)).2.2
     simpa [hvs.out] using this
    obtain ⟨b,hb⟩:∃ b:Nat,Hid (a+1+nl*2=b):=⟨_,rfl⟩
    have hbb:b≤200000:=by have:=hb.out;omega
    have hK2:=(show ∀ W,W.ownsRow B 144 2 vs ns xs→Calls Tryz.prog 105 #[vs,.int .i64 (b:Int)] W fun e w'=>e=.returned (.int .i64 ((b+ns*2:Nat):Int))∧w'.ownsRow B 144 2 vs ns (cnt b (ns*2))∧W.grownBy w' vs.ownBlock from fun W hW=>markKindS_any vs b ns B xs W (by omega) (by omega) hW)
    rw [hb.out]
    clear o2 g2 m2 r2 hap t0 t1 t2 z0 hK1 L1 S1
    go_wp2_with fail
    refine (hK2 _ S2.out).mono ?_
    rintro e w3 ⟨rfl,o3,g3⟩
    have HN:=hid (HO.out.next (W2:=w2) (W3:=w3) hju hlt (a:=(a:Int)) (by rw [ha.out]) R1.out G1.out (by rw [hvl.out,hnl.out,← ha.out];exact O2.out) (by rw [hvl.out];exact G2.out) (by rw [hvs.out,hns.out,hnl.out,← ha.out,hb.out];exact o3) (by rw [hvs.out];exact g3))
    have HE:=hid (show b+ns*2=kF k0 fs (j+1) from by rw [kF_succ k0 fs j hlt,← ha.out,← hb.out];unfold cF;rw [hnl.out,hns.out];omega)
    clear o3 g3 O2 G2 R1 G1 S2 hK2 t2'
    obtain ⟨c,hc⟩:∃ c:Nat,Hid (b+ns*2=c):=⟨_,rfl⟩
    rw [hc.out] at HE ⊢
    clear hc
    go_wp2
    go_roundw
    case rel=>exact ⟨j+1,c,_,by omega,by go_num,rfl,HE,HN.out.1,hid (by rw [kb_set us' j _ hju];exact HK.out),HM.out.trans (by have:=HN.out.2;rw [HK.out] at this;exact this)⟩
    case measure=>simp [intOf];omega
   ·have hj':=hid (show j=fs.length by omega)
    go_wp2
    go_ret
    refine ⟨ret_i64 (by rw [ha.out,hj'.out]),us', ?_,HK.out,HM.out⟩
    have:=HO.out
    rw [hj'.out] at this
    exact this
theorem heldFrameS_any (v:Value) (k0 B:Nat) (fs:List MFrame) (us:List SFrame) (w:World) (hn:fs.length≤8) (hs:∀ f∈fs,shortF f) (hk:k0≤100000) (h:FM w B v fs us k0 fs.length) :
  Calls Tryz.prog 67 #[v,.int .i64 (k0:Int)] w fun e w'=>e=.returned (.int .i64 ((kF k0 fs fs.length:Nat):Int))∧Below w.heap.size w w':=by
 by_cases hz:fs.length=0
 ·obtain ⟨ao1,c1,hv⟩:=own_len h.row
  subst hv
  rw [hz]
  clear h
  go_enter Tryz.func67,Tryz.ntmps67
  go_wp2
  refine wp_loop_rounds 1 ?_
  rw [rounds_succ]
  go_wp2
  go_ret
  exact ⟨by rw [kF_zero];rfl,Below.refl _ _⟩
 ·obtain ⟨g1,c1,hv⟩:=Joins.ownsRow_form h.row (by omega)
  subst hv
  have HL:=(show ∀ j,j≤fs.length→kF k0 fs j≤101000 from fun j hj=>by have:=kF_le k0 fs hs j hj;omega)
  have H0:=hid h
  have hg:=(h.row.lt g1 rfl).2
  clear h
  go_enter Tryz.func67,Tryz.ntmps67
  go_wp2
  go_loopw [1,5] (fun kv i wr=>∃ (j a:Nat),j≤fs.length∧i=.int .i64 j∧kv=.int .i64 (a:Int)∧Hid (a=kF k0 fs j)∧Hid (Below w.heap.size w wr)) (fun _ i _=>fs.length - (intOf i).toNat)
  case atStart=>exact ⟨0,k0,by omega,rfl,rfl,hid (by rw [kF_zero]),Below.refl _ _⟩
  case round=>
   obtain ⟨j,a,hj,rfl,rfl,ha,HB⟩:=hrel
   have hab:=HL j hj
   rw [← ha.out] at hab
   by_cases hlt:j<fs.length
   ·have hju:j<us.length:=by rw [H0.out.len];exact hlt
    have hsf:=hs fs[j] (List.getElem_mem _)
    unfold shortF at hsf
    obtain ⟨vl,hvl⟩:∃ vl,Hid (us[j].l=vl):=⟨_,hid rfl⟩
    obtain ⟨vs,hvs⟩:∃ vs,Hid (us[j].s=vs):=⟨_,hid rfl⟩
    obtain ⟨nl,hnl⟩:∃ nl,Hid (fs[j].locals.length=nl):=⟨_,hid rfl⟩
    obtain ⟨ns,hns⟩:∃ ns,Hid (fs[j].stack.length=ns):=⟨_,hid rfl⟩
    rw [hnl.out,hns.out] at hsf
    obtain ⟨xl,hxl,el⟩:=H0.out.l j hju hlt
    obtain ⟨xs,hxs,es⟩:=H0.out.s j hju hlt
    have el:=el hlt
    have es:=es hlt
    subst el es
    rw [hvl.out,hnl.out,← ha.out] at hxl
    rw [hvs.out,hns.out,hnl.out,← ha.out] at hxs
    have HT:=hid (show ∀ W,Below w.heap.size w W→W.cell? ⟨g1,j*3,none⟩=some (.int .i64 (a:Int))∧W.cell? ⟨g1,j*3+1,none⟩=some vl∧W.cell? ⟨g1,j*3+2,none⟩=some vs from fun W hW=>by
     obtain ⟨t0,t1,t2⟩:=ownFrame_at H0.out.row H0.out.len hju
     rw [H0.out.at_ j hju hlt,← ha.out] at t0
     rw [hvl.out] at t1
     rw [hvs.out] at t2
     exact ⟨(hW.cell (p:=⟨g1,j*3,none⟩) hg).trans t0,(hW.cell (p:=⟨g1,j*3+1,none⟩) hg).trans t1,(hW.cell (p:=⟨g1,j*3+2,none⟩) hg).trans t2⟩)
    obtain ⟨b,hb⟩:∃ b:Nat,Hid (a+1+nl*2=b):=⟨_,rfl⟩
    have hbb:b≤200000:=by have:=hb.out;omega
    have hK1:=hid (show ∀ W,Below w.heap.size w W→Calls Tryz.prog 106 #[vl,.int .i64 ((a:Int)+1)] W fun e w'=>e=.returned (.int .i64 (b:Int))∧Below W.heap.size W w' from fun W hW=>by
     have:=heldKindS_any vl (a+1) nl B W (by omega) (by omega) (own_below hxl hW)
     rwa [show ((a+1:Nat):Int)=(a:Int)+1 by omega,hb.out] at this)
    obtain ⟨c,hc⟩:∃ c:Nat,Hid (b+ns*2=c):=⟨_,rfl⟩
    have hcc:c≤300000:=by have:=hc.out;omega
    have hK2:=hid (show ∀ W,Below w.heap.size w W→Calls Tryz.prog 106 #[vs,.int .i64 (b:Int)] W fun e w'=>e=.returned (.int .i64 (c:Int))∧Below W.heap.size W w' from fun W hW=>by
     have:=heldKindS_any vs b ns B W (by omega) (by omega) (by rw [hb.out] at hxs;exact own_below hxs hW)
     rwa [hc.out] at this)
    have HE:=hid (show c=kF k0 fs (j+1) from by rw [kF_succ k0 fs j hlt,← ha.out,← hc.out,← hb.out];unfold cF;rw [hnl.out,hns.out];omega)
    obtain ⟨t0,t1,t2⟩:=HT.out _ HB.out
    clear hxl hxs hc hb
    go_wp2_with fail
    refine (hK1.out _ HB.out).mono ?_
    rintro e w2 ⟨rfl,hb2⟩
    have HB2:=hid (HB.out.trans (hb2.mono HB.out.size))
    clear t0 t1 t2 hb2 HB
    obtain ⟨t0,t1,t2⟩:=HT.out _ HB2.out
    go_wp2_with fail
    refine (hK2.out _ HB2.out).mono ?_
    rintro e w3 ⟨rfl,hb3⟩
    have HB3:=hid (HB2.out.trans (hb3.mono HB2.out.size))
    clear t0 t1 t2 hb3 HB2 HT
    go_wp2
    go_roundw
    case rel=>exact ⟨j+1,c,by omega,by go_num,rfl,HE,HB3⟩
    case measure=>simp [intOf];omega
   ·have hj':=hid (show j=fs.length by omega)
    go_wp2
    go_ret
    exact ⟨ret_i64 (by rw [ha.out,hj'.out]),HB.out⟩
end Go.Proofs.YtecbcdfkedocbaaGreatDoor
