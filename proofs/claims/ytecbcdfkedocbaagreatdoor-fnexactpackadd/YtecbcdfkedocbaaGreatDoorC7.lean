/- Gathered: AddFind AddBack. -/
import Derived.Test.YtecbcdfkedocbaaGreatDoorG01
import Derived.Test.YtecbcdfkedocbaaGreatDoorG03
import Derived.Deep.DeepCutAuto
import Derived.Deep.RegionHeld
import Derived.Laws.StructEq
import Derived.Test.YtecbcdfkedocbaaGreatDoorH02
import Derived.Deep.RegionLaw
import Derived.Deep.Slices
import Derived.Deep.AppendLies
namespace Go.Proofs.YtecbcdfkedocbaaGreatDoor
open Go.RowKit Mx
set_option linter.unusedVariables false
set_option maxHeartbeats 2000000
set_option maxRecDepth 20000
@[go_sem] theorem stoodC:Tryz.prog.stoodInHeld 40=false:=by kernel_rfl
@[go_sem] theorem guardC:Tryz.prog.eqGuardType Tryz.prog.depth 40=false:=by kernel_rfl
theorem eqC_or (e t:C4):(t.kind=e.kind∧t.text.toList=e.text.toList∧t.a=e.a∧t.b=e.b∧t=e)∨(t≠e∧(e.kind≠t.kind∨(t.kind=e.kind∧e.text.toList≠t.text.toList)∨(t.kind=e.kind∧t.text.toList=e.text.toList∧e.a≠t.a)∨(t.kind=e.kind∧t.text.toList=e.text.toList∧t.a=e.a∧e.b≠t.b))):=by
 by_cases h:t=e
 ·subst h
  exact .inl ⟨rfl,rfl,rfl,rfl,rfl⟩
 ·refine .inr ⟨h, ?_⟩
  by_cases h1:t.kind=e.kind
  ·by_cases h2:t.text.toList=e.text.toList
   ·by_cases h3:t.a=e.a
    ·by_cases h4:t.b=e.b
     ·have h2':t.text=e.text:=by
       rw [ByteArray.toList_eq,ByteArray.toList_eq] at h2
       exact ByteArray.ext (Array.ext' h2)
      exact absurd (by cases e;cases t;simp_all) h
     ·exact .inr (.inr (.inr ⟨h1,h2,h3,fun q=>h4 q.symm⟩))
    ·exact .inr (.inr (.inl ⟨h1,h2,fun q=>h3 q.symm⟩))
   ·exact .inr (.inl ⟨h1,fun q=>h2 q.symm⟩)
  ·exact .inl (fun q=>h1 q.symm)
theorem indexC_any (ps:List C4) (e:C4) (B:Nat) (v:Value) (w:World) (hl:ps.length≤1048576) (h:w.ownsRow B 40 4 v ps.length (cellsC ps)) :
  Calls Tryz.prog 26 #[v,.agg #[.int .i64 e.kind,.string e.text,.int .i64 e.a,.int .i64 e.b]] w fun r w'=>(∃ k:Nat,∃ hk:k<ps.length,r=.returned (.int .i64 k)∧ps[k]=e∧∀ j,(hj:j<k)→ps[j]'(by omega)≠e)∧Below w.heap.size w w'∨(r=.returned (.int .i64 (-1))∧∀ t∈ps,t≠e)∧Below w.heap.size w w':=by
 obtain ⟨ao,cap,rfl⟩:=own_len h
 have H:=hid h
 clear h
 have hbo:=(Below.refl w.heap.size w).alloc (Nat.le_refl _) (.cells #[.int .i64 e.kind,.string e.text,.int .i64 e.a,.int .i64 e.b] 40)
 have HB0:=hid hbo
 have K0:=Lk.new w #[.int .i64 e.kind,.string e.text,.int .i64 e.a,.int .i64 e.b] 40
 have HK:=hid (fun W (hW:Below (w.alloc (.cells #[.int .i64 e.kind,.string e.text,.int .i64 e.a,.int .i64 e.b] 40)).heap.size (w.alloc (.cells #[.int .i64 e.kind,.string e.text,.int .i64 e.a,.int .i64 e.b] 40)) W)=>show Lk W w.heap.size #[.int .i64 e.kind,.string e.text,.int .i64 e.a,.int .i64 e.b] 40∧W.ownsRow B 40 4 (.slice ao ps.length cap) ps.length (cellsC ps) from ⟨K0.keep hW,own_below (own_below H.out hbo) hW⟩)
 clear hbo K0
 go_enter Tryz.func26,Tryz.ntmps26
 go_wp2_with fail
 go_loopw [8] (fun i wr=>∃ (k:Nat),k≤ps.length∧i=.int .i64 k∧Hid (∀ j,(hj:j<k)→(hj2:j<ps.length)→ps[j]≠e)∧Hid (Below (w.alloc (.cells #[.int .i64 e.kind,.string e.text,.int .i64 e.a,.int .i64 e.b] 40)).heap.size (w.alloc (.cells #[.int .i64 e.kind,.string e.text,.int .i64 e.a,.int .i64 e.b] 40)) wr)) (fun i _=>ps.length - (intOf i).toNat)
 case atStart=>exact ⟨0,by omega,rfl,hid (fun j hj=>by omega),hid (Below.refl _ _)⟩
 case round=>
  obtain ⟨k,hk,rfl,HN,HB⟩:=hrel
  by_cases hlt:k<ps.length
  ·obtain ⟨g,rfl⟩:∃ g,ao=some ⟨g,0,none⟩:=by
    obtain ⟨g,c,hv⟩:=Joins.ownsRow_form H.out (by omega)
    cases hv
    exact ⟨g,rfl⟩
   obtain ⟨K,O⟩:=HK.out _ HB.out
   obtain ⟨K2,O2⟩:=HK.out _ HB.out.drew
   obtain ⟨c0,c1,c2,c3,_⟩:=K.c4
   obtain ⟨f0,f1,f2,f3,_⟩:=K2.c4
   obtain ⟨d0,d1,d2,d3⟩:=cells4_at O hlt
   obtain ⟨e0,e1,e2,e3⟩:=cells4_at O2 hlt
   generalize hT:ps[k]=t at d0 d1 d2 d3 e0 e1 e2 e3
   have HT:=hid hT
   clear hT K O K2 O2
   rcases eqC_or e t with ⟨q1,q2,q3,q4,q5⟩|⟨hne,hq⟩
   ·have HQ:=hid (show ps[k]=e from HT.out.trans q5)
    clear q5
    go_wp2_with fail
    go_region_law fail
    go_wp2_with fail
    all_goals go_ret
    all_goals exact .inl ⟨⟨k,hlt,rfl,HQ.out,fun j hj=>HN.out j hj (by omega)⟩,HB0.out.trans (HB.out.drew.mono (by simp))⟩
   ·have HQ:=hid hne
    clear hne
    have HNN:=hid (show ∀ j,(hj:j<k+1)→(hj2:j<ps.length)→ps[j]≠e from fun j hj hj2=>by
     by_cases hjk:j=k
     ·subst hjk
      rw [HT.out]
      exact HQ.out
     ·exact HN.out j (by omega) hj2)
    rcases hq with q1|⟨q1,q2⟩|⟨q1,q2,q3⟩|⟨q1,q2,q3,q4⟩
    all_goals
     go_wp2_with fail
     go_region_law fail
     go_wp2_with fail
     all_goals first
      | (refine ⟨⟨k+1,by omega,by go_num,HNN,hid HB.out.drew⟩, ?_⟩;simp [intOf];omega)
      | (go_roundw;(case rel=>exact ⟨k+1,by omega,by go_num,HNN,hid HB.out.drew⟩);(case measure=>(simp [intOf];omega)))
  ·have HE:=hid (show ∀ t∈ps,t≠e from fun t ht=>by
    obtain ⟨j,hj,rfl⟩:=List.mem_iff_getElem.1 ht
    exact HN.out j (by omega) hj)
   go_wp2_with fail
   go_ret
   exact .inr ⟨⟨rfl,HE.out⟩,HB0.out.trans (HB.out.mono (by simp))⟩
section
variable {P:Program} (w:World)
theorem wp_append_clip {o:Oper} {a:Act} {K:Act→World→Prop} {Q:Exit→Act→World→Prop} (s x:Operand) (t:TypeId)
  (ho:o.op=.call { callee:=.builtin .append,args:=#[s,x],argTypes:=#[t,t] })
  (e:TypeId) (i:TypeInfo) (z:Value) (size bytes:Nat) (ht:P.underlying t=some (.slice e)) (hi:P.info? e=some i) (hz:i.zero=some z)
  (hsize:i.size=size) (hby:i.bytes=bytes) (hzs:z.cells.size=size)
  (b:Addr) (n:Nat) (olds:List Value) (hs:a.eval s=.slice (some b) n n) (hlo:olds.length=n*size) (holds:∀ j u,olds[j]? = some u→w.cell? (b.add j)=some u)
  (ad:Addr) (m c:Nat) (news:List Value) (hx:a.eval x=.slice (some ad) m c) (hl:news.length=m*size) (hnews:∀ j u,news[j]? = some u→w.cell? (ad.add j)=some u)
  (hm:0<m) (h63:n+m≤maxLen) (hbytes:(n+m)*bytes≤140737488355328) (H:Nat) (hH:w.heap.size=H) (k:Nat) (hk:n+m=k) (xs:List Value) (hxs:olds++news=xs)
  (h:∀ cap w',w'.ownsRow H e size (.slice (some ⟨H,0,none⟩) k cap) k xs→Below H w w'→H<w'.heap.size→K (a.put o.dst (.slice (some ⟨H,0,none⟩) k cap)) w'):o.wp P a w K Q:=by
 subst hsize hby hH hk hxs
 have hr:=run_append_grow (P:=P) w t o.type e i z ht hi hz b n n olds hlo holds ad m c news hl hnews (by omega) (by unfold maxLen at h63;omega) (growslice_fits (by omega) hbytes)
 have hge:=grownCap_ge w (n+m) n e
 have hcm:=grownCap_le_maxLen w (n+m) n e h63
 have hlen:(olds++news).length=(n+m)*i.size:=by rw [List.length_append,hlo,hl,Nat.add_mul]
 unfold Oper.wp execOp
 simp only [ho,resolve,invoke,builtin,Sem.run_bind,Sem.run_pure,Result.andThen_ok,List.map_toArray,List.map_cons,List.map_nil,hs,hx,hr]
 refine h _ _ ⟨hlen,.inr ⟨w.heap.size,_,_,rfl,Nat.le_refl _,heap_alloc_new w.drew _,hge,hcm, ?_, ?_⟩⟩ ((Below.refl w.heap.size w).drew.alloc (Nat.le_refl _) _) (by simp)
 ·simp only [Array.size_append,List.size_toArray,size_zeroCells,hzs,hlo,hl,← Nat.add_mul]
  congr 1
  omega
 ·simp only [Array.toList_append,List.append_assoc]
  rw [← List.append_assoc,← hlen]
  exact List.take_left
theorem step_append_clip {ops:Array Oper} {o:Oper} {a:Act} {K:Act→World→Prop} {Q:Exit→Act→World→Prop} {E:Prop} (hgd:o.guard=none) (s x:Operand) (t:TypeId)
  (ho:o.op=.call { callee:=.builtin .append,args:=#[s,x],argTypes:=#[t,t] })
  (e:TypeId) (i:TypeInfo) (z:Value) (size bytes:Nat) (ht:P.underlying t=some (.slice e)) (hi:P.info? e=some i) (hz:i.zero=some z)
  (hsize:i.size=size) (hby:i.bytes=bytes) (hzs:z.cells.size=size)
  (b:Addr) (n:Nat) (olds:List Value) (hs:a.eval s=.slice (some b) n n) (hlo:olds.length=n*size) (holds:∀ j u,olds[j]? = some u→w.cell? (b.add j)=some u)
  (ad:Addr) (m c:Nat) (news:List Value) (hx:a.eval x=.slice (some ad) m c) (hl:news.length=m*size) (hnews:∀ j u,news[j]? = some u→w.cell? (ad.add j)=some u)
  (hm:0<m) (h63:n+m≤maxLen) (hbytes:(n+m)*bytes≤140737488355328) (H:Nat) (hH:w.heap.size=H) (k:Nat) (hk:n+m=k) (xs:List Value) (hxs:olds++news=xs)
  (h:∀ cap w',w'.ownsRow H e size (.slice (some ⟨H,0,none⟩) k cap) k xs→Below H w w'→H<w'.heap.size→K (a.put o.dst (.slice (some ⟨H,0,none⟩) k cap)) w') :
  if Region.wanted o (yielded ops a.tmps)=true then Oper.wp P o a w K Q else E:=by
 have hw:Region.wanted o (yielded ops a.tmps)=true:=by simp [Region.wanted,hgd]
 rw [if_pos hw]
 exact wp_append_clip w s x t ho e i z size bytes ht hi hz hsize hby hzs b n olds hs hlo holds ad m c news hx hl hnews hm h63 hbytes H hH k hk xs hxs h
end
theorem clipC_some (g n cap:Nat) (w:World) (hn:n≤cap) (hc:cap≤maxLen) :
  Calls Tryz.prog 58 #[.slice (some ⟨g,0,none⟩) n cap] w fun e w'=>e=.returned (.slice (some ⟨g,0,none⟩) n n)∧w'=w:=by
 unfold maxLen at hc
 go_enter Tryz.func58,Tryz.ntmps58
 go_wp2_with fail
 go_ret
 exact ⟨rfl,rfl⟩
theorem Lk.news {W:World} {C:Nat} {cs:Array Value} {T:TypeId} (h:Lk W C cs T):∀ j u,cs.toList[j]? = some u→W.cell? ((⟨C,0,none⟩:Addr).add j)=some u:=World.news_of_block h
theorem behindC_any (ps:List C4) (e:C4) (B:Nat) (v:Value) (w:World) (h0:0<ps.length) (hl:ps.length≤1048576) (h:w.ownsRow B 40 4 v ps.length (cellsC ps)) :
  Calls Tryz.prog 28 #[v,.agg #[.int .i64 e.kind,.string e.text,.int .i64 e.a,.int .i64 e.b]] w fun r w'=>∃ v',r=.returned v'∧w'.ownsRow w.heap.size 40 4 v' (ps.length+1) (cellsC (ps++[e]))∧Below w.heap.size w w':=by
 obtain ⟨g,cap,rfl⟩:=Joins.ownsRow_form h h0
 have hcap:ps.length≤cap∧cap≤maxLen:=by
  rcases h.2 with ⟨q,_⟩|⟨g',c',cur,q,_,_,q1,q2,_⟩
  ·cases q
  ·cases q;exact ⟨q1,q2⟩
 have hC:=fun W=>clipC_some g ps.length cap W hcap.1 hcap.2
 have HO:=hid (fun W (hW:Below w.heap.size w W)=>own_below h hW)
 have hlen:=h.1
 have HSN:=hid (show cellsC (ps++[e])=cellsC ps++[.int .i64 e.kind,.string e.text,.int .i64 e.a,.int .i64 e.b] from cellsC_snoc _ _)
 obtain ⟨i0,hi,hz0,hz1,hz2⟩:=info_parts infoConst
 have K0:=Lk.new w #[.int .i64 e.kind,.string e.text,.int .i64 e.a,.int .i64 e.b] 40
 have K1:=K0.keep (show Below _ _ (w.alloc _).drew from (Below.refl _ _).drew)
 obtain ⟨c0,c1,c2,c3,_⟩:=K1.c4
 have K2:=hid (show Lk ((w.alloc (.cells #[.int .i64 e.kind,.string e.text,.int .i64 e.a,.int .i64 e.b] 40)).alloc (.cells #[.int .i64 e.kind,.string e.text,.int .i64 e.a,.int .i64 e.b] 40)) (w.heap.size+1) #[.int .i64 e.kind,.string e.text,.int .i64 e.a,.int .i64 e.b] 40 from by simpa using Lk.new (w.alloc (.cells #[.int .i64 e.kind,.string e.text,.int .i64 e.a,.int .i64 e.b] 40)) #[.int .i64 e.kind,.string e.text,.int .i64 e.a,.int .i64 e.b] 40)
 clear h hcap K0 K1
 go_enter Tryz.func28,Tryz.ntmps28
 go_upto_region 1 with fail
 go_region_law (first
  | (go_simp;go_at_call 58;refine (hC _).mono ?_;rintro r w9 ⟨rfl,rfl⟩)
  | (refine step_append_clip _ rfl (.tmp 6) (.tmp 8) 32 rfl 40 i0 (.agg #[.int .i64 0,.string ⟨#[]⟩,.int .i64 0,.int .i64 0]) 4 40 Tryz.underlying32 hi hz0 hz1 hz2 rfl ⟨g,0,none⟩ ps.length (cellsC ps) rfl hlen (fun j u hj=>(HO.out _ (by go_grown)).cells (g:=g) rfl j u hj) ⟨w.heap.size+1,0,none⟩ 1 1 [.int .i64 e.kind,.string e.text,.int .i64 e.a,.int .i64 e.b] rfl rfl (Lk.news (show Lk _ (w.heap.size+1) #[.int .i64 e.kind,.string e.text,.int .i64 e.a,.int .i64 e.b] 40 from K2.out)) (by omega) (by unfold maxLen;omega) (by omega) (w.heap.size+1+1) (by simp) (ps.length+1) rfl _ rfl ?_;intro cap9 w8 hown9 hb9 hlt9))
 all_goals
  have HW:=hid (show w8.ownsRow w.heap.size 40 4 (.slice (some ⟨w.heap.size+1+1,0,none⟩) (ps.length+1) cap9) (ps.length+1) (cellsC (ps++[e])) from by
   rw [HSN.out]
   exact Joins.ownsRow_le (by first|exact hown9|simpa using hown9) (by first|omega|(simp;omega)))
  have HB:=hid (show Below w.heap.size w w8 from Below.trans (by go_grown) (hb9.mono (by first|omega|(simp;omega))))
  clear hown9 hb9
  go_wp2
  go_ret
  exact ⟨_,rfl,HW.out,HB.out⟩
end Go.Proofs.YtecbcdfkedocbaaGreatDoor
