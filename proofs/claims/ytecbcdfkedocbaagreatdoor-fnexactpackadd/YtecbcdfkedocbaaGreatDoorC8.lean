/- Gathered: AddBase AddVar. -/
import Derived.Test.YtecbcdfkedocbaaGreatDoorC7
import Derived.Test.YtecbcdfkedocbaaGreatDoorC3
import Derived.Test.YtecbcdfkedocbaaGreatDoorC6
import Derived.Test.YtecbcdfkedocbaaGreatDoorM6
import Derived.Test.YtecbcdfkedocbaaGreatDoorM2
namespace Go.Proofs.YtecbcdfkedocbaaGreatDoor
open Go.RowKit Mx Fm
set_option linter.unusedVariables false
set_option maxHeartbeats 2000000
def noneC:MClass:=⟨[],0,0,0,[],[],[]⟩
def putP (c:MClass) (t:C4):MClass:=⟨c.pool++[t],c.flags,c.name,c.super,c.faces,c.fields,c.methods⟩
def AddOut (c:MClass) (t:C4) (n:Int) (d:MClass) (p:Int):Prop:=
 (n≠0∧d=noneC∧p=0) ∨
 (n=0∧d=c∧∃ k:Nat,∃ hk:k<c.pool.length,c.pool[k]=t∧(∀ j,(hj:j<k)→c.pool[j]'(by omega)≠t)∧p=k+1) ∨
 (n=0∧(∀ u∈c.pool,u≠t)∧poolC (c.pool++[t])=0∧d=putP c t∧p=c.pool.length+1) ∨
 (n=0∧(∀ u∈c.pool,u≠t)∧poolC (c.pool++[t])≠0∧d=c∧p=0)
theorem AddOut.one {c d d':MClass} {t:C4} {n p p':Int} (h:AddOut c t n d p) (h':AddOut c t n d' p'):d=d'∧p=p':=by
 rcases h with ⟨a0,rfl,rfl⟩|⟨a0,rfl,k,hk,a1,a2,rfl⟩|⟨a0,a1,a2,rfl,rfl⟩|⟨a0,a1,a2,rfl,rfl⟩<;>rcases h' with ⟨b0,rfl,rfl⟩|⟨b0,b9,k',hk',b1,b2,rfl⟩|⟨b0,b1,b2,rfl,rfl⟩|⟨b0,b1,b2,b9,rfl⟩
 all_goals first
  | exact ⟨rfl,rfl⟩
  | exact absurd b0 a0
  | exact absurd a0 b0
  | exact absurd a2 b2
  | exact absurd b2 a2
  | exact ⟨b9.symm,rfl⟩
  | exact absurd a1 (b1 _ (List.getElem_mem hk))
  | exact absurd b1 (a1 _ (List.getElem_mem hk'))
  | (refine ⟨b9.symm, ?_⟩;rcases Nat.lt_trichotomy k k' with q|q|q;exact absurd a1 (b2 k q);rw [q];exact absurd b1 (a2 k' q))
theorem none_few:noneC.few:=⟨by simp [noneC],by simp [noneC],by simp [noneC],by simp [noneC],by simp [noneC],by simp [noneC]⟩
theorem fine_pool {c:MClass} (h:fineC c):c.pool.length≤60:=by have:=h.1.1;omega
theorem AddOut.few {c d:MClass} {t:C4} {n p:Int} (h:AddOut c t n d p) (hc:c.few) (ht:t.text.size≤1048576):d.few:=by
 rcases h with ⟨a0,rfl,rfl⟩|⟨a0,rfl,_⟩|⟨a0,a1,a2,rfl,rfl⟩|⟨a0,a1,a2,rfl,rfl⟩
 ·exact none_few
 ·exact hc
 ·refine ⟨?_,fun u hu=>?_,hc.faces,hc.fields,hc.methods,hc.each⟩
  ·unfold poolC at a2
   split at a2
   ·omega
   ·split at a2
    ·omega
    ·simp [putP] at *;omega
  ·rcases List.mem_append.1 (show u∈c.pool++[t] from hu) with hu|hu
   ·exact hc.texts u hu
   ·simp at hu;subst hu;exact ht
 ·exact hc
theorem fine_short {c:MClass} (h:fineC c):shortC c:=by
 obtain ⟨h1,_,_,_,h2,h3,h4⟩:=h
 refine ⟨by have:=h1.1;omega,by have:=h2.1;omega,by have:=h3.1;omega,by have:=h4.1;omega,fun x hx=>?_⟩
 obtain ⟨_,_,_,hb⟩:=h4.2 x hx
 unfold fineM2 at hb
 unfold shortM
 split at hb
 ·obtain ⟨_,_,_,e1,e2⟩:=hb
  simp [e1,e2]
 ·obtain ⟨_,_,_,q1,q2⟩:=hb
  exact ⟨by have:=q1.1;omega,by have:=q2.1;omega,fun f hf=>by have:=q2.2 f hf;exact ⟨by have:=this.2.1.1;omega,by have:=this.2.2.1;omega⟩⟩
theorem AddOut.short {c d:MClass} {t:C4} {n p:Int} (h:AddOut c t n d p) (hf:n=0→fineC c):shortC d:=by
 rcases h with ⟨a0,rfl,rfl⟩|⟨a0,rfl,_⟩|⟨a0,a1,a2,rfl,rfl⟩|⟨a0,a1,a2,rfl,rfl⟩
 ·exact ⟨by simp [noneC],by simp [noneC],by simp [noneC],by simp [noneC],by simp [noneC]⟩
 ·exact fine_short (hf a0)
 ·have hs:=fine_short (hf a0)
  refine ⟨?_,hs.i,hs.f,hs.m,hs.each⟩
  unfold poolC at a2
  split at a2
  ·omega
  ·split at a2
   ·omega
   ·simp [putP] at *;omega
 ·exact fine_short (hf a0)
theorem ClA.none (W:World) (B:Nat):ClA W B (.slice none 0 0) (.slice none 0 0) (.slice none 0 0) (.slice none 0 0) noneC [] []:=
 ⟨World.ownsRow_nil _ _ _ _,World.ownsRow_nil _ _ _ _,World.ownsRow_nil _ _ _ _,MA.nil _ _⟩
theorem ClassW.none (W:World) (B:Nat):ClassW W B (.slice none 0 0) (.slice none 0 0) (.slice none 0 0) (.slice none 0 0) noneC:=(ClA.none W B).all
theorem ClassW.kp {W W':World} {B:Nat} {vp vi vf vm:Value} {c:MClass} {e0:TypeId} (h:ClassW W B vp vi vf vm c) (k:Kp W W' B e0) (h1:40≠e0) (h2:3≠e0) (h3:79≠e0) (h4:75≠e0) (h5:140≠e0) (h6:114≠e0) (h7:144≠e0):ClassW W' B vp vi vf vm c:=by
 obtain ⟨xs,hx⟩:=MX.of h.m
 exact ⟨k _ _ _ _ _ h1 h.p,k _ _ _ _ _ h2 h.i,k _ _ _ _ _ h3 h.f,(hx.kp k h4 h5 h6 h7).all⟩
abbrev arr4 (t:C4):Array Value:=#[.int .i64 t.kind,.string t.text,.int .i64 t.a,.int .i64 t.b]
structure AB (w:World) (c e z:Array Value) (W:World):Prop where
 b:Below w.heap.size w W
 box:Lk W w.heap.size c 36
 eb:Lk W (w.heap.size+1) e 40
 res:Lk W (w.heap.size+2) z 36
theorem AB.new (w:World) (c e z:Array Value):AB w c e z (((w.alloc (.cells c 36)).alloc (.cells e 40)).alloc (.cells z 36)):=by
 have h:=HB.three w c e z 36 40 36
 exact ⟨h.b,h.tl.tl.hd,h.tl.hd,h.hd⟩
theorem AB.keep {w W W':World} {c e z:Array Value} (h:AB w c e z W) (hb:Below W.heap.size W W'):AB w c e z W':=⟨h.b.trans (hb.mono h.b.size),h.box.keep hb,h.eb.keep hb,h.res.keep hb⟩
theorem AB.setE {w W:World} {c e e' z:Array Value} (h:AB w c e z W) (j:Nat) (u:Value) (hu:e.setIfInBounds j u=e'):AB w c e' z (W.setCell ⟨w.heap.size+1,j,none⟩ u):=
 ⟨h.b.setCell (by dsimp only;omega) _,h.box.other u (by dsimp only;omega),h.eb.set j u hu,h.res.other u (by dsimp only;omega)⟩
theorem AB.far {w W:World} {c e z:Array Value} (h:AB w c e z W) {a:Addr} (ha:w.heap.size+2<a.block) (u:Value):AB w c e z (W.setCell a u):=
 ⟨h.b.setCell (by omega) _,h.box.other u (by omega),h.eb.other u (by omega),h.res.other u (by omega)⟩
theorem Below.ext {R W W':World} (h:Below R.heap.size R W) (g:Below W.heap.size W W'):Below R.heap.size R W':=h.trans (g.mono h.size)
theorem Below.al {R W:World} (h:Below R.heap.size R W) (o:Obj):Below R.heap.size R (W.alloc o):=h.alloc h.size o
theorem Below.new (W:World) (o:Obj):Below W.heap.size W (W.alloc o):=(Below.refl _ _).alloc (Nat.le_refl _) o
theorem Lk.modT {S:List Value} {W W':World} {C:Nat} {cs:Array Value} {T:TypeId} (h:Lk W C cs T) (hm:Mod S W W') (hS:∀ u∈S,u.ownBlock≠some C):Lk W' C cs T:=by
 unfold Lk at *
 rw [hm.block C (Array.getElem?_eq_some_iff.1 h).1 hS]
 exact h
structure VB (R:World) (F:World→Prop) (C:Nat) (cs:Array Value) (W:World):Prop where
 b:Below R.heap.size R W
 c:R.heap.size≤C
 lk:Lk W C cs 36
 f:F W
 k:∀ W W',(∀ B,Kp W W' B 36)→F W→F W'
section
variable {R W:World} {F:World→Prop} {C:Nat} {cs cs':Array Value}
theorem VB.set (h:VB R F C cs W) (j:Nat) (u:Value) (hu:cs.setIfInBounds j u=cs'):VB R F C cs' (W.setCell ⟨C,j,none⟩ u):=
 ⟨h.b.setCell h.c _,h.c,h.lk.set j u hu,h.k _ _ (fun B=>Kp.set h.lk j u) h.f,h.k⟩
theorem VB.put {a0 a1 a2 a3 a4 a5 a6:Value} (h:VB R F C #[.slice none 0 0,.int .i64 0,.int .i64 0,.int .i64 0,.slice none 0 0,.slice none 0 0,.slice none 0 0] W):VB R F C #[a0,a1,a2,a3,a4,a5,a6] (((((((W.setCell ⟨C,0,none⟩ a0).setCell ⟨C,1,none⟩ a1).setCell ⟨C,2,none⟩ a2).setCell ⟨C,3,none⟩ a3).setCell ⟨C,4,none⟩ a4).setCell ⟨C,5,none⟩ a5).setCell ⟨C,6,none⟩ a6):=
 ((((((h.set 0 a0 rfl).set 1 a1 rfl).set 2 a2 rfl).set 3 a3 rfl).set 4 a4 rfl).set 5 a5 rfl).set 6 a6 rfl
theorem VB.last (hb:Below R.heap.size R W) (hf:F W) (k:∀ W W',(∀ B,Kp W W' B 36)→F W→F W') (cs:Array Value):VB R F W.heap.size cs (W.alloc (.cells cs 36)):=
 ⟨Below.al hb _,hb.size,Lk.new _ _ _,k _ _ (fun B=>Kp.old _ (Below.new _ _)) hf,k⟩
end
theorem specF (u1 u2 u3 u4:Value) (d:MClass):∀ W W':World,(∀ B,Kp W W' B 36)→(∃ B,ClassW W B u1 u2 u3 u4 d)→∃ B,ClassW W' B u1 u2 u3 u4 d:=by
 rintro W W' k ⟨B,h⟩
 exact ⟨B,h.kp (k B) (by decide) (by decide) (by decide) (by decide) (by decide) (by decide) (by decide)⟩
theorem implF (B:Nat) (u1 u2 u3 u4:Value) (d:MClass) (us:List SMethod) (ys:List (List SFrame)):∀ W W':World,(∀ B,Kp W W' B 36)→ClA W B u1 u2 u3 u4 d us ys→ClA W' B u1 u2 u3 u4 d us ys:=fun W W' k h=>
 h.kp (k B) (by decide) (by decide) (by decide) (by decide) (by decide) (by decide) (by decide)
structure AP (w:World) (a e:Array Value) (W:World):Prop where
 old:Below w.heap.size w W
 lk:Lk W w.heap.size a 27
 le:Lk W (w.heap.size+1) e 29
theorem AP.new (w:World) (a e:Array Value):AP w a e ((w.alloc (.cells a 27)).alloc (.cells e 29)):=by
 have h:=HB.two w a e 27 29
 exact ⟨h.b,h.tl.hd,h.hd⟩
theorem AP.keep {w W W':World} {a e:Array Value} (h:AP w a e W) (hb:Below W.heap.size W W'):AP w a e W':=⟨h.old.trans (hb.mono h.old.size),h.lk.keep hb,h.le.keep hb⟩
end Go.Proofs.YtecbcdfkedocbaaGreatDoor
