/- Gathered: RfBase RfSmall RfOne RfTwo RfKinds RfBody RfMethod RfClassA. -/
import Derived.Test.YtecbcdfkedocbaaGreatDoorH01
import Derived.Test.YtecbcdfkedocbaaGreatDoorH02
import Derived.Test.YtecbcdfkedocbaaGreatDoorShelf
import Derived.Deep.RegionHeld
import Derived.Test.YtecbcdfkedocbaaGreatDoorH03
namespace Go.Proofs.YtecbcdfkedocbaaGreatDoor
open Go.RowKit Fm
set_option maxHeartbeats 1000000
set_option maxRecDepth 20000
set_option linter.unusedVariables false
theorem Lk.c3 {W:World} {C:Nat} {a b c:Value} {T:TypeId} (h:Lk W C #[a,b,c] T):W.cell? ⟨C,0,none⟩=some a∧W.cell? ⟨C,1,none⟩=some b∧W.cell? ⟨C,2,none⟩=some c∧W.frozen? ⟨C,0,none⟩=false∧W.frozen? ⟨C,1,none⟩=false∧W.frozen? ⟨C,2,none⟩=false:=
 ⟨h.c 0 _ rfl,h.c 1 _ rfl,h.c 2 _ rfl,h.z 0,h.z 1,h.z 2⟩
def Apart (vs:List Value):Prop:=vs.Pairwise fun a b=>∀ i j,a.ownBlock=some i→b.ownBlock=some j→i<j
def Under (H:Nat) (vs:List Value):Prop:=∀ v∈vs,∀ i,v.ownBlock=some i→i<H
def Over (H:Nat) (vs:List Value):Prop:=∀ v∈vs,∀ i,v.ownBlock=some i→H≤i
theorem Apart.nil:Apart []:=List.Pairwise.nil
theorem Apart.app {vs us:List Value} {H:Nat} (h:Apart vs) (k:Apart us) (h1:Under H vs) (h2:Over H us):Apart (vs++us):=
 List.pairwise_append.2 ⟨h,k,fun a ha b hb i j hi hj=>Nat.lt_of_lt_of_le (h1 a ha i hi) (h2 b hb j hj)⟩
theorem Under.mono {H H':Nat} {vs:List Value} (h:Under H vs) (hh:H≤H'):Under H' vs:=fun v hv i hi=>Nat.lt_of_lt_of_le (h v hv i hi) hh
theorem Over.mono {H H':Nat} {vs:List Value} (h:Over H vs) (hh:H'≤H):Over H' vs:=fun v hv i hi=>Nat.le_trans hh (h v hv i hi)
theorem Under.app {H:Nat} {vs us:List Value} (h:Under H vs) (k:Under H us):Under H (vs++us):=fun v hv=>by
 rcases List.mem_append.1 hv with hv|hv
 ·exact h v hv
 ·exact k v hv
theorem Over.app {H:Nat} {vs us:List Value} (h:Over H vs) (k:Over H us):Over H (vs++us):=fun v hv=>by
 rcases List.mem_append.1 hv with hv|hv
 ·exact h v hv
 ·exact k v hv
theorem under_row {w:World} {B:Nat} {e:TypeId} {z n:Nat} {v:Value} {xs:List Value} (h:w.ownsRow B e z v n xs):Under w.heap.size [v]:=fun u hu i hi=>by
 simp at hu;subst hu;exact (h.lt i hi).2
theorem over_row {w:World} {B:Nat} {e:TypeId} {z n:Nat} {v:Value} {xs:List Value} (h:w.ownsRow B e z v n xs):Over B [v]:=fun u hu i hi=>by
 simp at hu;subst hu;exact (h.lt i hi).1
theorem apart_one (v:Value):Apart [v]:=by simp [Apart]
def kb (xs:List SFrame):List Value:=xs.flatMap fun x=>[x.l,x.s]
theorem kb_snoc (xs:List SFrame) (x:SFrame):kb (xs++[x])=kb xs++[x.l,x.s]:=by simp [kb]
theorem FX.under {W:World} {B:Nat} {v:Value} {fs:List MFrame} {xs:List SFrame} (h:FX W B v fs xs):Under W.heap.size (kb xs):=by
 intro u hu i hi
 obtain ⟨x,hx,hm⟩:=List.mem_flatMap.1 hu
 obtain ⟨k,hk,rfl⟩:=List.getElem_of_mem hx
 have hf:=h.each k (by have:=h.len;omega) hk
 simp at hm
 rcases hm with rfl|rfl
 ·exact (hf.l.lt i hi).2
 ·exact (hf.s.lt i hi).2
theorem FX.over {W:World} {B:Nat} {v:Value} {fs:List MFrame} {xs:List SFrame} (h:FX W B v fs xs):Over B (kb xs):=by
 intro u hu i hi
 obtain ⟨x,hx,hm⟩:=List.mem_flatMap.1 hu
 obtain ⟨k,hk,rfl⟩:=List.getElem_of_mem hx
 have hf:=h.each k (by have:=h.len;omega) hk
 simp at hm
 rcases hm with rfl|rfl
 ·exact (hf.l.lt i hi).1
 ·exact (hf.s.lt i hi).1
set_option maxHeartbeats 2000000
theorem FX.mono {w:World} {B B':Nat} {v:Value} {fs:List MFrame} {xs:List SFrame} (h:FX w B v fs xs) (hb:B'≤B):FX w B' v fs xs:=⟨h.len,Joins.ownsRow_le h.row hb,fun k h1 h2=>(h.each k h1 h2).mono hb⟩
set_option maxHeartbeats 4000000
structure MA (W:World) (B:Nat) (v:Value) (ms:List MMethod) (xs:List SMethod) (ys:List (List SFrame)):Prop where
 len:xs.length=ms.length
 len2:ys.length=ms.length
 row:W.ownsRow B 75 8 v ms.length (rowMethod xs)
 sh:∀ k (h:k<ms.length) (h':k<xs.length),xs[k]=shM ms[k] xs[k].traps xs[k].frames
 tr:∀ k (h:k<ms.length) (h':k<xs.length),W.ownsRow B 140 4 xs[k].traps ms[k].traps.length (rowTrap ms[k].traps)
 fx:∀ k (h:k<ms.length) (h':k<xs.length) (h'':k<ys.length),FX W B xs[k].frames ms[k].frames ys[k]
 at_:Apart (xs.map SMethod.traps)
 af:Apart (xs.map SMethod.frames)
 ak:Apart (ys.flatMap kb)
section
variable {W W':World} {B:Nat} {v:Value} {ms:List MMethod} {xs:List SMethod} {ys:List (List SFrame)}
theorem MA.nil (W:World) (B:Nat):MA W B (.slice none 0 0) [] [] []:=⟨rfl,rfl,World.ownsRow_nil _ _ _ _,fun k hk=>by simp at hk,fun k hk=>by simp at hk,fun k hk=>by simp at hk,Apart.nil,Apart.nil,Apart.nil⟩
theorem MA.mx (h:MA W B v ms xs ys):MX W B v ms xs:=⟨h.len,h.row,fun k h1 h2=>⟨xs[k].traps,xs[k].frames,h.sh k h1 h2,⟨h.tr k h1 h2,(h.fx k h1 h2 (by have:=h.len2;omega)).all⟩⟩⟩
theorem FX.kp {e0:TypeId} {v:Value} {fs:List MFrame} {zs:List SFrame} (h:FX W B v fs zs) (k:Kp W W' B e0) (h1:114≠e0) (h2:144≠e0):FX W' B v fs zs:=
 ⟨h.len,k _ _ _ _ _ h1 h.row,fun j hj hj'=>⟨(h.each j hj hj').at_,k _ _ _ _ _ h2 (h.each j hj hj').l,k _ _ _ _ _ h2 (h.each j hj hj').s⟩⟩
theorem MA.kp {e0:TypeId} (h:MA W B v ms xs ys) (k:Kp W W' B e0) (h3:75≠e0) (h0:140≠e0) (h1:114≠e0) (h2:144≠e0):MA W' B v ms xs ys:=
 ⟨h.len,h.len2,k _ _ _ _ _ h3 h.row,h.sh,fun j a b=>k _ _ _ _ _ h0 (h.tr j a b),fun j a b c=>(h.fx j a b c).kp k h1 h2,h.at_,h.af,h.ak⟩
theorem MA.underT (h:MA W B v ms xs ys):Under W.heap.size (xs.map SMethod.traps):=by
 intro u hu i hi
 obtain ⟨x,hx,rfl⟩:=List.mem_map.1 hu
 obtain ⟨k,hk,rfl⟩:=List.getElem_of_mem hx
 exact ((h.tr k (by have:=h.len;omega) hk).lt i hi).2
theorem MA.underF (h:MA W B v ms xs ys):Under W.heap.size (xs.map SMethod.frames):=by
 intro u hu i hi
 obtain ⟨x,hx,rfl⟩:=List.mem_map.1 hu
 obtain ⟨k,hk,rfl⟩:=List.getElem_of_mem hx
 exact ((h.fx k (by have:=h.len;omega) hk (by have:=h.len;have:=h.len2;omega)).row.lt i hi).2
theorem MA.underK (h:MA W B v ms xs ys):Under W.heap.size (ys.flatMap kb):=by
 intro u hu i hi
 obtain ⟨x,hx,hm⟩:=List.mem_flatMap.1 hu
 obtain ⟨k,hk,rfl⟩:=List.getElem_of_mem hx
 exact (h.fx k (by have:=h.len2;omega) (by have:=h.len;have:=h.len2;omega) hk).under u hm i hi
structure MNew (W:World) (B:Nat) (vt vf:Value) (m:MMethod) (zs:List SFrame) (xs:List SMethod) (ys:List (List SFrame)):Prop where
 tr:W.ownsRow B 140 4 vt m.traps.length (rowTrap m.traps)
 fx:FX W B vf m.frames zs
 at_:Apart ((xs++[shM m vt vf]).map SMethod.traps)
 af:Apart ((xs++[shM m vt vf]).map SMethod.frames)
 ak:Apart ((ys++[zs]).flatMap kb)
theorem MA.next {vt vf:Value} {m:MMethod} {zs:List SFrame} {H:Nat} (h:MA W B v ms xs ys) (hH:W.heap.size=H) (ht:W'.ownsRow H 140 4 vt m.traps.length (rowTrap m.traps)) (hf:FX W' H vf m.frames zs) (ha:Apart (kb zs)) (hB:B≤H):MNew W' B vt vf m zs xs ys:=by
 subst hH
 refine ⟨Joins.ownsRow_le ht hB,hf.mono hB, ?_, ?_, ?_⟩
 ·rw [List.map_append]
  exact h.at_.app (apart_one _) h.underT (over_row ht)
 ·rw [List.map_append]
  exact h.af.app (apart_one _) h.underF (over_row hf.row)
 ·rw [List.flatMap_append,List.flatMap_singleton]
  exact h.ak.app ha h.underK hf.over
theorem MA.snoc {v' vt vf:Value} {m:MMethod} {zs:List SFrame} {o:Obj} (h:MA W B v ms xs ys) (hn:MNew W B vt vf m zs xs ys) (hg:(W.alloc o).grownBy W' v.ownBlock) (ho:W'.ownsRow B 75 8 v' (ms.length+1) (rowMethod xs++cellsMethod (shM m vt vf))):MA W' B v' (ms++[m]) (xs++[shM m vt vf]) (ys++[zs]):=by
 have k:Kp W W' B 75:=Kp.grow h.row hg
 have e1:=h.len
 have e2:=h.len2
 refine ⟨by simp [h.len],by simp [h.len2], ?_,fun j hj hj'=>?_,fun j hj hj'=>?_,fun j hj hj' hj''=>?_,hn.at_,hn.af,hn.ak⟩
 ·rw [rowMethod_snoc,List.length_append];exact ho
 ·by_cases hlt:j<ms.length
  ·simp only [List.getElem_append_left hlt,List.getElem_append_left (show j<xs.length by omega)]
   exact h.sh j hlt (by omega)
  ·have hje:j=ms.length:=by simp at hj;omega
   subst hje
   simp only [List.getElem_append_right (Nat.le_refl _),List.getElem_append_right (show xs.length≤ms.length by omega)]
   simp [e1,shM]
 ·by_cases hlt:j<ms.length
  ·simp only [List.getElem_append_left hlt,List.getElem_append_left (show j<xs.length by omega)]
   exact k _ _ _ _ _ (by decide) (h.tr j hlt (by omega))
  ·have hje:j=ms.length:=by simp at hj;omega
   subst hje
   simp only [List.getElem_append_right (Nat.le_refl _),List.getElem_append_right (show xs.length≤ms.length by omega)]
   simpa [e1,shM] using k _ _ _ _ _ (by decide) hn.tr
 ·by_cases hlt:j<ms.length
  ·simp only [List.getElem_append_left hlt,List.getElem_append_left (show j<xs.length by omega),List.getElem_append_left (show j<ys.length by omega)]
   exact (h.fx j hlt (by omega) (by omega)).kp k (by decide) (by decide)
  ·have hje:j=ms.length:=by simp at hj;omega
   subst hje
   simp only [List.getElem_append_right (Nat.le_refl _),List.getElem_append_right (show xs.length≤ms.length by omega),List.getElem_append_right (show ys.length≤ms.length by omega)]
   simpa [e1,e2,shM] using hn.fx.kp k (by decide) (by decide)
theorem MNew.kp {e0:TypeId} {vt vf:Value} {m:MMethod} {zs:List SFrame} (h:MNew W B vt vf m zs xs ys) (k:Kp W W' B e0) (h0:140≠e0) (h1:114≠e0) (h2:144≠e0):MNew W' B vt vf m zs xs ys:=⟨k _ _ _ _ _ h0 h.tr,h.fx.kp k h1 h2,h.at_,h.af,h.ak⟩
end
section
variable {w:World} {b:Nat} {s:ByteArray} {M:Nat} {cs:Array Value} {vp vi vf vm:Value} {ps:List C4} {is:List Int} {fs:List MField} {ms:List MMethod} {xs:List SMethod} {ys:List (List SFrame)} {r r':List UInt8} {W W':World}
end
structure ClA (W:World) (B:Nat) (vp vi vf vm:Value) (c:MClass) (xs:List SMethod) (ys:List (List SFrame)):Prop where
 p:W.ownsRow B 40 4 vp c.pool.length (cellsC c.pool)
 i:W.ownsRow B 3 1 vi c.faces.length (rowI c.faces)
 f:W.ownsRow B 79 3 vf c.fields.length (rowField c.fields)
 m:MA W B vm c.methods xs ys
theorem ClA.all {W:World} {B:Nat} {vp vi vf vm:Value} {c:MClass} {xs:List SMethod} {ys:List (List SFrame)} (h:ClA W B vp vi vf vm c xs ys):ClassW W B vp vi vf vm c:=⟨h.p,h.i,h.f,h.m.mx.all⟩
theorem ClA.kp {W W':World} {B:Nat} {vp vi vf vm:Value} {c:MClass} {xs:List SMethod} {ys:List (List SFrame)} {e0:TypeId} (h:ClA W B vp vi vf vm c xs ys) (k:Kp W W' B e0) (h1:40≠e0) (h2:3≠e0) (h3:79≠e0) (h4:75≠e0) (h5:140≠e0) (h6:114≠e0) (h7:144≠e0):ClA W' B vp vi vf vm c xs ys:=
 ⟨k _ _ _ _ _ h1 h.p,k _ _ _ _ _ h2 h.i,k _ _ _ _ _ h3 h.f,h.m.kp k h4 h5 h6 h7⟩
end Go.Proofs.YtecbcdfkedocbaaGreatDoor
