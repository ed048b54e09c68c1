/- Gathered: MkText MkLike. -/
import Derived.Test.YtecbcdfkedocbaaGreatDoorG01
import Derived.BigQuiet
import Derived.Laws.IdiomStrings
import Derived.Test.YtecbcdfkedocbaaGreatDoorG03
namespace Go.Proofs.YtecbcdfkedocbaaGreatDoor
open Go.RowKit
set_option maxHeartbeats 400000
set_option linter.unusedVariables false
def dgs:Nat→Nat→List UInt8→List UInt8
 | 0,_,acc=>acc
 | f+1,n,acc=>if n=0 then acc else dgs f (n / 10) (UInt8.ofNat (48+n % 10) :: acc)
def mt (k:Nat):ByteArray:=bytesOf (109 :: dgs 20 k [])
theorem one_byte (W:World) (n:Int) (c:UInt8) (hn:(c.toNat:Int)=n) :
  (convert 146 9 (.slice (some ⟨W.heap.size,0,none⟩) 1 1)).run Tryz.prog (W.alloc (.cells #[.int .u8 n] 5))=.ok (.string (bytesOf [c])) (W.alloc (.cells #[.int .u8 n] 5)):=by
 subst hn
 refine run_convert_bytes_back (P:=Tryz.prog) _ 146 9 5 ⟨W.heap.size,0,none⟩ 1 [c] Tryz.underlying146 Tryz.underlying5 Tryz.underlying9 ?_
 intro j hj
 have hj0:j=0:=by simp at hj;omega
 subst hj0
 simp [Addr.add]
theorem dgs_zero (f:Nat) (acc:List UInt8):dgs f 0 acc=acc:=by cases f<;>simp [dgs]
theorem dgs_step (f m:Nat) (acc:List UInt8) (h:m≠0):dgs (f+1) m acc=dgs f (m / 10) (UInt8.ofNat (48+m % 10) :: acc):=by
 simp [dgs,h]
theorem markText_any (k:Nat) (w:World) (h0:0<k) (hk:k≤9000000000000000000) :
  Calls Tryz.prog 63 #[.int .i64 (k:Int)] w fun e w'=>e=.returned (.string (mt k))∧Below w.heap.size w w':=by
 have h0':¬(k:Int)≤0:=by omega
 go_enter Tryz.func63,Tryz.ntmps63
 go_wp2
 go_loopw [0,3] (fun i s wr=>∃ (f m:Nat) (acc:List UInt8),i=.int .i64 m∧s=.string (bytesOf acc)∧m≤9000000000000000000∧Hid (m<10 ^ f)∧f+acc.length=20∧Hid (dgs 20 k []=dgs f m acc)∧Below w.heap.size w wr) (fun i _ _=>(intOf i).toNat)
 case atStart=>exact ⟨20,k,[],rfl,rfl,hk,by unfold Hid;omega,rfl,rfl,Below.refl _ _⟩
 case round=>
  obtain ⟨f,m,acc,rfl,rfl,hm,HF,hl,HD,hb⟩:=hrel
  have hsz:(bytesOf acc).size≤20:=by rw [bytes_size];omega
  by_cases hz:m=0
  ·subst hz
   have HR:Hid (({ data:=#[109] }:ByteArray)++bytesOf acc=mt k):=by
    unfold Hid mt
    rw [HD.out,dgs_zero]
    exact bytes_app [109] acc
   go_wp2
   go_ret
   exact ⟨ret_str HR.out,hb⟩
  ·have hz':(0:Int)<(m:Int):=by omega
   obtain ⟨g,rfl⟩:∃ g,f=g+1:=by
    cases f with
    | zero=>exfalso;have:=HF.out;simp at this;exact hz this
    | succ g=>exact ⟨g,rfl⟩
   obtain ⟨c,HC⟩:∃ c,Hid (UInt8.ofNat (48+m % 10)=c):=⟨_,rfl⟩
   have hcv:=fun W=>one_byte W (48+(m:Int) % 10) c (by rw [← HC.out];simp;omega)
   have HS:Hid (dgs 20 k []=dgs g (m / 10) (c :: acc)):=by
    unfold Hid;rw [HD.out,dgs_step _ _ _ hz,HC.out]
   have HG:Hid (m / 10<10 ^ g):=by
    unfold Hid
    have:=HF.out
    rw [Nat.pow_succ] at this
    omega
   have hs1:(bytesOf [c]).size≤1:=by rw [bytes_size];simp
   have HA:Hid (bytesOf [c]++bytesOf acc=bytesOf (c :: acc)):=bytes_app [_] acc
   clear HD HF hz HC
   go_wp2
   go_roundw
   case rel=>exact ⟨g,m / 10,c :: acc,by go_num,by rw [HA.out],by omega,HG,by simp;omega,HS,hb.alloc hb.size _⟩
   case measure=>simp [intOf];omega
def Like (v v':Value):Prop:=v'=v∨(∃ s s',v=.string s∧v'=.string s')∨(∃ a a':Int,v=.int .i64 a∧v'=.int .i64 a')
theorem Like.refl (v:Value):Like v v:=.inl rfl
theorem Like.str (s s':ByteArray):Like (.string s) (.string s'):=.inr (.inl ⟨s,s',rfl,rfl⟩)
theorem Like.int (a a':Int):Like (.int .i64 a) (.int .i64 a'):=.inr (.inr ⟨a,a',rfl,rfl⟩)
theorem Like.trans {u v x:Value} (h:Like u v) (k:Like v x):Like u x:=by
 rcases h with rfl|⟨s,s',rfl,rfl⟩|⟨a,a',rfl,rfl⟩
 ·exact k
 ·rcases k with rfl|⟨t,t',h1,rfl⟩|⟨t,t',h1,rfl⟩
  ·exact Like.str _ _
  ·exact Like.str _ _
  ·cases h1
 ·rcases k with rfl|⟨t,t',h1,rfl⟩|⟨t,t',h1,rfl⟩
  ·exact Like.int _ _
  ·cases h1
  ·exact Like.int _ _
structure Chg (B H:Nat) (w w':World):Prop where
 os:w'.os=w.os
 tape:w'.tape=w.tape
 output:w'.output=w.output
 size:w.heap.size≤w'.heap.size
 out:∀ g,g<w.heap.size→(g<B∨H≤g)→w'.heap[g]? = w.heap[g]?
 inn:∀ (g:Nat) (arr:Array Value) (T:TypeId),w.heap[g]? = some (Obj.cells arr T (0,0))→∃ arr':Array Value,w'.heap[g]? = some (Obj.cells arr' T (0,0))∧∀ (i:Nat) (v:Value),arr[i]? = some v→∃ v',arr'[i]? = some v'∧Like v v'
theorem Chg.refl (B H:Nat) (w:World):Chg B H w w:=⟨rfl,rfl,rfl,Nat.le_refl _,fun _ _ _=>rfl,fun g arr T h=>⟨arr,h,fun i v hv=>⟨v,hv,Like.refl v⟩⟩⟩
theorem Chg.trans {B H:Nat} {w w1 w2:World} (h:Chg B H w w1) (k:Chg B H w1 w2):Chg B H w w2:=by
 refine ⟨k.os.trans h.os,k.tape.trans h.tape,k.output.trans h.output,Nat.le_trans h.size k.size,fun g hg ho=>(k.out g (Nat.lt_of_lt_of_le hg h.size) ho).trans (h.out g hg ho),fun g arr T hg=>?_⟩
 obtain ⟨a1,h1,h2⟩:=h.inn g arr T hg
 obtain ⟨a2,k1,k2⟩:=k.inn g a1 T h1
 refine ⟨a2,k1,fun i v hv=>?_⟩
 obtain ⟨v1,e1,l1⟩:=h2 i v hv
 obtain ⟨v2,e2,l2⟩:=k2 i v1 e1
 exact ⟨v2,e2,l1.trans l2⟩
theorem Chg.below {B H:Nat} {w w':World} (h:Below w.heap.size w w'):Chg B H w w':=
 ⟨h.os,h.tape,h.output,h.size,fun g hg _=>h.block g hg,fun g arr T hg=>⟨arr,by rw [h.block g (Array.getElem?_eq_some_iff.1 hg).1];exact hg,fun i v hv=>⟨v,hv,Like.refl v⟩⟩⟩
theorem Chg.set {B H:Nat} {w:World} {g j:Nat} {arr:Array Value} {T:TypeId} {u u':Value} (hg:w.heap[g]? = some (Obj.cells arr T (0,0))) (hj:arr[j]? = some u) (hl:Like u u') (h1:B≤g) (h2:g<H):Chg B H w (w.setCell ⟨g,j,none⟩ u'):=by
 refine ⟨rfl,rfl,rfl,by simp [World.setCell],fun k hk ho=>Below.heap_setCell _ _ _ _ (by simp;omega),fun k arr' T' hk=>?_⟩
 by_cases e:k=g
 ·subst e
  rw [hg] at hk
  injection hk with hk
  injection hk with hk1 hk2
  subst hk1 hk2
  refine ⟨arr.setIfInBounds j u',by simp [World.setCell,Array.getElem?_modify,hg],fun i v hv=>?_⟩
  by_cases ei:i=j
  ·subst ei
   rw [hj] at hv
   injection hv with hv
   subst hv
   have hlt:=(Array.getElem?_eq_some_iff.1 hj).1
   exact ⟨u',by simp [hlt],hl⟩
  ·exact ⟨v,by rw [Array.getElem?_setIfInBounds,if_neg (by omega)];exact hv,Like.refl v⟩
 ·exact ⟨arr',by rw [Below.heap_setCell _ _ _ _ (by simpa using e)];exact hk,fun i v hv=>⟨v,hv,Like.refl v⟩⟩
theorem Chg.mono {B H B' H':Nat} {w w':World} (h:Chg B H w w') (h1:B'≤B) (h2:H≤H'):Chg B' H' w w':=⟨h.os,h.tape,h.output,h.size,fun g hg ho=>h.out g hg (by omega),h.inn⟩
theorem Chg.own {B H:Nat} {w w':World} (h:Chg B H w w') {b:Nat} {e:TypeId} {z n:Nat} {v:Value} {xs:List Value} (ho:w.ownsRow b e z v n xs) (hn:∀ k,v.ownBlock=some k→k<B∨H≤k):w'.ownsRow b e z v n xs:=by
 refine ⟨ho.1, ?_⟩
 rcases ho.2 with hv|⟨g,cap,cur,rfl,hg0,hgg,rest⟩
 ·exact .inl hv
 ·refine .inr ⟨g,cap,cur,rfl,hg0, ?_,rest⟩
  rw [h.out g (Array.getElem?_eq_some_iff.1 hgg).1 (hn g rfl)]
  exact hgg
theorem Chg.up {B H:Nat} {w w':World} (h:Chg B H w w') {b:Nat} (hb:b≤B) (hs:b≤w.heap.size):Below b w w':=⟨h.os,h.tape,h.output,h.size,fun g hg=>h.out g (by omega) (.inl (by omega))⟩
def CellIs (W:World) (g j:Nat) (P:Value→Prop):Prop:=∃ (arr:Array Value) (T:TypeId) (v:Value),W.heap[g]? = some (Obj.cells arr T (0,0))∧arr[j]? = some v∧P v
theorem CellIs.chg {B H:Nat} {W W':World} {g j:Nat} {P:Value→Prop} (h:CellIs W g j P) (c:Chg B H W W') (hp:∀ v v',Like v v'→P v→P v'):CellIs W' g j P:=by
 obtain ⟨arr,T,v,hg,hv,hP⟩:=h
 obtain ⟨arr',h1,h2⟩:=c.inn g arr T hg
 obtain ⟨v',e,l⟩:=h2 j v hv
 exact ⟨arr',T,v',h1,e,hp v v' l hP⟩
theorem CellIs.get {W:World} {g j:Nat} {P:Value→Prop} (h:CellIs W g j P):∃ v,P v∧W.cell? ⟨g,j,none⟩=some v∧W.frozen? ⟨g,j,none⟩=false:=by
 obtain ⟨arr,T,v,hg,hv,hP⟩:=h
 exact ⟨v,hP,by rw [Lib.cell_of_heap hg];exact hv,Lib.frozen_of_heap hg j⟩
theorem CellIs.set {B H:Nat} {W:World} {g j:Nat} {P:Value→Prop} (h:CellIs W g j P) (u':Value) (hl:∀ v,P v→Like v u') (h1:B≤g) (h2:g<H):Chg B H W (W.setCell ⟨g,j,none⟩ u'):=by
 obtain ⟨arr,T,v,hg,hv,hP⟩:=h
 exact Chg.set hg hv (hl v hP) h1 h2
def isS (v:Value):Prop:=∃ s,v=.string s
def isI (v:Value):Prop:=∃ a:Int,v=.int .i64 a
theorem isS_like (v v':Value) (h:Like v v') (k:isS v):isS v':=by
 obtain ⟨s,rfl⟩:=k
 rcases h with rfl|⟨t,t',h1,rfl⟩|⟨t,t',h1,rfl⟩
 ·exact ⟨s,rfl⟩
 ·exact ⟨t',rfl⟩
 ·cases h1
theorem isI_like (v v':Value) (h:Like v v') (k:isI v):isI v':=by
 obtain ⟨s,rfl⟩:=k
 rcases h with rfl|⟨t,t',h1,rfl⟩|⟨t,t',h1,rfl⟩
 ·exact ⟨s,rfl⟩
 ·cases h1
 ·exact ⟨t',rfl⟩
theorem slice_like (a:Option Addr) (n c:Nat) (v v':Value) (h:Like v v') (k:v=.slice a n c):v'=.slice a n c:=by
 subst k
 rcases h with rfl|⟨t,t',h1,rfl⟩|⟨t,t',h1,rfl⟩
 ·rfl
 ·cases h1
 ·cases h1
theorem isS_to {u':ByteArray} (v:Value) (k:isS v):Like v (.string u'):=by obtain ⟨s,rfl⟩:=k;exact Like.str _ _
theorem isI_to {u':Int} (v:Value) (k:isI v):Like v (.int .i64 u'):=by obtain ⟨s,rfl⟩:=k;exact Like.int _ _
theorem CellIs.own {W:World} {B g n c z:Nat} {T:TypeId} {xs:List Value} (h:W.ownsRow B T z (.slice (some ⟨g,0,none⟩) n c) n xs) {j:Nat} {v:Value} (hj:xs[j]? = some v) {P:Value→Prop} (hP:P v):CellIs W g j P:=by
 rcases h.2 with ⟨hv,_⟩|⟨g',cap,cur,hv,hg0,hgg,_,_,hs,ht⟩
 ·cases hv
 ·injection hv with h1 _ _
  injection h1 with h1
  injection h1 with h1
  subst h1
  refine ⟨cur,T,v,hgg, ?_,hP⟩
  rw [← ht] at hj
  rw [List.getElem?_take] at hj
  split at hj
  ·simpa using hj
  ·cases hj
def RowTwo (W:World) (B H:Nat) (v:Value) (n:Nat) (P Q:Value→Prop):Prop:=∃ ao c,v=.slice ao n c∧(n=0∨∃ g,ao=some ⟨g,0,none⟩∧B≤g∧g<H∧∀ i,i<n→CellIs W g (i*2) P∧CellIs W g (i*2+1) Q)
theorem RowTwo.chg {B H:Nat} {W W':World} {b k:Nat} {v:Value} {n:Nat} {P Q:Value→Prop} (h:RowTwo W B H v n P Q) (c:Chg b k W W') (hp:∀ v v',Like v v'→P v→P v') (hq:∀ v v',Like v v'→Q v→Q v'):RowTwo W' B H v n P Q:=by
 obtain ⟨ao,cc,rfl,h⟩:=h
 refine ⟨ao,cc,rfl,h.imp id ?_⟩
 rintro ⟨g,rfl,h1,h2,h3⟩
 exact ⟨g,rfl,h1,h2,fun i hi=>⟨(h3 i hi).1.chg c hp,(h3 i hi).2.chg c hq⟩⟩
end Go.Proofs.YtecbcdfkedocbaaGreatDoor
