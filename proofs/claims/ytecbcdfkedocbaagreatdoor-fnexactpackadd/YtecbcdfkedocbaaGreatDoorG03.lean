/- Gathered: PoolMath ChkMath OpsMath ChkBodyM PoolSpec ChkSmall AnyInt LkBase UnInt ChkHead. -/
import Derived.Test.YtecbcdfkedocbaaGreatDoorG01
import Derived.Test.YtecbcdfkedocbaaGreatDoorG02
import Derived.Lib.IndexBytes
import Derived.Deep.RegionHeld
import Derived.Deep.CutBlock
import Derived.Deep.DeepCutAuto
namespace Go.Proofs.YtecbcdfkedocbaaGreatDoor
open Go.RowKit
set_option maxRecDepth 20000
namespace Mx
def atC (ts:List C4) (i:Int):C4:=if 1≤i∧i≤ts.length then ts.getD (i - 1).toNat zero4 else zero4
def txtC (ts:List C4) (i:Int):ByteArray:=if (atC ts i).kind=1 then (atC ts i).text else ⟨#[]⟩
def nameC (ts:List C4) (i:Int):Bool:=decide ((atC ts i).kind=1) && nameB (atC ts i).text.data.toList
def typeC (ts:List C4) (i:Int):Bool:=decide ((atC ts i).kind=1) && typeB (atC ts i).text.data.toList
def descC (ts:List C4) (i:Int):Bool:=decide ((atC ts i).kind=1) && dOk (atC ts i).text
def clsC (ts:List C4) (i:Int):Bool:=decide ((atC ts i).kind=2) && nameC ts (atC ts i).a
def okC (ts:List C4) (t:C4):Bool:=
 if t.kind=1 then decide (t.a=0) && decide (t.b=0) && (nameB t.text.data.toList || typeB t.text.data.toList || dOk t.text)
 else if t.kind=2 then t.text.toList.isEmpty && decide (t.b=0) && nameC ts t.a
 else if t.kind=3 then t.text.toList.isEmpty && nameC ts t.a && (typeC ts t.b || descC ts t.b)
 else if t.kind=4 then t.text.toList.isEmpty && clsC ts t.a && decide ((atC ts t.b).kind=3) && typeC ts (atC ts t.b).b
 else if t.kind=5∨t.kind=6 then t.text.toList.isEmpty && clsC ts t.a && decide ((atC ts t.b).kind=3) && descC ts (atC ts t.b).b
 else false
def badC (ts:List C4):Nat→Nat→Option Nat
 | 0,_=>none
 | n+1,k=>if k<ts.length∧k<60 then (if okC ts (ts.getD k zero4) then badC ts n (k+1) else some k) else none
def poolC (ts:List C4):Int:=match badC ts 60 0 with
 | some k=>k+1
 | none=>if 60<ts.length then 61 else 0
theorem badC_step {ts:List C4} {n k:Nat} (hn:k+(n+1)=60) (h:k<ts.length):badC ts (n+1) k=if okC ts (ts[k]) then badC ts n (k+1) else some k:=by
 have e:ts.getD k zero4=ts[k]:=by simp [List.getD,h]
 rw [badC,if_pos ⟨h,by omega⟩,e]
theorem badC_end {ts:List C4} {n k:Nat} (h:¬k<ts.length∨¬k<60):badC ts n k=none:=by
 cases n with
 | zero=>rfl
 | succ n=>rw [badC,if_neg (by omega)]
theorem atC_in {ts:List C4} {k:Nat} (h:k<ts.length):atC ts ((k:Int)+1)=ts[k]:=by
 unfold atC
 rw [if_pos (by omega),show ((k:Int)+1 - 1).toNat=k by omega]
 simp [List.getD,h]
theorem atC_out {ts:List C4} {i:Int} (h:¬(1≤i∧i≤ts.length)):atC ts i=zero4:=if_neg h
theorem atC_small {ts:List C4} {n:Nat} (h:∀ t∈ts,t.text.size≤n) (i:Int):(atC ts i).text.size≤n:=by
 unfold atC
 split
 ·rename_i hh
  have hl:(i - 1).toNat<ts.length:=by omega
  simp only [List.getD,List.getElem?_eq_getElem hl,Option.getD_some]
  exact h _ (List.getElem_mem _)
 ·simp [zero4,ByteArray.size]
theorem nameB_nil:nameB []=false:=by rfl
theorem typeB_nil:typeB []=false:=by rfl
theorem dOk_nil:dOk ⟨#[]⟩=false:=by rfl
theorem name_txt (ts:List C4) (i:Int):nameB (txtC ts i).data.toList=nameC ts i:=by
 unfold txtC nameC;split<;>simp_all [nameB_nil]
theorem type_txt (ts:List C4) (i:Int):typeB (txtC ts i).data.toList=typeC ts i:=by
 unfold txtC typeC;split<;>simp_all [typeB_nil]
theorem desc_txt (ts:List C4) (i:Int):dOk (txtC ts i)=descC ts i:=by
 unfold txtC descC;split<;>simp_all [dOk_nil]
theorem txtC_small {ts:List C4} {n:Nat} (h:∀ t∈ts,t.text.size≤n) (i:Int):(txtC ts i).size≤n:=by
 unfold txtC
 split
 ·exact atC_small h i
 ·simp [ByteArray.size]
def clsT (ts:List C4) (i:Int):ByteArray:=if clsC ts i then (atC ts (atC ts i).a).text else ⟨#[]⟩
theorem nameB_ne {l:List UInt8} (h:nameB l=true):l≠[]:=by
 intro h0;rw [h0,nameB_nil] at h;exact absurd h (by decide)
theorem clsT_iff (ts:List C4) (i:Int):(clsT ts i).toList.isEmpty = !clsC ts i:=by
 unfold clsT
 by_cases h:clsC ts i=true
 ·rw [if_pos h]
  have hn:nameB (atC ts (atC ts i).a).text.data.toList=true:=by unfold clsC nameC at h;simp at h;exact h.2.2
  have:=nameB_ne hn
  rw [Lib.toList_data,h]
  cases hh:(atC ts (atC ts i).a).text.data.toList with
  | nil=>exact absurd hh this
  | cons x l=>rfl
 ·rw [if_neg h,Lib.toList_data];simp at h;simp [h]
end Mx
namespace Mx
set_option linter.unusedVariables false
def bitB (n one:Int):Bool:=decide (n / one % 2=1)
def inI (n lo hi:Int):Bool:=decide (lo≤n) && decide (n≤hi)
def rawT (ts:List C4) (i:Int):ByteArray:=(atC ts i).text
def rawC (ts:List C4) (i:Int):ByteArray:=rawT ts (atC ts i).a
def objB (s:ByteArray):Bool:=s.toList==[79,98,106]
def beginB (s:ByteArray):Bool:=s.toList==[98,101,103,105,110]
def bareB (s:ByteArray):Bool:=s.toList==[40,41,86]
theorem badC_all {ts:List C4}:∀ (n k:Nat),k+n=60→badC ts n k=none→ts.length≤60→∀ i (h:i<ts.length),k≤i→okC ts ts[i]=true
 | 0,k,hn,_,hl,i,h,hk=>by omega
 | n+1,k,hn,hb,hl,i,h,hk=>by
  rw [badC_step (by omega) (by omega)] at hb
  by_cases ho:okC ts (ts[k]'(by omega))=true
  ·rw [if_pos ho] at hb
   by_cases e:i=k
   ·subst e;exact ho
   ·exact badC_all n (k+1) (by omega) hb hl i h (by omega)
  ·rw [if_neg ho] at hb
   cases hb
theorem pool_ok {ts:List C4} (h:poolC ts=0):ts.length≤60∧∀ i (h:i<ts.length),okC ts ts[i]=true:=by
 unfold poolC at h
 split at h
 ·omega
 ·rename_i hb
  have hl:ts.length≤60:=by
   by_cases e:60<ts.length
   ·rw [if_pos e] at h;omega
   ·omega
  exact ⟨hl,fun i hi=>badC_all 60 0 rfl hb hl i hi (by omega)⟩
theorem at_ok {ts:List C4} (h:poolC ts=0) (i:Int):atC ts i=zero4∨okC ts (atC ts i)=true:=by
 by_cases hi:1≤i∧i≤ts.length
 ·obtain ⟨k,rfl⟩:∃ k:Nat,i=(k:Int)+1:=⟨(i - 1).toNat,by omega⟩
  rw [atC_in (by omega)]
  exact .inr ((pool_ok h).2 k (by omega))
 ·exact .inl (atC_out hi)
theorem empty_of {s:ByteArray} (h:s.toList.isEmpty=true):s=⟨#[]⟩:=by
 rw [ByteArray.toList_eq] at h
 apply ByteArray.ext
 simpa using h
theorem raw_txt {ts:List C4} (h:poolC ts=0) (i:Int):rawT ts i=txtC ts i:=by
 unfold rawT txtC
 by_cases hk:(atC ts i).kind=1
 ·rw [if_pos hk]
 ·rw [if_neg hk]
  rcases at_ok h i with e|e
  ·rw [e];rfl
  ·unfold okC at e
   rw [if_neg hk] at e
   refine empty_of ?_
   split at e
   ·simp at e;simp;exact e.1.1
   ·split at e
    ·simp at e;simp;exact e.1.1
    ·split at e
     ·simp at e;simp;exact e.1.1.1
     ·split at e
      ·simp at e;simp;exact e.1.1.1
      ·cases e
theorem kind_cls {ts:List C4} (h:poolC ts=0) (i:Int):decide ((atC ts i).kind=2)=clsC ts i:=by
 unfold clsC
 by_cases hk:(atC ts i).kind=2
 ·rcases at_ok h i with e|e
  ·rw [e] at hk;exact absurd hk (by decide)
  ·unfold okC at e
   rw [if_neg (by omega),if_pos hk] at e
   simp at e
   simp [hk,e.2]
 ·simp [hk]
theorem raw_cls {ts:List C4} (h:poolC ts=0) (i:Int) (hc:clsC ts i=true):rawC ts i=clsT ts i:=by
 unfold clsT rawC rawT
 rw [if_pos hc]
structure headP (c:MClass):Prop where
 nm:clsC c.pool c.name=true
 su:clsC c.pool c.super=true
 ne:¬clsT c.pool c.super=clsT c.pool c.name
 fl:inI c.flags 0 7=true
 fc:∀ i (h:i<c.faces.length),clsC c.pool c.faces[i]=true
 fu:∀ i (h:i<c.faces.length) j (hj:j<i),¬clsT c.pool (c.faces[j]'(by omega))=clsT c.pool c.faces[i]
 fa:¬(bitB c.flags 2=true∧bitB c.flags 4=true)
 ob:bitB c.flags 1=true→bitB c.flags 4=true∧objB (clsT c.pool c.super)=true
structure fieldP (c:MClass) (f:MField):Prop where
 nm:nameC c.pool f.name=true
 ty:typeC c.pool f.typ=true
 fl:inI f.flags 0 3=true
 fa:bitB c.flags 1=true→f.flags=1
structure fieldsP (c:MClass):Prop where
 e:∀ i (h:i<c.fields.length),fieldP c c.fields[i]
 u:∀ i (h:i<c.fields.length) j (hj:j<i),¬txtC c.pool (c.fields[j]'(by omega)).name=txtC c.pool c.fields[i].name
structure flagsP (c:MClass) (m:MMethod):Prop where
 fl:inI m.flags 0 15=true
 be:beginB (txtC c.pool m.name)=true→m.flags=1∧bareB (txtC c.pool m.desc)=true
 ab:bitB m.flags 8=true→m.flags=8∧bitB c.flags 4=true
 fa:bitB m.flags 8=false→bitB c.flags 1=true→m.flags=1
structure methodP (c:MClass) (m:MMethod):Prop where
 nm:nameC c.pool m.name=true
 ds:descC c.pool m.desc=true
 fl:flagsP c m
structure methodsP (c:MClass):Prop where
 e:∀ i (h:i<c.methods.length),methodP c c.methods[i]
 u:∀ i (h:i<c.methods.length) j (hj:j<i),¬(txtC c.pool (c.methods[j]'(by omega)).name=txtC c.pool c.methods[i].name∧txtC c.pool (c.methods[j]'(by omega)).desc=txtC c.pool c.methods[i].desc)
end Mx
namespace Mx
def args (op:Int):Int:=
 if op=1 then 2 else if 3≤op∧op≤6 then 1 else if 14≤op∧op≤29 then 2 else if 0≤op∧op≤34 then 0 else -1
def tab:List Int:=[0,2,0,1,1,1,1,0,0,0,0,0,0,0,2,2,2,2,2,2,2,2,2,2,2,2,2,2,2,2,0,0,0,0,0]
theorem args_tab (k:Nat) (h:k<35):args (k:Int)=tab.getD k 0:=by
 have:∀ k,k<35→args ((k:Nat):Int)=tab.getD k 0:=by decide
 exact this k h
theorem args_none (op:Int) (h:op<0∨35≤op):args op = -1:=by
 unfold args
 rw [if_neg (by omega),if_neg (by omega),if_neg (by omega),if_neg (by omega)]
theorem args_range (op:Int):args op = -1∨args op=0∨args op=1∨args op=2:=by
 unfold args;repeat (first|split|simp)
def num (op:Int) (b:List UInt8):Int:=
 match b with
 | []=>0
 | [x]=>x.toNat
 | x :: y :: _=>if op=1∧32768≤(x.toNat:Int)*256+y.toNat then (x.toNat:Int)*256+y.toNat - 65536 else (x.toNat:Int)*256+y.toNat
structure Op3 where
 at_:Int
 op:Int
 num:Int
def opNat (s:ByteArray) (a:Nat):Nat:=(s.data.toList.getD a 0).toNat
def opAt (s:ByteArray) (a:Nat):Int:=opNat s a
def behind (s:ByteArray) (a:Nat):List UInt8:=(s.data.toList.drop (a+1)).take ((a+1+(args (opAt s a)).toNat) - (a+1))
def insAt (s:ByteArray) (a:Nat):Op3:=⟨a,opAt s a,num (opAt s a) (behind s a)⟩
def opsAt (s:ByteArray):Nat→Nat→Option (List Op3)
 | 0,_=>some []
 | f+1,a=>if a<s.size then (if args (opAt s a)<0∨(s.size:Int)<(a:Int)+1+args (opAt s a) then none else (opsAt s f (a+1+(args (opAt s a)).toNat)).map fun l=>insAt s a :: l) else some []
def ops (s:ByteArray):Option (List Op3):=opsAt s s.size 0
def oGood (s:ByteArray):Bool:=decide (1≤s.size) && decide (s.size≤120) && (ops s).isSome
def oList (s:ByteArray):List Op3:=if oGood s then (ops s).getD [] else []
def preO (ts:List Op3) (l:List Op3):List Op3:=ts++l
theorem preO_nil (x:Option (List Op3)):x.map (preO [])=x:=by cases x<;>simp [preO]
theorem preO_preO (ts us:List Op3) (x:Option (List Op3)):(x.map (preO us)).map (preO ts)=x.map (preO (ts++us)):=by cases x<;>simp [preO]
theorem opsAt_end {s:ByteArray} {f a:Nat} (h:¬a<s.size):opsAt s f a=some []:=by cases f<;>simp [opsAt,h]
theorem opsAt_bad {s:ByteArray} {f a:Nat} (h:a<s.size) (hb:args (opAt s a)<0∨(s.size:Int)<(a:Int)+1+args (opAt s a)):opsAt s (f+1) a=none:=by
 simp only [opsAt];rw [if_pos h,if_pos hb]
theorem opsAt_step {s:ByteArray} {f a n:Nat} (h:a<s.size) (hn:args (opAt s a)=n) (hl:a+1+n≤s.size):opsAt s (f+1) a=(opsAt s f (a+1+n)).map (preO [insAt s a]):=by
 simp only [opsAt];rw [if_pos h,if_neg (by omega),hn];rfl
theorem ops_yes {s:ByteArray} {ts:List Op3} (h1:1≤s.size) (h2:s.size≤120) (h:ops s=some ts):oGood s=true∧oList s=ts:=by
 have:oGood s=true:=by simp [oGood,h,h2];omega
 exact ⟨this,by simp [oList,this,h]⟩
theorem ops_no {s:ByteArray} (h:s.size<1∨120<s.size∨ops s=none):oGood s=false∧oList s=[]:=by
 have:oGood s=false:=by
  unfold oGood
  rcases h with h|h|h
  ·rw [decide_eq_false (by omega)];rfl
  ·rw [decide_eq_false (p:=s.size≤120) (by omega)];simp
  ·rw [h];simp
 exact ⟨this,by simp [oList,this]⟩
theorem opsAt_len {s:ByteArray}:∀ {f a:Nat} {l:List Op3},opsAt s f a=some l→l.length≤f:=by
 intro f
 induction f with
 | zero=>intro a l h;simp [opsAt] at h;subst h;simp
 | succ f ih=>
  intro a l h
  simp only [opsAt] at h
  split at h
  ·split at h
   ·cases h
   ·rw [Option.map_eq_some_iff] at h
    obtain ⟨y,hy,rfl⟩:=h
    have:=ih hy
    simp;omega
  ·cases h;simp
theorem oList_len (s:ByteArray):(oList s).length≤120:=by
 unfold oList
 split
 ·rename_i h
  unfold oGood at h
  simp at h
  cases ho:ops s with
  | none=>simp
  | some l=>have:=opsAt_len ho;simp;omega
 ·simp
end Mx
namespace Mx
set_option linter.unusedVariables false
def atB (ts:List Op3) (x:Int):Bool:=ts.any fun t=>decide (t.at_=x)
theorem atB_iff (ts:List Op3) (x:Int):atB ts x=true↔∃ k,∃ h:k<ts.length,ts[k].at_=x:=by
 unfold atB
 rw [List.any_eq_true]
 constructor
 ·rintro ⟨t,ht,h⟩
  obtain ⟨k,hk,rfl⟩:=List.mem_iff_getElem.1 ht
  exact ⟨k,hk,by simpa using h⟩
 ·rintro ⟨k,hk,h⟩
  exact ⟨ts[k],List.getElem_mem _,by simpa using h⟩
def kindOf (op:Int):Int:=if 20≤op∧op≤23 then 4 else if 24≤op∧op≤26 then 5 else if op=27 then 6 else 2
def opB (ts:List C4) (lo:Int) (os:List Op3) (x:Op3):Bool:=
 if 3≤x.op∧x.op≤6 then decide (x.num<lo)
 else if 14≤x.op∧x.op≤18 then atB os x.num
 else if 19≤x.op∧x.op≤29 then decide ((atC ts x.num).kind=kindOf x.op)
 else true
def trapB (cl:Int→Bool) (n:Int) (os:List Op3) (t:MTrap):Bool:=
 decide (t.from_<t.to_) && atB os t.from_ && atB os t.at_ && (decide (t.to_=n) || atB os t.to_) && (decide (t.cls=0) || cl t.cls)
def kindB (cl:Int→Bool) (k:MKind):Bool:=if k.tag=3 then cl k.cls else decide (k.cls=0)
def kindsB (cl:Int→Bool) (ks:List MKind):Bool:=ks.all (kindB cl)
def frameB (cl:Int→Bool) (lo dp:Int) (os:List Op3) (f:MFrame):Bool:=
 atB os f.at_ && decide ((f.locals.length:Int)=lo) && decide ((f.stack.length:Int)≤dp) && kindsB cl f.locals && kindsB cl f.stack
def ascF (fs:List MFrame):Prop:=∀ i (h:i+1<fs.length),fs[i].at_<fs[i+1].at_
def clsK (ts:List C4) (i:Int):Bool:=decide ((atC ts i).kind=2)
def takesI (d:ByteArray) (st:Bool):Int:=((dTs d).length:Int)+(if st then 0 else 1)
structure bodyQ (cl:Int→Bool) (d:ByteArray) (st:Bool) (ts:List C4) (m:MMethod):Prop where
 op:oGood m.code=true
 d0:0≤m.deep
 dp:m.deep≤8
 lo:takesI d st≤m.locals
 l8:m.locals≤8
 os:∀ x∈oList m.code,opB ts m.locals (oList m.code) x=true
 tr:∀ t∈m.traps,trapB cl m.code.size (oList m.code) t=true
 fr:∀ f∈m.frames,frameB cl m.locals m.deep (oList m.code) f=true
 up:ascF m.frames
theorem clsK_eq {ts:List C4} (h:poolC ts=0):clsK ts=clsC ts:=funext fun i=>kind_cls h i
def ascO (ts:List Op3):Prop:=∀ i (h:i<ts.length) j (hj:j<i),(ts[j]'(by omega)).at_<ts[i].at_
theorem opsAt_asc {s:ByteArray}:∀ (f a:Nat) (l:List Op3),opsAt s f a=some l→(∀ x∈l,(a:Int)≤x.at_)∧List.Pairwise (fun x y:Op3=>x.at_<y.at_) l:=by
 intro f
 induction f with
 | zero=>intro a l h;simp [opsAt] at h;subst h;simp
 | succ f ih=>
  intro a l h
  simp only [opsAt] at h
  split at h
  ·split at h
   ·cases h
   ·rw [Option.map_eq_some_iff] at h
    obtain ⟨y,hy,rfl⟩:=h
    obtain ⟨h1,h2⟩:=ih _ _ hy
    constructor
    ·intro x hx
     rcases List.mem_cons.1 hx with rfl|hx
     ·exact Int.le_refl _
     ·have:=h1 x hx;omega
    ·rw [List.pairwise_cons]
     refine ⟨fun x hx=>?_,h2⟩
     have:=h1 x hx
     show (a:Int)<x.at_
     omega
  ·cases h;simp
theorem oList_asc (s:ByteArray):ascO (oList s):=by
 unfold oList
 split
 ·cases ho:ops s with
  | none=>intro i h;simp at h
  | some l=>
   have:=(opsAt_asc _ _ _ ho).2
   rw [List.pairwise_iff_getElem] at this
   exact fun i h j hj=>this j i (by simp at h;omega) (by simpa using h) hj
 ·intro i h;simp at h
end Mx
open Mx
set_option maxHeartbeats 400000
theorem l2DescOk_any (s:ByteArray) (w:World) (hs:s.size≤1048576) :
  Calls Tryz.prog 80 #[.string s] w fun e w'=>e=.returned (.bool (dOk s))∧Below w.heap.size w w':=by
 go_enter Tryz.func80,Tryz.ntmps80
 go_wp2_with (go_at_call 124;refine (l2Desc_any _ _ hs).mono ?_;rintro e w1 ⟨v,rfl,h1,h2⟩)
 go_ret
 exact ⟨rfl,h2⟩
theorem isDesc_any (s:ByteArray) (w:World) (hs:s.size≤1048576) :
  Calls Tryz.prog 183 #[.string s] w fun e w'=>e=.returned (.bool (dOk s))∧Below w.heap.size w w':=by
 go_enter Tryz.func183,Tryz.ntmps183
 go_wp2_with (go_at_call 217;refine (DescOf_any _ _ hs).mono ?_;rintro e w1 ⟨v,rfl,h1,h2⟩)
 go_ret
 exact ⟨rfl,h2⟩
def PoolW (w:World) (v:Value) (ts:List C4):Prop:=∃ B,w.ownsRow B 40 4 v ts.length (cellsC ts)
theorem PoolW.keep {w w':World} {v:Value} {ts:List C4} (h:PoolW w v ts) (hb:Below w.heap.size w w'):PoolW w' v ts:=by
 obtain ⟨B,h⟩:=h
 exact ⟨B,own_below h hb⟩
theorem PoolW.len {w:World} {v:Value} {ts:List C4} (h:PoolW w v ts):∃ ao cap,v=.slice ao ts.length cap:=by
 obtain ⟨B,h⟩:=h
 exact own_len h
theorem l2At_any (v:Value) (ts:List C4) (i:Int) (w:World) (hl:ts.length≤1048576) (h:PoolW w v ts) :
  Calls Tryz.prog 125 #[v,.int .i64 i] w fun e w'=>e=.returned (.agg #[.int .i64 (atC ts i).kind,.string (atC ts i).text,.int .i64 (atC ts i).a,.int .i64 (atC ts i).b])∧Below w.heap.size w w':=by
 by_cases hi:1≤i∧i≤ts.length
 ·obtain ⟨k,hk⟩:∃ k:Nat,i=(k:Int)+1:=⟨(i - 1).toNat,by omega⟩
  subst hk
  have hlt:k<ts.length:=by omega
  rw [atC_in hlt]
  obtain ⟨B,h⟩:=h
  obtain ⟨g,c,rfl⟩:=Joins.ownsRow_form h (by omega)
  obtain ⟨c1,c2,c3,c4⟩:=cells4_at h hlt
  have hg:=(h.lt g rfl).2
  generalize ts[k]=t at c1 c2 c3 c4 ⊢
  have hI:=fun w=>l1In_any ((k:Int)+1) 1 ts.length w
  have e1:(decide ((1:Int)≤(k:Int)+1) && decide ((k:Int)+1≤(ts.length:Int)))=true:=by simp;omega
  simp only [e1] at hI
  have hne:¬g=w.heap.size:=by omega
  clear h e1
  go_enter Tryz.func125,Tryz.ntmps125
  go_wp2_with (go_at_call 84;refine (hI _).mono ?_;rintro e w1 ⟨rfl,hw⟩;replace hw:=hw.symm;subst hw)
  refine bodyPost_ret (v:=.agg #[.int .i64 t.kind,.string t.text,.int .i64 t.a,.int .i64 t.b]) (by simp [results,Tryz.results125,go_sem]) rfl ⟨rfl, ?_⟩
  go_grown
 ·rw [atC_out hi]
  obtain ⟨ao,cap,rfl⟩:=h.len
  have hI:=fun w=>l1In_any i 1 ts.length w
  have e1:(decide ((1:Int)≤i) && decide (i≤(ts.length:Int)))=false:=by simp;omega
  simp only [e1] at hI
  clear h e1
  go_enter Tryz.func125,Tryz.ntmps125
  go_wp2_with (go_at_call 84;refine (hI _).mono ?_;rintro e w1 ⟨rfl,hw⟩;replace hw:=hw.symm;subst hw)
  refine bodyPost_ret (v:=.agg #[.int .i64 zero4.kind,.string zero4.text,.int .i64 zero4.a,.int .i64 zero4.b]) (by simp [results,Tryz.results125,go_sem,zero4]) rfl ⟨rfl, ?_⟩
  go_grown
theorem field_kind (t:C4) (w:World):(Instr.field 40 (.agg #[.int .i64 t.kind,.string t.text,.int .i64 t.a,.int .i64 t.b]) 0).run Tryz.prog w=.ok (.int .i64 t.kind) w:=by kernel_rfl
theorem l2Is_any (v:Value) (ts:List C4) (i n:Int) (w:World) (hl:ts.length≤1048576) (h:PoolW w v ts) :
  Calls Tryz.prog 85 #[v,.int .i64 i,.int .i64 n] w fun e w'=>e=.returned (.bool (decide ((atC ts i).kind=n)))∧Below w.heap.size w w':=by
 have hA:=l2At_any v ts i w hl h
 generalize atC ts i=t at hA ⊢
 obtain ⟨ao,cap,rfl⟩:=h.len
 clear h
 have hf:=field_kind t
 go_enter Tryz.func85,Tryz.ntmps85
 go_wp2_with (go_at_call 125;refine hA.mono ?_;rintro e w1 ⟨rfl,hb1⟩)
 go_ret
 exact ⟨ret_bool (by rw [Bool.eq_iff_iff];simp),hb1⟩
theorem l2Text_any (v:Value) (ts:List C4) (i:Int) (w:World) (hl:ts.length≤1048576) (h:PoolW w v ts) :
  Calls Tryz.prog 82 #[v,.int .i64 i] w fun e w'=>e=.returned (.string (txtC ts i))∧Below w.heap.size w w':=by
 have hA:=l2At_any v ts i w hl h
 unfold txtC
 generalize atC ts i=t at hA ⊢
 obtain ⟨ao,cap,rfl⟩:=h.len
 clear h
 by_cases hk:t.kind=1
 ·rw [if_pos hk]
  go_enter Tryz.func82,Tryz.ntmps82
  go_wp2_with (go_at_call 125;refine hA.mono ?_;rintro e w1 ⟨rfl,hb1⟩;have hs1:=hb1.size)
  go_ret
  exact ⟨rfl,by go_grown⟩
 ·rw [if_neg hk]
  go_enter Tryz.func82,Tryz.ntmps82
  go_wp2_with (go_at_call 125;refine hA.mono ?_;rintro e w1 ⟨rfl,hb1⟩;have hs1:=hb1.size)
  go_ret
  exact ⟨rfl,by go_grown⟩
theorem new4 {w1 w2:World} {t:C4} (hb:Below (w1.alloc (.cells #[.int .i64 t.kind,.string t.text,.int .i64 t.a,.int .i64 t.b] 40)).heap.size (w1.alloc (.cells #[.int .i64 t.kind,.string t.text,.int .i64 t.a,.int .i64 t.b] 40)) w2) :
  w2.cell? ⟨w1.heap.size,0,none⟩=some (.int .i64 t.kind)∧w2.cell? ⟨w1.heap.size,1,none⟩=some (.string t.text)∧w2.cell? ⟨w1.heap.size,2,none⟩=some (.int .i64 t.a)∧w2.cell? ⟨w1.heap.size,3,none⟩=some (.int .i64 t.b)∧w1.heap.size<w2.heap.size∧(∀ B W,Below B W w1→B≤w1.heap.size→Below B W w2):=by
 have hz:w1.heap.size<(w1.alloc (.cells #[.int .i64 t.kind,.string t.text,.int .i64 t.a,.int .i64 t.b] 40)).heap.size:=by simp
 have hc:∀ j u,(#[Value.int .i64 t.kind,.string t.text,.int .i64 t.a,.int .i64 t.b]:Array Value).toList[j]? = some u→w2.cell? ⟨w1.heap.size,j,none⟩=some u:=by
  intro j u hu
  have h1:=cells_new w1 #[Value.int .i64 t.kind,.string t.text,.int .i64 t.a,.int .i64 t.b] 40 j u hu
  rw [addr_add] at h1
  exact (hb.cell (p:=⟨w1.heap.size,j,none⟩) hz).trans h1
 refine ⟨hc 0 _ rfl,hc 1 _ rfl,hc 2 _ rfl,hc 3 _ rfl,Nat.lt_of_lt_of_le hz hb.size,fun B W h hB=>?_⟩
 exact (h.alloc hB _).trans (hb.mono (Nat.le_trans hB (Nat.le_of_lt hz)))
theorem l2Class_any (v:Value) (ts:List C4) (i:Int) (w:World) (hl:ts.length≤1048576) (hs:∀ t∈ts,t.text.size≤1048576) (h:PoolW w v ts) :
  Calls Tryz.prog 81 #[v,.int .i64 i] w fun e w'=>e=.returned (.string (clsT ts i))∧Below w.heap.size w w':=by
 have hA:=l2At_any v ts i w hl h
 have hB:=fun W hW=>l2At_any v ts (atC ts i).a W hl hW
 have hsz:=atC_small hs (atC ts i).a
 have HR:Hid (clsT ts i=if (atC ts i).kind=2 then (if (atC ts (atC ts i).a).kind=1 then (if nameB (atC ts (atC ts i).a).text.data.toList=true then (atC ts (atC ts i).a).text else ⟨#[]⟩) else ⟨#[]⟩) else ⟨#[]⟩):=by
  unfold Hid clsT clsC nameC
  by_cases h1:(atC ts i).kind=2<;>by_cases h2:(atC ts (atC ts i).a).kind=1<;>simp [h1,h2]
 generalize clsT ts i=R at HR ⊢
 generalize atC ts (atC ts i).a=u at hB HR hsz
 generalize atC ts i=t at hA hB HR
 have HP:Hid (PoolW w v ts):=h
 obtain ⟨ao,cap,rfl⟩:=h.len
 clear h hs
 have hN:=fun w=>l2Name_any u.text w (by unfold maxLen;omega)
 generalize nameB u.text.data.toList=nm at hN HR
 go_enter Tryz.func81,Tryz.ntmps81
 go_wp2_with fail
 refine hA.mono ?_
 rintro e w1 ⟨rfl,hb1⟩
 have hs1:=hb1.size
 go_wp2_with fail
 refine (hB _ (HP.out.keep (by go_grown))).mono ?_
 rintro e w2 ⟨rfl,hb2⟩
 obtain ⟨c0,c1,c2,c3,hlt,hB2⟩:=new4 hb2
 have hbw:=hB2 _ _ hb1 hs1
 have hne:¬w1.heap.size=w2.heap.size:=by omega
 have hs2:=hbw.size
 clear hb2 hb1 hs1 hB2 hB hA
 go_wp2_with (go_at_call 78;refine (hN _).mono ?_;rintro e w3 ⟨rfl,hw⟩;replace hw:=hw.symm;subst hw)
 all_goals go_ret
 all_goals refine ⟨ret_str ?_,by go_grown⟩
 all_goals (rw [HR.out];simp_all)
set_option maxHeartbeats 1000000
set_option linter.unusedVariables false
theorem constAt_any (v:Value) (ts:List C4) (i:Int) (w:World) (hl:ts.length≤1048576) (h:PoolW w v ts) :
  Calls Tryz.prog 179 #[v,.int .i64 i] w fun e w'=>e=.returned (.agg #[.int .i64 (atC ts i).kind,.string (atC ts i).text,.int .i64 (atC ts i).a,.int .i64 (atC ts i).b])∧Below w.heap.size w w':=by
 by_cases hi:1≤i∧i≤ts.length
 ·obtain ⟨k,hk⟩:∃ k:Nat,i=(k:Int)+1:=⟨(i - 1).toNat,by omega⟩
  subst hk
  have hlt:k<ts.length:=by omega
  rw [atC_in hlt]
  obtain ⟨B,h⟩:=h
  obtain ⟨g,c,rfl⟩:=Joins.ownsRow_form h (by omega)
  obtain ⟨c1,c2,c3,c4⟩:=cells4_at h hlt
  have hg:=(h.lt g rfl).2
  generalize ts[k]=t at c1 c2 c3 c4 ⊢
  have hne:¬g=w.heap.size:=by omega
  clear h
  go_enter Tryz.func179,Tryz.ntmps179
  go_wp2
  refine bodyPost_ret (v:=.agg #[.int .i64 t.kind,.string t.text,.int .i64 t.a,.int .i64 t.b]) (by simp [results,Tryz.results179,go_sem]) rfl ⟨rfl, ?_⟩
  go_grown
 ·rw [atC_out hi]
  obtain ⟨ao,cap,rfl⟩:=h.len
  clear h
  by_cases h1:i<1
  ·go_enter Tryz.func179,Tryz.ntmps179
   go_wp2
   refine bodyPost_ret (v:=.agg #[.int .i64 zero4.kind,.string zero4.text,.int .i64 zero4.a,.int .i64 zero4.b]) (by simp [results,Tryz.results179,go_sem,zero4]) rfl ⟨rfl, ?_⟩
   go_grown
  ·have h2:(ts.length:Int)<i:=by omega
   go_enter Tryz.func179,Tryz.ntmps179
   go_wp2
   refine bodyPost_ret (v:=.agg #[.int .i64 zero4.kind,.string zero4.text,.int .i64 zero4.a,.int .i64 zero4.b]) (by simp [results,Tryz.results179,go_sem,zero4]) rfl ⟨rfl, ?_⟩
   go_grown
theorem field_text (t:C4) (w:World):(Instr.field 40 (.agg #[.int .i64 t.kind,.string t.text,.int .i64 t.a,.int .i64 t.b]) 1).run Tryz.prog w=.ok (.string t.text) w:=by kernel_rfl
theorem field_a (t:C4) (w:World):(Instr.field 40 (.agg #[.int .i64 t.kind,.string t.text,.int .i64 t.a,.int .i64 t.b]) 2).run Tryz.prog w=.ok (.int .i64 t.a) w:=by kernel_rfl
theorem isClassAt_any (v:Value) (ts:List C4) (i:Int) (w:World) (hl:ts.length≤1048576) (h:PoolW w v ts) :
  Calls Tryz.prog 170 #[v,.int .i64 i] w fun e w'=>e=.returned (.bool (decide ((atC ts i).kind=2)))∧Below w.heap.size w w':=by
 have hA:=constAt_any v ts i w hl h
 generalize atC ts i=t at hA ⊢
 obtain ⟨ao,cap,rfl⟩:=h.len
 clear h
 have hf:=field_kind t
 go_enter Tryz.func170,Tryz.ntmps170
 go_wp2_with (go_at_call 179;refine hA.mono ?_;rintro e w1 ⟨rfl,hb1⟩)
 go_ret
 exact ⟨ret_bool (by rw [Bool.eq_iff_iff];simp),hb1⟩
theorem nameTextAt_any (v:Value) (ts:List C4) (i:Int) (w:World) (hl:ts.length≤1048576) (h:PoolW w v ts) :
  Calls Tryz.prog 138 #[v,.int .i64 i] w fun e w'=>e=.returned (.string (rawT ts i))∧Below w.heap.size w w':=by
 have hA:=constAt_any v ts i w hl h
 unfold rawT
 generalize atC ts i=t at hA ⊢
 obtain ⟨ao,cap,rfl⟩:=h.len
 clear h
 have hf:=field_text t
 go_enter Tryz.func138,Tryz.ntmps138
 go_wp2_with (go_at_call 179;refine hA.mono ?_;rintro e w1 ⟨rfl,hb1⟩)
 go_ret
 exact ⟨rfl,hb1⟩
theorem classTextAt_any (v:Value) (ts:List C4) (i:Int) (w:World) (hl:ts.length≤1048576) (h:PoolW w v ts) :
  Calls Tryz.prog 173 #[v,.int .i64 i] w fun e w'=>e=.returned (.string (rawC ts i))∧Below w.heap.size w w':=by
 have hA:=constAt_any v ts i w hl h
 have hB:=fun W (hW:Below w.heap.size w W)=>nameTextAt_any v ts (atC ts i).a W hl (h.keep hW)
 unfold rawC
 generalize rawT ts (atC ts i).a=r at hB ⊢
 generalize atC ts i=t at hA hB ⊢
 obtain ⟨ao,cap,rfl⟩:=h.len
 clear h
 have hf:=field_a t
 go_enter Tryz.func173,Tryz.ntmps173
 go_wp2_with fail
 refine hA.mono ?_
 rintro e w1 ⟨rfl,hb1⟩
 have hC:=hB _ hb1
 have HB:=hid hb1
 clear hB hA hb1
 go_wp2_with fail
 refine hC.mono ?_
 rintro e w2 ⟨rfl,hb2⟩
 have HB2:=hid (HB.out.trans (hb2.mono HB.out.size))
 clear hb2 hC
 go_wp2
 go_ret
 exact ⟨rfl,HB2.out⟩
def hasI (n f:Int):Bool:=!(bits BinOp.and IntKind.i64 n f==0)
theorem has_any (n f:Int) (w:World):Calls Tryz.prog 176 #[.int .i64 n,.int .i64 f] w fun e w'=>e=.returned (.bool (hasI n f))∧w'=w:=by
 go_enter Tryz.func176,Tryz.ntmps176
 go_wp2
 go_ret
 exact ⟨rfl,rfl⟩
theorem has_bit {n f:Int} (h0:0≤n) (h1:n≤255) (hf:f=1∨f=2∨f=4∨f=8):hasI n f=bitB n f:=by
 have key:∀ k:Fin 256,hasI ((k.val:Nat):Int) 1=bitB ((k.val:Nat):Int) 1∧hasI ((k.val:Nat):Int) 2=bitB ((k.val:Nat):Int) 2∧hasI ((k.val:Nat):Int) 4=bitB ((k.val:Nat):Int) 4∧hasI ((k.val:Nat):Int) 8=bitB ((k.val:Nat):Int) 8:=by decide +kernel
 have:=key ⟨n.toNat,by omega⟩
 rw [show (((⟨n.toNat,by omega⟩:Fin 256).val:Nat):Int)=n by simp;omega] at this
 rcases hf with rfl|rfl|rfl|rfl
 ·exact this.1
 ·exact this.2.1
 ·exact this.2.2.1
 ·exact this.2.2.2
theorem l4Has_any (n f:Int) (w:World) (h0:0≤n) (h1:n≤255) (hf:f=1∨f=2∨f=4∨f=8) :
  Calls Tryz.prog 115 #[.int .i64 n,.int .i64 f] w fun e w'=>e=.returned (.bool (bitB n f))∧w'=w:=by
 have hne:¬f=0:=by omega
 go_enter Tryz.func115,Tryz.ntmps115
 go_wp2
 go_ret
 refine ⟨ret_bool ?_,rfl⟩
 unfold bitB
 rw [Int.tmod_eq_emod_of_nonneg (by rcases hf with rfl|rfl|rfl|rfl<;>omega),Bool.eq_iff_iff]
 simp
theorem indexInt_any (u0:Value) (v:Value) (ts:List Int) (B:Nat) (p:Nat→Bool) (w:World) (hl:ts.length≤1048576) (ho:w.ownsRow B 3 1 v ts.length (rowI ts))
  (hF:∀ k (h:k<ts.length) W,Below w.heap.size w W→Calls Tryz.prog 211 #[.int .i64 ts[k],u0] W fun e w'=>e=.returned (.bool (p k))∧Below W.heap.size W w') :
  Calls Tryz.prog 239 #[v,.func (.func 211) #[] #[u0]] w fun e w'=>∃ r:Int,e=.returned (.int .i64 r)∧(0≤r↔∃ k,k<ts.length∧p k=true)∧Below w.heap.size w w':=by
 obtain ⟨ao,cap,hv⟩:=own_len ho
 subst hv
 have HO:=hid ho
 have HF:=hid hF
 clear ho hF
 go_enter Tryz.func239,Tryz.ntmps239
 go_wp2_with fail
 go_loopw [8] (fun i wr=>∃ (k:Nat),k≤ts.length∧i=.int .i64 k∧Hid (∀ j,j<k→p j=false)∧Hid (Below w.heap.size w wr)) (fun i _=>ts.length - (intOf i).toNat)
 case atStart=>exact ⟨0,by omega,rfl,fun j hj=>by omega,Below.refl _ _⟩
 case round=>
  obtain ⟨k,hk,rfl,HE,HB⟩:=hrel
  by_cases hlt:k<ts.length
  ·obtain ⟨g,hg⟩:=own_some HO.out (by omega)
   subst hg
   have c0:=ownI_at (own_below HO.out HB.out) rfl hlt
   have hC:=HF.out k hlt
   generalize ts[k]=t at c0 hC
   obtain ⟨q,hq⟩:∃ q,Hid (p k=q):=⟨_,hid rfl⟩
   rw [hq.out] at hC
   go_wp2_with fail
   refine (hC _ HB.out).mono ?_
   rintro e w1 ⟨rfl,hb1⟩
   have HB1:=hid (HB.out.trans (hb1.mono HB.out.size))
   clear hb1 hC c0
   cases q with
   | true=>
    have HR:=hid (show ∃ j,j<ts.length∧p j=true from ⟨k,hlt,hq.out⟩)
    go_wp2
    go_ret
    exact ⟨_,rfl,⟨fun _=>HR.out,fun _=>by omega⟩,HB1.out⟩
   | false=>
    have HN:=hid (show ∀ j,j<k+1→p j=false from fun j hj=>by
     by_cases e:j=k
     ·rw [e];exact hq.out
     ·exact HE.out j (by omega))
    go_wp2
    go_roundw
    case rel=>exact ⟨k+1,by omega,by go_num,HN,HB1⟩
    case measure=>simp [intOf];omega
  ·have HN:=hid (show ¬ ∃ j,j<ts.length∧p j=true from by
    rintro ⟨j,hj,hp⟩
    have:=HE.out j (by omega)
    rw [this] at hp
    cases hp)
   go_wp2
   go_ret
   exact ⟨-1,rfl,⟨fun h=>absurd h (by omega),fun h=>absurd h HN.out⟩,HB.out⟩
theorem containsInt_any (u0:Value) (v:Value) (ts:List Int) (B:Nat) (p:Nat→Bool) (w:World) (hl:ts.length≤1048576) (ho:w.ownsRow B 3 1 v ts.length (rowI ts))
  (hF:∀ k (h:k<ts.length) W,Below w.heap.size w W→Calls Tryz.prog 211 #[.int .i64 ts[k],u0] W fun e w'=>e=.returned (.bool (p k))∧Below W.heap.size W w') :
  Calls Tryz.prog 210 #[v,.func (.func 211) #[] #[u0]] w fun e w'=>∃ b:Bool,e=.returned (.bool b)∧(b=true↔∃ k,k<ts.length∧p k=true)∧Below w.heap.size w w':=by
 have hI:=indexInt_any u0 v ts B p w hl ho hF
 clear hF ho
 go_enter Tryz.func210,Tryz.ntmps210
 go_wp2_with fail
 refine hI.mono ?_
 rintro e w1 ⟨r,rfl,hr,hb⟩
 have HR:=hid hr
 have HB:=hid hb
 clear hr hb hI
 go_wp2
 go_ret
 refine ⟨_,rfl, ?_,HB.out⟩
 rw [← HR.out]
 simp
theorem notInt_any (cv:Value) (t:Int) (c:Nat) (q:Bool) (w:World) (hc:w.cell? ⟨c,0,none⟩=some (.func (.func 169) #[] #[cv])) (hlt:c<w.heap.size)
  (hG:∀ W,Below w.heap.size w W→Calls Tryz.prog 169 #[.int .i64 t,cv] W fun e w'=>e=.returned (.bool q)∧Below W.heap.size W w') :
  Calls Tryz.prog 211 #[.int .i64 t,.pointer (some ⟨c,0,none⟩)] w fun e w'=>e=.returned (.bool (!q))∧Below w.heap.size w w':=by
 have hC:=hG _ (Below.refl _ _)
 clear hG
 go_enter Tryz.func211,Tryz.ntmps211
 go_wp2_with fail
 refine hC.mono ?_
 rintro e w1 ⟨rfl,hb1⟩
 have HB:=hid hb1
 clear hb1 hC
 go_wp2
 go_ret
 exact ⟨rfl,HB.out⟩
theorem allInt_any (cv:Value) (v:Value) (ts:List Int) (B:Nat) (q:Nat→Bool) (w:World) (hl:ts.length≤1048576) (ho:w.ownsRow B 3 1 v ts.length (rowI ts))
  (hG:∀ k (h:k<ts.length) W,Below w.heap.size w W→Calls Tryz.prog 169 #[.int .i64 ts[k],cv] W fun e w'=>e=.returned (.bool (q k))∧Below W.heap.size W w') :
  Calls Tryz.prog 171 #[v,.func (.func 169) #[] #[cv]] w fun e w'=>∃ b:Bool,e=.returned (.bool b)∧(b=true↔∀ k,k<ts.length→q k=true)∧Below w.heap.size w w':=by
 obtain ⟨ao,cp,hv⟩:=own_len ho
 subst hv
 have hbo:=(Below.refl w.heap.size w).alloc (Nat.le_refl _) (.cells #[.func (.func 169) #[] #[cv]] 208)
 have hC:=containsInt_any (.pointer (some ⟨w.heap.size,0,none⟩)) (.slice ao ts.length cp) ts B (fun k=>!q k) _ hl (own_below ho hbo) (fun k h W hW=>notInt_any cv ts[k] w.heap.size (q k) W ((hW.cell (p:=⟨w.heap.size,0,none⟩) (by simp)).trans (by simp [go_sem])) (by have:=hW.size;simp at this;omega) (fun W' hW'=>hG k h W' (hbo.trans ((hW.trans (hW'.mono hW.size)).mono (by simp)))))
 have hmf:∀ (fn:Fn) (first cap:Array Value) (w:World),(Instr.makeFunc fn first cap).run Tryz.prog w=.ok (.func fn first cap) w:=fun _ _ _ _=>rfl
 have HO:=hid hbo
 clear hG ho hbo
 go_enter Tryz.func171,Tryz.ntmps171
 go_wp2_with fail
 refine hC.mono ?_
 rintro e w1 ⟨b,rfl,hb,hb1⟩
 have HB:=hid (HO.out.trans (hb1.mono (by simp)))
 have HR:=hid hb
 clear hb hb1 hC HO
 go_wp2
 go_ret
 refine ⟨!b,rfl, ?_,HB.out⟩
 have:=HR.out
 cases b with
 | true=>
  obtain ⟨k,hk,hq⟩:=this.1 rfl
  constructor
  ·intro h;cases h
  ·intro h;rw [h k hk] at hq;cases hq
 | false=>
  constructor
  ·intro _ k hk
   cases hq:q k with
   | true=>rfl
   | false=>exact absurd (this.2 ⟨k,hk,by simp [hq]⟩) (by simp)
  ·intro _;rfl
theorem grown_refl (w:World) (r:Option Nat):w.grownBy w r:=⟨rfl,rfl,rfl,Nat.le_refl _,fun _ _ _=>rfl⟩
theorem grown_trans {a b c:World} {r:Option Nat} (h:a.grownBy b r) (k:b.grownBy c r):a.grownBy c r:=
 ⟨k.os.trans h.os,k.tape.trans h.tape,k.output.trans h.output,Nat.le_trans h.size k.size,fun i hi hr=>(k.block i (Nat.lt_of_lt_of_le hi h.size) hr).trans (h.block i hi hr)⟩
theorem below_grow {a b:World} {r:Option Nat} (h:Below a.heap.size a b):a.grownBy b r:=⟨h.os,h.tape,h.output,h.size,fun k hk _=>h.block k hk⟩
theorem grown_own {a b:World} {n base:Nat} {e:TypeId} {size m:Nat} {v:Value} {xs:List Value} (h:a.grownBy b (some n)) (ho:a.ownsRow base e size v m xs) (hne:v.ownBlock≠some n):b.ownsRow base e size v m xs:=ho.kept h (.inr hne)
theorem hb_cell {w w':World} {k j:Nat} (h:Below w.heap.size w w') (hk:k<w.heap.size):w'.cell? ⟨k,j,none⟩=w.cell? ⟨k,j,none⟩:=by
 have:=h.block k hk
 simp only [World.cell?,this]
def Lk (W:World) (C:Nat) (cs:Array Value) (T:TypeId):Prop:=W.heap[C]? = some (.cells cs T (0,0))
theorem Lk.new (w:World) (cs:Array Value) (T:TypeId):Lk (w.alloc (.cells cs T)) w.heap.size cs T:=heap_alloc_new w _
theorem Lk.lt {W:World} {C:Nat} {cs:Array Value} {T:TypeId} (h:Lk W C cs T):C<W.heap.size:=(Array.getElem?_eq_some_iff.1 h).1
theorem Lk.call {W W':World} {C b:Nat} {cs:Array Value} {T:TypeId} (h:Lk W C cs T) (g:W.grownBy W' (some b)) (hb:C≠b):Lk W' C cs T:=by
 unfold Lk;rw [g.block C h.lt (by simpa using hb)];exact h
theorem Lk.keep {W W':World} {C:Nat} {cs:Array Value} {T:TypeId} (h:Lk W C cs T) (g:Below W.heap.size W W'):Lk W' C cs T:=(g.block C h.lt).trans h
theorem Lk.alloc {W:World} {C:Nat} {cs:Array Value} {T:TypeId} (h:Lk W C cs T) (o:Obj):Lk (W.alloc o) C cs T:=h.keep ((Below.refl _ _).alloc (Nat.le_refl _) _)
theorem Lk.c {W:World} {C:Nat} {cs:Array Value} {T:TypeId} (h:Lk W C cs T) (j:Nat) (u:Value) (hu:cs[j]? = some u):W.cell? ⟨C,j,none⟩=some u:=by
 rw [Lib.cell_of_heap h];exact hu
theorem Lk.z {W:World} {C:Nat} {cs:Array Value} {T:TypeId} (h:Lk W C cs T) (j:Nat):W.frozen? ⟨C,j,none⟩=false:=Lib.frozen_of_heap h j
theorem Lk.set {W:World} {C:Nat} {cs cs':Array Value} {T:TypeId} (h:Lk W C cs T) (j:Nat) (u:Value) (hu:cs.setIfInBounds j u=cs'):Lk (W.setCell ⟨C,j,none⟩ u) C cs' T:=by
 subst hu
 unfold Lk at *
 simp [World.setCell,Array.getElem?_modify,h]
theorem Lk.other {W:World} {C:Nat} {cs:Array Value} {T:TypeId} (h:Lk W C cs T) {a:Addr} (u:Value) (hne:C≠a.block):Lk (W.setCell a u) C cs T:=by
 unfold Lk at *
 rw [Below.heap_setCell _ _ _ _ hne];exact h
theorem Lk.c4 {W:World} {C:Nat} {a b c d:Value} {T:TypeId} (h:Lk W C #[a,b,c,d] T):W.cell? ⟨C,0,none⟩=some a∧W.cell? ⟨C,1,none⟩=some b∧W.cell? ⟨C,2,none⟩=some c∧W.cell? ⟨C,3,none⟩=some d∧W.frozen? ⟨C,0,none⟩=false∧W.frozen? ⟨C,1,none⟩=false∧W.frozen? ⟨C,2,none⟩=false∧W.frozen? ⟨C,3,none⟩=false:=
 ⟨h.c 0 _ rfl,h.c 1 _ rfl,h.c 2 _ rfl,h.c 3 _ rfl,h.z 0,h.z 1,h.z 2,h.z 3⟩
theorem indexIntK_any (u0:Value) (u1:Value) (v:Value) (ts:List Int) (B:Nat) (p:Nat→Bool) (w:World) (hl:ts.length≤1048576) (ho:w.ownsRow B 3 1 v ts.length (rowI ts))
  (hF:∀ k (h:k<ts.length) W,Below w.heap.size w W→Calls Tryz.prog 212 #[.int .i64 ts[k],u0,u1] W fun e w'=>e=.returned (.bool (p k))∧Below W.heap.size W w') :
  Calls Tryz.prog 239 #[v,.func (.func 212) #[] #[u0,u1]] w fun e w'=>∃ r:Int,e=.returned (.int .i64 r)∧(0≤r↔∃ k,k<ts.length∧p k=true)∧Below w.heap.size w w':=by
 obtain ⟨ao,cap,hv⟩:=own_len ho
 subst hv
 have HO:=hid ho
 have HF:=hid hF
 clear ho hF
 go_enter Tryz.func239,Tryz.ntmps239
 go_wp2_with fail
 go_loopw [8] (fun i wr=>∃ (k:Nat),k≤ts.length∧i=.int .i64 k∧Hid (∀ j,j<k→p j=false)∧Hid (Below w.heap.size w wr)) (fun i _=>ts.length - (intOf i).toNat)
 case atStart=>exact ⟨0,by omega,rfl,fun j hj=>by omega,Below.refl _ _⟩
 case round=>
  obtain ⟨k,hk,rfl,HE,HB⟩:=hrel
  by_cases hlt:k<ts.length
  ·obtain ⟨g,hg⟩:=own_some HO.out (by omega)
   subst hg
   have c0:=ownI_at (own_below HO.out HB.out) rfl hlt
   have hC:=HF.out k hlt
   generalize ts[k]=t at c0 hC
   obtain ⟨q,hq⟩:∃ q,Hid (p k=q):=⟨_,hid rfl⟩
   rw [hq.out] at hC
   go_wp2_with fail
   refine (hC _ HB.out).mono ?_
   rintro e w1 ⟨rfl,hb1⟩
   have HB1:=hid (HB.out.trans (hb1.mono HB.out.size))
   clear hb1 hC c0
   cases q with
   | true=>
    have HR:=hid (show ∃ j,j<ts.length∧p j=true from ⟨k,hlt,hq.out⟩)
    go_wp2
    go_ret
    exact ⟨_,rfl,⟨fun _=>HR.out,fun _=>by omega⟩,HB1.out⟩
   | false=>
    have HN:=hid (show ∀ j,j<k+1→p j=false from fun j hj=>by
     by_cases e:j=k
     ·rw [e];exact hq.out
     ·exact HE.out j (by omega))
    go_wp2
    go_roundw
    case rel=>exact ⟨k+1,by omega,by go_num,HN,HB1⟩
    case measure=>simp [intOf];omega
  ·have HN:=hid (show ¬ ∃ j,j<ts.length∧p j=true from by
    rintro ⟨j,hj,hp⟩
    have:=HE.out j (by omega)
    rw [this] at hp
    cases hp)
   go_wp2
   go_ret
   exact ⟨-1,rfl,⟨fun h=>absurd h (by omega),fun h=>absurd h HN.out⟩,HB.out⟩
theorem containsIntK_any (u0:Value) (u1:Value) (v:Value) (ts:List Int) (B:Nat) (p:Nat→Bool) (w:World) (hl:ts.length≤1048576) (ho:w.ownsRow B 3 1 v ts.length (rowI ts))
  (hF:∀ k (h:k<ts.length) W,Below w.heap.size w W→Calls Tryz.prog 212 #[.int .i64 ts[k],u0,u1] W fun e w'=>e=.returned (.bool (p k))∧Below W.heap.size W w') :
  Calls Tryz.prog 210 #[v,.func (.func 212) #[] #[u0,u1]] w fun e w'=>∃ b:Bool,e=.returned (.bool b)∧(b=true↔∃ k,k<ts.length∧p k=true)∧Below w.heap.size w w':=by
 have hI:=indexIntK_any u0 u1 v ts B p w hl ho hF
 clear hF ho
 go_enter Tryz.func210,Tryz.ntmps210
 go_wp2_with fail
 refine hI.mono ?_
 rintro e w1 ⟨r,rfl,hr,hb⟩
 have HR:=hid hr
 have HB:=hid hb
 clear hr hb hI
 go_wp2
 go_ret
 refine ⟨_,rfl, ?_,HB.out⟩
 rw [← HR.out]
 simp
theorem rowI_take (ts:List Int) (i:Nat):rowI (ts.take i)=(rowI ts).take i:=by unfold rowI;rw [List.map_take]
theorem ownI_take {w:World} {B g cap:Nat} {ts:List Int} (h:w.ownsRow B 3 1 (.slice (some ⟨g,0,none⟩) ts.length cap) ts.length (rowI ts)) (i:Nat) (hi:i≤ts.length) :
  w.ownsRow B 3 1 (.slice (some ⟨g,0,none⟩) i cap) (ts.take i).length (rowI (ts.take i)):=by
 obtain ⟨h1,h2|⟨g',c',cur,he,hb,hh,hn,hm,hs,ht⟩⟩:=h
 ·exact absurd h2.1 (by simp)
 ·obtain ⟨he1,he2⟩:some (⟨g,0,none⟩:Addr)=some ⟨g',0,none⟩∧cap=c':=by simpa using he
  have hg:g=g':=by simpa using he1
  subst hg he2
  have hl:(ts.take i).length=i:=by rw [List.length_take];omega
  refine ⟨by simp [rowI],.inr ⟨g,cap,cur,by rw [hl],hb,hh,by omega,hm,hs, ?_⟩⟩
  rw [hl,rowI_take ts i,← ht,List.take_take,Nat.min_eq_left (by omega),Nat.mul_one]
structure UI (w0:World) (cv:Value) (u:Int) (c1 c2:Nat) (W:World):Prop where
 b:Below w0.heap.size w0 W
 k0:W.cell? ⟨c1,0,none⟩=some (.func (.func 172) #[] #[cv])
 k1:W.cell? ⟨c2,0,none⟩=some (.int .i64 u)
 l1:c1<W.heap.size
 l2:c2<W.heap.size
theorem UI.keep {w0 W W':World} {cv:Value} {u:Int} {c1 c2:Nat} (h:UI w0 cv u c1 c2 W) (hb:Below W.heap.size W W'):UI w0 cv u c1 c2 W':=
 ⟨h.b.trans (hb.mono h.b.size),(hb_cell hb h.l1).trans h.k0,(hb_cell hb h.l2).trans h.k1,Nat.lt_of_lt_of_le h.l1 hb.size,Nat.lt_of_lt_of_le h.l2 hb.size⟩
theorem likeI_any (K:Int→ByteArray) (cv:Value) (t u:Int) (c1 c2:Nat) (w:World) (hc:w.cell? ⟨c1,0,none⟩=some (.func (.func 172) #[] #[cv])) (h0:w.cell? ⟨c2,0,none⟩=some (.int .i64 u)) (hl1:c1<w.heap.size) (hl2:c2<w.heap.size)
  (hK:∀ x W,Below w.heap.size w W→Calls Tryz.prog 172 #[.int .i64 x,cv] W fun e w'=>e=.returned (.string (K x))∧Below W.heap.size W w') :
  Calls Tryz.prog 212 #[.int .i64 t,.pointer (some ⟨c1,0,none⟩),.pointer (some ⟨c2,0,none⟩)] w fun e w'=>∃ b:Bool,e=.returned (.bool b)∧(b=true↔K t=K u)∧Below w.heap.size w w':=by
 have P:UI w cv u c1 c2 w:=⟨Below.refl _ _,hc,h0,hl1,hl2⟩
 clear hc h0 hl1 hl2
 go_enter Tryz.func212,Tryz.ntmps212
 go_wp2_with fail
 have PD:=P.keep (show Below w.heap.size w w.drew from (Below.refl _ _).drew)
 clear P
 have d0:=PD.k0
 have d1:=PD.k1
 refine wp_region_held_drew (S:=(fun w':World=>w'.cell? ⟨c1,0,none⟩=some (.func (.func 172) #[] #[cv])∧w'.cell? ⟨c2,0,none⟩=some (.int .i64 u))) (by kernel_rfl) ⟨d0,d1⟩ (fun hHeld=>?_)
 refine tkw 0 ⟨some 5,.load 103 (.tmp 1),103,"l4_check.go:254",#[],none⟩ ?_
 refine tkw 1 ⟨some 6,.move (.tmp 0),3,"l4_check.go:254",#[],none⟩ ?_
 refine tkw 3 ⟨some 8,.load 103 (.tmp 1),103,"l4_check.go:254",#[],none⟩ ?_
 refine tkw 4 ⟨some 9,.load 3 (.tmp 2),3,"l4_check.go:254",#[],none⟩ ?_
 refine wpAnyH_ready (rs:=[2]) (by kernel_rfl) (by simp) ?_
 refine AllReadyH.cons rfl (fun K' hK'=>?_) AllReadyH.nil
 go_simp
 refine (hK t _ PD.b).mono ?_
 rintro e w8 ⟨rfl,hb8⟩
 have P8:=PD.keep hb8
 refine hK'.out _ _ ⟨P8.k0,P8.k1⟩ (fun hHeld=>?_)
 clear hK' K' d0 d1 hb8 PD
 refine wpAnyH_ready (rs:=[5]) (by kernel_rfl) (by simp) ?_
 refine AllReadyH.cons rfl (fun K' hK'=>?_) AllReadyH.nil
 go_simp
 refine (hK u _ P8.b).mono ?_
 rintro e w9 ⟨rfl,hb9⟩
 have P9:=P8.keep hb9
 refine hK'.out _ _ ⟨P9.k0,P9.k1⟩ (fun hHeld=>?_)
 clear hK' K' hb9 P8
 refine wpAnyH_ready (rs:=[6]) (by kernel_rfl) (by simp) ?_
 refine AllReadyH.cons rfl (fun K' hK'=>?_) AllReadyH.nil
 go_simp
 refine hK'.out _ _ ⟨P9.k0,P9.k1⟩ (fun hHeld=>?_)
 clear hK' K'
 refine wpAnyH_ready (rs:=[7]) (by kernel_rfl) (by simp) ?_
 refine AllReadyH.cons rfl (fun K' hK'=>?_) AllReadyH.nil
 go_simp
 refine hK'.out _ _ ⟨P9.k0,P9.k1⟩ (fun hHeld=>?_)
 clear hK' K'
 refine wpAnyH_done (by kernel_rfl) ?_ _
 have HB:=hid P9.b
 clear P9
 go_wp2
 go_ret
 refine ⟨_,rfl, ?_,HB.out⟩
 rw [beq_iff_eq,ByteArray.toList_eq,ByteArray.toList_eq]
 exact ⟨fun h=>ByteArray.ext (Array.toList_inj.1 h),fun h=>by rw [h]⟩
theorem unlikeI_any (K:Int→ByteArray) (cv v:Value) (ts:List Int) (B:Nat) (w:World) (hl:ts.length≤1048576) (ho:w.ownsRow B 3 1 v ts.length (rowI ts))
  (hK:∀ x W,Below w.heap.size w W→Calls Tryz.prog 172 #[.int .i64 x,cv] W fun e w'=>e=.returned (.string (K x))∧Below W.heap.size W w') :
  Calls Tryz.prog 174 #[v,.func (.func 172) #[] #[cv]] w fun e w'=>∃ b:Bool,e=.returned (.bool b)∧(b=true↔∀ i (hi:i<ts.length) j (hj:j<i),¬K (ts[j]'(by omega))=K ts[i])∧Below w.heap.size w w':=by
 obtain ⟨ao,cap,hv⟩:=own_len ho
 subst hv
 have hbo:=(Below.refl w.heap.size w).alloc (Nat.le_refl _) (.cells #[.func (.func 172) #[] #[cv]] 103)
 have HO:=hid (own_below ho hbo)
 have HS:=hid hbo
 have HC:=hid (show (w.alloc (.cells #[.func (.func 172) #[] #[cv]] 103)).cell? ⟨w.heap.size,0,none⟩=some (.func (.func 172) #[] #[cv]) by simp [go_sem])
 have HK:=hid hK
 have hmf:∀ (fn:Fn) (first cap:Array Value) (w:World),(Instr.makeFunc fn first cap).run Tryz.prog w=.ok (.func fn first cap) w:=fun _ _ _ _=>rfl
 clear ho hbo hK
 go_enter Tryz.func174,Tryz.ntmps174
 go_wp2_with fail
 generalize hX:w.alloc (.cells #[.func (.func 172) #[] #[cv]] 103)=X at HO HS HC ⊢
 have HX:=hid (show w.heap.size<X.heap.size by rw [← hX];simp)
 clear hX
 go_loopw [9] (fun i wr=>∃ (k:Nat),k≤ts.length∧i=.int .i64 k∧Hid (∀ i (hi:i<ts.length) j (hj:j<i),i<k→¬K (ts[j]'(by omega))=K ts[i])∧Hid (Below X.heap.size X wr)) (fun i _=>ts.length - (intOf i).toNat)
 case atStart=>exact ⟨0,by omega,rfl,fun i hi j hj h=>by omega,Below.refl _ _⟩
 case round=>
  obtain ⟨k,hk,rfl,HE,HB⟩:=hrel
  by_cases hlt:k<ts.length
  ·obtain ⟨g,hg⟩:=own_some HO.out (by omega)
   subst hg
   have c0:=ownI_at (own_below HO.out HB.out) rfl hlt
   have hcap:ts.length≤cap∧cap≤maxLen:=by
    obtain ⟨_,h2|⟨g',c',cur,he,hb,hh,hn,hm,hs,ht⟩⟩:=HO.out
    ·exact absurd h2.1 (by simp)
    ·have:cap=c':=by simp at he;exact he.2
     omega
   unfold maxLen at hcap
   have hgl:=((own_below HO.out HB.out).lt g rfl).2
   generalize hT:ts[k]=t at c0
   have hY:=(Below.refl wr.heap.size wr).alloc (Nat.le_refl _) (.cells #[.int .i64 t] 3)
   have hlen:(ts.take k).length=k:=by rw [List.length_take];omega
   have hC:=containsIntK_any (.pointer (some ⟨w.heap.size,0,none⟩)) (.pointer (some ⟨wr.heap.size,0,none⟩)) (.slice (some ⟨g,0,none⟩) k cap) (ts.take k) B (fun j=>decide (ts[j]?.map K=some (K t))) _ (by omega) (ownI_take (own_below (own_below HO.out HB.out) hY) k (by omega)) (fun j h W hW=>by
    have hz:=hW.size
    simp at hz
    have hx:=HX.out
    have hy:=HB.out.size
    refine (likeI_any K cv (ts.take k)[j] t w.heap.size wr.heap.size W ((hb_cell hW (by simp;omega)).trans ((hb_cell hY (by omega)).trans ((hb_cell HB.out hx).trans HC.out))) ((hb_cell hW (by simp)).trans (by simp [go_sem])) (by omega) (by omega) (fun x W' hW'=>HK.out x W' (HS.out.trans ((HB.out.trans ((hY.trans ((hW.trans (hW'.mono hW.size)).mono (by simp))).mono HB.out.size)).mono HS.out.size)))).mono ?_
    rintro e w' ⟨b,rfl,hb,hw'⟩
    refine ⟨ret_bool ?_,hw'⟩
    have hj:j<ts.length:=by omega
    rw [Bool.eq_iff_iff,hb,decide_eq_true_iff,List.getElem?_eq_getElem hj]
    simp)
   have HY:=hid hY
   clear hY
   go_wp2_with fail
   refine hC.mono ?_
   rintro e w1 ⟨b,rfl,hb,hb1⟩
   have HB1:=hid (HB.out.trans ((HY.out.trans (hb1.mono (by simp))).mono HB.out.size))
   have HR:=hid hb
   have HT:=hid hT
   clear hb hb1 hC HB hT
   cases b with
   | true=>
    have HN:=hid (show ¬ ∀ i (hi:i<ts.length) j (hj:j<i),¬K (ts[j]'(by omega))=K ts[i] from by
     obtain ⟨j,hj,hp⟩:=HR.out.1 rfl
     intro hu
     have hj':j<ts.length:=by omega
     rw [decide_eq_true_iff,List.getElem?_eq_getElem hj'] at hp
     refine hu k hlt j (by omega) ?_
     rw [HT.out]
     simpa using hp)
    have HZ:=hid (HS.out.trans (HB1.out.mono HS.out.size))
    clear HB1 HR
    go_wp2
    go_ret
    exact ⟨false,rfl,⟨fun h=>(by cases h),fun h=>absurd h HN.out⟩,HZ.out⟩
   | false=>
    have HN:=hid (show ∀ i (hi:i<ts.length) j (hj:j<i),i<k+1→¬K (ts[j]'(by omega))=K ts[i] from fun i hi j hj h=>by
     by_cases e:i=k
     ·subst e
      intro hh
      have hj':j<ts.length:=by omega
      have:=HR.out.2 ⟨j,by omega,by rw [decide_eq_true_iff,List.getElem?_eq_getElem hj',← HT.out];simpa using hh⟩
      cases this
     ·exact HE.out i hi j hj (by omega))
    clear HR
    go_wp2
    go_roundw
    case rel=>exact ⟨k+1,by omega,by go_num,HN,HB1⟩
    case measure=>simp [intOf];omega
  ·have HN:=hid (show ∀ i (hi:i<ts.length) j (hj:j<i),¬K (ts[j]'(by omega))=K ts[i] from fun i hi j hj=>HE.out i hi j hj (by omega))
   have HZ:=hid (HS.out.trans (HB.out.mono HS.out.size))
   go_wp2
   go_ret
   exact ⟨true,rfl,⟨fun _=>HN.out,fun _=>rfl⟩,HZ.out⟩
set_option maxHeartbeats 2000000
def arrK (vp:Value) (fl nm su:Int) (vi vf vm:Value):Array Value:=#[vp,.int .i64 fl,.int .i64 nm,.int .i64 su,vi,vf,vm]
theorem Lk.k7 {W:World} {C:Nat} {vp vi vf vm:Value} {fl nm su:Int} {T:TypeId} (h:Lk W C (arrK vp fl nm su vi vf vm) T):W.cell? ⟨C,0,none⟩=some vp∧W.cell? ⟨C,1,none⟩=some (.int .i64 fl)∧W.cell? ⟨C,2,none⟩=some (.int .i64 nm)∧W.cell? ⟨C,3,none⟩=some (.int .i64 su)∧W.cell? ⟨C,4,none⟩=some vi∧W.cell? ⟨C,5,none⟩=some vf∧W.cell? ⟨C,6,none⟩=some vm:=
 ⟨h.c 0 _ rfl,h.c 1 _ rfl,h.c 2 _ rfl,h.c 3 _ rfl,h.c 4 _ rfl,h.c 5 _ rfl,h.c 6 _ rfl⟩
structure CB (w:World) (a:Array Value) (W:World):Prop where
 b:Below w.heap.size w W
 k:Lk W w.heap.size a 36
theorem CB.keep {w W W':World} {a:Array Value} (h:CB w a W) (hb:Below W.heap.size W W'):CB w a W':=⟨h.b.trans (hb.mono h.b.size),h.k.keep hb⟩
theorem CB.start (w:World) (a:Array Value):CB w a (w.alloc (.cells a 36)):=⟨(Below.refl _ _).alloc (Nat.le_refl _) _,Lk.new _ _ _⟩
theorem isClassFn_any (vp:Value) (ts:List C4) (x:Int) (n:Nat) (w:World) (hl:ts.length≤1048576) (hp:PoolW w vp ts) (hc:w.cell? ⟨n,0,none⟩=some vp) :
  Calls Tryz.prog 169 #[.int .i64 x,.pointer (some ⟨n,0,none⟩)] w fun e w'=>e=.returned (.bool (decide ((atC ts x).kind=2)))∧Below w.heap.size w w':=by
 have hC:=isClassAt_any vp ts x w hl hp
 obtain ⟨ao,cap,rfl⟩:=hp.len
 generalize decide ((atC ts x).kind=2)=q at hC ⊢
 clear hp
 go_enter Tryz.func169,Tryz.ntmps169
 go_wp2_with (go_at_call 170;refine hC.mono ?_;rintro e w1 ⟨rfl,hb1⟩)
 go_ret
 exact ⟨rfl,hb1⟩
theorem nameFn_any (vp:Value) (ts:List C4) (x:Int) (n:Nat) (w:World) (hl:ts.length≤1048576) (hp:PoolW w vp ts) (hc:w.cell? ⟨n,0,none⟩=some vp) :
  Calls Tryz.prog 172 #[.int .i64 x,.pointer (some ⟨n,0,none⟩)] w fun e w'=>e=.returned (.string (rawC ts x))∧Below w.heap.size w w':=by
 have hC:=classTextAt_any vp ts x w hl hp
 obtain ⟨ao,cap,rfl⟩:=hp.len
 generalize rawC ts x=q at hC ⊢
 clear hp
 go_enter Tryz.func172,Tryz.ntmps172
 go_wp2_with (go_at_call 173;refine hC.mono ?_;rintro e w1 ⟨rfl,hb1⟩)
 go_ret
 exact ⟨rfl,hb1⟩
def kindQ (ts:List C4) (fs:List Int) (k:Nat):Bool:=(fs[k]?.map fun x=>decide ((atC ts x).kind=2)).getD true
structure headNI (c:MClass):Prop where
 nm:(atC c.pool c.name).kind=2
 su:(atC c.pool c.super).kind=2
 fc:∀ k,k<c.faces.length→kindQ c.pool c.faces k=true
 ne:¬rawC c.pool c.super=rawC c.pool c.name
 fu:∀ i (h:i<c.faces.length) j (hj:j<i),¬rawC c.pool (c.faces[j]'(by omega))=rawC c.pool c.faces[i]
theorem headNames_any (c:MClass) (vp vi vf vm:Value) (B:Nat) (w:World) (hc:c.few) (h:ClassW w B vp vi vf vm c) :
  Calls Tryz.prog 133 #[.agg #[vp,.int .i64 c.flags,.int .i64 c.name,.int .i64 c.super,vi,vf,vm]] w fun e w'=>∃ b:Bool,e=.returned (.bool b)∧(b=true↔headNI c)∧Below w.heap.size w w':=by
 obtain ⟨o1,j1,hv1⟩:=own_len h.p
 obtain ⟨o2,j2,hv2⟩:=own_len h.i
 obtain ⟨o3,j3,hv3⟩:=own_len h.f
 obtain ⟨o4,j4,hv4⟩:=h.m.len
 subst hv1 hv2 hv3 hv4
 have P0:=CB.start w (arrK (.slice o1 c.pool.length j1) c.flags c.name c.super (.slice o2 c.faces.length j2) (.slice o3 c.fields.length j3) (.slice o4 c.methods.length j4))
 have hpl:=hc.pool
 have hfl:=hc.faces
 have hPW:PoolW w (.slice o1 c.pool.length j1) c.pool:=⟨B,h.p⟩
 have hI:=fun x W (hW:CB w (arrK (.slice o1 c.pool.length j1) c.flags c.name c.super (.slice o2 c.faces.length j2) (.slice o3 c.fields.length j3) (.slice o4 c.methods.length j4)) W)=>isClassFn_any (.slice o1 c.pool.length j1) c.pool x w.heap.size W hpl (hPW.keep hW.b) hW.k.k7.1
 have hK:=fun x W (hW:CB w (arrK (.slice o1 c.pool.length j1) c.flags c.name c.super (.slice o2 c.faces.length j2) (.slice o3 c.fields.length j3) (.slice o4 c.methods.length j4)) W)=>nameFn_any (.slice o1 c.pool.length j1) c.pool x w.heap.size W hpl (hPW.keep hW.b) hW.k.k7.1
 have hA:=fun W (hW:CB w (arrK (.slice o1 c.pool.length j1) c.flags c.name c.super (.slice o2 c.faces.length j2) (.slice o3 c.fields.length j3) (.slice o4 c.methods.length j4)) W)=>allInt_any (.pointer (some ⟨w.heap.size,0,none⟩)) (.slice o2 c.faces.length j2) c.faces B (kindQ c.pool c.faces) W hfl (own_below h.i hW.b) (fun k hk W' hW'=>by
  refine (hI c.faces[k] W' (hW.keep hW')).mono ?_
  rintro e w1 ⟨rfl,hb⟩
  exact ⟨ret_bool (by unfold kindQ;rw [List.getElem?_eq_getElem hk];rfl),hb⟩)
 have hU:=fun W (hW:CB w (arrK (.slice o1 c.pool.length j1) c.flags c.name c.super (.slice o2 c.faces.length j2) (.slice o3 c.fields.length j3) (.slice o4 c.methods.length j4)) W)=>unlikeI_any (rawC c.pool) (.pointer (some ⟨w.heap.size,0,none⟩)) (.slice o2 c.faces.length j2) c.faces B W hfl (own_below h.i hW.b) (fun x W' hW'=>hK x W' (hW.keep hW'))
 have hmf:∀ (fn:Fn) (first cap:Array Value) (w:World),(Instr.makeFunc fn first cap).run Tryz.prog w=.ok (.func fn first cap) w:=fun _ _ _ _=>rfl
 have HI:=hid hI
 have HK:=hid hK
 have HA:=hid hA
 have HU:=hid hU
 clear h hc hI hK hA hU hPW
 obtain ⟨q1,hq1⟩:∃ q,Hid (decide ((atC c.pool c.name).kind=2)=q):=⟨_,hid rfl⟩
 obtain ⟨q2,hq2⟩:∃ q,Hid (decide ((atC c.pool c.super).kind=2)=q):=⟨_,hid rfl⟩
 go_enter Tryz.func133,Tryz.ntmps133
 go_wp2_with fail
 have h1:=HI.out c.name _ P0
 rw [hq1.out] at h1
 refine h1.mono ?_
 rintro e w1 ⟨rfl,hb1⟩
 have P1:=P0.keep hb1
 clear P0 hb1 h1
 obtain ⟨c0,c1,c2,c3,c4,c5,c6⟩:=P1.k.k7
 have HB1:=hid P1.b
 cases q1 with
 | false=>
  have HN:=hid (show ¬headNI c from fun h=>by have:=hq1.out;rw [decide_eq_false_iff_not] at this;exact this h.nm)
  clear P1 HI HK HA HU
  go_wp2
  go_ret
  first|exact ⟨false,rfl,⟨fun h=>(by cases h),fun h=>absurd h HN.out⟩,HB1.out⟩|exact .inl ⟨rfl,HN.out,HB1.out⟩
 | true=>
 go_wp2_with fail
 have h2:=HI.out c.super _ P1
 rw [hq2.out] at h2
 refine h2.mono ?_
 rintro e w2 ⟨rfl,hb2⟩
 have P2:=P1.keep hb2
 clear P1 hb2 h2 c0 c1 c2 c3 c4 c5 c6 HB1
 obtain ⟨c0,c1,c2,c3,c4,c5,c6⟩:=P2.k.k7
 have HB2:=hid P2.b
 cases q2 with
 | false=>
  have HN:=hid (show ¬headNI c from fun h=>by have:=hq2.out;rw [decide_eq_false_iff_not] at this;exact this h.su)
  clear P2 HI HK HA HU
  go_wp2
  go_ret
  first|exact ⟨false,rfl,⟨fun h=>(by cases h),fun h=>absurd h HN.out⟩,HB2.out⟩|exact .inl ⟨rfl,HN.out,HB2.out⟩
 | true=>
 go_wp2_with fail
 refine (HA.out _ P2).mono ?_
 rintro e w3 ⟨b3,rfl,r3,hb3⟩
 have P3:=P2.keep hb3
 have R3:=hid r3
 clear P2 hb3 r3 HA c0 c1 c2 c3 c4 c5 c6 HB2
 obtain ⟨c0,c1,c2,c3,c4,c5,c6⟩:=P3.k.k7
 have HB3:=hid P3.b
 cases b3 with
 | false=>
  have HN:=hid (show ¬headNI c from fun h=>by have:=R3.out.2 h.fc;cases this)
  clear P3 HI HK HU R3
  go_wp2
  go_ret
  first|exact ⟨false,rfl,⟨fun h=>(by cases h),fun h=>absurd h HN.out⟩,HB3.out⟩|exact .inl ⟨rfl,HN.out,HB3.out⟩
 | true=>
 replace R3:=hid (R3.out.1 rfl)
 obtain ⟨s1,hs1⟩:∃ s,Hid (rawC c.pool c.super=s):=⟨_,hid rfl⟩
 obtain ⟨s2,hs2⟩:∃ s,Hid (rawC c.pool c.name=s):=⟨_,hid rfl⟩
 have k1:=fun W (hW:CB w (arrK (.slice o1 c.pool.length j1) c.flags c.name c.super (.slice o2 c.faces.length j2) (.slice o3 c.fields.length j3) (.slice o4 c.methods.length j4)) W)=>HK.out c.super W hW
 have k2:=fun W (hW:CB w (arrK (.slice o1 c.pool.length j1) c.flags c.name c.super (.slice o2 c.faces.length j2) (.slice o3 c.fields.length j3) (.slice o4 c.methods.length j4)) W)=>HK.out c.name W hW
 rw [hs1.out] at k1
 rw [hs2.out] at k2
 obtain ⟨q,hq⟩:∃ q,(s1.toList==s2.toList)=q:=⟨_,rfl⟩
 have hqq:s1=s2↔q=true:=by
  rw [← hq,beq_iff_eq,ByteArray.toList_eq,ByteArray.toList_eq]
  exact ⟨fun h=>by rw [h],fun h=>ByteArray.ext (Array.toList_inj.1 h)⟩
 have HQ:=hid hqq
 have hn:(s1.toList != s2.toList) = !q:=by rw [bne,hq]
 clear hqq HI HK
 go_upto_region 5 with fail
 go_cut [2] (fun v wc=>(∃ b:Bool,v=.bool b∧Hid (b=true↔headNI c))∧Hid (Below w.heap.size w wc))
 case first=>
  have PD:=P3.keep (show Below w3.heap.size w3 w3.drew from (Below.refl _ _).drew)
  obtain ⟨_,_,d2,d3,d4,_,_⟩:=PD.k.k7
  clear P3 c0 c1 c2 c3 c4 c5 c6 HB3
  refine wp_region_held_drew (S:=(fun w':World=>w'.cell? ⟨w.heap.size,2,none⟩=some (.int .i64 c.name)∧w'.cell? ⟨w.heap.size,3,none⟩=some (.int .i64 c.super)∧w'.cell? ⟨w.heap.size,4,none⟩=some (.slice o2 c.faces.length j2))) (by kernel_rfl) ⟨d2,d3,d4⟩ (fun hHeld=>?_)
  refine tkw 0 ⟨some 26,.move (.tmp 4),103,"l4_check.go:85",#[],none⟩ ?_
  refine tkw 1 ⟨some 27,.fieldAddr 36 (.tmp 1) 3,0,"l4_check.go:85",#[],none⟩ ?_
  refine tkw 2 ⟨some 28,.load 3 (.tmp 27),3,"l4_check.go:85",#[⟨1,.data⟩],none⟩ ?_
  refine tkw 4 ⟨some 30,.move (.tmp 4),103,"l4_check.go:85",#[],none⟩ ?_
  refine tkw 5 ⟨some 31,.fieldAddr 36 (.tmp 1) 2,0,"l4_check.go:85",#[],none⟩ ?_
  refine tkw 6 ⟨some 32,.load 3 (.tmp 31),3,"l4_check.go:85",#[⟨5,.data⟩],none⟩ ?_
  refine wpAnyH_ready (rs:=[3]) (by kernel_rfl) (by simp) ?_
  refine AllReadyH.cons rfl (fun K' hK'=>?_) AllReadyH.nil
  go_simp
  refine (k1 _ PD).mono ?_
  rintro e w8 ⟨rfl,hb8⟩
  have P8:=PD.keep hb8
  obtain ⟨_,_,e2,e3,e4,_,_⟩:=P8.k.k7
  refine hK'.out _ _ ⟨e2,e3,e4⟩ (fun hHeld=>?_)
  clear hK' K' hb8 PD d2 d3 d4 k1
  refine wpAnyH_ready (rs:=[7]) (by kernel_rfl) (by simp) ?_
  refine AllReadyH.cons rfl (fun K' hK'=>?_) AllReadyH.nil
  go_simp
  refine (k2 _ P8).mono ?_
  rintro e w9 ⟨rfl,hb9⟩
  have P9:=P8.keep hb9
  clear e2 e3 e4
  obtain ⟨_,_,e2,e3,e4,_,_⟩:=P9.k.k7
  refine hK'.out _ _ ⟨e2,e3,e4⟩ (fun hHeld=>?_)
  clear hK' K' hb9 P8 k2
  cases q with
  | true=>
   have HN:=hid (show ¬headNI c from fun h=>h.ne (by rw [hs1.out,hs2.out];exact HQ.out.2 rfl))
   have HB9:=hid P9.b
   refine tkw 8 ⟨some 34,.binOp .neq 9 (.tmp 29) (.tmp 33) 9,4,"l4_check.go:85",#[⟨3,.data⟩,⟨7,.data⟩],none⟩ ?_
   refine tkw 9 ⟨some 35,.move (.tmp 34),4,"l4_check.go:85",#[⟨8,.data⟩,⟨7,.chain⟩],none⟩ ?_
   refine wpAnyH_take (i:=10) (oi:={ dst:=some 36,op:=Op.fieldAddr 36 (Operand.tmp 1) 4,type:=0,pos := "l4_check.go:85",after:=#[{ on:=9,ground:=Ground.guard }],guard:=some (9,true) }) (v:=undef) rfl (by kernel_rfl) (by kernel_rfl) (by kernel_rfl) (fun _ _ _ h=>h) (Or.inr ⟨by rfl,rfl⟩) (by assumption) ?_
   (try simp only [s_p,s_a,s_z,s_s])
   refine wpAnyH_take (i:=11) (oi:={ dst:=some 37,op:=Op.load 23 (Operand.tmp 36),type:=23,pos := "l4_check.go:85",after:=#[{ on:=10,ground:=Ground.data },{ on:=9,ground:=Ground.guard }],guard:=some (9,true) }) (v:=undef) rfl (by kernel_rfl) (by kernel_rfl) (by kernel_rfl) (fun _ _ _ h=>h) (Or.inr ⟨by rfl,rfl⟩) (by assumption) ?_
   (try simp only [s_p,s_a,s_z,s_s])
   refine wpAnyH_take (i:=12) (oi:={ dst:=some 38,op:=Op.move (Operand.tmp 4),type:=103,pos := "l4_check.go:85",after:=#[{ on:=9,ground:=Ground.guard }],guard:=some (9,true) }) (v:=undef) rfl (by kernel_rfl) (by kernel_rfl) (by kernel_rfl) (fun _ _ _ h=>h) (Or.inr ⟨by rfl,rfl⟩) (by assumption) ?_
   (try simp only [s_p,s_a,s_z,s_s])
   refine wpAnyH_take (i:=13) (oi:={ dst:=some 39,op:=Op.call { callee:=Callee.value (Operand.func 174),args:=#[Operand.tmp 37,Operand.tmp 38],argTypes:=#[23,103] },type:=4,pos := "l4_check.go:85",after:=#[{ on:=11,ground:=Ground.data },{ on:=12,ground:=Ground.data },{ on:=9,ground:=Ground.chain },{ on:=9,ground:=Ground.guard }],guard:=some (9,true) }) (v:=undef) rfl (by kernel_rfl) (by kernel_rfl) (by kernel_rfl) (fun _ _ _ h=>h) (Or.inr ⟨by rfl,rfl⟩) (by assumption) ?_
   (try simp only [s_p,s_a,s_z,s_s])
   refine tkw 14 ⟨some 40,.pick (.tmp 35) (.tmp 39) (.const (.bool false)),4,"l4_check.go:85",#[⟨9,.data⟩,⟨13,.data⟩],none⟩ ?_
   refine tkw 15 ⟨some 2,.assign (.tmp 40),4,"l4_check.go:85",#[⟨14,.data⟩,⟨13,.chain⟩,⟨0,.phase⟩,⟨1,.phase⟩,⟨2,.phase⟩,⟨3,.phase⟩,⟨4,.phase⟩,⟨5,.phase⟩,⟨6,.phase⟩,⟨7,.phase⟩,⟨8,.phase⟩,⟨9,.phase⟩,⟨10,.phase⟩,⟨11,.phase⟩,⟨12,.phase⟩,⟨13,.phase⟩,⟨14,.phase⟩],none⟩ ?_
   refine wpAnyH_done (by kernel_rfl) ?_ _
   go_wp2_with fail
   go_meet
   case rel=>exact ⟨⟨false,rfl,hid ⟨fun h=>(by cases h),fun h=>absurd h HN.out⟩⟩,HB9⟩
  | false=>
   refine tkw 8 ⟨some 34,.binOp .neq 9 (.tmp 29) (.tmp 33) 9,4,"l4_check.go:85",#[⟨3,.data⟩,⟨7,.data⟩],none⟩ ?_
   refine tkw 9 ⟨some 35,.move (.tmp 34),4,"l4_check.go:85",#[⟨8,.data⟩,⟨7,.chain⟩],none⟩ ?_
   refine tkw 10 ⟨some 36,.fieldAddr 36 (.tmp 1) 4,0,"l4_check.go:85",#[⟨9,.guard⟩],some (9,true)⟩ ?_
   refine tkw 11 ⟨some 37,.load 23 (.tmp 36),23,"l4_check.go:85",#[⟨10,.data⟩,⟨9,.guard⟩],some (9,true)⟩ ?_
   refine tkw 12 ⟨some 38,.move (.tmp 4),103,"l4_check.go:85",#[⟨9,.guard⟩],some (9,true)⟩ ?_
   refine wpAnyH_ready (rs:=[13]) (by kernel_rfl) (by simp) ?_
   refine AllReadyH.cons rfl (fun K' hK'=>?_) AllReadyH.nil
   go_simp
   refine (HU.out _ P9).mono ?_
   rintro e w10 ⟨b10,rfl,r10,hb10⟩
   have P10:=P9.keep hb10
   clear e2 e3 e4
   obtain ⟨_,_,e2,e3,e4,_,_⟩:=P10.k.k7
   refine hK'.out _ _ ⟨e2,e3,e4⟩ (fun hHeld=>?_)
   have R10:=hid (show b10=true↔headNI c from r10.trans ⟨fun h=>⟨of_decide_eq_true hq1.out,of_decide_eq_true hq2.out,R3.out,(fun e=>by rw [hs1.out,hs2.out] at e;have:=HQ.out.1 e;cases this),h⟩,fun h=>h.fu⟩)
   have HB10:=hid P10.b
   clear hK' K' hb10 P9 HU r10 P10
   refine tkw 14 ⟨some 40,.pick (.tmp 35) (.tmp 39) (.const (.bool false)),4,"l4_check.go:85",#[⟨9,.data⟩,⟨13,.data⟩],none⟩ ?_
   refine tkw 15 ⟨some 2,.assign (.tmp 40),4,"l4_check.go:85",#[⟨14,.data⟩,⟨13,.chain⟩,⟨0,.phase⟩,⟨1,.phase⟩,⟨2,.phase⟩,⟨3,.phase⟩,⟨4,.phase⟩,⟨5,.phase⟩,⟨6,.phase⟩,⟨7,.phase⟩,⟨8,.phase⟩,⟨9,.phase⟩,⟨10,.phase⟩,⟨11,.phase⟩,⟨12,.phase⟩,⟨13,.phase⟩,⟨14,.phase⟩],none⟩ ?_
   refine wpAnyH_done (by kernel_rfl) ?_ _
   go_wp2_with fail
   go_meet
   case rel=>exact ⟨⟨b10,rfl,R10⟩,HB10⟩
 case rest=>
  obtain ⟨⟨b,rfl,hb⟩,HB⟩:=hcut
  go_wp2
  go_ret
  exact ⟨b,rfl,hb.out,HB.out⟩
structure headFI (c:MClass):Prop where
 fl:inI c.flags 0 7=true
 fa:¬(hasI c.flags 2=true∧hasI c.flags 4=true)
 ob:hasI c.flags 1=true→hasI c.flags 4=true∧objB (rawC c.pool c.super)=true
theorem withinI_any (n m:Int) (w:World) :
  Calls Tryz.prog 175 #[.int .i64 n,.int .i64 m] w fun e w'=>e=.returned (.bool (inI n 0 m))∧w'=w:=by
 go_enter Tryz.func175,Tryz.ntmps175
 go_wp2
 all_goals go_ret
 all_goals refine ⟨ret_bool ?_,rfl⟩
 all_goals (rw [Bool.eq_iff_iff];simp [inI];omega)
theorem headFlags_any (c:MClass) (vp vi vf vm:Value) (B:Nat) (w:World) (hc:c.few) (h:ClassW w B vp vi vf vm c) :
  Calls Tryz.prog 134 #[.agg #[vp,.int .i64 c.flags,.int .i64 c.name,.int .i64 c.super,vi,vf,vm]] w fun e w'=>∃ b:Bool,e=.returned (.bool b)∧(b=true↔headFI c)∧Below w.heap.size w w':=by
 obtain ⟨o1,j1,hv1⟩:=own_len h.p
 obtain ⟨o2,j2,hv2⟩:=own_len h.i
 obtain ⟨o3,j3,hv3⟩:=own_len h.f
 obtain ⟨o4,j4,hv4⟩:=h.m.len
 subst hv1 hv2 hv3 hv4
 have P0:=CB.start w (arrK (.slice o1 c.pool.length j1) c.flags c.name c.super (.slice o2 c.faces.length j2) (.slice o3 c.fields.length j3) (.slice o4 c.methods.length j4))
 have hPW:PoolW w (.slice o1 c.pool.length j1) c.pool:=⟨B,h.p⟩
 have hT:=classTextAt_any (.slice o1 c.pool.length j1) c.pool c.super _ hc.pool (hPW.keep P0.b)
 have hW:=fun W=>withinI_any c.flags 7 W
 have h1:=fun W=>has_any c.flags 1 W
 have h2:=fun W=>has_any c.flags 2 W
 have h4:=fun W=>has_any c.flags 4 W
 obtain ⟨q0,hq0⟩:∃ q,Hid (inI c.flags 0 7=q):=⟨_,hid rfl⟩
 obtain ⟨q1,hq1⟩:∃ q,Hid (hasI c.flags 1=q):=⟨_,hid rfl⟩
 obtain ⟨q2,hq2⟩:∃ q,Hid (hasI c.flags 2=q):=⟨_,hid rfl⟩
 obtain ⟨q4,hq4⟩:∃ q,Hid (hasI c.flags 4=q):=⟨_,hid rfl⟩
 obtain ⟨s,hs⟩:∃ s,Hid (rawC c.pool c.super=s):=⟨_,hid rfl⟩
 obtain ⟨q,hq⟩:∃ q,(s.toList==[79,98,106])=q:=⟨_,rfl⟩
 rw [hq0.out] at hW
 rw [hq1.out] at h1
 rw [hq2.out] at h2
 rw [hq4.out] at h4
 rw [hs.out] at hT
 have HB:=hid P0.b
 have HT:=hid hT
 have HQ:=hid (show objB (rawC c.pool c.super)=q by rw [hs.out];exact hq)
 have HY:=hid (show headFI c↔(q0=true∧¬(q2=true∧q4=true)∧(q1=true→q4=true∧q=true)) from
  ⟨fun h=>⟨by rw [← hq0.out];exact h.fl,by rw [← hq2.out,← hq4.out];exact h.fa,by rw [← hq1.out,← hq4.out,← HQ.out];exact h.ob⟩,
   fun h=>⟨by rw [hq0.out];exact h.1,by rw [hq2.out,hq4.out];exact h.2.1,by rw [hq1.out,hq4.out,HQ.out];exact h.2.2⟩⟩)
 clear h hc hPW hT P0 hq0 hq1 hq2 hq4 hs HQ
 generalize headFI c=P at HY ⊢
 cases q0<;>cases q1<;>cases q2<;>cases q4<;>cases q
 all_goals
  go_enter Tryz.func134,Tryz.ntmps134
  go_wp2_with (first|(go_at_call 175;refine (hW _).mono ?_;rintro e w1 ⟨rfl,hw⟩;replace hw:=hw.symm;subst hw)|(go_at_call_of 176 (4:Int);refine (h4 _).mono ?_;rintro e w2 ⟨rfl,hw⟩;replace hw:=hw.symm;subst hw)|(go_at_call_of 176 (2:Int);refine (h2 _).mono ?_;rintro e w3 ⟨rfl,hw⟩;replace hw:=hw.symm;subst hw)|(go_at_call_of 176 (1:Int);refine (h1 _).mono ?_;rintro e w4 ⟨rfl,hw⟩;replace hw:=hw.symm;subst hw)|(go_at_call 173;refine HT.out.mono ?_;rintro e w5 ⟨rfl,hb5⟩;have HB5:=hid (HB.out.trans (hb5.mono HB.out.size));clear hb5))
  go_ret
  have hy:=HY.out
  simp only [Bool.false_eq_true,and_false,not_false_eq_true,and_true,not_true_eq_false,forall_const,false_implies,imp_self] at hy
  first|exact ⟨_,rfl,by rw [hy];simp,HB5.out⟩|exact ⟨_,rfl,by rw [hy];simp,HB.out⟩|exact .inl ⟨rfl,by rw [hy];simp,HB.out⟩|exact .inl ⟨rfl,by rw [hy];simp,HB5.out⟩|exact .inr ⟨rfl,by rw [hy];simp,HB.out⟩|exact .inr ⟨rfl,by rw [hy];simp,HB5.out⟩
end Go.Proofs.YtecbcdfkedocbaaGreatDoor
