/- Gathered: WrBase WrOne WrTwo WrKind WrKinds WrEntry. -/
import Derived.Test.YtecbcdfkedocbaaGreatDoorH01
import Derived.Test.YtecbcdfkedocbaaGreatDoorShelf
import Derived.Lib.Builder
import Derived.Laws.Externs
import Derived.Lib.AppendStr
import Derived.Test.YtecbcdfkedocbaaGreatDoorH02
import Derived.Test.YtecbcdfkedocbaaGreatDoorH04
namespace Go.Proofs.YtecbcdfkedocbaaGreatDoor
open Go.RowKit Fm
set_option maxHeartbeats 1000000
set_option maxRecDepth 100000
set_option linter.unusedVariables false
theorem infoB:(Tryz.prog.info? 235).map (·.size)=some 2:=by kernel_rfl
theorem info5:(Tryz.prog.info? 5).map (fun i=>(i.zero,i.size,i.bytes))=some (some (.int .u8 0),1,1):=by kernel_rfl
structure Kw (b:Nat) (w w':World):Prop where
 os:w'.os=w.os
 tape:w'.tape=w.tape
 output:w'.output=w.output
 size:w.heap.size≤w'.heap.size
 block:∀ k,k<w.heap.size→k≠b→(∀ c fz,w.heap[k]? ≠ some (.cells c 5 fz))→w'.heap[k]? = w.heap[k]?
theorem Kw.refl (b:Nat) (w:World):Kw b w w:=⟨rfl,rfl,rfl,Nat.le_refl _,fun _ _ _ _=>rfl⟩
theorem Kw.trans {b:Nat} {w w1 w2:World} (h:Kw b w w1) (k:Kw b w1 w2):Kw b w w2:=
 ⟨k.os.trans h.os,k.tape.trans h.tape,k.output.trans h.output,Nat.le_trans h.size k.size,fun i hi hb h5=>by
  have e:=h.block i hi hb h5
  rw [k.block i (Nat.lt_of_lt_of_le hi h.size) hb (by rw [e];exact h5),e]⟩
theorem Kw.lk {b:Nat} {w w':World} {C:Nat} {cs:Array Value} {T:TypeId} (h:Kw b w w') (hk:Lk w C cs T) (hb:C≠b) (hT:T≠5):Lk w' C cs T:=by
 unfold Lk at *
 rw [h.block C (Array.getElem?_eq_some_iff.1 hk).1 hb (fun c f e=>by rw [hk] at e;cases e;exact hT rfl)]
 exact hk
theorem Kw.of_below {b:Nat} {w w':World} (h:Below w.heap.size w w'):Kw b w w':=⟨h.os,h.tape,h.output,h.size,fun k hk _ _=>h.block k hk⟩
theorem Kw.own {b:Nat} {w w':World} {B:Nat} {e:TypeId} {z n:Nat} {v:Value} {xs:List Value} (h:Kw b w w') (ho:w.ownsRow B e z v n xs) (he:e≠5) (hb:v.ownBlock≠some b):w'.ownsRow B e z v n xs:=by
 refine ⟨ho.1, ?_⟩
 rcases ho.2 with hn|⟨g,cap,cur,rfl,h1,h2,rest⟩
 ·exact .inl hn
 ·refine .inr ⟨g,cap,cur,rfl,h1, ?_,rest⟩
  rw [h.block g (Array.getElem?_eq_some_iff.1 h2).1 (fun e=>hb (by rw [e];rfl)) (fun c f e2=>by rw [h2] at e2;cases e2;exact he rfl)]
  exact h2
structure WB (w0:World) (b:Nat) (sp:Bool) (bs:List UInt8) (W:World):Prop where
 at_:∃ p v,(p=.pointer none∨p=.pointer (some ⟨b,0,none⟩))∧W.heap[b]? = some (.cells #[p,v,.bool sp] 237 (0,0))∧W.ownsRow w0.heap.size 5 1 v bs.length (Lib.byteCells bs)
 old:Below w0.heap.size w0 W
 new:w0.heap.size≤b
theorem WB.keep {w0:World} {b:Nat} {sp:Bool} {bs:List UInt8} {W W':World} (h:WB w0 b sp bs W) (hb:Below W.heap.size W W'):WB w0 b sp bs W':=by
 obtain ⟨p,v,h1,h2,h3⟩:=h.at_
 exact ⟨⟨p,v,h1,(hb.block b (Array.getElem?_eq_some_iff.1 h2).1).trans h2,own_below h3 hb⟩,h.old.trans (hb.mono h.old.size),h.new⟩
theorem wcopy_any {w0:World} {b:Nat} {sp:Bool} {bs:List UInt8} {W:World} (h:WB w0 b sp bs W) :
  Calls Tryz.prog 234 #[.pointer (some ⟨b,0,none⟩)] W fun e w'=>e=.returned (.tuple #[])∧∃ v,w'.heap[b]? = some (.cells #[.pointer (some ⟨b,0,none⟩),v,.bool sp] 237 (0,0))∧w'.ownsRow w0.heap.size 5 1 v bs.length (Lib.byteCells bs)∧Below w0.heap.size w0 w'∧W.grownBy w' (some b):=by
 obtain ⟨p,v,h1,h2,h3⟩:=h.at_
 obtain ⟨j,hj,hjs⟩:=Option.map_eq_some_iff.1 infoB
 have c0:W.cell? ⟨b,0,none⟩=some p:=by rw [Lib.cell_of_heap h2];rfl
 have hfz:=Lib.frozen_of_heap h2 0
 have hsh:W.shape? b=some (237,3):=by simp [World.shape?,h2]
 rcases h1 with rfl|rfl
 ·have hto:=Lib.run_to_unsafe (P:=Tryz.prog) W ⟨b,0,none⟩ Tryz.underlying233 Tryz.underlying123 hj (by rw [hjs];decide) hsh (Nat.zero_lt_succ 2)
  have hfrom:=Lib.run_from_unsafe (P:=Tryz.prog) W ⟨b,0,none⟩ Tryz.underlying123 Tryz.underlying233 hj hsh (by kernel_rfl)
  have hesc:(callFunc 250 #[.pointer (some ⟨b,0,none⟩)]).run Tryz.prog W=.ok (.value (.pointer (some ⟨b,0,none⟩))) W:=by
   rw [run_callFunc_extern Tryz.func250 (by kernel_rfl) (by kernel_rfl) (by kernel_rfl) (e:=Extern.AbiNoEscape.same) (by kernel_rfl),Lib.run_noEscape]
   rfl
  have HP:=hid (show ∃ v,(W.setCell ⟨b,0,none⟩ (.pointer (some ⟨b,0,none⟩))).heap[b]? = some (.cells #[.pointer (some ⟨b,0,none⟩),v,.bool sp] 237 (0,0))∧(W.setCell ⟨b,0,none⟩ (.pointer (some ⟨b,0,none⟩))).ownsRow w0.heap.size 5 1 v bs.length (Lib.byteCells bs)∧Below w0.heap.size w0 (W.setCell ⟨b,0,none⟩ (.pointer (some ⟨b,0,none⟩)))∧W.grownBy (W.setCell ⟨b,0,none⟩ (.pointer (some ⟨b,0,none⟩))) (some b) from
   ⟨v,by simp [World.setCell,Array.getElem?_modify,h2],h3.kept grown_set (.inr (Lib.ownBlock_ne h3 h2 (by decide))),h.old.setCell (p:=⟨b,0,none⟩) h.new _,grown_set⟩)
  clear h h2 h3
  go_enter Tryz.func234,Tryz.ntmps234
  go_wp2
  go_end0
  exact ⟨rfl,HP.out⟩
 ·have HP:=hid (show ∃ v,W.heap[b]? = some (.cells #[.pointer (some ⟨b,0,none⟩),v,.bool sp] 237 (0,0))∧W.ownsRow w0.heap.size 5 1 v bs.length (Lib.byteCells bs)∧Below w0.heap.size w0 W∧W.grownBy W (some b) from ⟨v,h2,h3,h.old,grown_refl _ _⟩)
  clear h h2 h3
  go_enter Tryz.func234,Tryz.ntmps234
  go_wp2
  rw [Lib.run_neq_ptr_same W _ Tryz.underlying233 hj]
  go_wp2
  go_end0
  exact ⟨rfl,HP.out⟩
theorem wbyte_any {w0:World} {b:Nat} {sp:Bool} {bs:List UInt8} {W:World} (h:WB w0 b sp bs W) (q:UInt8) (n:Int) (hn:n=(q.toNat:Int)) (hl:bs.length≤1000000) :
  Calls Tryz.prog 237 #[.pointer (some ⟨b,0,none⟩),.int .u8 n] W fun e w'=>e=.returned .nilIface∧WB w0 b sp (bs++[q]) w'∧Kw b W w':=by
 obtain ⟨i0,hi,hz0,hz1,hz2⟩:=info_parts info5
 have hnew:=h.new
 have hbl:(Lib.byteCells bs).length=bs.length:=Lib.byteCells_length bs
 have HC:=wcopy_any h
 subst hn
 clear h
 go_enter Tryz.func237,Tryz.ntmps237
 go_wp2_with (first|(go_at_call 234;refine HC.mono ?_;rintro e w1 ⟨rfl,v,hbk,hown,hold,hg1⟩;have c1:w1.cell? ⟨b,1,none⟩=some v:=(by rw [Lib.cell_of_heap hbk];rfl))|(at_builtin;refine wpList_append_own _ rfl _ _ 146 rfl w0.heap.size 5 i0 (.int .u8 0) 1 1 Tryz.underlying146 hi hz0 hz1 hz2 rfl (by decide) _ _ _ rfl (hown.alloc _) ⟨w1.heap.size,0,none⟩ 1 1 [.int .u8 (q.toNat:Int)] rfl rfl ?c1 ?c2 ?c3 ?c4 ?c5 ?_))
 case c1=>exact cell_one_new _ _ _
 case c2=>intro u hu;simp at hu;subst hu;rfl
 case c3=>unfold maxLen;omega
 case c4=>omega
 case c5=>have:=hold.size;simp;omega
 intro v' w2 hown' hgrow _
 have hlt:b<w1.heap.size:=(Array.getElem?_eq_some_iff.1 hbk).1
 have hne:v.ownBlock≠some b:=Lib.ownBlock_ne hown hbk (by decide)
 have hb2:w2.heap[b]? = some (.cells #[.pointer (some ⟨b,0,none⟩),v,.bool sp] 237 (0,0)):=by
  rw [hgrow.block b (by simp;omega) (fun e=>hne e.symm),Below.heap_alloc w1 _ b hlt]
  exact hbk
 have d1:w2.cell? ⟨b,1,none⟩=some v:=by rw [Lib.cell_of_heap hb2];rfl
 have f1:w2.frozen? ⟨b,1,none⟩=false:=Lib.frozen_of_heap hb2 1
 obtain ⟨g,cap,hv'⟩:=Joins.ownsRow_form hown' (by omega)
 subst hv'
 have hne2:(Value.slice (some ⟨g,0,none⟩) (bs.length+1) cap).ownBlock≠some b:=Lib.ownBlock_ne hown' hb2 (by decide)
 have hs1:=hg1.size
 have HI:=hid (show WB w0 b sp (bs++[q]) (w2.setCell ⟨b,1,none⟩ (.slice (some ⟨g,0,none⟩) (bs.length+1) cap)) from
  ⟨⟨_,_,.inr rfl,by simp [World.setCell,Array.getElem?_modify,hb2];rfl,by
   have:=hown'.kept (grown_set (u:=.slice (some ⟨g,0,none⟩) (bs.length+1) cap) (o:=1)) (.inr hne2)
   simpa [Lib.byteCells] using this⟩,
   ((hold.alloc hold.size _).grown hgrow (by have:=hold.size;simp;omega) (fun k hk=>(hown.lt k hk).1)).setCell (p:=⟨b,1,none⟩) hnew _,hnew⟩)
 have HK:=hid (show Kw b W (w2.setCell ⟨b,1,none⟩ (.slice (some ⟨g,0,none⟩) (bs.length+1) cap)) from by
  refine ⟨hgrow.os.trans hg1.os,hgrow.tape.trans hg1.tape,hgrow.output.trans hg1.output,by have:=hgrow.size;simp [World.setCell] at this ⊢;omega, ?_⟩
  intro k hk hkb hk5
  rw [Below.heap_setCell _ _ _ _ hkb]
  have hk1:w1.heap[k]? = W.heap[k]?:=hg1.block k hk (by simpa using hkb)
  rw [hgrow.block k (by simp;omega) ?_,Below.heap_alloc w1 _ k (by omega)]
  ·exact hk1
  ·intro e
   rcases hown.2 with ⟨hv,_⟩|⟨g',cap',cur,hv,_,hgg,_⟩
   ·subst hv;simp [Value.ownBlock] at e
   ·subst hv
    simp [Value.ownBlock] at e
    subst e
    rw [hk1] at hgg
    exact hk5 _ _ hgg)
 clear hown' hgrow hown hg1 hbk hb2 c1 hs1 hold hne hne2
 go_wp2
 go_ret
 exact ⟨rfl,HI.out,HK.out⟩
set_option maxHeartbeats 2000000
set_option maxRecDepth 20000
structure Wx (sp sp':Bool) (bs bs':List UInt8) (n:Nat) (P:Prop) (l:List UInt8):Prop where
 len:bs'.length≤bs.length+n
 ok:sp'=false↔sp=false∧P
 out:sp'=false→bs'=bs++l
theorem Wx.trans {a b c:Bool} {x y z:List UInt8} {n m:Nat} {P Q:Prop} {l r:List UInt8} (h:Wx a b x y n P l) (k:Wx b c y z m Q r):Wx a c x z (n+m) (P∧Q) (l++r):=by
 refine ⟨by have:=h.len;have:=k.len;omega, ?_,fun e=>?_⟩
 ·rw [k.ok,h.ok,and_assoc]
 ·have h1:=k.ok.1 e
  rw [k.out e,h.out h1.1,List.append_assoc]
theorem Wx.to {a b:Bool} {x y:List UInt8} {n n':Nat} {P P':Prop} {l l':List UInt8} (h:Wx a b x y n P l) (hn:n≤n') (hp:P↔P') (hl:P'→l=l'):Wx a b x y n' P' l':=by
 refine ⟨by have:=h.len;omega,by rw [h.ok,hp],fun e=>?_⟩
 have h1:=h.ok.1 e
 rw [h.out e,hl (hp.1 h1.2)]
theorem Wx.nil {a:Bool} {x:List UInt8}:Wx a a x x 0 True []:=⟨by omega,by simp,fun _=>by simp⟩
def WP (w0:World) (b:Nat) (sp:Bool) (bs:List UInt8) (W:World) (n:Nat) (P:Prop) (l:List UInt8) (W':World):Prop:=∃ sp' bs',WB w0 b sp' bs' W'∧Kw b W W'∧Wx sp sp' bs bs' n P l
theorem WP.next {w0:World} {b:Nat} {sp sp':Bool} {bs bs':List UInt8} {W W1 W2:World} {n m:Nat} {P Q:Prop} {l r:List UInt8} (hk:Kw b W W1) (hx:Wx sp sp' bs bs' n P l) (h:WP w0 b sp' bs' W1 m Q r W2):WP w0 b sp bs W (n+m) (P∧Q) (l++r) W2:=by
 obtain ⟨s,t,h1,h2,h3⟩:=h
 exact ⟨s,t,h1,hk.trans h2,hx.trans h3⟩
theorem WP.to {w0:World} {b:Nat} {sp:Bool} {bs:List UInt8} {W W':World} {n n':Nat} {P P':Prop} {l l':List UInt8} (h:WP w0 b sp bs W n P l W') (hn:n≤n') (hp:P↔P') (hl:P'→l=l'):WP w0 b sp bs W n' P' l' W':=by
 obtain ⟨s,t,h1,h2,h3⟩:=h
 exact ⟨s,t,h1,h2,h3.to hn hp hl⟩
theorem wmust_any {w0:World} {b:Nat} {sp:Bool} {bs:List UInt8} {W:World} (h:WB w0 b sp bs W) (so:Bool) (P:Prop) (hP:so=true↔P) :
  Calls Tryz.prog 235 #[.pointer (some ⟨b,0,none⟩),.bool so] W fun e w'=>e=.returned (.tuple #[])∧WP w0 b sp bs W 0 P [] w':=by
 obtain ⟨p,v,h1,h2,h3⟩:=h.at_
 have c2:W.cell? ⟨b,2,none⟩=some (.bool sp):=by rw [Lib.cell_of_heap h2];rfl
 have f2:=Lib.frozen_of_heap h2 2
 cases so with
 | true=>
  have HW:=hid (show WP w0 b sp bs W 0 P [] W from ⟨sp,bs,h,Kw.refl _ _,by omega,by simp [hP.1 rfl],fun _=>by simp⟩)
  clear h h1 h2 h3 hP
  go_enter Tryz.func235,Tryz.ntmps235
  go_wp2
  go_end0
  exact ⟨rfl,HW.out⟩
 | false=>
  have hne:v.ownBlock≠some b:=Lib.ownBlock_ne h3 h2 (by decide)
  have HW:=hid (show WP w0 b sp bs W 0 P [] (W.setCell ⟨b,2,none⟩ (.bool true)) from ⟨true,bs,⟨⟨p,v,h1,by simp [World.setCell,Array.getElem?_modify,h2],h3.kept grown_set (.inr hne)⟩,h.old.setCell (p:=⟨b,2,none⟩) h.new _,h.new⟩,
   ⟨rfl,rfl,rfl,by simp [World.setCell],fun k hk hb _=>Below.heap_setCell _ _ _ _ hb⟩,by omega,by simp [(show ¬P from fun p=>by have:=hP.2 p;simp at this)],fun e=>by simp at e⟩)
  clear h h1 h2 h3 hne hP
  go_enter Tryz.func235,Tryz.ntmps235
  go_wp2
  go_end0
  exact ⟨rfl,HW.out⟩
theorem wone_any {w0:World} {b:Nat} {sp:Bool} {bs:List UInt8} {W:World} (n:Int) (h:WB w0 b sp bs W) (hl:bs.length≤900000) :
  Calls Tryz.prog 206 #[.pointer (some ⟨b,0,none⟩),.int .i64 n] W fun e w'=>e=.returned (.tuple #[])∧WP w0 b sp bs W 1 (in1 n) (one n) w':=by
 obtain ⟨so,hso⟩:∃ so:Bool,so=true↔in1 n:=by
  by_cases hi:in1 n
  ·exact ⟨true,by simp [hi]⟩
  ·exact ⟨false,by simp [hi]⟩
 have HM:=wmust_any h so (in1 n) hso
 have HH:=hid h
 have ht:=bt_toNat n
 have key:Calls Tryz.prog 206 #[.pointer (some ⟨b,0,none⟩),.int .i64 n] W fun e w'=>e=.returned (.tuple #[])∧WP w0 b sp bs W (0+1) (in1 n∧True) ([]++one n) w':=by
  cases so with
  | true=>
   have hi:=hso.1 rfl
   have q1:0≤n:=hi.1
   have q2:n≤255:=by have:=hi.2;omega
   clear h hso hi
   go_enter Tryz.func206,Tryz.ntmps206
   go_wp2_with fail
   refine HM.mono ?_
   rintro e w1 ⟨rfl,sp1,bs1,h1,k1,x1⟩
   go_wp2_with fail
   refine (wbyte_any h1 (bt n) _ (by rw [ht];omega) (by have:=x1.len;omega)).mono ?_
   rintro e w2 ⟨rfl,h2,k2⟩
   have HF:=hid (show WP w0 b sp bs W (0+1) (in1 n∧True) ([]++one n) w2 from WP.next k1 x1 ⟨sp1,bs1++[bt n],h2,k2,by simp,by simp,fun _=>rfl⟩)
   clear x1 h1 h2 k1 k2 HM
   go_wp2_with fail
   go_end0
   exact ⟨rfl,HF.out⟩
  | false=>
   have hi:¬in1 n:=fun e=>by have:=hso.2 e;simp at this
   have HI:=hid hi
   clear h hso hi
   by_cases q1:0≤n
   ·have q2:¬n≤255:=fun q=>HI.out ⟨q1,by omega⟩
    go_enter Tryz.func206,Tryz.ntmps206
    go_wp2_with fail
    refine HM.mono ?_
    rintro e w1 ⟨rfl,sp1,bs1,h1,k1,x1⟩
    go_wp2_with fail
    refine (wbyte_any h1 (bt n) _ (by rw [ht]) (by have:=x1.len;omega)).mono ?_
    rintro e w2 ⟨rfl,h2,k2⟩
    have HF:=hid (show WP w0 b sp bs W (0+1) (in1 n∧True) ([]++one n) w2 from WP.next k1 x1 ⟨sp1,bs1++[bt n],h2,k2,by simp,by simp,fun _=>rfl⟩)
    clear x1 h1 h2 k1 k2 HM
    go_wp2_with fail
    go_end0
    exact ⟨rfl,HF.out⟩
   ·go_enter Tryz.func206,Tryz.ntmps206
    go_wp2_with fail
    refine HM.mono ?_
    rintro e w1 ⟨rfl,sp1,bs1,h1,k1,x1⟩
    go_wp2_with fail
    refine (wbyte_any h1 (bt n) _ (by rw [ht]) (by have:=x1.len;omega)).mono ?_
    rintro e w2 ⟨rfl,h2,k2⟩
    have HF:=hid (show WP w0 b sp bs W (0+1) (in1 n∧True) ([]++one n) w2 from WP.next k1 x1 ⟨sp1,bs1++[bt n],h2,k2,by simp,by simp,fun _=>rfl⟩)
    clear x1 h1 h2 k1 k2 HM
    go_wp2_with fail
    go_end0
    exact ⟨rfl,HF.out⟩
 refine key.mono ?_
 rintro e w' ⟨rfl,hw⟩
 exact ⟨rfl,hw.to (by omega) (by simp) (fun _=>by simp)⟩
theorem bool_of (P:Prop):∃ so:Bool,so=true↔P:=by
 by_cases hi:P
 ·exact ⟨true,by simp [hi]⟩
 ·exact ⟨false,by simp [hi]⟩
theorem wtwo_any {w0:World} {b:Nat} {sp:Bool} {bs:List UInt8} {W:World} (n:Int) (h:WB w0 b sp bs W) (hl:bs.length≤900000) :
  Calls Tryz.prog 207 #[.pointer (some ⟨b,0,none⟩),.int .i64 n] W fun e w'=>e=.returned (.tuple #[])∧WP w0 b sp bs W 2 (in2 n) (two n) w':=by
 have HM:=fun so hso=>wmust_any h so (in2 n) hso
 have ht:=bt_toNat n
 have ht2:=bt_toNat (n / 256)
 have HH:=hid h
 have key:Calls Tryz.prog 207 #[.pointer (some ⟨b,0,none⟩),.int .i64 n] W fun e w'=>e=.returned (.tuple #[])∧WP w0 b sp bs W (0+2) (in2 n∧True) ([]++two n) w':=by
  by_cases hi:in2 n
  ·have HM1:=HM true (by simp [hi])
   have q1:0≤n:=hi.1
   have q2:n≤65535:=by have:=hi.2;omega
   clear h hi HM
   go_enter Tryz.func207,Tryz.ntmps207
   go_wp2_with fail
   refine HM1.mono ?_
   rintro e w1 ⟨rfl,sp1,bs1,h1,k1,x1⟩
   go_wp2_with fail
   refine (wbyte_any h1 (bt (n / 256)) _ (by rw [ht2];omega) (by have:=x1.len;omega)).mono ?_
   rintro e w2 ⟨rfl,h2,k2⟩
   go_wp2_with fail
   refine (wbyte_any h2 (bt n) _ (by rw [ht]) (by have:=x1.len;simp;omega)).mono ?_
   rintro e w3 ⟨rfl,h3,k3⟩
   have HF:=hid (show WP w0 b sp bs W (0+2) (in2 n∧True) ([]++two n) w3 from WP.next k1 x1 ⟨sp1,bs1++[bt (n / 256)]++[bt n],h3,k2.trans k3,by simp,by simp,fun _=>by simp [two]⟩)
   clear x1 h1 h2 h3 k1 k2 k3 HM1
   go_wp2_with fail
   go_end0
   exact ⟨rfl,HF.out⟩
  ·have HM1:=HM false (by simp [hi])
   have HI:=hid hi
   clear h hi HM
   by_cases q1:0≤n
   ·have q2:¬n≤65535:=fun q=>HI.out ⟨q1,by omega⟩
    go_enter Tryz.func207,Tryz.ntmps207
    go_wp2_with fail
    refine HM1.mono ?_
    rintro e w1 ⟨rfl,sp1,bs1,h1,k1,x1⟩
    go_wp2_with fail
    refine (wbyte_any h1 (bt (n / 256)) _ (by rw [ht2]) (by have:=x1.len;omega)).mono ?_
    rintro e w2 ⟨rfl,h2,k2⟩
    go_wp2_with fail
    refine (wbyte_any h2 (bt n) _ (by rw [ht]) (by have:=x1.len;simp;omega)).mono ?_
    rintro e w3 ⟨rfl,h3,k3⟩
    have HF:=hid (show WP w0 b sp bs W (0+2) (in2 n∧True) ([]++two n) w3 from WP.next k1 x1 ⟨sp1,bs1++[bt (n / 256)]++[bt n],h3,k2.trans k3,by simp,by simp,fun _=>by simp [two]⟩)
    clear x1 h1 h2 h3 k1 k2 k3 HM1
    go_wp2_with fail
    go_end0
    exact ⟨rfl,HF.out⟩
   ·go_enter Tryz.func207,Tryz.ntmps207
    go_wp2_with fail
    refine HM1.mono ?_
    rintro e w1 ⟨rfl,sp1,bs1,h1,k1,x1⟩
    go_wp2_with fail
    refine (wbyte_any h1 (bt (n / 256)) _ (by rw [ht2]) (by have:=x1.len;omega)).mono ?_
    rintro e w2 ⟨rfl,h2,k2⟩
    go_wp2_with fail
    refine (wbyte_any h2 (bt n) _ (by rw [ht]) (by have:=x1.len;simp;omega)).mono ?_
    rintro e w3 ⟨rfl,h3,k3⟩
    have HF:=hid (show WP w0 b sp bs W (0+2) (in2 n∧True) ([]++two n) w3 from WP.next k1 x1 ⟨sp1,bs1++[bt (n / 256)]++[bt n],h3,k2.trans k3,by simp,by simp,fun _=>by simp [two]⟩)
    clear x1 h1 h2 h3 k1 k2 k3 HM1
    go_wp2_with fail
    go_end0
    exact ⟨rfl,HF.out⟩
 refine key.mono ?_
 rintro e w' ⟨rfl,hw⟩
 exact ⟨rfl,hw.to (by omega) (by simp) (fun _=>by simp)⟩
theorem wcount_any {w0:World} {b:Nat} {sp:Bool} {bs:List UInt8} {W:World} (many:Nat) (most:Int) (h:WB w0 b sp bs W) (hl:bs.length≤900000) (hm:most≤255) (hn:many≤4611686018427387904) :
  Calls Tryz.prog 204 #[.pointer (some ⟨b,0,none⟩),.int .i64 many,.int .i64 most] W fun e w'=>e=.returned (.int .i64 (if (many:Int)≤most then (many:Int) else 0))∧WP w0 b sp bs W 1 ((many:Int)≤most) (one many) w':=by
 have HM:=fun so hso=>wmust_any h so ((many:Int)≤most) hso
 by_cases hi:(many:Int)≤most
 ·have HM1:=HM true (by simp [hi])
  have HI:=hid hi
  rw [if_pos hi]
  clear h HM
  go_enter Tryz.func204,Tryz.ntmps204
  go_wp2_with fail
  refine HM1.mono ?_
  rintro e w1 ⟨rfl,sp1,bs1,h1,k1,x1⟩
  go_wp2_with fail
  refine (wone_any _ h1 (by have:=x1.len;omega)).mono ?_
  rintro e w2 ⟨rfl,hw2⟩
  have HF:=hid (show WP w0 b sp bs W 1 ((many:Int)≤most) (one many) w2 from (WP.next k1 x1 hw2).to (by omega) (by unfold in1;constructor<;>intro q<;>omega) (fun _=>by simp))
  clear x1 h1 k1 hw2 HM1
  go_wp2_with fail
  go_ret
  exact ⟨rfl,HF.out⟩
 ·have HM1:=HM false (by simp [hi])
  have HI:=hid hi
  rw [if_neg hi]
  clear h HM
  go_enter Tryz.func204,Tryz.ntmps204
  go_wp2_with fail
  refine HM1.mono ?_
  rintro e w1 ⟨rfl,sp1,bs1,h1,k1,x1⟩
  have HF:=hid (show WP w0 b sp bs W 1 ((many:Int)≤most) (one many) w1 from ⟨sp1,bs1,h1,k1,by have:=x1.len;omega,x1.ok,fun e=>absurd (x1.ok.1 e).2 (by have:=HI.out;omega)⟩)
  clear x1 h1 k1 HM1
  go_wp2_with fail
  go_ret
  exact ⟨rfl,HF.out⟩
theorem wstr_any {w0:World} {b:Nat} {sp:Bool} {bs:List UInt8} {W:World} (s:ByteArray) (h:WB w0 b sp bs W) (hl:bs.length≤900000) (hs:s.size≤1000) :
  Calls Tryz.prog 203 #[.pointer (some ⟨b,0,none⟩),.string s] W fun e w'=>e=.returned (.tuple #[.int .i64 s.size,.nilIface])∧WB w0 b sp (bs++s.data.toList) w'∧Kw b W w':=by
 obtain ⟨i0,hi,hz0,hz1,hz2⟩:=info_parts info5
 have hnew:=h.new
 have HC:=wcopy_any h
 clear h
 go_enter Tryz.func203,Tryz.ntmps203
 go_wp2_with (first|(go_at_call 234;refine HC.mono ?_;rintro e w1 ⟨rfl,v,hbk,hown,hold,hg1⟩;have c1:w1.cell? ⟨b,1,none⟩=some v:=(by rw [Lib.cell_of_heap hbk];rfl))|(at_builtin;refine Lib.wpList_append_own_string _ rfl _ _ 146 9 rfl w0.heap.size 5 i0 Tryz.underlying146 Tryz.underlying9 hi hz0 hz1 hz2 _ _ _ rfl hown s rfl ?c3 ?c4 ?c5 ?_))
 case c3=>unfold maxLen;omega
 case c4=>omega
 case c5=>have:=hold.size;omega
 intro v' w2 hown' hgrow _
 have hlt:b<w1.heap.size:=(Array.getElem?_eq_some_iff.1 hbk).1
 have hne:v.ownBlock≠some b:=Lib.ownBlock_ne hown hbk (by decide)
 have hb2:w2.heap[b]? = some (.cells #[.pointer (some ⟨b,0,none⟩),v,.bool sp] 237 (0,0)):=by
  rw [hgrow.block b hlt (fun e=>hne e.symm)]
  exact hbk
 have d1:w2.cell? ⟨b,1,none⟩=some v:=by rw [Lib.cell_of_heap hb2];rfl
 have f1:w2.frozen? ⟨b,1,none⟩=false:=Lib.frozen_of_heap hb2 1
 obtain ⟨ao,cap,hv'⟩:=own_len hown'
 subst hv'
 have hne2:(Value.slice ao (bs.length+s.size) cap).ownBlock≠some b:=Lib.ownBlock_ne hown' hb2 (by decide)
 have hs1:=hg1.size
 have HI:=hid (show WB w0 b sp (bs++s.data.toList) (w2.setCell ⟨b,1,none⟩ (.slice ao (bs.length+s.size) cap)) from
  ⟨⟨_,_,.inr rfl,by simp [World.setCell,Array.getElem?_modify,hb2];rfl,by
   have:=hown'.kept (grown_set (u:=.slice ao (bs.length+s.size) cap) (o:=1)) (.inr hne2)
   have e1:(bs++s.data.toList).length=bs.length+s.size:=by simp
   have e2:Lib.byteCells (bs++s.data.toList)=Lib.byteCells bs++Lib.strCells s:=by simp [Lib.byteCells,Lib.strCells]
   rw [e1,e2]
   exact this⟩,
   (hold.grown hgrow hold.size (fun k hk=>(hown.lt k hk).1)).setCell (p:=⟨b,1,none⟩) hnew _,hnew⟩)
 have HK:=hid (show Kw b W (w2.setCell ⟨b,1,none⟩ (.slice ao (bs.length+s.size) cap)) from by
  refine ⟨hgrow.os.trans hg1.os,hgrow.tape.trans hg1.tape,hgrow.output.trans hg1.output,by have:=hgrow.size;simp [World.setCell] at this ⊢;omega, ?_⟩
  intro k hk hkb hk5
  rw [Below.heap_setCell _ _ _ _ hkb]
  have hk1:w1.heap[k]? = W.heap[k]?:=hg1.block k hk (by simpa using hkb)
  rw [hgrow.block k (by omega) ?_]
  ·exact hk1
  ·intro e
   rcases hown.2 with ⟨hv,_⟩|⟨g',cap',cur,hv,_,hgg,_⟩
   ·subst hv;simp [Value.ownBlock] at e
   ·subst hv
    simp [Value.ownBlock] at e
    subst e
    rw [hk1] at hgg
    exact hk5 _ _ hgg)
 clear hown' hgrow hown hg1 hbk hb2 c1 hs1 hold hne hne2
 go_wp2
 go_ret2
 exact ⟨rfl,HI.out,HK.out⟩
theorem WB.lt {w0:World} {b:Nat} {sp:Bool} {bs:List UInt8} {W:World} (h:WB w0 b sp bs W):b<W.heap.size:=by
 obtain ⟨p,v,h1,h2,h3⟩:=h.at_
 exact (Array.getElem?_eq_some_iff.1 h2).1
theorem WB.lk {w0:World} {b:Nat} {sp:Bool} {bs:List UInt8} {W:World} (h:WB w0 b sp bs W):∃ cs,Lk W b cs 237:=by
 obtain ⟨p,v,h1,h2,h3⟩:=h.at_
 exact ⟨_,h2⟩
theorem WB.alloc {w0:World} {b:Nat} {sp:Bool} {bs:List UInt8} {W:World} (h:WB w0 b sp bs W) (o:Obj):WB w0 b sp bs (W.alloc o):=h.keep ((Below.refl _ _).alloc (Nat.le_refl _) _)
theorem Kw.alloc (b:Nat) (W:World) (o:Obj):Kw b W (W.alloc o):=Kw.of_below ((Below.refl _ _).alloc (Nat.le_refl _) _)
theorem wtrap_any {w0:World} {b:Nat} {sp:Bool} {bs:List UInt8} {W:World} (t:MTrap) (h:WB w0 b sp bs W) (hl:bs.length≤800000) :
  Calls Tryz.prog 252 #[.pointer (some ⟨b,0,none⟩),.agg #[.int .i64 t.from_,.int .i64 t.to_,.int .i64 t.at_,.int .i64 t.cls]] W fun e w'=>e=.returned (.tuple #[])∧WP w0 b sp bs W 8 (fineT t) (putT t) w':=by
 obtain ⟨x0,x1,x2,x3⟩:=t
 have hb:=h.lt
 have h0:=h.alloc (.cells #[.int .i64 x0,.int .i64 x1,.int .i64 x2,.int .i64 x3] 140)
 have L0:=Lk.new W #[.int .i64 x0,.int .i64 x1,.int .i64 x2,.int .i64 x3] 140
 have K0:=Kw.alloc b W (.cells #[.int .i64 x0,.int .i64 x1,.int .i64 x2,.int .i64 x3] 140)
 clear h
 go_enter Tryz.func252,Tryz.ntmps252
 go_wp2_with fail
 refine (wtwo_any _ h0 (by omega)).mono ?_
 rintro e w1 ⟨rfl,sp1,bs1,h1,k1,z1⟩
 have L1:=k1.lk L0 (by omega) (by decide)
 obtain ⟨c0,c1,c2,c3,_⟩:=L1.c4
 have hl1:=z1.len
 clear h0 L0
 go_wp2_with fail
 refine (wtwo_any _ h1 (by omega)).mono ?_
 rintro e w2 ⟨rfl,sp2,bs2,h2,k2,z2⟩
 have L2:=k2.lk L1 (by omega) (by decide)
 clear c0 c1 c2 c3
 obtain ⟨c0,c1,c2,c3,_⟩:=L2.c4
 have hl2:=z2.len
 clear h1 L1
 go_wp2_with fail
 refine (wtwo_any _ h2 (by omega)).mono ?_
 rintro e w3 ⟨rfl,sp3,bs3,h3,k3,z3⟩
 have L3:=k3.lk L2 (by omega) (by decide)
 clear c0 c1 c2 c3
 obtain ⟨c0,c1,c2,c3,_⟩:=L3.c4
 have hl3:=z3.len
 clear h2 L2
 go_wp2_with fail
 refine (wtwo_any _ h3 (by omega)).mono ?_
 rintro e w4 ⟨rfl,sp4,bs4,h4,k4,z4⟩
 have HF:=hid (show WP w0 b sp bs W 8 (fineT ⟨x0,x1,x2,x3⟩) (putT ⟨x0,x1,x2,x3⟩) w4 from ⟨sp4,bs4,h4,(K0.trans k1).trans ((k2.trans k3).trans k4),(((z1.trans z2).trans z3).trans z4).to (by omega) (by unfold fineT;simp [and_assoc]) (fun _=>by simp [putT])⟩)
 clear h3 h4 k1 k2 k3 k4 z1 z2 z3 z4 K0 L3 c0 c1 c2 c3
 go_wp2_with fail
 go_end0
 exact ⟨rfl,HF.out⟩
theorem Lk.c3' {W:World} {C:Nat} {a b c:Value} {T:TypeId} (h:Lk W C #[a,b,c] T):W.cell? ⟨C,0,none⟩=some a∧W.cell? ⟨C,1,none⟩=some b∧W.cell? ⟨C,2,none⟩=some c:=⟨h.c 0 _ rfl,h.c 1 _ rfl,h.c 2 _ rfl⟩
theorem wfield_any {w0:World} {b:Nat} {sp:Bool} {bs:List UInt8} {W:World} (t:MField) (h:WB w0 b sp bs W) (hl:bs.length≤800000) :
  Calls Tryz.prog 208 #[.pointer (some ⟨b,0,none⟩),.agg #[.int .i64 t.flags,.int .i64 t.name,.int .i64 t.typ]] W fun e w'=>e=.returned (.tuple #[])∧WP w0 b sp bs W 5 (fineFd t) (putFd t) w':=by
 obtain ⟨x0,x1,x2⟩:=t
 have hb:=h.lt
 have h0:=h.alloc (.cells #[.int .i64 x0,.int .i64 x1,.int .i64 x2] 79)
 have L0:=Lk.new W #[.int .i64 x0,.int .i64 x1,.int .i64 x2] 79
 have K0:=Kw.alloc b W (.cells #[.int .i64 x0,.int .i64 x1,.int .i64 x2] 79)
 clear h
 go_enter Tryz.func208,Tryz.ntmps208
 go_wp2_with fail
 refine (wone_any _ h0 (by omega)).mono ?_
 rintro e w1 ⟨rfl,sp1,bs1,h1,k1,z1⟩
 have L1:=k1.lk L0 (by omega) (by decide)
 obtain ⟨c0,c1,c2⟩:=L1.c3'
 have hl1:=z1.len
 clear h0 L0
 go_wp2_with fail
 refine (wtwo_any _ h1 (by omega)).mono ?_
 rintro e w2 ⟨rfl,sp2,bs2,h2,k2,z2⟩
 have L2:=k2.lk L1 (by omega) (by decide)
 clear c0 c1 c2
 obtain ⟨c0,c1,c2⟩:=L2.c3'
 have hl2:=z2.len
 clear h1 L1
 go_wp2_with fail
 refine (wtwo_any _ h2 (by omega)).mono ?_
 rintro e w3 ⟨rfl,sp3,bs3,h3,k3,z3⟩
 have HF:=hid (show WP w0 b sp bs W 5 (fineFd ⟨x0,x1,x2⟩) (putFd ⟨x0,x1,x2⟩) w3 from ⟨sp3,bs3,h3,(K0.trans k1).trans (k2.trans k3),((z1.trans z2).trans z3).to (by omega) (by unfold fineFd;simp [and_assoc]) (fun _=>by simp [putFd])⟩)
 clear h2 h3 k1 k2 k3 z1 z2 z3 K0 L2 c0 c1 c2
 go_wp2_with fail
 go_end0
 exact ⟨rfl,HF.out⟩
theorem wkind_any {w0:World} {b:Nat} {sp:Bool} {bs:List UInt8} {W:World} (t:MKind) (h:WB w0 b sp bs W) (hl:bs.length≤800000) :
  Calls Tryz.prog 260 #[.pointer (some ⟨b,0,none⟩),.agg #[.int .i64 t.tag,.int .i64 t.cls]] W fun e w'=>e=.returned (.tuple #[])∧WP w0 b sp bs W 3 (fineK t) (putK t) w':=by
 obtain ⟨x,y⟩:=t
 have hb:=h.lt
 have h0:=h.alloc (.cells #[.int .i64 x,.int .i64 y] 144)
 have L0:=Lk.new W #[.int .i64 x,.int .i64 y] 144
 have K0:=Kw.alloc b W (.cells #[.int .i64 x,.int .i64 y] 144)
 clear h
 go_enter Tryz.func260,Tryz.ntmps260
 go_wp2_with fail
 refine (wmust_any h0 (decide (x≤3)) (x≤3) (by simp)).mono ?_
 rintro e w1 ⟨rfl,sp1,bs1,h1,k1,z1⟩
 have L1:=k1.lk L0 (by omega) (by decide)
 have c0:=L1.c 0 _ rfl
 have c1:=L1.c 1 _ rfl
 have hl1:=z1.len
 clear h0 L0
 go_wp2_with fail
 refine (wone_any _ h1 (by omega)).mono ?_
 rintro e w2 ⟨rfl,sp2,bs2,h2,k2,z2⟩
 have L2:=k2.lk L1 (by omega) (by decide)
 clear c0 c1
 have c0:w2.cell? ⟨W.heap.size,0,none⟩=some (.int .i64 x):=L2.c 0 _ rfl
 have c1:w2.cell? ⟨W.heap.size,1,none⟩=some (.int .i64 y):=L2.c 1 _ rfl
 have hl2:=z2.len
 have Z:=hid (z1.trans z2)
 have KK:=hid ((K0.trans k1).trans k2)
 clear h1 L1 z1 z2 K0 k1 k2
 by_cases h3:x=3
 ·subst h3
  go_wp2_with fail
  refine (wtwo_any _ h2 (by omega)).mono ?_
  rintro e w3 ⟨rfl,sp3,bs3,h3,k3,z3⟩
  have HF:=hid (show WP w0 b sp bs W 3 (fineK ⟨3,y⟩) (putK ⟨3,y⟩) w3 from ⟨sp3,bs3,h3,KK.out.trans k3,(Z.out.trans z3).to (by omega) (by unfold fineK;simp [in1]) (fun _=>by simp [putK])⟩)
  clear h2 h3 k3 z3 Z KK L2 c0 c1
  go_wp2_with fail
  refine bodyPost_ret (results_none (by rfl) _ _ _) rfl ?_
  exact ⟨rfl,HF.out⟩
 ·have e3:(x==3)=false:=by simpa using h3
  have HN:=hid h3
  clear h3
  go_wp2_with fail
  refine (wmust_any h2 (y==0) (y=0) (by simp)).mono ?_
  rintro e w3 ⟨rfl,sp3,bs3,h3,k3,z3⟩
  have HF:=hid (show WP w0 b sp bs W 3 (fineK ⟨x,y⟩) (putK ⟨x,y⟩) w3 from ⟨sp3,bs3,h3,KK.out.trans k3,(Z.out.trans z3).to (by omega) (by unfold fineK in1;simp only [HN.out,if_false];constructor<;>(rintro ⟨⟨q1,q2⟩,q3⟩;refine ⟨⟨?_, ?_⟩, ?_⟩<;>first|exact q3|omega)) (fun _=>by simp [putK,HN.out])⟩)
  clear h2 h3 k3 z3 Z KK L2 c0 c1
  go_wp2_with fail
  go_end0
  exact ⟨rfl,HF.out⟩
theorem WB.row {w0:World} {b:Nat} {sp:Bool} {bs:List UInt8} {W W':World} {B:Nat} {e:TypeId} {z n:Nat} {v:Value} {xs:List Value} (h:WB w0 b sp bs W) (k:Kw b W W') (ho:W.ownsRow B e z v n xs) (h5:e≠5) (hf:237≠e):W'.ownsRow B e z v n xs:=by
 obtain ⟨cs,hk⟩:=h.lk
 exact k.own ho h5 (own_ne ho hk hf)
theorem wkinds_any {w0:World} {b:Nat} {sp:Bool} {bs:List UInt8} {W:World} (v:Value) (ts:List MKind) (B:Nat) (h:WB w0 b sp bs W) (hl:bs.length≤700000) (hn:ts.length≤1048576) (ho:W.ownsRow B 144 2 v ts.length (rowKind ts)) :
  Calls Tryz.prog 258 #[.pointer (some ⟨b,0,none⟩),v] W fun e w'=>e=.returned (.tuple #[])∧WP w0 b sp bs W 25 (fineKs ts) (putKs ts) w':=by
 obtain ⟨ao,cap,hv⟩:=own_len ho
 subst hv
 have HO:=hid ho
 have HH:=hid h
 have HC:=wcount_any ts.length 8 h (by omega) (by omega) (by omega)
 clear h ho
 by_cases h8:ts.length≤8
 ·rw [if_pos (by omega)] at HC
  go_enter Tryz.func258,Tryz.ntmps258
  go_wp2_with fail
  refine HC.mono ?_
  rintro e w1 ⟨rfl,sp1,bs1,h1,k1,z1⟩
  have Z1:=hid (z1.to (n':=1) (P':=True) (l':=one ts.length) (by omega) (by simp;omega) (fun _=>rfl))
  have H1:=hid h1
  have K1:=hid k1
  clear HC h1 k1 z1
  go_wp2_with fail
  go_loopw [9,4] (fun c _ wr=>∃ (k:Nat) (s:Bool) (l:List UInt8),k≤ts.length∧c=.int .i64 k∧Hid (WB w0 b s l wr)∧Hid (Kw b W wr)∧Hid (Wx sp s bs l (1+3*k) (True∧∀ x∈ts.take k,fineK x) (one ts.length++(ts.take k).flatMap putK))) (fun c _ _=>ts.length - (intOf c).toNat)
  case atStart=>exact ⟨0,sp1,bs1,by omega,rfl,H1,K1,Z1.out.to (by omega) (by simp) (fun _=>by simp)⟩
  case round=>
   obtain ⟨k,s,l,hk,rfl,HW,HK,HX⟩:=hrel
   by_cases hlt:k<ts.length
   ·obtain ⟨g,hg⟩:=own_some HO.out (by omega)
    subst hg
    obtain ⟨x,y,hxy⟩:∃ x y,ts[k]=⟨x,y⟩:=⟨_,_,rfl⟩
    obtain ⟨ca,cb⟩:=kind_at (HH.out.row HK.out HO.out (by decide) (by decide)) hlt hxy
    have HXY:=hid hxy
    have HT:=hid (List.take_succ_eq_append_getElem hlt)
    have hxl:=HX.out.len
    have hcall:=wkind_any ⟨x,y⟩ HW.out (by omega)
    clear hxy
    go_wp2_with fail
    refine hcall.mono ?_
    rintro e w2 ⟨rfl,s2,l2,h2,k2,z2⟩
    have X2:=hid (show Wx sp s2 bs l2 (1+3*(k+1)) (True∧∀ x∈ts.take (k+1),fineK x) (one ts.length++(ts.take (k+1)).flatMap putK) from (HX.out.trans z2).to (by omega) (by
     rw [HT.out,HXY.out]
     simp only [List.mem_append,List.mem_singleton]
     constructor
     ·rintro ⟨⟨_,h1⟩,h2⟩
      exact ⟨trivial,fun q hq=>by rcases hq with hq|rfl;exact h1 q hq;exact h2⟩
     ·rintro ⟨_,h1⟩
      exact ⟨⟨trivial,fun q hq=>h1 q (.inl hq)⟩,h1 _ (.inr rfl)⟩) (fun _=>by rw [HT.out,HXY.out];simp))
    have H2:=hid h2
    have K2:=hid (HK.out.trans k2)
    clear h2 k2 z2 HW HK HX hcall
    go_wp2_with fail
    go_roundw
    case rel=>exact ⟨k+1,s2,l2,by omega,by go_num,H2,K2,X2⟩
    case measure=>simp [intOf];omega
   ·have hke:k=ts.length:=by omega
    have HF:=hid (show WP w0 b sp bs W 25 (fineKs ts) (putKs ts) wr from ⟨s,l,HW.out,HK.out,HX.out.to (by omega) (by
     rw [hke,List.take_length]
     show _↔(ts.length:Int)≤8∧_
     constructor
     ·rintro ⟨_,h⟩;exact ⟨by omega,h⟩
     ·rintro ⟨_,h⟩;exact ⟨trivial,h⟩) (fun _=>by rw [hke,List.take_length];rfl)⟩)
    clear HW HK HX
    go_wp2_with fail
    go_end0
    exact ⟨rfl,HF.out⟩
 ·rw [if_neg (by omega)] at HC
  go_enter Tryz.func258,Tryz.ntmps258
  go_wp2_with fail
  refine HC.mono ?_
  rintro e w1 ⟨rfl,sp1,bs1,h1,k1,z1⟩
  have HF:=hid (show WP w0 b sp bs W 25 (fineKs ts) (putKs ts) w1 from ⟨sp1,bs1,h1,k1,by have:=z1.len;omega,by
   rw [z1.ok]
   constructor
   ·rintro ⟨_,h⟩;omega
   ·rintro ⟨_,h⟩;have:=h.1;omega,fun e=>by have:=(z1.ok.1 e).2;omega⟩)
  clear HC h1 k1 z1
  go_wp2_with fail
  refine wp_loop_rounds 1 ?_
  rw [rounds_succ]
  go_wp2_with fail
  go_end0
  exact ⟨rfl,HF.out⟩
theorem wframe_any {w0:World} {b:Nat} {sp:Bool} {bs:List UInt8} {W:World} (x:SFrame) (f:MFrame) (B:Nat) (h:WB w0 b sp bs W) (hl:bs.length≤600000) (hf:f.few) (hw:FrameW W B x f) :
  Calls Tryz.prog 253 #[.pointer (some ⟨b,0,none⟩),.agg #[.int .i64 x.at_,x.l,x.s]] W fun e w'=>e=.returned (.tuple #[])∧WP w0 b sp bs W 52 (fineF f) (putF f) w':=by
 obtain ⟨a,vl,vs⟩:=x
 obtain ⟨a',ls,ss⟩:=f
 have ha:a=a':=hw.at_
 subst ha
 have hb:=h.lt
 obtain ⟨o1,k1,hv1⟩:=own_len hw.l
 obtain ⟨o2,k2,hv2⟩:=own_len hw.s
 simp only at hv1 hv2
 subst hv1 hv2
 have h0:=h.alloc (.cells #[.int .i64 a,.slice o1 ls.length k1,.slice o2 ss.length k2] 114)
 have L0:=Lk.new W #[.int .i64 a,.slice o1 ls.length k1,.slice o2 ss.length k2] 114
 have K0:=Kw.alloc b W (.cells #[.int .i64 a,.slice o1 ls.length k1,.slice o2 ss.length k2] 114)
 have R1:=hid hw.l
 have R2:=hid hw.s
 have HH:=hid h
 have f1:ls.length≤1048576:=hf.1
 have f2:ss.length≤1048576:=hf.2
 clear h hw hf
 go_enter Tryz.func253,Tryz.ntmps253
 go_wp2_with fail
 refine (wtwo_any _ h0 (by omega)).mono ?_
 rintro e w1 ⟨rfl,sp1,bs1,h1,k1x,z1⟩
 have L1:=k1x.lk L0 (by omega) (by decide)
 obtain ⟨c0,c1,c2⟩:=L1.c3'
 have hl1:=z1.len
 have KK1:=hid (K0.trans k1x)
 clear h0 L0 K0 k1x
 go_wp2_with fail
 refine (wkinds_any _ ls B h1 (by omega) f1 (HH.out.row KK1.out R1.out (by decide) (by decide))).mono ?_
 rintro e w2 ⟨rfl,sp2,bs2,h2,k2x,z2⟩
 have L2:=k2x.lk L1 (by omega) (by decide)
 clear c0 c1 c2
 obtain ⟨c0,c1,c2⟩:=L2.c3'
 have hl2:=z2.len
 have KK2:=hid (KK1.out.trans k2x)
 clear h1 L1 k2x
 go_wp2_with fail
 refine (wkinds_any _ ss B h2 (by omega) f2 (HH.out.row KK2.out R2.out (by decide) (by decide))).mono ?_
 rintro e w3 ⟨rfl,sp3,bs3,h3,k3x,z3⟩
 have HF:=hid (show WP w0 b sp bs W 52 (fineF ⟨a,ls,ss⟩) (putF ⟨a,ls,ss⟩) w3 from ⟨sp3,bs3,h3,KK2.out.trans k3x,((z1.trans z2).trans z3).to (by omega) (by unfold fineF;simp [and_assoc]) (fun _=>by simp [putF])⟩)
 clear h2 h3 k3x z1 z2 z3 KK1 KK2 L2 c0 c1 c2
 go_wp2_with fail
 go_end0
 exact ⟨rfl,HF.out⟩
theorem wname_any {w0:World} {b:Nat} {sp:Bool} {bs:List UInt8} {W:World} (s:ByteArray) (h:WB w0 b sp bs W) (hl:bs.length≤700000) (hs:s.size≤1048576) :
  Calls Tryz.prog 236 #[.pointer (some ⟨b,0,none⟩),.string s] W fun e w'=>e=.returned (.tuple #[])∧WP w0 b sp bs W 256 (in1 s.size) (one s.size++s.data.toList) w':=by
 have H1:=wone_any s.size h (by omega)
 clear h
 go_enter Tryz.func236,Tryz.ntmps236
 go_wp2_with fail
 refine H1.mono ?_
 rintro e w1 ⟨rfl,sp1,bs1,h1,k1,z1⟩
 obtain ⟨p,v,q1,q2,q3⟩:=h1.at_
 have c2:w1.cell? ⟨b,2,none⟩=some (.bool sp1):=by rw [Lib.cell_of_heap q2];rfl
 have hl1:=z1.len
 clear q1 q2 q3 H1
 cases sp1 with
 | true=>
  have HF:=hid (show WP w0 b sp bs W 256 (in1 s.size) (one s.size++s.data.toList) w1 from ⟨true,bs1,h1,k1,by omega,z1.ok,fun e=>by simp at e⟩)
  clear h1 k1 z1
  go_wp2_with fail
  go_end0
  exact ⟨rfl,HF.out⟩
 | false=>
  have hin:=(z1.ok.1 rfl).2
  have hz:s.size≤255:=by unfold in1 at hin;omega
  have HS:=wstr_any s h1 (by omega) (by omega)
  have Z1:=hid z1
  have K1:=hid k1
  have HI:=hid hin
  clear hin h1 k1 z1
  go_wp2_with fail
  refine HS.mono ?_
  rintro e w2 ⟨rfl,h2,k2⟩
  have HF:=hid (show WP w0 b sp bs W 256 (in1 s.size) (one s.size++s.data.toList) w2 from ⟨false,_,h2,K1.out.trans k2,by simp;omega,Z1.out.ok,fun _=>by rw [Z1.out.out rfl];simp⟩)
  clear h2 k2 HS
  go_wp2_with fail
  go_end0
  exact ⟨rfl,HF.out⟩
theorem wcode_any {w0:World} {b:Nat} {sp:Bool} {bs:List UInt8} {W:World} (s:ByteArray) (h:WB w0 b sp bs W) (hl:bs.length≤700000) (hs:s.size≤1048576) :
  Calls Tryz.prog 251 #[.pointer (some ⟨b,0,none⟩),.string s] W fun e w'=>e=.returned (.tuple #[])∧WP w0 b sp bs W 122 (fineCode s) (putCode s) w':=by
 have H0:=wmust_any h (decide ((s.size:Int)≤120)) ((s.size:Int)≤120) (by simp)
 clear h
 go_enter Tryz.func251,Tryz.ntmps251
 go_wp2_with fail
 refine H0.mono ?_
 rintro e w0x ⟨rfl,sp0,bs0,h0,k0,z0⟩
 have hl0:=z0.len
 clear H0
 go_wp2_with fail
 refine (wtwo_any _ h0 (by omega)).mono ?_
 rintro e w1 ⟨rfl,sp1,bs1,h1,k1,z1⟩
 have Z:=hid ((z0.trans z1).to (n':=2) (P':=fineCode s) (l':=two s.size) (by omega) (by unfold fineCode in2;constructor<;>(intro q;omega)) (fun _=>by simp))
 have hl1:=Z.out.len
 have K1:=hid (k0.trans k1)
 obtain ⟨p,v,q1,q2,q3⟩:=h1.at_
 have c2:w1.cell? ⟨b,2,none⟩=some (.bool sp1):=by rw [Lib.cell_of_heap q2];rfl
 clear q1 q2 q3 z0 z1 k0 k1 h0
 cases sp1 with
 | true=>
  have HF:=hid (show WP w0 b sp bs W 122 (fineCode s) (putCode s) w1 from ⟨true,bs1,h1,K1.out,by omega,Z.out.ok,fun e=>by simp at e⟩)
  clear h1
  go_wp2_with fail
  go_end0
  exact ⟨rfl,HF.out⟩
 | false=>
  have hin:=(Z.out.ok.1 rfl).2
  have hz:s.size≤120:=by unfold fineCode at hin;omega
  have HS:=wstr_any s h1 (by omega) (by omega)
  clear hin h1
  go_wp2_with fail
  refine HS.mono ?_
  rintro e w2 ⟨rfl,h2,k2⟩
  have HF:=hid (show WP w0 b sp bs W 122 (fineCode s) (putCode s) w2 from ⟨false,_,h2,K1.out.trans k2,by simp;omega,Z.out.ok,fun _=>by rw [Z.out.out rfl];simp [putCode]⟩)
  clear h2 k2 HS
  go_wp2_with fail
  go_end0
  exact ⟨rfl,HF.out⟩
def hasB (n:Int):Bool:=bits BinOp.and IntKind.i64 n 8==0
theorem whas_any (n:Int) (w:World):Calls Tryz.prog 148 #[.int .i64 n] w fun e w'=>e=.returned (.bool (hasB n))∧w'=w:=by
 go_enter Tryz.func148,Tryz.ntmps148
 go_wp2
 go_ret
 exact ⟨rfl,rfl⟩
theorem hasB_in {n:Int} (h:in1 n):hasB n=decide (¬absF n):=by
 have key:∀ k:Fin 256,hasB ((k.val:Nat):Int)=decide (¬absF ((k.val:Nat):Int)):=by decide +kernel
 have:=key ⟨n.toNat,by unfold in1 at h;omega⟩
 rwa [show (((⟨n.toNat,by unfold in1 at h;omega⟩:Fin 256).val:Nat):Int)=n by unfold in1 at h;simp;omega] at this
theorem empty_iff (x:ByteArray):(x.toList==[])=true↔x=empty:=by
 rw [beq_iff_eq,ByteArray.toList_eq]
 constructor
 ·intro e;exact ByteArray.ext (Array.ext' e)
 ·intro e;rw [e];rfl
theorem wentry_any {w0:World} {b:Nat} {sp:Bool} {bs:List UInt8} {W:World} (t:C4) (h:WB w0 b sp bs W) (hl:bs.length≤600000) (hs:t.text.size≤1048576) :
  Calls Tryz.prog 205 #[.pointer (some ⟨b,0,none⟩),.agg #[.int .i64 t.kind,.string t.text,.int .i64 t.a,.int .i64 t.b]] W fun e w'=>e=.returned (.tuple #[])∧WP w0 b sp bs W 257 (fineE t) (putE t) w':=by
 obtain ⟨k,x,y,z⟩:=t
 have hs:x.size≤1048576:=hs
 have hb:=h.lt
 have h0:=h.alloc (.cells #[.int .i64 k,.string x,.int .i64 y,.int .i64 z] 40)
 have L0:=Lk.new W #[.int .i64 k,.string x,.int .i64 y,.int .i64 z] 40
 have K0:=Kw.alloc b W (.cells #[.int .i64 k,.string x,.int .i64 y,.int .i64 z] 40)
 clear h
 go_enter Tryz.func205,Tryz.ntmps205
 go_wp2_with fail
 refine (wone_any _ h0 (by omega)).mono ?_
 rintro e w1 ⟨rfl,sp1,bs1,h1,k1,z1⟩
 have L1:=k1.lk L0 (by omega) (by decide)
 obtain ⟨c0,c1,c2,c3,_⟩:=L1.c4
 have hl1:=z1.len
 have Z1:=hid z1
 have KK:=hid (K0.trans k1)
 clear h0 L0 K0 k1 z1
 by_cases q1:k=1
 ·subst q1
  obtain ⟨so,hso⟩:=bool_of (y=0∧z=0)
  by_cases hy:y=0
  ·go_wp2_with fail
   refine (wmust_any h1 (z==0) (y=0∧z=0) (by simp [hy])).mono ?_
   rintro e w2 ⟨rfl,sp2,bs2,h2,k2,z2⟩
   have L2:=k2.lk L1 (by omega) (by decide)
   clear c0 c1 c2 c3
   obtain ⟨c0,c1,c2,c3,_⟩:=L2.c4
   have hl2:=z2.len
   clear h1 L1
   go_wp2_with fail
   refine (wname_any _ h2 (by omega) hs).mono ?_
   rintro e w3 ⟨rfl,sp3,bs3,h3,k3,z3⟩
   have HF:=hid (show WP w0 b sp bs W 257 (fineE ⟨1,x,y,z⟩) (putE ⟨1,x,y,z⟩) w3 from ⟨sp3,bs3,h3,(KK.out.trans k2).trans k3,((Z1.out.trans z2).trans z3).to (by omega) (by unfold fineE fineE2;simp [in1];constructor<;>(rintro ⟨h1,h2⟩;simp_all)) (fun _=>by simp [putE])⟩)
   clear h2 h3 k2 k3 z2 z3 Z1 KK L2 c0 c1 c2 c3
   go_wp2_with fail
   go_end0
   exact ⟨rfl,HF.out⟩
  ·have hy':(y==0)=false:=by simpa using hy
   have HY:=hid hy
   clear hy
   go_wp2_with fail
   refine (wmust_any h1 false (y=0∧z=0) (by simp [HY.out])).mono ?_
   rintro e w2 ⟨rfl,sp2,bs2,h2,k2,z2⟩
   have L2:=k2.lk L1 (by omega) (by decide)
   clear c0 c1 c2 c3
   obtain ⟨c0,c1,c2,c3,_⟩:=L2.c4
   have hl2:=z2.len
   clear h1 L1
   go_wp2_with fail
   refine (wname_any _ h2 (by omega) hs).mono ?_
   rintro e w3 ⟨rfl,sp3,bs3,h3,k3,z3⟩
   have HF:=hid (show WP w0 b sp bs W 257 (fineE ⟨1,x,y,z⟩) (putE ⟨1,x,y,z⟩) w3 from ⟨sp3,bs3,h3,(KK.out.trans k2).trans k3,((Z1.out.trans z2).trans z3).to (by omega) (by unfold fineE fineE2;simp [in1,HY.out]) (fun _=>by simp [putE])⟩)
   clear h2 h3 k2 k3 z2 z3 Z1 KK L2 c0 c1 c2 c3
   go_wp2_with fail
   go_end0
   exact ⟨rfl,HF.out⟩
 ·have e1:(k==1)=false:=by simpa using q1
  by_cases q2:k=2
  ·subst q2
   by_cases he:x.toList=[]
   ·have HXe:=hid (show x=empty from (empty_iff x).1 (by simpa using he))
    go_wp2_with fail
    refine (wmust_any h1 (z==0) (x=empty∧z=0) (by simp [HXe.out])).mono ?_
    rintro e w2 ⟨rfl,sp2,bs2,h2,k2,z2⟩
    have L2:=k2.lk L1 (by omega) (by decide)
    clear c0 c1 c2 c3
    obtain ⟨c0,c1,c2,c3,_⟩:=L2.c4
    have hl2:=z2.len
    clear h1 L1
    go_wp2_with fail
    refine (wtwo_any _ h2 (by omega)).mono ?_
    rintro e w3 ⟨rfl,sp3,bs3,h3,k3,z3⟩
    have HF:=hid (show WP w0 b sp bs W 257 (fineE ⟨2,x,y,z⟩) (putE ⟨2,x,y,z⟩) w3 from ⟨sp3,bs3,h3,(KK.out.trans k2).trans k3,((Z1.out.trans z2).trans z3).to (by omega) (by unfold fineE fineE2;simp only [show ¬(2:Int)=1 by omega,if_false,if_true];exact ⟨fun ⟨⟨a,b,c⟩,d⟩=>⟨a,b,d,c⟩,fun ⟨a,b,d,c⟩=>⟨⟨a,b,c⟩,d⟩⟩) (fun _=>by simp [putE])⟩)
    clear h2 h3 k2 k3 z2 z3 Z1 KK L2 c0 c1 c2 c3
    go_wp2_with fail
    go_end0
    exact ⟨rfl,HF.out⟩
   ·have HXe:=hid (show ¬x=empty from fun e=>he (by have:=(empty_iff x).2 e;simpa using this))
    go_wp2_with fail
    refine (wmust_any h1 false (x=empty∧z=0) (by simp [HXe.out])).mono ?_
    rintro e w2 ⟨rfl,sp2,bs2,h2,k2,z2⟩
    have L2:=k2.lk L1 (by omega) (by decide)
    clear c0 c1 c2 c3
    obtain ⟨c0,c1,c2,c3,_⟩:=L2.c4
    have hl2:=z2.len
    clear h1 L1
    go_wp2_with fail
    refine (wtwo_any _ h2 (by omega)).mono ?_
    rintro e w3 ⟨rfl,sp3,bs3,h3,k3,z3⟩
    have HF:=hid (show WP w0 b sp bs W 257 (fineE ⟨2,x,y,z⟩) (putE ⟨2,x,y,z⟩) w3 from ⟨sp3,bs3,h3,(KK.out.trans k2).trans k3,((Z1.out.trans z2).trans z3).to (by omega) (by unfold fineE fineE2;simp only [show ¬(2:Int)=1 by omega,if_false,if_true];exact ⟨fun ⟨⟨a,b,c⟩,d⟩=>⟨a,b,d,c⟩,fun ⟨a,b,d,c⟩=>⟨⟨a,b,c⟩,d⟩⟩) (fun _=>by simp [putE])⟩)
    clear h2 h3 k2 k3 z2 z3 Z1 KK L2 c0 c1 c2 c3
    go_wp2_with fail
    go_end0
    exact ⟨rfl,HF.out⟩
  ·have e2:(k==2)=false:=by simpa using q2
   by_cases q3:3≤k∧k≤6
   ·have HQ:=hid (show fineE ⟨k,x,y,z⟩↔(((in1 k∧x=empty)∧in2 y)∧in2 z) from by
     unfold fineE fineE2
     simp only [q1,q2,q3,if_false,and_self,if_true]
     constructor
     ·rintro ⟨a,b,c,d⟩;exact ⟨⟨⟨a,b⟩,c⟩,d⟩
     ·rintro ⟨⟨⟨a,b⟩,c⟩,d⟩;exact ⟨a,b,c,d⟩)
    have HP:=hid (show putE ⟨k,x,y,z⟩=one k++(two y++two z) from by simp [putE,q1,q2])
    have k4:k=3∨k=4∨k=5∨k=6:=by omega
    clear q1 q2 q3 e1 e2
    rcases k4 with rfl|rfl|rfl|rfl
    all_goals
     go_wp2_with fail
     refine (wmust_any h1 x.toList.isEmpty (x=empty) (by rw [← empty_iff];simp)).mono ?_
     rintro e w2 ⟨rfl,sp2,bs2,h2,k2,z2⟩
     have L2:=k2.lk L1 (by omega) (by decide)
     clear c0 c1 c2 c3
     obtain ⟨c0,c1,c2,c3,_⟩:=L2.c4
     have hl2:=z2.len
     clear h1 L1
     go_wp2_with fail
     refine (wtwo_any _ h2 (by omega)).mono ?_
     rintro e w3 ⟨rfl,sp3,bs3,h3,k3,z3⟩
     have L3:=k3.lk L2 (by omega) (by decide)
     clear c0 c1 c2 c3
     obtain ⟨c0,c1,c2,c3,_⟩:=L3.c4
     have hl3:=z3.len
     clear h2 L2
     go_wp2_with fail
     refine (wtwo_any _ h3 (by omega)).mono ?_
     rintro e w4 ⟨rfl,sp4,bs4,h4,k4,z4⟩
     have HF:=hid (show WP w0 b sp bs W 257 (fineE ⟨_,x,y,z⟩) (putE ⟨_,x,y,z⟩) w4 from ⟨sp4,bs4,h4,((KK.out.trans k2).trans k3).trans k4,(((Z1.out.trans z2).trans z3).trans z4).to (by omega) HQ.out.symm (fun _=>by rw [HP.out];simp)⟩)
     clear h3 h4 k2 k3 k4 z2 z3 z4 Z1 KK L3 c0 c1 c2 c3
     go_wp2_with fail
     go_end0
     exact ⟨rfl,HF.out⟩
   ·have HNf:=hid (show ¬fineE ⟨k,x,y,z⟩ from by
     unfold fineE fineE2
     simp [q1,q2,q3])
    have e3:(k==3)=false:=by rw [beq_eq_false_iff_ne];omega
    have e4:(k==4)=false:=by rw [beq_eq_false_iff_ne];omega
    have e5:(k==5)=false:=by rw [beq_eq_false_iff_ne];omega
    have e6:(k==6)=false:=by rw [beq_eq_false_iff_ne];omega
    clear q1 q2 q3
    go_wp2_with fail
    refine (wmust_any h1 false False (by simp)).mono ?_
    rintro e w2 ⟨rfl,sp2,bs2,h2,k2,z2⟩
    have HF:=hid (show WP w0 b sp bs W 257 (fineE ⟨k,x,y,z⟩) (putE ⟨k,x,y,z⟩) w2 from ⟨sp2,bs2,h2,KK.out.trans k2,(Z1.out.trans z2).to (by omega) (by simp [HNf.out]) (fun q=>absurd q HNf.out)⟩)
    clear h1 h2 k2 z2 Z1 KK L1 c0 c1 c2 c3
    go_wp2_with fail
    go_end0
    exact ⟨rfl,HF.out⟩
end Go.Proofs.YtecbcdfkedocbaaGreatDoor
