/- The program's copies of frames: whole. Printed by tools/gen/axframe.py. -/
import Derived.Test.YtecbcdfkedocbaaGreatDoorC1
import Derived.Test.YtecbcdfkedocbaaGreatDoorK01
import Derived.Test.YtecbcdfkedocbaaGreatDoorG02
import Derived.Test.YtecbcdfkedocbaaGreatDoorC4
import Derived.Deep.RegionHeld
namespace Go.Proofs.YtecbcdfkedocbaaGreatDoor
open Mx Go.RowKit
set_option maxHeartbeats 2000000
set_option maxRecDepth 20000
set_option linter.unusedVariables false
theorem Lk.x3 {W:World} {g:Nat} {a b c:Value} {T:TypeId} (h:Lk W g #[a,b,c] T):(W.cell? ⟨g,0,none⟩=some a∧W.cell? ⟨g,1,none⟩=some b∧W.cell? ⟨g,2,none⟩=some c)∧W.frozen? ⟨g,0,none⟩=false∧W.frozen? ⟨g,1,none⟩=false∧W.frozen? ⟨g,2,none⟩=false:=
 ⟨⟨h.c 0 _ rfl,h.c 1 _ rfl,h.c 2 _ rfl⟩,h.z 0,h.z 1,h.z 2⟩
theorem one_kind (ts:List MKind):∀ u∈rowKind ts,u.oneCell'=true:=by
 intro u hu
 unfold rowKind at hu
 obtain ⟨t,_,ht⟩:=List.mem_flatMap.1 hu
 simp [cellsKind] at ht
 rcases ht with rfl|rfl<;>rfl
theorem one_trap (ts:List MTrap):∀ u∈rowTrap ts,u.oneCell'=true:=by
 intro u hu
 unfold rowTrap at hu
 obtain ⟨t,_,ht⟩:=List.mem_flatMap.1 hu
 simp [cellsTrap] at ht
 rcases ht with rfl|rfl|rfl|rfl<;>rfl
theorem one_field (ts:List MField):∀ u∈rowField ts,u.oneCell'=true:=by
 intro u hu
 unfold rowField at hu
 obtain ⟨t,_,ht⟩:=List.mem_flatMap.1 hu
 simp [cellsField] at ht
 rcases ht with rfl|rfl|rfl<;>rfl
theorem Kp.old {W W':World} {B:Nat} (e0:TypeId) (h:Below W.heap.size W W'):Kp W W' B e0:=fun e z v n xs _ ho=>own_below ho h
theorem FX.keep {W W':World} {B:Nat} {v:Value} {fs:List MFrame} {us:List SFrame} (h:FX W B v fs us) (hb:Below W.heap.size W W'):FX W' B v fs us:=
 ⟨h.len,own_below h.row hb,fun k a b=>(h.each k a b).keep hb⟩
theorem FX.low {W:World} {B:Nat} {v:Value} {fs:List MFrame} {us:List SFrame} (h:FX W B v fs us) {a:Addr} (ha:a.block<B) (u:Value):FX (W.setCell a u) B v fs us:=
 ⟨h.len,ownsRow_setCell_below h.row ha u,fun k p q=>(h.each k p q).set ha u⟩
theorem FX.nil (W:World) (B:Nat):FX W B (.slice none 0 0) [] []:=⟨rfl,World.ownsRow_nil _ _ _ _,fun k hk=>by simp at hk⟩
theorem FX.rowk {W:World} {B k:Nat} {v:Value} {fs:List MFrame} {us:List SFrame} (h:FX W B v (fs.take k) us) (hk:k≤fs.length):W.ownsRow B 114 3 v k (rowFrame us):=by
 have:=h.row
 rwa [List.length_take,Nat.min_eq_left hk] at this
theorem copyFrame_any (x:Int) (a1 a2:Option Addr) (n1 k1 n2 k2 B:Nat) (t1 t2:List MKind) (w:World) (hn1:n1≤1048576) (hn2:n2≤1048576) (h1:w.ownsRow B 144 2 (.slice a1 n1 k1) n1 (rowKind t1)) (h2:w.ownsRow B 144 2 (.slice a2 n2 k2) n2 (rowKind t2)) :
  Calls Tryz.prog 100 #[.agg #[.int .i64 x,.slice a1 n1 k1,.slice a2 n2 k2]] w fun e w'=>∃ b1 j1 b2 j2,e=.returned (.agg #[.int .i64 x,.slice b1 n1 j1,.slice b2 n2 j2])∧w'.ownsRow w.heap.size 144 2 (.slice b1 n1 j1) n1 (rowKind t1)∧w'.ownsRow w.heap.size 144 2 (.slice b2 n2 j2) n2 (rowKind t2)∧Apart [.slice b1 n1 j1,.slice b2 n2 j2]∧Below w.heap.size w w':=by
 have P0:=HB.two w #[.int .i64 x,.slice a1 n1 k1,.slice a2 n2 k2] #[.int .i64 0,.slice none 0 0,.slice none 0 0] 114 114
 have HC1:=fun W (hW:HB w [(w.heap.size+1,#[.int .i64 0,.slice none 0 0,.slice none 0 0],114),(w.heap.size,#[.int .i64 x,.slice a1 n1 k1,.slice a2 n2 k2],114)] W)=>cloneKind_any _ _ _ _ W hn1 (one_kind _) (own_below h1 hW.b)
 have HC2:=fun W (hW:HB w [(w.heap.size+1,#[.int .i64 0,.slice none 0 0,.slice none 0 0],114),(w.heap.size,#[.int .i64 x,.slice a1 n1 k1,.slice a2 n2 k2],114)] W)=>cloneKind_any _ _ _ _ W hn2 (one_kind _) (own_below h2 hW.b)
 go_enter Tryz.func100,Tryz.ntmps100
 go_upto_region 1 with fail
 have PD:=P0.keep (show Below _ _ _ from (Below.refl _ _).drew)
 clear P0 h1 h2
 obtain ⟨⟨e0,e1,e2⟩, -⟩:=PD.tl.hd.x3
 obtain ⟨⟨m0,m1,m2⟩,z0,z1,z2⟩:=PD.hd.x3
 have hne:¬w.heap.size=w.heap.size+1:=by omega
 go_region_held (fun w'=>w'.cell? ⟨w.heap.size,0,none⟩=some (.int .i64 x)∧w'.cell? ⟨w.heap.size,1,none⟩=some (.slice a1 n1 k1)∧w'.cell? ⟨w.heap.size,2,none⟩=some (.slice a2 n2 k2)) (refine ⟨?_, ?_, ?_⟩<;>first|with_reducible assumption|go_cell) (first
  | (go_at_call_of 101 (Value.slice a1 n1 k1);refine (HC1 _ (by with_reducible assumption)).mono ?_;rintro e w8 ⟨v8,rfl,ho8,hb8⟩;obtain ⟨b8,j8,rfl⟩:=own_len ho8;have P8:=HB.keep (by with_reducible assumption) hb8;have O8:=hid (Joins.ownsRow_le ho8 (show w.heap.size+2≤_ by simp));have hs8:w.heap.size+2≤w8.heap.size:=(by have:=P8.hd.lt;omega);obtain ⟨⟨e0,e1,e2⟩, -⟩:=P8.tl.hd.x3;obtain ⟨⟨m0,m1,m2⟩,z0,z1,z2⟩:=P8.hd.x3)
  | (go_at_call_of 101 (Value.slice a2 n2 k2);refine (HC2 _ (by with_reducible assumption)).mono ?_;rintro e w9 ⟨v9,rfl,ho9,hb9⟩;obtain ⟨b9,j9,rfl⟩:=own_len ho9;have P9:=HB.keep (by with_reducible assumption) hb9;have HA:=hid ((apart_one (Value.slice b8 n1 j8)).app (apart_one (Value.slice b9 n2 j9)) (under_row O8.out) (over_row ho9));have O9:=hid (own_below O8.out hb9);have Z9:=hid (Joins.ownsRow_le ho9 hs8);obtain ⟨⟨e0,e1,e2⟩, -⟩:=P9.tl.hd.x3;obtain ⟨⟨m0,m1,m2⟩,z0,z1,z2⟩:=P9.hd.x3))
 have HBX:=hid (HB.b (by assumption))
 clear PD HC1 HC2
 go_wp2
 refine bodyPost_ret (v:=.agg #[.int .i64 x,.slice b8 n1 j8,.slice b9 n2 j9]) (by simp [results,Tryz.results100,go_sem, *]) rfl ⟨_,_,_,_,rfl, ?_, ?_,HA.out, ?_⟩
 ·exact Joins.ownsRow_le (ownsRow_setCell_below (ownsRow_setCell_below (ownsRow_setCell_below O9.out (a:=⟨w.heap.size+1,0,none⟩) (by simp) _) (a:=⟨w.heap.size+1,1,none⟩) (by simp) _) (a:=⟨w.heap.size+1,2,none⟩) (by simp) _) (by omega)
 ·exact Joins.ownsRow_le (ownsRow_setCell_below (ownsRow_setCell_below (ownsRow_setCell_below Z9.out (a:=⟨w.heap.size+1,0,none⟩) (by simp) _) (a:=⟨w.heap.size+1,1,none⟩) (by simp) _) (a:=⟨w.heap.size+1,2,none⟩) (by simp) _) (by omega)
 ·exact ((HBX.out.setCell (by simp) _).setCell (by simp) _).setCell (by simp) _
theorem copyFrames_any (v:Value) (fs:List MFrame) (B:Nat) (w:World) (hl:fs.length≤1048576) (hf:∀ f∈fs,f.few) (h:FramesW w B v fs) :
  Calls Tryz.prog 99 #[v,.func (.func 100) #[] #[]] w fun e w'=>∃ v' us,e=.returned v'∧FX w' w.heap.size v' fs us∧Apart (kb us)∧Below w.heap.size w w':=by
 obtain ⟨ys,hyl,hyo,hye⟩:=h
 have HC:=hid (fun k (hk:k<fs.length) (hk':k<ys.length)=>show ∃ a1 k1 a2 k2,ys[k]=⟨fs[k].at_,.slice a1 fs[k].locals.length k1,.slice a2 fs[k].stack.length k2⟩∧∀ W,Below w.heap.size w W→Calls Tryz.prog 100 #[.agg #[.int .i64 fs[k].at_,.slice a1 fs[k].locals.length k1,.slice a2 fs[k].stack.length k2]] W (fun e w'=>∃ b1 j1 b2 j2,e=.returned (.agg #[.int .i64 fs[k].at_,.slice b1 fs[k].locals.length j1,.slice b2 fs[k].stack.length j2])∧w'.ownsRow W.heap.size 144 2 (.slice b1 fs[k].locals.length j1) fs[k].locals.length (rowKind fs[k].locals)∧w'.ownsRow W.heap.size 144 2 (.slice b2 fs[k].stack.length j2) fs[k].stack.length (rowKind fs[k].stack)∧Apart [.slice b1 fs[k].locals.length j1,.slice b2 fs[k].stack.length j2]∧Below W.heap.size W w') from by
  have hw:=hye k hk hk'
  obtain ⟨a1,k1,e1⟩:=own_len hw.l
  obtain ⟨a2,k2,e2⟩:=own_len hw.s
  have hq:=hf _ (List.getElem_mem hk)
  refine ⟨a1,k1,a2,k2,by rw [← e1,← e2,← hw.at_],fun W hW=>copyFrame_any _ _ _ _ _ _ _ B _ _ W hq.1 hq.2 (by rw [← e1];exact own_below hw.l hW) (by rw [← e2];exact own_below hw.s hW)⟩)
 obtain ⟨i0,hi,hz0,hz1,hz2⟩:=info_parts infoFrame
 obtain ⟨ao,cap,rfl⟩:=own_len hyo
 have HO:=hid hyo
 have HYL:=hid hyl
 clear hyo hye hf hyl
 go_enter Tryz.func99,Tryz.ntmps99
 go_wp2
 go_loopw [5,10] (fun o i wr=>∃ (k:Nat) (us:List SFrame),k≤fs.length∧i=.int .i64 k∧Hid (FX wr w.heap.size o (fs.take k) us)∧Hid (Apart (kb us))∧Below w.heap.size w wr) (fun _ i _=>fs.length - (intOf i).toNat)
 case atStart=>exact ⟨0,[],by omega,by first|rfl|go_num,FX.nil _ _,Apart.nil,Below.refl _ _⟩
 case round=>
  obtain ⟨k,us,hk,rfl,hfx,HAP,hbel⟩:=hrel
  have hown:=hfx.out.rowk hk
  obtain ⟨ao',cap',rfl⟩:=own_len hown
  by_cases hlt:k<fs.length
  ·obtain ⟨g,hg⟩:=own_some HO.out (by omega)
   subst hg
   obtain ⟨c0,c1,c2⟩:=ownFrame_at (own_below HO.out hbel) (k:=k) HYL.out (by rw [HYL.out];exact hlt)
   have hgl:=((own_below HO.out hbel).lt g rfl).2
   obtain ⟨a1,k1,a2,k2,he,hC0⟩:=HC.out k hlt (by rw [HYL.out];exact hlt)
   rw [he] at c0 c1 c2
   dsimp only at c0 c1 c2
   have HTK:=hid (show fs.take (k+1)=fs.take k++[fs[k]] from List.take_succ_eq_append_getElem hlt)
   generalize fs[k]=f at c0 c1 c2 hC0 HTK
   have HC0:=hid hC0
   have z5:(k:Int)<(fs.length:Int):=by omega
   have HW:=hid hown
   have HBL:=hid hbel
   have hsz:=hbel.size
   clear hown hbel he hC0
   go_wp2_with fail
   refine (HC0.out _ (HBL.out.trans ((by go_grown:Below wr.heap.size wr _).mono hsz))).mono ?_
   rintro e w2 ⟨b1,j1,b2,j2,rfl,ho1,ho2,ha2,hb2⟩
   have hb3:Below wr.heap.size wr w2:=(by go_grown:Below wr.heap.size wr _).trans (hb2.mono (by simp))
   have HF2:=hid (show FrameW w2 wr.heap.size ⟨f.at_,.slice b1 f.locals.length j1,.slice b2 f.stack.length j2⟩ f from ⟨rfl,Joins.ownsRow_le ho1 (by simp),Joins.ownsRow_le ho2 (by simp)⟩)
   have HA2:=hid (show Apart (kb (us++[⟨f.at_,.slice b1 f.locals.length j1,.slice b2 f.stack.length j2⟩])) from by
    rw [kb_snoc]
    exact HAP.out.app ha2 hfx.out.under ((over_row HF2.out.l).app (over_row HF2.out.s)))
   have HX2:=hid (hfx.out.keep hb3)
   clear HC0 hb2 ho1 ho2 ha2 c0 c1 c2
   have HO2:=hid (own_below HW.out hb3)
   have hs3:=hb3.size
   have HB3:=hid hb3
   clear hb3
   go_wp2_with (at_builtin;refine wpList_append_own _ rfl _ _ 73 rfl w.heap.size 114 i0 (.agg #[.int .i64 0,.slice none 0 0,.slice none 0 0]) 3 56 Tryz.underlying73 hi hz0 hz1 hz2 rfl (by decide) _ _ _ rfl (HO2.out.alloc _) ⟨w2.heap.size,0,none⟩ 1 1 [.int .i64 f.at_,.slice b1 f.locals.length j1,.slice b2 f.stack.length j2] rfl rfl ?c1 ?c2 ?c3 ?c4 ?c5 ?_)
   case c1=>exact fun j u hj=>cells_new _ _ _ j u hj
   case c2=>intro u hu;simp at hu;rcases hu with rfl|rfl|rfl<;>rfl
   case c3=>unfold maxLen;omega
   case c4=>omega
   case c5=>simp;omega
   intro v' w4 hown' hgrow _
   obtain ⟨hn1,hn2⟩:=own_next HW.out HB3.out HBL.out hsz hown' hgrow
   have ha0:∀ o,Below w2.heap.size w2 (w2.alloc o):=fun o=>(Below.refl _ _).alloc (Nat.le_refl _) o
   have hS:Hid (FX w4 w.heap.size v' (fs.take (k+1)) (us++[⟨f.at_,.slice b1 f.locals.length j1,.slice b2 f.stack.length j2⟩])):=by
    rw [HTK.out]
    exact hid (FX.snoc (HX2.out.keep (ha0 _)) ((HF2.out.mono hsz).keep (ha0 _)) hgrow (by rw [List.length_take,Nat.min_eq_left hk];exact hn1))
   clear hown' hgrow HO2 hn1
   go_wp2
   go_roundw
   case rel=>exact ⟨k+1,_,by omega,by go_num,hS,HA2,hn2⟩
   case measure=>simp [intOf];omega
  ·obtain rfl:k=fs.length:=by omega
   have HX:=hid (show FX wr w.heap.size (.slice ao' fs.length cap') fs us from by have:=hfx.out;rwa [List.take_length] at this)
   have HBL:=hid hbel
   clear hfx hown hbel
   go_wp2
   go_ret
   exact ⟨_,_,rfl,HX.out,HAP.out,HBL.out⟩
end Go.Proofs.YtecbcdfkedocbaaGreatDoor
