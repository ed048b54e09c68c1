/- Gathered: AxMethod AxClass. -/
import Derived.Test.YtecbcdfkedocbaaGreatDoorC2
import Derived.Test.YtecbcdfkedocbaaGreatDoorC1
import Derived.Test.YtecbcdfkedocbaaGreatDoorH03
import Derived.Test.YtecbcdfkedocbaaGreatDoorC4
import Derived.Test.YtecbcdfkedocbaaGreatDoorG03
namespace Go.Proofs.YtecbcdfkedocbaaGreatDoor
open Mx Go.RowKit
set_option maxHeartbeats 2000000
set_option maxRecDepth 20000
set_option linter.unusedVariables false
theorem Lk.x8 {W:World} {g:Nat} {a0 a1 a2 a3 a4 a5 a6 a7:Value} {T:TypeId} (h:Lk W g #[a0,a1,a2,a3,a4,a5,a6,a7] T):(W.cell? ⟨g,0,none⟩=some a0∧W.cell? ⟨g,1,none⟩=some a1∧W.cell? ⟨g,2,none⟩=some a2∧W.cell? ⟨g,3,none⟩=some a3∧W.cell? ⟨g,4,none⟩=some a4∧W.cell? ⟨g,5,none⟩=some a5∧W.cell? ⟨g,6,none⟩=some a6∧W.cell? ⟨g,7,none⟩=some a7)∧W.frozen? ⟨g,0,none⟩=false∧W.frozen? ⟨g,1,none⟩=false∧W.frozen? ⟨g,2,none⟩=false∧W.frozen? ⟨g,3,none⟩=false∧W.frozen? ⟨g,4,none⟩=false∧W.frozen? ⟨g,5,none⟩=false∧W.frozen? ⟨g,6,none⟩=false∧W.frozen? ⟨g,7,none⟩=false:=
 ⟨⟨h.c 0 _ rfl,h.c 1 _ rfl,h.c 2 _ rfl,h.c 3 _ rfl,h.c 4 _ rfl,h.c 5 _ rfl,h.c 6 _ rfl,h.c 7 _ rfl⟩,h.z 0,h.z 1,h.z 2,h.z 3,h.z 4,h.z 5,h.z 6,h.z 7⟩
theorem Lk.x7 {W:World} {g:Nat} {a0 a1 a2 a3 a4 a5 a6:Value} {T:TypeId} (h:Lk W g #[a0,a1,a2,a3,a4,a5,a6] T):(W.cell? ⟨g,0,none⟩=some a0∧W.cell? ⟨g,1,none⟩=some a1∧W.cell? ⟨g,2,none⟩=some a2∧W.cell? ⟨g,3,none⟩=some a3∧W.cell? ⟨g,4,none⟩=some a4∧W.cell? ⟨g,5,none⟩=some a5∧W.cell? ⟨g,6,none⟩=some a6)∧W.frozen? ⟨g,0,none⟩=false∧W.frozen? ⟨g,1,none⟩=false∧W.frozen? ⟨g,2,none⟩=false∧W.frozen? ⟨g,3,none⟩=false∧W.frozen? ⟨g,4,none⟩=false∧W.frozen? ⟨g,5,none⟩=false∧W.frozen? ⟨g,6,none⟩=false:=
 ⟨⟨h.c 0 _ rfl,h.c 1 _ rfl,h.c 2 _ rfl,h.c 3 _ rfl,h.c 4 _ rfl,h.c 5 _ rfl,h.c 6 _ rfl⟩,h.z 0,h.z 1,h.z 2,h.z 3,h.z 4,h.z 5,h.z 6⟩
structure TwoB (w:World) (T:TypeId) (x y:Array Value) (W:World):Prop where
 b:Below w.heap.size w W
 box:Lk W w.heap.size x T
 res:Lk W (w.heap.size+1) y T
theorem TwoB.new (w:World) (T:TypeId) (a b:Array Value):TwoB w T a b ((w.alloc (.cells a T)).alloc (.cells b T)):=by
 have h:=HB.two w a b T T
 exact ⟨h.b,h.tl.hd,h.hd⟩
theorem TwoB.keep {w W W':World} {T:TypeId} {a b:Array Value} (h:TwoB w T a b W) (hb:Below W.heap.size W W'):TwoB w T a b W':=⟨h.b.trans (hb.mono h.b.size),h.box.keep hb,h.res.keep hb⟩
theorem TwoB.set {w W:World} {T:TypeId} {a b a':Array Value} (h:TwoB w T a b W) (j:Nat) (u:Value) (hu:a.setIfInBounds j u=a'):TwoB w T a' b (W.setCell ⟨w.heap.size,j,none⟩ u):=
 ⟨h.b.setCell (Nat.le_refl _) _,h.box.set j u hu,h.res.other u (by simp)⟩
structure M1 (W:World) (B:Nat) (vt vf:Value) (m:MMethod) (zs:List SFrame):Prop where
 t:W.ownsRow B 140 4 vt m.traps.length (rowTrap m.traps)
 f:FX W B vf m.frames zs
theorem M1.low {W:World} {B:Nat} {vt vf:Value} {m:MMethod} {zs:List SFrame} (h:M1 W B vt vf m zs) {a:Addr} (ha:a.block<B) (u:Value):M1 (W.setCell a u) B vt vf m zs:=⟨ownsRow_setCell_below h.t ha u,h.f.low ha u⟩
theorem M1.mono {W:World} {B B':Nat} {vt vf:Value} {m:MMethod} {zs:List SFrame} (h:M1 W B vt vf m zs) (hb:B'≤B):M1 W B' vt vf m zs:=⟨Joins.ownsRow_le h.t hb,h.f.mono hb⟩
theorem M1.keep {W W':World} {B:Nat} {vt vf:Value} {m:MMethod} {zs:List SFrame} (h:M1 W B vt vf m zs) (hb:Below W.heap.size W W'):M1 W' B vt vf m zs:=⟨own_below h.t hb,h.f.keep hb⟩
theorem copyMethod_any (m:MMethod) (a5 a6:Option Addr) (k5 k6 B:Nat) (w:World) (hm:m.few) (h:MethodW w B (.slice a5 m.traps.length k5) (.slice a6 m.frames.length k6) m) :
  Calls Tryz.prog 56 #[.agg #[.int .i64 m.flags,.int .i64 m.name,.int .i64 m.desc,.int .i64 m.deep,.int .i64 m.locals,.string m.code,.slice a5 m.traps.length k5,.slice a6 m.frames.length k6]] w fun e w'=>∃ b5 j5 b6 j6 zs,e=.returned (.agg #[.int .i64 m.flags,.int .i64 m.name,.int .i64 m.desc,.int .i64 m.deep,.int .i64 m.locals,.string m.code,.slice b5 m.traps.length j5,.slice b6 m.frames.length j6])∧M1 w' w.heap.size (.slice b5 m.traps.length j5) (.slice b6 m.frames.length j6) m zs∧Apart (kb zs)∧Below w.heap.size w w':=by
 have P0:=TwoB.new w 75 #[.int .i64 m.flags,.int .i64 m.name,.int .i64 m.desc,.int .i64 m.deep,.int .i64 m.locals,.string m.code,.slice a5 m.traps.length k5,.slice a6 m.frames.length k6] #[.int .i64 0,.int .i64 0,.int .i64 0,.int .i64 0,.int .i64 0,.string ⟨#[]⟩,.slice none 0 0,.slice none 0 0]
 have hcz:=hm.1
 have HT:=hid (fun W (hW:Below w.heap.size w W)=>cloneTrap_any (.slice a5 m.traps.length k5) m.traps.length B (rowTrap m.traps) W hm.2.1 (one_trap _) (own_below h.t hW))
 have HF:=hid (fun W (hW:Below w.heap.size w W)=>copyFrames_any (.slice a6 m.frames.length k6) m.frames B W hm.2.2.1 hm.2.2.2 (h.f.keep hW))
 have hc0:=fun W=>sayClone_any m.code W (by omega)
 obtain ⟨⟨c0,c1,c2,c3,c4,c5,c6,c7⟩,z0,z1,z2,z3,z4,z5,z6,z7⟩:=P0.box.x8
 clear h hm hcz
 go_enter Tryz.func56,Tryz.ntmps56
 go_wp2_with fail
 refine (hc0 _).mono ?_
 rintro e w1 ⟨rfl,hb1⟩
 have P1:=P0.keep hb1
 clear P0 hb1 hc0 c0 c1 c2 c3 c4 c5 c6 c7 z0 z1 z2 z3 z4 z5 z6 z7
 obtain ⟨⟨c0,c1,c2,c3,c4,c5,c6,c7⟩,z0,z1,z2,z3,z4,z5,z6,z7⟩:=P1.box.x8
 have S1:=P1.set (a':=#[.int .i64 m.flags,.int .i64 m.name,.int .i64 m.desc,.int .i64 m.deep,.int .i64 m.locals,.string m.code,.slice a5 m.traps.length k5,.slice a6 m.frames.length k6]) 5 (.string m.code) rfl
 have hT:=HT.out _ S1.b
 clear HT P1
 go_wp2_with fail
 refine hT.mono ?_
 rintro e w2 ⟨v2,rfl,ho2,hb2⟩
 obtain ⟨b5,j5,rfl⟩:=own_len ho2
 have P2:=S1.keep hb2
 have hsz:w.heap.size+1<w1.heap.size:=by have:=S1.res.lt;simpa using this
 have O2:=hid (show w2.ownsRow (w.heap.size+2) 140 4 (.slice b5 m.traps.length j5) m.traps.length (rowTrap m.traps) from Joins.ownsRow_le ho2 (by simp;omega))
 clear S1 hb2 hT ho2 c0 c1 c2 c3 c4 c5 c6 c7 z0 z1 z2 z3 z4 z5 z6 z7
 obtain ⟨⟨c0,c1,c2,c3,c4,c5,c6,c7⟩,z0,z1,z2,z3,z4,z5,z6,z7⟩:=P2.box.x8
 have S2:=P2.set (a':=#[.int .i64 m.flags,.int .i64 m.name,.int .i64 m.desc,.int .i64 m.deep,.int .i64 m.locals,.string m.code,.slice b5 m.traps.length j5,.slice a6 m.frames.length k6]) 6 (.slice b5 m.traps.length j5) rfl
 have O2s:=hid (ownsRow_setCell_below O2.out (a:=⟨w.heap.size,6,none⟩) (by simp) (.slice b5 m.traps.length j5))
 have hF:=HF.out _ S2.b
 clear HF P2 O2
 go_wp2_with fail
 refine hF.mono ?_
 rintro e w3 ⟨v6,zs,rfl,hx3,ha3,hb3⟩
 obtain ⟨b6,j6,rfl⟩:=own_len hx3.row
 have HAP:=hid ha3
 have P3:=S2.keep hb3
 have hsz3:w.heap.size+2≤w2.heap.size:=by have:=S2.res.lt;simp at this;omega
 have O3:=hid (show M1 w3 (w.heap.size+2) (.slice b5 m.traps.length j5) (.slice b6 m.frames.length j6) m zs from ⟨own_below O2s.out hb3,hx3.mono (by simp;omega)⟩)
 clear S2 hb3 hF hx3 ha3 O2s c0 c1 c2 c3 c4 c5 c6 c7 z0 z1 z2 z3 z4 z5 z6 z7
 obtain ⟨⟨c0,c1,c2,c3,c4,c5,c6,c7⟩,z0,z1,z2,z3,z4,z5,z6,z7⟩:=P3.box.x8
 obtain ⟨⟨r0,r1,r2,r3,r4,r5,r6,r7⟩,q0,q1,q2,q3,q4,q5,q6,q7⟩:=P3.res.x8
 have HB3:=hid P3.b
 clear P3
 go_wp2
 refine bodyPost_ret (v:=.agg #[.int .i64 m.flags,.int .i64 m.name,.int .i64 m.desc,.int .i64 m.deep,.int .i64 m.locals,.string m.code,.slice b5 m.traps.length j5,.slice b6 m.frames.length j6]) (by simp [results,Tryz.results56,go_sem, *]) rfl ⟨b5,j5,b6,j6,zs,rfl, ?_,HAP.out, ?_⟩
 ·have o0:=O3.out.low (a:=⟨w.heap.size,7,none⟩) (by simp) (.slice b6 m.frames.length j6)
  have o1:=o0.low (a:=⟨w.heap.size+1,0,none⟩) (by simp) (.int .i64 m.flags)
  have o2:=o1.low (a:=⟨w.heap.size+1,1,none⟩) (by simp) (.int .i64 m.name)
  have o3:=o2.low (a:=⟨w.heap.size+1,2,none⟩) (by simp) (.int .i64 m.desc)
  have o4:=o3.low (a:=⟨w.heap.size+1,3,none⟩) (by simp) (.int .i64 m.deep)
  have o5:=o4.low (a:=⟨w.heap.size+1,4,none⟩) (by simp) (.int .i64 m.locals)
  have o6:=o5.low (a:=⟨w.heap.size+1,5,none⟩) (by simp) (.string m.code)
  have o7:=o6.low (a:=⟨w.heap.size+1,6,none⟩) (by simp) (.slice b5 m.traps.length j5)
  have o8:=o7.low (a:=⟨w.heap.size+1,7,none⟩) (by simp) (.slice b6 m.frames.length j6)
  exact o8.mono (by omega)
 ·exact ((((((((HB3.out.setCell (by simp) _).setCell (by simp) _).setCell (by simp) _).setCell (by simp) _).setCell (by simp) _).setCell (by simp) _).setCell (by simp) _).setCell (by simp) _).setCell (by simp) _
theorem MA.keep {W W':World} {B:Nat} {v:Value} {ms:List MMethod} {xs:List SMethod} {ys:List (List SFrame)} (h:MA W B v ms xs ys) (hb:Below W.heap.size W W'):MA W' B v ms xs ys:=
 ⟨h.len,h.len2,own_below h.row hb,h.sh,fun k a b=>own_below (h.tr k a b) hb,fun k a b c=>(h.fx k a b c).keep hb,h.at_,h.af,h.ak⟩
theorem MA.low {W:World} {B:Nat} {v:Value} {ms:List MMethod} {xs:List SMethod} {ys:List (List SFrame)} (h:MA W B v ms xs ys) {a:Addr} (ha:a.block<B) (u:Value):MA (W.setCell a u) B v ms xs ys:=
 ⟨h.len,h.len2,ownsRow_setCell_below h.row ha u,h.sh,fun k p q=>ownsRow_setCell_below (h.tr k p q) ha u,fun k p q r=>(h.fx k p q r).low ha u,h.at_,h.af,h.ak⟩
theorem MA.mono {W:World} {B B':Nat} {v:Value} {ms:List MMethod} {xs:List SMethod} {ys:List (List SFrame)} (h:MA W B v ms xs ys) (hb:B'≤B):MA W B' v ms xs ys:=
 ⟨h.len,h.len2,Joins.ownsRow_le h.row hb,h.sh,fun k p q=>Joins.ownsRow_le (h.tr k p q) hb,fun k p q r=>(h.fx k p q r).mono hb,h.at_,h.af,h.ak⟩
theorem MA.rowk {W:World} {B k:Nat} {v:Value} {ms:List MMethod} {xs:List SMethod} {ys:List (List SFrame)} (h:MA W B v (ms.take k) xs ys) (hk:k≤ms.length):W.ownsRow B 75 8 v k (rowMethod xs):=by
 have:=h.row
 rwa [List.length_take,Nat.min_eq_left hk] at this
theorem copyMethods_any (v:Value) (ms:List MMethod) (B:Nat) (w:World) (hl:ms.length≤1048576) (hf:∀ m∈ms,m.few) (h:MethodsW w B v ms) :
  Calls Tryz.prog 55 #[v,.func (.func 56) #[] #[]] w fun e w'=>∃ v' xs ys,e=.returned v'∧MA w' w.heap.size v' ms xs ys∧Below w.heap.size w w':=by
 obtain ⟨zs,hyl,hyo,hye⟩:=h
 have HC:=hid (fun k (hk:k<ms.length) (hk':k<zs.length)=>show ∃ a5 k5 a6 k6,zs[k]=shM ms[k] (.slice a5 ms[k].traps.length k5) (.slice a6 ms[k].frames.length k6)∧∀ W,Below w.heap.size w W→Calls Tryz.prog 56 #[.agg #[.int .i64 ms[k].flags,.int .i64 ms[k].name,.int .i64 ms[k].desc,.int .i64 ms[k].deep,.int .i64 ms[k].locals,.string ms[k].code,.slice a5 ms[k].traps.length k5,.slice a6 ms[k].frames.length k6]] W (fun e w'=>∃ b5 j5 b6 j6 ys,e=.returned (.agg #[.int .i64 ms[k].flags,.int .i64 ms[k].name,.int .i64 ms[k].desc,.int .i64 ms[k].deep,.int .i64 ms[k].locals,.string ms[k].code,.slice b5 ms[k].traps.length j5,.slice b6 ms[k].frames.length j6])∧M1 w' W.heap.size (.slice b5 ms[k].traps.length j5) (.slice b6 ms[k].frames.length j6) ms[k] ys∧Apart (kb ys)∧Below W.heap.size W w') from by
  obtain ⟨vt,vf,he,hw⟩:=hye k hk hk'
  obtain ⟨a5,k5,e1⟩:=own_len hw.t
  obtain ⟨a6,k6,e2⟩:=hw.f.len
  subst e1 e2
  exact ⟨a5,k5,a6,k6,he,fun W hW=>copyMethod_any _ _ _ _ _ B W (hf _ (List.getElem_mem hk)) (hw.keep hW)⟩)
 obtain ⟨i0,hi,hz0,hz1,hz2⟩:=info_parts infoMethod
 obtain ⟨ao,cap,rfl⟩:=own_len hyo
 have HO:=hid hyo
 have HYL:=hid hyl
 clear hyo hye hf hyl
 go_enter Tryz.func55,Tryz.ntmps55
 go_wp2
 go_loopw [5,10] (fun o i wr=>∃ (k:Nat) (xs:List SMethod) (ys:List (List SFrame)),k≤ms.length∧i=.int .i64 k∧Hid (MA wr w.heap.size o (ms.take k) xs ys)∧Below w.heap.size w wr) (fun _ i _=>ms.length - (intOf i).toNat)
 case atStart=>exact ⟨0,[],[],by omega,by first|rfl|go_num,MA.nil _ _,Below.refl _ _⟩
 case round=>
  obtain ⟨k,xs,ys,hk,rfl,hcm,hbel⟩:=hrel
  have hrow:=hcm.out.rowk hk
  obtain ⟨ao',cap',rfl⟩:=own_len hrow
  by_cases hlt:k<ms.length
  ·obtain ⟨g,hg⟩:=own_some HO.out (by omega)
   subst hg
   have hky:k<zs.length:=by rw [HYL.out];exact hlt
   obtain ⟨g0,g1,g2,g3,g4,g5,g6,g7⟩:=ownMethod_at (own_below HO.out hbel) (k:=k) HYL.out hky
   have hgl:=((own_below HO.out hbel).lt g rfl).2
   obtain ⟨a5,k5,a6,k6,he,hC0⟩:=HC.out k hlt hky
   rw [he] at g0 g1 g2 g3 g4 g5 g6 g7
   simp only [shM] at g0 g1 g2 g3 g4 g5 g6 g7
   have HTK:=hid (show ms.take (k+1)=ms.take k++[ms[k]] from List.take_succ_eq_append_getElem hlt)
   generalize ms[k]=m at g0 g1 g2 g3 g4 g5 g6 g7 hC0 HTK
   have HC0:=hid hC0
   have z5:(k:Int)<(ms.length:Int):=by omega
   have HW:=hcm
   have HR:=hid hrow
   have HBL:=hid hbel
   have hsz:=hbel.size
   clear hrow hbel he hC0
   go_wp2_with fail
   refine (HC0.out _ (HBL.out.trans ((by go_grown:Below wr.heap.size wr _).mono hsz))).mono ?_
   rintro e w2 ⟨b5,j5,b6,j6,us,rfl,hm2,ha2,hb2⟩
   have hb3:Below wr.heap.size wr w2:=(by go_grown:Below wr.heap.size wr _).trans (hb2.mono (by simp))
   have HN:=hid (hcm.out.next rfl (Joins.ownsRow_le hm2.t (by simp)) (hm2.f.mono (by simp)) ha2 hsz)
   clear HC0 hb2 hm2 ha2 g0 g1 g2 g3 g4 g5 g6 g7
   have HW2:=hid (HW.out.keep hb3)
   have HO2:=hid (own_below HR.out hb3)
   have hs3:=hb3.size
   have HB3:=hid hb3
   clear hb3
   go_wp2_with (at_builtin;refine wpList_append_own _ rfl _ _ 34 rfl w.heap.size 75 i0 (.agg #[.int .i64 0,.int .i64 0,.int .i64 0,.int .i64 0,.int .i64 0,.string ⟨#[]⟩,.slice none 0 0,.slice none 0 0]) 8 104 Tryz.underlying34 hi hz0 hz1 hz2 rfl (by decide) _ _ _ rfl (HO2.out.alloc _) ⟨w2.heap.size,0,none⟩ 1 1 [.int .i64 m.flags,.int .i64 m.name,.int .i64 m.desc,.int .i64 m.deep,.int .i64 m.locals,.string m.code,.slice b5 m.traps.length j5,.slice b6 m.frames.length j6] rfl rfl ?c1 ?c2 ?c3 ?c4 ?c5 ?_)
   case c1=>exact fun j u hj=>cells_new _ _ _ j u hj
   case c2=>intro u hu;simp at hu;rcases hu with rfl|rfl|rfl|rfl|rfl|rfl|rfl|rfl<;>rfl
   case c3=>unfold maxLen;omega
   case c4=>omega
   case c5=>simp;omega
   intro v' w4 hown' hgrow _
   obtain ⟨hn1,hn2⟩:=own_next HR.out HB3.out HBL.out hsz hown' hgrow
   have hS:Hid (MA w4 w.heap.size v' (ms.take (k+1)) (xs++[shM m (.slice b5 m.traps.length j5) (.slice b6 m.frames.length j6)]) (ys++[us])):=by
    rw [HTK.out]
    exact hid (HW2.out.snoc HN.out hgrow (by rw [List.length_take,Nat.min_eq_left hk];exact hn1))
   clear hown' hgrow HO2 hn1
   go_wp2
   go_roundw
   case rel=>exact ⟨k+1,_,_,by omega,by go_num,hS,hn2⟩
   case measure=>simp [intOf];omega
  ·obtain rfl:k=ms.length:=by omega
   have HW:=hid (show MA wr w.heap.size (.slice ao' ms.length cap') ms xs ys from by have:=hcm.out;rwa [List.take_length] at this)
   have HBL:=hid hbel
   clear hcm hrow hbel
   go_wp2
   go_ret
   exact ⟨_,_,_,rfl,HW.out,HBL.out⟩
theorem one_int (ts:List Int):∀ u∈rowI ts,u.oneCell'=true:=by
 intro u hu
 unfold rowI at hu
 obtain ⟨t,_,rfl⟩:=List.mem_map.1 hu
 rfl
theorem ClA.keep {W W':World} {B:Nat} {vp vi vf vm:Value} {c:MClass} {xs:List SMethod} {ys:List (List SFrame)} (h:ClA W B vp vi vf vm c xs ys) (hb:Below W.heap.size W W'):ClA W' B vp vi vf vm c xs ys:=⟨own_below h.p hb,own_below h.i hb,own_below h.f hb,h.m.keep hb⟩
theorem ClA.set {W:World} {B:Nat} {vp vi vf vm:Value} {c:MClass} {xs:List SMethod} {ys:List (List SFrame)} (h:ClA W B vp vi vf vm c xs ys) {a:Addr} (ha:a.block<B) (u:Value):ClA (W.setCell a u) B vp vi vf vm c xs ys:=⟨ownsRow_setCell_below h.p ha u,ownsRow_setCell_below h.i ha u,ownsRow_setCell_below h.f ha u,h.m.low ha u⟩
theorem ClA.mono {W:World} {B B':Nat} {vp vi vf vm:Value} {c:MClass} {xs:List SMethod} {ys:List (List SFrame)} (h:ClA W B vp vi vf vm c xs ys) (hb:B'≤B):ClA W B' vp vi vf vm c xs ys:=⟨Joins.ownsRow_le h.p hb,Joins.ownsRow_le h.i hb,Joins.ownsRow_le h.f hb,h.m.mono hb⟩
theorem copyClass_any (c:MClass) (vp vi vf vm:Value) (B:Nat) (w:World) (hc:c.few) (h:ClassW w B vp vi vf vm c) :
  Calls Tryz.prog 25 #[.agg #[vp,.int .i64 c.flags,.int .i64 c.name,.int .i64 c.super,vi,vf,vm]] w fun e w'=>∃ up ui uf um xs ys,e=.returned (.agg #[up,.int .i64 c.flags,.int .i64 c.name,.int .i64 c.super,ui,uf,um])∧ClA w' w.heap.size up ui uf um c xs ys∧Below w.heap.size w w':=by
 obtain ⟨o1,j1,hv1⟩:=own_len h.p
 obtain ⟨o2,j2,hv2⟩:=own_len h.i
 obtain ⟨o3,j3,hv3⟩:=own_len h.f
 obtain ⟨o4,j4,hv4⟩:=h.m.len
 subst hv1 hv2 hv3 hv4
 have S0:=TwoB.new w 36 #[.slice o1 c.pool.length j1,.int .i64 c.flags,.int .i64 c.name,.int .i64 c.super,.slice o2 c.faces.length j2,.slice o3 c.fields.length j3,.slice o4 c.methods.length j4] #[.slice none 0 0,.int .i64 0,.int .i64 0,.int .i64 0,.slice none 0 0,.slice none 0 0,.slice none 0 0]
 have hP0:=copyPool_any (.slice o1 c.pool.length j1) c.pool B _ hc.pool hc.texts (own_below h.p S0.b)
 have HI:=hid (fun W (hW:Below w.heap.size w W)=>cloneInt_any (.slice o2 c.faces.length j2) c.faces.length B (rowI c.faces) W hc.faces (one_int _) (own_below h.i hW))
 have HF:=hid (fun W (hW:Below w.heap.size w W)=>cloneField_any (.slice o3 c.fields.length j3) c.fields.length B (rowField c.fields) W hc.fields (one_field _) (own_below h.f hW))
 have HM:=hid (fun W (hW:Below w.heap.size w W)=>copyMethods_any (.slice o4 c.methods.length j4) c.methods B W hc.methods hc.each (h.m.keep hW))
 obtain ⟨⟨c0,c1,c2,c3,c4,c5,c6⟩,z0,z1,z2,z3,z4,z5,z6⟩:=S0.box.x7
 clear h hc
 go_enter Tryz.func25,Tryz.ntmps25
 go_wp2_with fail
 refine hP0.mono ?_
 rintro e w1 ⟨v1,rfl,ho1,hb1⟩
 obtain ⟨p1,k1,rfl⟩:=own_len ho1
 have T1:=S0.keep hb1
 have R1:=hid (show w1.ownsRow (w.heap.size+2) 40 4 (.slice p1 c.pool.length k1) c.pool.length (cellsC c.pool) from Joins.ownsRow_le ho1 (by simp))
 clear S0 hb1 ho1 hP0 c0 c1 c2 c3 c4 c5 c6 z0 z1 z2 z3 z4 z5 z6
 obtain ⟨⟨c0,c1,c2,c3,c4,c5,c6⟩,z0,z1,z2,z3,z4,z5,z6⟩:=T1.box.x7
 have S1:=T1.set (a':=#[.slice p1 c.pool.length k1,.int .i64 c.flags,.int .i64 c.name,.int .i64 c.super,.slice o2 c.faces.length j2,.slice o3 c.fields.length j3,.slice o4 c.methods.length j4]) 0 (.slice p1 c.pool.length k1) rfl
 have hsz1:w.heap.size+2≤w1.heap.size:=by have:=T1.res.lt;omega
 have R1s:=hid (ownsRow_setCell_below R1.out (a:=⟨w.heap.size,0,none⟩) (by simp) (.slice p1 c.pool.length k1))
 have hI:=HI.out _ S1.b
 clear HI T1 R1
 go_wp2_with fail
 refine hI.mono ?_
 rintro e w2 ⟨v2,rfl,ho2,hb2⟩
 obtain ⟨p2,k2,rfl⟩:=own_len ho2
 have T2:=S1.keep hb2
 have R1:=hid (own_below R1s.out hb2)
 have R2:=hid (show w2.ownsRow (w.heap.size+2) 3 1 (.slice p2 c.faces.length k2) c.faces.length (rowI c.faces) from Joins.ownsRow_le ho2 (by simp;omega))
 clear S1 hb2 ho2 hI R1s c0 c1 c2 c3 c4 c5 c6 z0 z1 z2 z3 z4 z5 z6
 obtain ⟨⟨c0,c1,c2,c3,c4,c5,c6⟩,z0,z1,z2,z3,z4,z5,z6⟩:=T2.box.x7
 have S2:=T2.set (a':=#[.slice p1 c.pool.length k1,.int .i64 c.flags,.int .i64 c.name,.int .i64 c.super,.slice p2 c.faces.length k2,.slice o3 c.fields.length j3,.slice o4 c.methods.length j4]) 4 (.slice p2 c.faces.length k2) rfl
 have hsz2:w.heap.size+2≤w2.heap.size:=by have:=T2.res.lt;omega
 have R1s:=hid (ownsRow_setCell_below R1.out (a:=⟨w.heap.size,4,none⟩) (by simp) (.slice p2 c.faces.length k2))
 have R2s:=hid (ownsRow_setCell_below R2.out (a:=⟨w.heap.size,4,none⟩) (by simp) (.slice p2 c.faces.length k2))
 have hF:=HF.out _ S2.b
 clear HF T2 R1 R2
 go_wp2_with fail
 refine hF.mono ?_
 rintro e w3 ⟨v3,rfl,ho3,hb3⟩
 obtain ⟨p3,k3,rfl⟩:=own_len ho3
 have T3:=S2.keep hb3
 have R1:=hid (own_below R1s.out hb3)
 have R2:=hid (own_below R2s.out hb3)
 have R3:=hid (show w3.ownsRow (w.heap.size+2) 79 3 (.slice p3 c.fields.length k3) c.fields.length (rowField c.fields) from Joins.ownsRow_le ho3 (by simp;omega))
 clear S2 hb3 ho3 hF R1s R2s c0 c1 c2 c3 c4 c5 c6 z0 z1 z2 z3 z4 z5 z6
 obtain ⟨⟨c0,c1,c2,c3,c4,c5,c6⟩,z0,z1,z2,z3,z4,z5,z6⟩:=T3.box.x7
 have S3:=T3.set (a':=#[.slice p1 c.pool.length k1,.int .i64 c.flags,.int .i64 c.name,.int .i64 c.super,.slice p2 c.faces.length k2,.slice p3 c.fields.length k3,.slice o4 c.methods.length j4]) 5 (.slice p3 c.fields.length k3) rfl
 have hsz3:w.heap.size+2≤w3.heap.size:=by have:=T3.res.lt;omega
 have R1s:=hid (ownsRow_setCell_below R1.out (a:=⟨w.heap.size,5,none⟩) (by simp) (.slice p3 c.fields.length k3))
 have R2s:=hid (ownsRow_setCell_below R2.out (a:=⟨w.heap.size,5,none⟩) (by simp) (.slice p3 c.fields.length k3))
 have R3s:=hid (ownsRow_setCell_below R3.out (a:=⟨w.heap.size,5,none⟩) (by simp) (.slice p3 c.fields.length k3))
 have hM:=HM.out _ S3.b
 clear HM T3 R1 R2 R3
 go_wp2_with fail
 refine hM.mono ?_
 rintro e w4 ⟨v4,xs,ys,rfl,ho4,hb4⟩
 obtain ⟨p4,k4,rfl⟩:=own_len ho4.row
 have T4:=S3.keep hb4
 have HCC:=hid (show ClA w4 (w.heap.size+2) (.slice p1 c.pool.length k1) (.slice p2 c.faces.length k2) (.slice p3 c.fields.length k3) (.slice p4 c.methods.length k4) c xs ys from ⟨own_below R1s.out hb4,own_below R2s.out hb4,own_below R3s.out hb4,ho4.mono (by simp;omega)⟩)
 clear S3 hb4 ho4 hM R1s R2s R3s c0 c1 c2 c3 c4 c5 c6 z0 z1 z2 z3 z4 z5 z6
 obtain ⟨⟨c0,c1,c2,c3,c4,c5,c6⟩,z0,z1,z2,z3,z4,z5,z6⟩:=T4.box.x7
 obtain ⟨⟨r0,r1,r2,r3,r4,r5,r6⟩,q0,q1,q2,q3,q4,q5,q6⟩:=T4.res.x7
 have HB4:=hid T4.b
 clear T4
 go_wp2
 refine bodyPost_ret (v:=.agg #[.slice p1 c.pool.length k1,.int .i64 c.flags,.int .i64 c.name,.int .i64 c.super,.slice p2 c.faces.length k2,.slice p3 c.fields.length k3,.slice p4 c.methods.length k4]) (by simp [results,Tryz.results25,go_sem, *]) rfl ⟨_,_,_,_,xs,ys,rfl, ?_, ?_⟩
 ·have s0:=HCC.out.set (a:=⟨w.heap.size,6,none⟩) (by simp) (.slice p4 c.methods.length k4)
  have s1:=s0.set (a:=⟨w.heap.size+1,0,none⟩) (by simp) (.slice p1 c.pool.length k1)
  have s2:=s1.set (a:=⟨w.heap.size+1,1,none⟩) (by simp) (.int .i64 c.flags)
  have s3:=s2.set (a:=⟨w.heap.size+1,2,none⟩) (by simp) (.int .i64 c.name)
  have s4:=s3.set (a:=⟨w.heap.size+1,3,none⟩) (by simp) (.int .i64 c.super)
  have s5:=s4.set (a:=⟨w.heap.size+1,4,none⟩) (by simp) (.slice p2 c.faces.length k2)
  have s6:=s5.set (a:=⟨w.heap.size+1,5,none⟩) (by simp) (.slice p3 c.fields.length k3)
  have s7:=s6.set (a:=⟨w.heap.size+1,6,none⟩) (by simp) (.slice p4 c.methods.length k4)
  exact s7.mono (by omega)
 ·exact ((((((((HB4.out.setCell (by simp) _).setCell (by simp) _).setCell (by simp) _).setCell (by simp) _).setCell (by simp) _).setCell (by simp) _).setCell (by simp) _).setCell (by simp) _)
end Go.Proofs.YtecbcdfkedocbaaGreatDoor
