/- Gathered: CpMethod CpClass. -/
import Derived.Test.YtadgoaogkkffmaaGreatDoorC2
import Derived.Test.YtadgoaogkkffmaaGreatDoorC1
import Derived.Test.YtadgoaogkkffmaaGreatDoorH03
import Derived.Test.YtadgoaogkkffmaaGreatDoorC4
import Derived.Test.YtadgoaogkkffmaaGreatDoorG03
namespace Go.Proofs.YtadgoaogkkffmaaGreatDoor
open Mx Go.RowKit
set_option maxHeartbeats 2000000
set_option maxRecDepth 20000
set_option linter.unusedVariables false
theorem Lk.x8 {W:World} {g:Nat} {a0 a1 a2 a3 a4 a5 a6 a7:Value} {T:TypeId} (h:Lk W g #[a0,a1,a2,a3,a4,a5,a6,a7] T):(W.cell? ⟨g,0,none⟩=some a0∧W.cell? ⟨g,1,none⟩=some a1∧W.cell? ⟨g,2,none⟩=some a2∧W.cell? ⟨g,3,none⟩=some a3∧W.cell? ⟨g,4,none⟩=some a4∧W.cell? ⟨g,5,none⟩=some a5∧W.cell? ⟨g,6,none⟩=some a6∧W.cell? ⟨g,7,none⟩=some a7)∧W.frozen? ⟨g,0,none⟩=false∧W.frozen? ⟨g,1,none⟩=false∧W.frozen? ⟨g,2,none⟩=false∧W.frozen? ⟨g,3,none⟩=false∧W.frozen? ⟨g,4,none⟩=false∧W.frozen? ⟨g,5,none⟩=false∧W.frozen? ⟨g,6,none⟩=false∧W.frozen? ⟨g,7,none⟩=false:=
 ⟨⟨h.c 0 _ rfl,h.c 1 _ rfl,h.c 2 _ rfl,h.c 3 _ rfl,h.c 4 _ rfl,h.c 5 _ rfl,h.c 6 _ rfl,h.c 7 _ rfl⟩,h.z 0,h.z 1,h.z 2,h.z 3,h.z 4,h.z 5,h.z 6,h.z 7⟩
theorem Lk.x7 {W:World} {g:Nat} {a0 a1 a2 a3 a4 a5 a6:Value} {T:TypeId} (h:Lk W g #[a0,a1,a2,a3,a4,a5,a6] T):(W.cell? ⟨g,0,none⟩=some a0∧W.cell? ⟨g,1,none⟩=some a1∧W.cell? ⟨g,2,none⟩=some a2∧W.cell? ⟨g,3,none⟩=some a3∧W.cell? ⟨g,4,none⟩=some a4∧W.cell? ⟨g,5,none⟩=some a5∧W.cell? ⟨g,6,none⟩=some a6)∧W.frozen? ⟨g,0,none⟩=false∧W.frozen? ⟨g,1,none⟩=false∧W.frozen? ⟨g,2,none⟩=false∧W.frozen? ⟨g,3,none⟩=false∧W.frozen? ⟨g,4,none⟩=false∧W.frozen? ⟨g,5,none⟩=false∧W.frozen? ⟨g,6,none⟩=false:=
 ⟨⟨h.c 0 _ rfl,h.c 1 _ rfl,h.c 2 _ rfl,h.c 3 _ rfl,h.c 4 _ rfl,h.c 5 _ rfl,h.c 6 _ rfl⟩,h.z 0,h.z 1,h.z 2,h.z 3,h.z 4,h.z 5,h.z 6⟩
structure TwoB (w:World) (T:TypeId) (x y:Array Value) (W:World):Prop where
 b:Below w.heap.size w W
 box:Lk W w.heap.size x T
 res:Lk W (w.heap.size+1) y T
theorem TwoB.new (w:World) (T:TypeId) (a b:Array Value):TwoB w T a b ((w.alloc (.cells a T)).alloc (.cells b T)):=by
 have h:=HB.two w a b T T
 exact ⟨h.b,h.tl.hd,h.hd⟩
theorem TwoB.keep {w W W':World} {T:TypeId} {a b:Array Value} (h:TwoB w T a b W) (hb:Below W.heap.size W W'):TwoB w T a b W':=⟨h.b.trans (hb.mono h.b.size),h.box.keep hb,h.res.keep hb⟩
theorem TwoB.set {w W:World} {T:TypeId} {a b a':Array Value} (h:TwoB w T a b W) (j:Nat) (u:Value) (hu:a.setIfInBounds j u=a'):TwoB w T a' b (W.setCell ⟨w.heap.size,j,none⟩ u):=
 ⟨h.b.setCell (Nat.le_refl _) _,h.box.set j u hu,h.res.other u (by simp)⟩
theorem copyMethod_any (m:MMethod) (a5 a6:Option Addr) (k5 k6 B:Nat) (w:World) (hm:m.few) (h:MethodW w B (.slice a5 m.traps.length k5) (.slice a6 m.frames.length k6) m) :
  Calls Tryz.prog 94 #[.agg #[.int .i64 m.flags,.int .i64 m.name,.int .i64 m.desc,.int .i64 m.deep,.int .i64 m.locals,.string m.code,.slice a5 m.traps.length k5,.slice a6 m.frames.length k6]] w fun e w'=>∃ b5 j5 b6 n6 j6,e=.returned (.agg #[.int .i64 m.flags,.int .i64 m.name,.int .i64 m.desc,.int .i64 m.deep,.int .i64 m.locals,.string m.code,.slice b5 m.traps.length j5,.slice b6 n6 j6])∧w'.ownsRow w.heap.size 170 4 (.slice b5 m.traps.length j5) m.traps.length (rowTrap m.traps)∧Below w.heap.size w w':=by
 have P0:=TwoB.new w 74 #[.int .i64 m.flags,.int .i64 m.name,.int .i64 m.desc,.int .i64 m.deep,.int .i64 m.locals,.string m.code,.slice a5 m.traps.length k5,.slice a6 m.frames.length k6] #[.int .i64 0,.int .i64 0,.int .i64 0,.int .i64 0,.int .i64 0,.string ⟨#[]⟩,.slice none 0 0,.slice none 0 0]
 have hcz:=hm.1
 have HT:=hid (fun W (hW:Below w.heap.size w W)=>cloneTrap_any (.slice a5 m.traps.length k5) m.traps.length B (rowTrap m.traps) W hm.2.1 (one_trap _) (own_below h.t hW))
 have HF:=hid (fun W (hW:Below w.heap.size w W)=>copyFrames_any (.slice a6 m.frames.length k6) m.frames B W hm.2.2.1 hm.2.2.2 (h.f.keep hW))
 have hc0:=fun W=>sayClone_any m.code W (by omega)
 obtain ⟨⟨c0,c1,c2,c3,c4,c5,c6,c7⟩,z0,z1,z2,z3,z4,z5,z6,z7⟩:=P0.box.x8
 clear h hm hcz
 go_enter Tryz.func94,Tryz.ntmps94
 go_wp2_with fail
 refine (hc0 _).mono ?_
 rintro e w1 ⟨rfl,hb1⟩
 have P1:=P0.keep hb1
 clear P0 hb1 hc0 c0 c1 c2 c3 c4 c5 c6 c7 z0 z1 z2 z3 z4 z5 z6 z7
 obtain ⟨⟨c0,c1,c2,c3,c4,c5,c6,c7⟩,z0,z1,z2,z3,z4,z5,z6,z7⟩:=P1.box.x8
 have S1:=P1.set (a':=#[.int .i64 m.flags,.int .i64 m.name,.int .i64 m.desc,.int .i64 m.deep,.int .i64 m.locals,.string m.code,.slice a5 m.traps.length k5,.slice a6 m.frames.length k6]) 5 (.string m.code) rfl
 have hT:=HT.out _ S1.b
 clear HT P1
 go_wp2_with fail
 refine hT.mono ?_
 rintro e w2 ⟨v2,rfl,ho2,hb2⟩
 obtain ⟨b5,j5,rfl⟩:=own_len ho2
 have P2:=S1.keep hb2
 have hsz:w.heap.size+1<w1.heap.size:=by have:=S1.res.lt;simpa using this
 have O2:=hid (show w2.ownsRow (w.heap.size+2) 170 4 (.slice b5 m.traps.length j5) m.traps.length (rowTrap m.traps) from Joins.ownsRow_le ho2 (by simp;omega))
 clear S1 hb2 hT ho2 c0 c1 c2 c3 c4 c5 c6 c7 z0 z1 z2 z3 z4 z5 z6 z7
 obtain ⟨⟨c0,c1,c2,c3,c4,c5,c6,c7⟩,z0,z1,z2,z3,z4,z5,z6,z7⟩:=P2.box.x8
 have S2:=P2.set (a':=#[.int .i64 m.flags,.int .i64 m.name,.int .i64 m.desc,.int .i64 m.deep,.int .i64 m.locals,.string m.code,.slice b5 m.traps.length j5,.slice a6 m.frames.length k6]) 6 (.slice b5 m.traps.length j5) rfl
 have O2s:=hid (ownsRow_setCell_below O2.out (a:=⟨w.heap.size,6,none⟩) (by simp) (.slice b5 m.traps.length j5))
 have hF:=HF.out _ S2.b
 clear HF P2 O2
 go_wp2_with fail
 refine hF.mono ?_
 rintro e w3 ⟨b6,n6,j6,rfl,hb3⟩
 have P3:=S2.keep hb3
 have O3:=hid (own_below O2s.out hb3)
 clear S2 hb3 hF O2s c0 c1 c2 c3 c4 c5 c6 c7 z0 z1 z2 z3 z4 z5 z6 z7
 obtain ⟨⟨c0,c1,c2,c3,c4,c5,c6,c7⟩,z0,z1,z2,z3,z4,z5,z6,z7⟩:=P3.box.x8
 obtain ⟨⟨r0,r1,r2,r3,r4,r5,r6,r7⟩,q0,q1,q2,q3,q4,q5,q6,q7⟩:=P3.res.x8
 have HB3:=hid P3.b
 clear P3
 go_wp2
 refine bodyPost_ret (v:=.agg #[.int .i64 m.flags,.int .i64 m.name,.int .i64 m.desc,.int .i64 m.deep,.int .i64 m.locals,.string m.code,.slice b5 m.traps.length j5,.slice b6 n6 j6]) (by simp [results,Tryz.results94,go_sem, *]) rfl ⟨b5,j5,b6,n6,j6,rfl, ?_, ?_⟩
 ·have o0:=ownsRow_setCell_below O3.out (a:=⟨w.heap.size,7,none⟩) (by simp) (.slice b6 n6 j6)
  have o1:=ownsRow_setCell_below o0 (a:=⟨w.heap.size+1,0,none⟩) (by simp) (.int .i64 m.flags)
  have o2:=ownsRow_setCell_below o1 (a:=⟨w.heap.size+1,1,none⟩) (by simp) (.int .i64 m.name)
  have o3:=ownsRow_setCell_below o2 (a:=⟨w.heap.size+1,2,none⟩) (by simp) (.int .i64 m.desc)
  have o4:=ownsRow_setCell_below o3 (a:=⟨w.heap.size+1,3,none⟩) (by simp) (.int .i64 m.deep)
  have o5:=ownsRow_setCell_below o4 (a:=⟨w.heap.size+1,4,none⟩) (by simp) (.int .i64 m.locals)
  have o6:=ownsRow_setCell_below o5 (a:=⟨w.heap.size+1,5,none⟩) (by simp) (.string m.code)
  have o7:=ownsRow_setCell_below o6 (a:=⟨w.heap.size+1,6,none⟩) (by simp) (.slice b5 m.traps.length j5)
  have o8:=ownsRow_setCell_below o7 (a:=⟨w.heap.size+1,7,none⟩) (by simp) (.slice b6 n6 j6)
  exact Joins.ownsRow_le o8 (by omega)
 ·exact ((((((((HB3.out.setCell (by simp) _).setCell (by simp) _).setCell (by simp) _).setCell (by simp) _).setCell (by simp) _).setCell (by simp) _).setCell (by simp) _).setCell (by simp) _).setCell (by simp) _
structure CpM (W:World) (B:Nat) (v:Value) (ms:List MMethod) (xs:List SMethod):Prop where
 len:xs.length=ms.length
 row:W.ownsRow B 74 8 v ms.length (rowMethod xs)
 sh:∀ k (h:k<ms.length) (h':k<xs.length),xs[k]=shM ms[k] xs[k].traps xs[k].frames
 tr:∀ k (h:k<ms.length) (h':k<xs.length),W.ownsRow B 170 4 xs[k].traps ms[k].traps.length (rowTrap ms[k].traps)
 fr:∀ k (h':k<xs.length),∃ a n c,xs[k].frames=.slice a n c
 at_:Apart (xs.map SMethod.traps)
theorem CpM.nil (W:World) (B:Nat):CpM W B (.slice none 0 0) [] []:=⟨rfl,World.ownsRow_nil _ _ _ _,fun k hk=>by simp at hk,fun k hk=>by simp at hk,fun k hk=>by simp at hk,Apart.nil⟩
theorem CpM.keep {W W':World} {B:Nat} {v:Value} {ms:List MMethod} {xs:List SMethod} (h:CpM W B v ms xs) (hb:Below W.heap.size W W'):CpM W' B v ms xs:=
 ⟨h.len,own_below h.row hb,h.sh,fun k a b=>own_below (h.tr k a b) hb,h.fr,h.at_⟩
theorem CpM.under {W:World} {B:Nat} {v:Value} {ms:List MMethod} {xs:List SMethod} (h:CpM W B v ms xs):Under W.heap.size (xs.map SMethod.traps):=by
 intro u hu i hi
 obtain ⟨x,hx,rfl⟩:=List.mem_map.1 hu
 obtain ⟨k,hk,rfl⟩:=List.getElem_of_mem hx
 exact ((h.tr k (by have:=h.len;omega) hk).lt i hi).2
theorem CpM.snoc {W W':World} {B H:Nat} {v v' vt vf:Value} {m:MMethod} {ms:List MMethod} {xs:List SMethod} {o:Obj} (h:CpM W B v ms xs) (ht:W.ownsRow H 170 4 vt m.traps.length (rowTrap m.traps)) (hU:Under H (xs.map SMethod.traps)) (hBH:B≤H) (hf:∃ a n c,vf=.slice a n c)
  (hg:(W.alloc o).grownBy W' v.ownBlock) (ho:W'.ownsRow B 74 8 v' (ms.length+1) (rowMethod xs++cellsMethod (shM m vt vf))):CpM W' B v' (ms++[m]) (xs++[shM m vt vf]):=by
 have k:Kp W W' B 74:=Kp.grow h.row hg
 have e1:=h.len
 refine ⟨by simp [h.len], ?_,fun j hj hj'=>?_,fun j hj hj'=>?_,fun j hj=>?_, ?_⟩
 ·rw [rowMethod_snoc,List.length_append];exact ho
 ·by_cases hlt:j<ms.length
  ·simp only [List.getElem_append_left hlt,List.getElem_append_left (show j<xs.length by omega)]
   exact h.sh j hlt (by omega)
  ·have hje:j=ms.length:=by simp at hj;omega
   subst hje
   simp only [List.getElem_append_right (Nat.le_refl _),List.getElem_append_right (show xs.length≤ms.length by omega)]
   simp [e1,shM]
 ·by_cases hlt:j<ms.length
  ·simp only [List.getElem_append_left hlt,List.getElem_append_left (show j<xs.length by omega)]
   exact k _ _ _ _ _ (by decide) (h.tr j hlt (by omega))
  ·have hje:j=ms.length:=by simp at hj;omega
   subst hje
   simp only [List.getElem_append_right (Nat.le_refl _),List.getElem_append_right (show xs.length≤ms.length by omega)]
   simpa [e1,shM] using k _ _ _ _ _ (by decide) (Joins.ownsRow_le ht hBH)
 ·by_cases hlt:j<xs.length
  ·simp only [List.getElem_append_left hlt]
   exact h.fr j hlt
  ·have hje:j=xs.length:=by simp at hj;omega
   subst hje
   simpa [shM] using hf
 ·rw [List.map_append]
  exact Apart.app h.at_ (apart_one _) hU (over_row ht)
theorem copyMethods_any (v:Value) (ms:List MMethod) (B:Nat) (w:World) (hl:ms.length≤1048576) (hf:∀ m∈ms,m.few) (h:MethodsW w B v ms) :
  Calls Tryz.prog 93 #[v,.func (.func 94) #[] #[]] w fun e w'=>∃ v' xs,e=.returned v'∧CpM w' w.heap.size v' ms xs∧Below w.heap.size w w':=by
 obtain ⟨zs,hyl,hyo,hye⟩:=h
 have HC:=hid (fun k (hk:k<ms.length) (hk':k<zs.length)=>show ∃ a5 k5 a6 k6,zs[k]=shM ms[k] (.slice a5 ms[k].traps.length k5) (.slice a6 ms[k].frames.length k6)∧∀ W,Below w.heap.size w W→Calls Tryz.prog 94 #[.agg #[.int .i64 ms[k].flags,.int .i64 ms[k].name,.int .i64 ms[k].desc,.int .i64 ms[k].deep,.int .i64 ms[k].locals,.string ms[k].code,.slice a5 ms[k].traps.length k5,.slice a6 ms[k].frames.length k6]] W (fun e w'=>∃ b5 j5 b6 n6 j6,e=.returned (.agg #[.int .i64 ms[k].flags,.int .i64 ms[k].name,.int .i64 ms[k].desc,.int .i64 ms[k].deep,.int .i64 ms[k].locals,.string ms[k].code,.slice b5 ms[k].traps.length j5,.slice b6 n6 j6])∧w'.ownsRow W.heap.size 170 4 (.slice b5 ms[k].traps.length j5) ms[k].traps.length (rowTrap ms[k].traps)∧Below W.heap.size W w') from by
  obtain ⟨vt,vf,he,hw⟩:=hye k hk hk'
  obtain ⟨a5,k5,e1⟩:=own_len hw.t
  obtain ⟨a6,k6,e2⟩:=hw.f.len
  subst e1 e2
  exact ⟨a5,k5,a6,k6,he,fun W hW=>copyMethod_any _ _ _ _ _ B W (hf _ (List.getElem_mem hk)) (hw.keep hW)⟩)
 obtain ⟨i0,hi,hz0,hz1,hz2⟩:=info_parts infoMethod
 obtain ⟨ao,cap,rfl⟩:=own_len hyo
 have HO:=hid hyo
 have HYL:=hid hyl
 clear hyo hye hf hyl
 go_enter Tryz.func93,Tryz.ntmps93
 go_wp2
 go_loopw [5,10] (fun o i wr=>∃ (k:Nat) (xs:List SMethod),k≤ms.length∧i=.int .i64 k∧CpM wr w.heap.size o (ms.take k) xs∧Below w.heap.size w wr) (fun _ i _=>ms.length - (intOf i).toNat)
 case atStart=>exact ⟨0,[],by omega,by first|rfl|go_num,CpM.nil _ _,Below.refl _ _⟩
 case round=>
  obtain ⟨k,xs,hk,rfl,hcm,hbel⟩:=hrel
  have hrow:=hcm.row
  rw [List.length_take,Nat.min_eq_left hk] at hrow
  obtain ⟨ao',cap',rfl⟩:=own_len hrow
  by_cases hlt:k<ms.length
  ·obtain ⟨g,hg⟩:=own_some HO.out (by omega)
   subst hg
   have hky:k<zs.length:=by rw [HYL.out];exact hlt
   obtain ⟨g0,g1,g2,g3,g4,g5,g6,g7⟩:=ownMethod_at (own_below HO.out hbel) (k:=k) HYL.out hky
   have hgl:=((own_below HO.out hbel).lt g rfl).2
   obtain ⟨a5,k5,a6,k6,he,hC0⟩:=HC.out k hlt hky
   rw [he] at g0 g1 g2 g3 g4 g5 g6 g7
   simp only [shM] at g0 g1 g2 g3 g4 g5 g6 g7
   have HTK:=hid (show ms.take (k+1)=ms.take k++[ms[k]] from List.take_succ_eq_append_getElem hlt)
   generalize ms[k]=m at g0 g1 g2 g3 g4 g5 g6 g7 hC0 HTK
   have HC0:=hid hC0
   have z5:(k:Int)<(ms.length:Int):=by omega
   have HW:=hid hcm
   have HR:=hid hrow
   have HBL:=hid hbel
   have hsz:=hbel.size
   clear hcm hrow hbel he hC0
   go_wp2_with fail
   refine (HC0.out _ (HBL.out.trans ((by go_grown:Below wr.heap.size wr _).mono hsz))).mono ?_
   rintro e w2 ⟨b5,j5,b6,n6,j6,rfl,ht2,hb2⟩
   have hb3:Below wr.heap.size wr w2:=(by go_grown:Below wr.heap.size wr _).trans (hb2.mono (by simp))
   have HT2:=hid (show w2.ownsRow wr.heap.size 170 4 (.slice b5 m.traps.length j5) m.traps.length (rowTrap m.traps) from Joins.ownsRow_le ht2 (by simp))
   clear HC0 hb2 ht2 g0 g1 g2 g3 g4 g5 g6 g7
   have HW2:=hid (HW.out.keep hb3)
   have HO2:=hid (own_below HR.out hb3)
   have hs3:=hb3.size
   have HB3:=hid hb3
   clear hb3
   go_wp2_with (at_builtin;refine wpList_append_own _ rfl _ _ 32 rfl w.heap.size 74 i0 (.agg #[.int .i64 0,.int .i64 0,.int .i64 0,.int .i64 0,.int .i64 0,.string ⟨#[]⟩,.slice none 0 0,.slice none 0 0]) 8 104 Tryz.underlying32 hi hz0 hz1 hz2 rfl (by decide) _ _ _ rfl (HO2.out.alloc _) ⟨w2.heap.size,0,none⟩ 1 1 [.int .i64 m.flags,.int .i64 m.name,.int .i64 m.desc,.int .i64 m.deep,.int .i64 m.locals,.string m.code,.slice b5 m.traps.length j5,.slice b6 n6 j6] rfl rfl ?c1 ?c2 ?c3 ?c4 ?c5 ?_)
   case c1=>exact fun j u hj=>cells_new _ _ _ j u hj
   case c2=>intro u hu;simp at hu;rcases hu with rfl|rfl|rfl|rfl|rfl|rfl|rfl|rfl<;>rfl
   case c3=>unfold maxLen;omega
   case c4=>omega
   case c5=>simp;omega
   intro v' w4 hown' hgrow _
   obtain ⟨hn1,hn2⟩:=own_next HR.out HB3.out HBL.out hsz hown' hgrow
   have hS:CpM w4 w.heap.size v' (ms.take (k+1)) (xs++[shM m (.slice b5 m.traps.length j5) (.slice b6 n6 j6)]):=by
    rw [HTK.out]
    exact HW2.out.snoc HT2.out HW.out.under hsz ⟨_,_,_,rfl⟩ hgrow (by rw [List.length_take,Nat.min_eq_left hk];exact hn1)
   clear hown' hgrow HO2 hn1
   go_wp2
   go_roundw
   case rel=>exact ⟨k+1,_,by omega,by go_num,hS,hn2⟩
   case measure=>simp [intOf];omega
  ·obtain rfl:k=ms.length:=by omega
   have HW:=hid (show CpM wr w.heap.size (.slice ao' ms.length cap') ms xs from by rw [List.take_length] at hcm;exact hcm)
   have HBL:=hid hbel
   clear hcm hrow hbel
   go_wp2
   go_ret
   exact ⟨_,_,rfl,HW.out,HBL.out⟩
theorem CpM.set {W:World} {B:Nat} {v:Value} {ms:List MMethod} {xs:List SMethod} (h:CpM W B v ms xs) {a:Addr} (ha:a.block<B) (u:Value):CpM (W.setCell a u) B v ms xs:=
 ⟨h.len,ownsRow_setCell_below h.row ha u,h.sh,fun k p q=>ownsRow_setCell_below (h.tr k p q) ha u,h.fr,h.at_⟩
theorem CpM.mono {W:World} {B B':Nat} {v:Value} {ms:List MMethod} {xs:List SMethod} (h:CpM W B v ms xs) (hb:B'≤B):CpM W B' v ms xs:=
 ⟨h.len,Joins.ownsRow_le h.row hb,h.sh,fun k p q=>Joins.ownsRow_le (h.tr k p q) hb,h.fr,h.at_⟩
theorem one_int (ts:List Int):∀ u∈rowI ts,u.oneCell'=true:=by
 intro u hu
 unfold rowI at hu
 obtain ⟨t,_,rfl⟩:=List.mem_map.1 hu
 rfl
structure CpC (W:World) (B:Nat) (vp vi vf vm:Value) (c:MClass) (xs:List SMethod):Prop where
 p:W.ownsRow B 50 4 vp c.pool.length (cellsC c.pool)
 i:W.ownsRow B 3 1 vi c.faces.length (rowI c.faces)
 f:W.ownsRow B 99 3 vf c.fields.length (rowField c.fields)
 m:CpM W B vm c.methods xs
theorem CpC.keep {W W':World} {B:Nat} {vp vi vf vm:Value} {c:MClass} {xs:List SMethod} (h:CpC W B vp vi vf vm c xs) (hb:Below W.heap.size W W'):CpC W' B vp vi vf vm c xs:=⟨own_below h.p hb,own_below h.i hb,own_below h.f hb,h.m.keep hb⟩
theorem CpC.set {W:World} {B:Nat} {vp vi vf vm:Value} {c:MClass} {xs:List SMethod} (h:CpC W B vp vi vf vm c xs) {a:Addr} (ha:a.block<B) (u:Value):CpC (W.setCell a u) B vp vi vf vm c xs:=⟨ownsRow_setCell_below h.p ha u,ownsRow_setCell_below h.i ha u,ownsRow_setCell_below h.f ha u,h.m.set ha u⟩
theorem CpC.mono {W:World} {B B':Nat} {vp vi vf vm:Value} {c:MClass} {xs:List SMethod} (h:CpC W B vp vi vf vm c xs) (hb:B'≤B):CpC W B' vp vi vf vm c xs:=⟨Joins.ownsRow_le h.p hb,Joins.ownsRow_le h.i hb,Joins.ownsRow_le h.f hb,h.m.mono hb⟩
theorem copyClass_any (c:MClass) (vp vi vf vm:Value) (B:Nat) (w:World) (hc:c.few) (h:ClassW w B vp vi vf vm c) :
  Calls Tryz.prog 47 #[.agg #[vp,.int .i64 c.flags,.int .i64 c.name,.int .i64 c.super,vi,vf,vm]] w fun e w'=>∃ up ui uf um xs,e=.returned (.agg #[up,.int .i64 c.flags,.int .i64 c.name,.int .i64 c.super,ui,uf,um])∧CpC w' w.heap.size up ui uf um c xs∧Below w.heap.size w w':=by
 obtain ⟨o1,j1,hv1⟩:=own_len h.p
 obtain ⟨o2,j2,hv2⟩:=own_len h.i
 obtain ⟨o3,j3,hv3⟩:=own_len h.f
 obtain ⟨o4,j4,hv4⟩:=h.m.len
 subst hv1 hv2 hv3 hv4
 have S0:=TwoB.new w 34 #[.slice o1 c.pool.length j1,.int .i64 c.flags,.int .i64 c.name,.int .i64 c.super,.slice o2 c.faces.length j2,.slice o3 c.fields.length j3,.slice o4 c.methods.length j4] #[.slice none 0 0,.int .i64 0,.int .i64 0,.int .i64 0,.slice none 0 0,.slice none 0 0,.slice none 0 0]
 have hP0:=copyPool_any (.slice o1 c.pool.length j1) c.pool B _ hc.pool hc.texts (own_below h.p S0.b)
 have HI:=hid (fun W (hW:Below w.heap.size w W)=>cloneInt_any (.slice o2 c.faces.length j2) c.faces.length B (rowI c.faces) W hc.faces (one_int _) (own_below h.i hW))
 have HF:=hid (fun W (hW:Below w.heap.size w W)=>cloneField_any (.slice o3 c.fields.length j3) c.fields.length B (rowField c.fields) W hc.fields (one_field _) (own_below h.f hW))
 have HM:=hid (fun W (hW:Below w.heap.size w W)=>copyMethods_any (.slice o4 c.methods.length j4) c.methods B W hc.methods hc.each (h.m.keep hW))
 obtain ⟨⟨c0,c1,c2,c3,c4,c5,c6⟩,z0,z1,z2,z3,z4,z5,z6⟩:=S0.box.x7
 clear h hc
 go_enter Tryz.func47,Tryz.ntmps47
 go_wp2_with fail
 refine hP0.mono ?_
 rintro e w1 ⟨v1,rfl,ho1,hb1⟩
 obtain ⟨p1,k1,rfl⟩:=own_len ho1
 have T1:=S0.keep hb1
 have R1:=hid (show w1.ownsRow (w.heap.size+2) 50 4 (.slice p1 c.pool.length k1) c.pool.length (cellsC c.pool) from Joins.ownsRow_le ho1 (by simp))
 clear S0 hb1 ho1 hP0 c0 c1 c2 c3 c4 c5 c6 z0 z1 z2 z3 z4 z5 z6
 obtain ⟨⟨c0,c1,c2,c3,c4,c5,c6⟩,z0,z1,z2,z3,z4,z5,z6⟩:=T1.box.x7
 have S1:=T1.set (a':=#[.slice p1 c.pool.length k1,.int .i64 c.flags,.int .i64 c.name,.int .i64 c.super,.slice o2 c.faces.length j2,.slice o3 c.fields.length j3,.slice o4 c.methods.length j4]) 0 (.slice p1 c.pool.length k1) rfl
 have hsz1:w.heap.size+2≤w1.heap.size:=by have:=T1.res.lt;omega
 have R1s:=hid (ownsRow_setCell_below R1.out (a:=⟨w.heap.size,0,none⟩) (by simp) (.slice p1 c.pool.length k1))
 have hI:=HI.out _ S1.b
 clear HI T1 R1
 go_wp2_with fail
 refine hI.mono ?_
 rintro e w2 ⟨v2,rfl,ho2,hb2⟩
 obtain ⟨p2,k2,rfl⟩:=own_len ho2
 have T2:=S1.keep hb2
 have R1:=hid (own_below R1s.out hb2)
 have R2:=hid (show w2.ownsRow (w.heap.size+2) 3 1 (.slice p2 c.faces.length k2) c.faces.length (rowI c.faces) from Joins.ownsRow_le ho2 (by simp;omega))
 clear S1 hb2 ho2 hI R1s c0 c1 c2 c3 c4 c5 c6 z0 z1 z2 z3 z4 z5 z6
 obtain ⟨⟨c0,c1,c2,c3,c4,c5,c6⟩,z0,z1,z2,z3,z4,z5,z6⟩:=T2.box.x7
 have S2:=T2.set (a':=#[.slice p1 c.pool.length k1,.int .i64 c.flags,.int .i64 c.name,.int .i64 c.super,.slice p2 c.faces.length k2,.slice o3 c.fields.length j3,.slice o4 c.methods.length j4]) 4 (.slice p2 c.faces.length k2) rfl
 have hsz2:w.heap.size+2≤w2.heap.size:=by have:=T2.res.lt;omega
 have R1s:=hid (ownsRow_setCell_below R1.out (a:=⟨w.heap.size,4,none⟩) (by simp) (.slice p2 c.faces.length k2))
 have R2s:=hid (ownsRow_setCell_below R2.out (a:=⟨w.heap.size,4,none⟩) (by simp) (.slice p2 c.faces.length k2))
 have hF:=HF.out _ S2.b
 clear HF T2 R1 R2
 go_wp2_with fail
 refine hF.mono ?_
 rintro e w3 ⟨v3,rfl,ho3,hb3⟩
 obtain ⟨p3,k3,rfl⟩:=own_len ho3
 have T3:=S2.keep hb3
 have R1:=hid (own_below R1s.out hb3)
 have R2:=hid (own_below R2s.out hb3)
 have R3:=hid (show w3.ownsRow (w.heap.size+2) 99 3 (.slice p3 c.fields.length k3) c.fields.length (rowField c.fields) from Joins.ownsRow_le ho3 (by simp;omega))
 clear S2 hb3 ho3 hF R1s R2s c0 c1 c2 c3 c4 c5 c6 z0 z1 z2 z3 z4 z5 z6
 obtain ⟨⟨c0,c1,c2,c3,c4,c5,c6⟩,z0,z1,z2,z3,z4,z5,z6⟩:=T3.box.x7
 have S3:=T3.set (a':=#[.slice p1 c.pool.length k1,.int .i64 c.flags,.int .i64 c.name,.int .i64 c.super,.slice p2 c.faces.length k2,.slice p3 c.fields.length k3,.slice o4 c.methods.length j4]) 5 (.slice p3 c.fields.length k3) rfl
 have hsz3:w.heap.size+2≤w3.heap.size:=by have:=T3.res.lt;omega
 have R1s:=hid (ownsRow_setCell_below R1.out (a:=⟨w.heap.size,5,none⟩) (by simp) (.slice p3 c.fields.length k3))
 have R2s:=hid (ownsRow_setCell_below R2.out (a:=⟨w.heap.size,5,none⟩) (by simp) (.slice p3 c.fields.length k3))
 have R3s:=hid (ownsRow_setCell_below R3.out (a:=⟨w.heap.size,5,none⟩) (by simp) (.slice p3 c.fields.length k3))
 have hM:=HM.out _ S3.b
 clear HM T3 R1 R2 R3
 go_wp2_with fail
 refine hM.mono ?_
 rintro e w4 ⟨v4,xs,rfl,ho4,hb4⟩
 obtain ⟨p4,k4,rfl⟩:=own_len ho4.row
 have T4:=S3.keep hb4
 have HCC:=hid (show CpC w4 (w.heap.size+2) (.slice p1 c.pool.length k1) (.slice p2 c.faces.length k2) (.slice p3 c.fields.length k3) (.slice p4 c.methods.length k4) c xs from ⟨own_below R1s.out hb4,own_below R2s.out hb4,own_below R3s.out hb4,ho4.mono (by simp;omega)⟩)
 clear S3 hb4 ho4 hM R1s R2s R3s c0 c1 c2 c3 c4 c5 c6 z0 z1 z2 z3 z4 z5 z6
 obtain ⟨⟨c0,c1,c2,c3,c4,c5,c6⟩,z0,z1,z2,z3,z4,z5,z6⟩:=T4.box.x7
 obtain ⟨⟨r0,r1,r2,r3,r4,r5,r6⟩,q0,q1,q2,q3,q4,q5,q6⟩:=T4.res.x7
 have HB4:=hid T4.b
 clear T4
 go_wp2
 refine bodyPost_ret (v:=.agg #[.slice p1 c.pool.length k1,.int .i64 c.flags,.int .i64 c.name,.int .i64 c.super,.slice p2 c.faces.length k2,.slice p3 c.fields.length k3,.slice p4 c.methods.length k4]) (by simp [results,Tryz.results47,go_sem, *]) rfl ⟨_,_,_,_,xs,rfl, ?_, ?_⟩
 ·have s0:=HCC.out.set (a:=⟨w.heap.size,6,none⟩) (by simp) (.slice p4 c.methods.length k4)
  have s1:=s0.set (a:=⟨w.heap.size+1,0,none⟩) (by simp) (.slice p1 c.pool.length k1)
  have s2:=s1.set (a:=⟨w.heap.size+1,1,none⟩) (by simp) (.int .i64 c.flags)
  have s3:=s2.set (a:=⟨w.heap.size+1,2,none⟩) (by simp) (.int .i64 c.name)
  have s4:=s3.set (a:=⟨w.heap.size+1,3,none⟩) (by simp) (.int .i64 c.super)
  have s5:=s4.set (a:=⟨w.heap.size+1,4,none⟩) (by simp) (.slice p2 c.faces.length k2)
  have s6:=s5.set (a:=⟨w.heap.size+1,5,none⟩) (by simp) (.slice p3 c.fields.length k3)
  have s7:=s6.set (a:=⟨w.heap.size+1,6,none⟩) (by simp) (.slice p4 c.methods.length k4)
  exact s7.mono (by omega)
 ·exact ((((((((HB4.out.setCell (by simp) _).setCell (by simp) _).setCell (by simp) _).setCell (by simp) _).setCell (by simp) _).setCell (by simp) _).setCell (by simp) _).setCell (by simp) _)
end Go.Proofs.YtadgoaogkkffmaaGreatDoor
