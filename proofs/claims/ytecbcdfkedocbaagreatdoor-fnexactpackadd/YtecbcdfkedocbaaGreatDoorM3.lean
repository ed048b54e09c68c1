/- Gathered: MkFlat MkConst. -/
import Derived.Test.YtecbcdfkedocbaaGreatDoorH01
import Derived.Test.YtecbcdfkedocbaaGreatDoorG01
import Derived.Test.YtecbcdfkedocbaaGreatDoorM1
import Derived.Deep.RegionWith
namespace Go.Proofs.YtecbcdfkedocbaaGreatDoor
open Go.RowKit
set_option maxHeartbeats 2000000
set_option maxRecDepth 20000
set_option linter.unusedVariables false
def cnt (k m:Nat):List Value:=(List.range m).map fun i=>Value.int .i64 ((k+i:Nat):Int)
theorem cnt_len (k m:Nat):(cnt k m).length=m:=by simp [cnt]
theorem cnt_get {k m c:Nat} (h:c<m):(cnt k m)[c]? = some (.int .i64 ((k+c:Nat):Int)):=by simp [cnt,h]
theorem cnt_succ (k m:Nat):cnt k (m+1)=cnt k m++[.int .i64 ((k+m:Nat):Int)]:=by simp [cnt,List.range_succ]
theorem cnt_set (k c:Nat) (xs:List Value) (h:c<xs.length) (a:Int) (ha:a=((k+c:Nat):Int)):(cnt k c++xs.drop c).set c (.int .i64 a)=cnt k (c+1)++xs.drop (c+1):=by
 subst ha
 rw [List.set_append_right _ _ (by rw [cnt_len];omega),cnt_len,Nat.sub_self,List.drop_eq_getElem_cons h,List.set_cons_zero,cnt_succ]
 simp
theorem cnt_stored {w:World} {B g c1 n k0 c z:Nat} {T:TypeId} {xs:List Value} (h:w.ownsRow B T z (.slice (some ⟨g,0,none⟩) n c1) n (cnt k0 c++xs.drop c)) (hc:c<xs.length) (a:Int) (ha:a=((k0+c:Nat):Int)) :
  (w.setCell ⟨g,c,none⟩ (.int .i64 a)).ownsRow B T z (.slice (some ⟨g,0,none⟩) n c1) n (cnt k0 (c+1)++xs.drop (c+1))∧w.grownBy (w.setCell ⟨g,c,none⟩ (.int .i64 a)) (some g):=by
 have:=h.stored c (.int .i64 a)
 rw [cnt_set k0 c xs hc a ha] at this
 exact this
theorem markIntS_any (v:Value) (k0 n B:Nat) (xs:List Value) (w:World) (hn:n≤1000) (hk:k0≤1000000000) (h:w.ownsRow B 3 1 v n xs) :
  Calls Tryz.prog 35 #[v,.int .i64 (k0:Int)] w fun e w'=>e=.returned (.int .i64 ((k0+n*1:Nat):Int))∧w'.ownsRow B 3 1 v n (cnt k0 (n*1))∧w.grownBy w' v.ownBlock:=by
 have hxl:xs.length=n*1:=h.1
 by_cases hz:n=0
 ·obtain ⟨ao1,c1,rfl⟩:=own_len h
  subst hz
  have hx0:xs=[]:=List.eq_nil_of_length_eq_zero (by omega)
  subst hx0
  have HO:=hid h
  clear h hxl
  go_enter Tryz.func35,Tryz.ntmps35
  go_wp2
  refine wp_loop_rounds 1 ?_
  rw [rounds_succ]
  go_wp2
  go_ret
  exact ⟨by simp,by simpa [cnt] using HO.out,grown_refl _ _⟩
 ·obtain ⟨g1,c1,rfl⟩:=Joins.ownsRow_form h (by omega)
  have HO0:=hid (show w.ownsRow B 3 1 (.slice (some ⟨g1,0,none⟩) n c1) n (cnt k0 0++xs.drop 0) from by simpa [cnt] using h)
  clear h
  go_enter Tryz.func35,Tryz.ntmps35
  go_wp2
  go_loopw [1,5] (fun kv i wr=>∃ (j a:Nat),j≤n∧i=.int .i64 j∧kv=.int .i64 (a:Int)∧Hid (a=k0+j*1)∧a≤1000010000∧Hid (wr.ownsRow B 3 1 (.slice (some ⟨g1,0,none⟩) n c1) n (cnt k0 (j*1)++xs.drop (j*1)))∧Hid (w.grownBy wr (some g1))) (fun _ i _=>n - (intOf i).toNat)
  case atStart=>exact ⟨0,k0,by omega,rfl,rfl,hid (by omega),by omega,by simpa using HO0,grown_refl _ _⟩
  case round=>
   obtain ⟨j,a,hj,rfl,rfl,ha,hab,HO,HG⟩:=hrel
   by_cases hlt:j<n
   ·obtain ⟨u0_,hc0⟩:=own_has HO.out (k:=j) (by omega)
    have hf0:=HO.out.frozenAt (j)
    have HX0:=hid (show _ from HO.out)
    have HX1:=hid (cnt_stored (k0:=k0) (c:=j) (show wr.ownsRow B 3 1 (.slice (some ⟨g1,0,none⟩) n c1) n (cnt k0 j++xs.drop j) from by have:=HO.out;rwa [show j*1=j by omega] at this) (by omega) ((a:Int)) (by have:=ha.out;omega))
    have HN:=hid (show _∧_ from ⟨HX1.out.1,grown_trans (HG.out) HX1.out.2⟩)
    clear HO HO0 HG HX0 HX1
    go_wp2
    go_roundw
    case rel=>exact ⟨j+1,a+1,by omega,by go_num,by go_num,hid (by have:=ha.out;omega),by have:=ha.out;omega,by have:=HN.out.1;rw [show (j+1)*1=j+1 by omega];exact this,HN.out.2⟩
    case measure=>simp [intOf];omega
   ·have hj':=hid (show j=n by omega)
    have HO':=hid (show wr.ownsRow B 3 1 (.slice (some ⟨g1,0,none⟩) n c1) n (cnt k0 (n*1)) from by
     have:=HO.out;rw [List.drop_eq_nil_of_le (by omega),List.append_nil,hj'.out] at this;exact this)
    clear HO HO0
    go_wp2
    go_ret
    exact ⟨ret_i64 (by rw [ha.out,hj'.out]),HO'.out,HG.out⟩
theorem heldIntS_any (v:Value) (k0 n B:Nat) (w:World) (hn:n≤1000) (hk:k0≤1000000000) (h:w.ownsRow B 3 1 v n (cnt k0 (n*1))) :
  Calls Tryz.prog 39 #[v,.int .i64 (k0:Int)] w fun e w'=>e=.returned (.int .i64 ((k0+n*1:Nat):Int))∧Below w.heap.size w w':=by
 by_cases hz:n=0
 ·obtain ⟨ao1,c1,rfl⟩:=own_len h
  subst hz
  clear h
  go_enter Tryz.func39,Tryz.ntmps39
  go_wp2
  refine wp_loop_rounds 1 ?_
  rw [rounds_succ]
  go_wp2
  go_ret
  exact ⟨by simp,Below.refl _ _⟩
 ·obtain ⟨g1,c1,rfl⟩:=Joins.ownsRow_form h (by omega)
  have HC:=hid (show ∀ c,c<n*1→w.cell? ⟨g1,c,none⟩=some (.int .i64 ((k0+c:Nat):Int)) from fun c hc=>by rw [h.cellAt c hc];exact cnt_get hc)
  clear h
  go_enter Tryz.func39,Tryz.ntmps39
  go_wp2
  go_loopw [1,5] (fun kv i wr=>∃ (j a q:Nat),j≤n∧i=.int .i64 j∧kv=.int .i64 (a:Int)∧Hid (a=k0+j*1)∧a≤1000010000∧wr=w.drewN q) (fun _ i _=>n - (intOf i).toNat)
  case atStart=>exact ⟨0,k0,0,by omega,rfl,rfl,hid (by omega),by omega,rfl⟩
  case round=>
   obtain ⟨j,a,q,hj,rfl,rfl,ha,hab,rfl⟩:=hrel
   by_cases hlt:j<n
   ·have hc0:w.cell? ⟨g1,j,none⟩=some (.int .i64 ((a:Int))):=by rw [HC.out _ (by omega)];congr 2;have:=ha.out;omega
    clear HC
    go_wp2
    go_roundw
    case rel=>exact ⟨j+1,a+1,_,by omega,by go_num,by go_num,hid (by have:=ha.out;omega),by have:=ha.out;omega,rfl⟩
    case measure=>simp [intOf];omega
   ·have hj':=hid (show j=n by omega)
    go_wp2
    go_ret
    exact ⟨ret_i64 (by rw [ha.out,hj'.out]),below_drewN (Below.refl _ _) _⟩
theorem markKindS_any (v:Value) (k0 n B:Nat) (xs:List Value) (w:World) (hn:n≤1000) (hk:k0≤1000000000) (h:w.ownsRow B 144 2 v n xs) :
  Calls Tryz.prog 105 #[v,.int .i64 (k0:Int)] w fun e w'=>e=.returned (.int .i64 ((k0+n*2:Nat):Int))∧w'.ownsRow B 144 2 v n (cnt k0 (n*2))∧w.grownBy w' v.ownBlock:=by
 have hxl:xs.length=n*2:=h.1
 by_cases hz:n=0
 ·obtain ⟨ao1,c1,rfl⟩:=own_len h
  subst hz
  have hx0:xs=[]:=List.eq_nil_of_length_eq_zero (by omega)
  subst hx0
  have HO:=hid h
  clear h hxl
  go_enter Tryz.func105,Tryz.ntmps105
  go_wp2
  refine wp_loop_rounds 1 ?_
  rw [rounds_succ]
  go_wp2
  go_ret
  exact ⟨by simp,by simpa [cnt] using HO.out,grown_refl _ _⟩
 ·obtain ⟨g1,c1,rfl⟩:=Joins.ownsRow_form h (by omega)
  have HO0:=hid (show w.ownsRow B 144 2 (.slice (some ⟨g1,0,none⟩) n c1) n (cnt k0 0++xs.drop 0) from by simpa [cnt] using h)
  clear h
  go_enter Tryz.func105,Tryz.ntmps105
  go_wp2
  go_loopw [1,5] (fun kv i wr=>∃ (j a:Nat),j≤n∧i=.int .i64 j∧kv=.int .i64 (a:Int)∧Hid (a=k0+j*2)∧a≤1000010000∧Hid (wr.ownsRow B 144 2 (.slice (some ⟨g1,0,none⟩) n c1) n (cnt k0 (j*2)++xs.drop (j*2)))∧Hid (w.grownBy wr (some g1))) (fun _ i _=>n - (intOf i).toNat)
  case atStart=>exact ⟨0,k0,by omega,rfl,rfl,hid (by omega),by omega,by simpa using HO0,grown_refl _ _⟩
  case round=>
   obtain ⟨j,a,hj,rfl,rfl,ha,hab,HO,HG⟩:=hrel
   by_cases hlt:j<n
   ·obtain ⟨u0_,hc0⟩:=own_has HO.out (k:=j*2) (by omega)
    have hf0:=HO.out.frozenAt (j*2)
    obtain ⟨u1_,hc1⟩:=own_has HO.out (k:=j*2+1) (by omega)
    have hf1:=HO.out.frozenAt (j*2+1)
    have HX0:=hid (show _ from HO.out)
    have HX1:=hid (cnt_stored (k0:=k0) (c:=j*2) HO.out (by omega) ((a:Int)) (by have:=ha.out;omega))
    have HX2:=hid (cnt_stored (k0:=k0) (c:=j*2+1) HX1.out.1 (by omega) ((a:Int)+1) (by have:=ha.out;omega))
    have HN:=hid (show _∧_ from ⟨HX2.out.1,grown_trans (grown_trans (HG.out) HX1.out.2) HX2.out.2⟩)
    clear HO HO0 HG HX0 HX1 HX2
    go_wp2
    go_roundw
    case rel=>exact ⟨j+1,a+2,by omega,by go_num,by go_num,hid (by have:=ha.out;omega),by have:=ha.out;omega,by have:=HN.out.1;rw [show (j+1)*2=j*2+2 by omega];exact this,HN.out.2⟩
    case measure=>simp [intOf];omega
   ·have hj':=hid (show j=n by omega)
    have HO':=hid (show wr.ownsRow B 144 2 (.slice (some ⟨g1,0,none⟩) n c1) n (cnt k0 (n*2)) from by
     have:=HO.out;rw [List.drop_eq_nil_of_le (by omega),List.append_nil,hj'.out] at this;exact this)
    clear HO HO0
    go_wp2
    go_ret
    exact ⟨ret_i64 (by rw [ha.out,hj'.out]),HO'.out,HG.out⟩
theorem heldKindS_any (v:Value) (k0 n B:Nat) (w:World) (hn:n≤1000) (hk:k0≤1000000000) (h:w.ownsRow B 144 2 v n (cnt k0 (n*2))) :
  Calls Tryz.prog 106 #[v,.int .i64 (k0:Int)] w fun e w'=>e=.returned (.int .i64 ((k0+n*2:Nat):Int))∧Below w.heap.size w w':=by
 by_cases hz:n=0
 ·obtain ⟨ao1,c1,rfl⟩:=own_len h
  subst hz
  clear h
  go_enter Tryz.func106,Tryz.ntmps106
  go_wp2
  refine wp_loop_rounds 1 ?_
  rw [rounds_succ]
  go_wp2
  go_ret
  exact ⟨by simp,Below.refl _ _⟩
 ·obtain ⟨g1,c1,rfl⟩:=Joins.ownsRow_form h (by omega)
  have HC:=hid (show ∀ c,c<n*2→w.cell? ⟨g1,c,none⟩=some (.int .i64 ((k0+c:Nat):Int)) from fun c hc=>by rw [h.cellAt c hc];exact cnt_get hc)
  clear h
  go_enter Tryz.func106,Tryz.ntmps106
  go_wp2
  go_loopw [1,5] (fun kv i wr=>∃ (j a q:Nat),j≤n∧i=.int .i64 j∧kv=.int .i64 (a:Int)∧Hid (a=k0+j*2)∧a≤1000010000∧wr=w.drewN q) (fun _ i _=>n - (intOf i).toNat)
  case atStart=>exact ⟨0,k0,0,by omega,rfl,rfl,hid (by omega),by omega,rfl⟩
  case round=>
   obtain ⟨j,a,q,hj,rfl,rfl,ha,hab,rfl⟩:=hrel
   by_cases hlt:j<n
   ·have hc0:w.cell? ⟨g1,j*2,none⟩=some (.int .i64 ((a:Int))):=by rw [HC.out _ (by omega)];congr 2;have:=ha.out;omega
    have hc1:w.cell? ⟨g1,j*2+1,none⟩=some (.int .i64 ((a:Int)+1)):=by rw [HC.out _ (by omega)];congr 2;have:=ha.out;omega
    clear HC
    go_wp2
    go_roundw
    case rel=>exact ⟨j+1,a+2,_,by omega,by go_num,by go_num,hid (by have:=ha.out;omega),by have:=ha.out;omega,rfl⟩
    case measure=>simp [intOf];omega
   ·have hj':=hid (show j=n by omega)
    go_wp2
    go_ret
    exact ⟨ret_i64 (by rw [ha.out,hj'.out]),below_drewN (Below.refl _ _) _⟩
theorem markFieldS_any (v:Value) (k0 n B:Nat) (xs:List Value) (w:World) (hn:n≤1000) (hk:k0≤1000000000) (h:w.ownsRow B 79 3 v n xs) :
  Calls Tryz.prog 36 #[v,.int .i64 (k0:Int)] w fun e w'=>e=.returned (.int .i64 ((k0+n*3:Nat):Int))∧w'.ownsRow B 79 3 v n (cnt k0 (n*3))∧w.grownBy w' v.ownBlock:=by
 have hxl:xs.length=n*3:=h.1
 by_cases hz:n=0
 ·obtain ⟨ao1,c1,rfl⟩:=own_len h
  subst hz
  have hx0:xs=[]:=List.eq_nil_of_length_eq_zero (by omega)
  subst hx0
  have HO:=hid h
  clear h hxl
  go_enter Tryz.func36,Tryz.ntmps36
  go_wp2
  refine wp_loop_rounds 1 ?_
  rw [rounds_succ]
  go_wp2
  go_ret
  exact ⟨by simp,by simpa [cnt] using HO.out,grown_refl _ _⟩
 ·obtain ⟨g1,c1,rfl⟩:=Joins.ownsRow_form h (by omega)
  have HO0:=hid (show w.ownsRow B 79 3 (.slice (some ⟨g1,0,none⟩) n c1) n (cnt k0 0++xs.drop 0) from by simpa [cnt] using h)
  clear h
  go_enter Tryz.func36,Tryz.ntmps36
  go_wp2
  go_loopw [1,5] (fun kv i wr=>∃ (j a:Nat),j≤n∧i=.int .i64 j∧kv=.int .i64 (a:Int)∧Hid (a=k0+j*3)∧a≤1000010000∧Hid (wr.ownsRow B 79 3 (.slice (some ⟨g1,0,none⟩) n c1) n (cnt k0 (j*3)++xs.drop (j*3)))∧Hid (w.grownBy wr (some g1))) (fun _ i _=>n - (intOf i).toNat)
  case atStart=>exact ⟨0,k0,by omega,rfl,rfl,hid (by omega),by omega,by simpa using HO0,grown_refl _ _⟩
  case round=>
   obtain ⟨j,a,hj,rfl,rfl,ha,hab,HO,HG⟩:=hrel
   by_cases hlt:j<n
   ·obtain ⟨u0_,hc0⟩:=own_has HO.out (k:=j*3) (by omega)
    have hf0:=HO.out.frozenAt (j*3)
    obtain ⟨u1_,hc1⟩:=own_has HO.out (k:=j*3+1) (by omega)
    have hf1:=HO.out.frozenAt (j*3+1)
    obtain ⟨u2_,hc2⟩:=own_has HO.out (k:=j*3+2) (by omega)
    have hf2:=HO.out.frozenAt (j*3+2)
    have HX0:=hid (show _ from HO.out)
    have HX1:=hid (cnt_stored (k0:=k0) (c:=j*3) HO.out (by omega) ((a:Int)) (by have:=ha.out;omega))
    have HX2:=hid (cnt_stored (k0:=k0) (c:=j*3+1) HX1.out.1 (by omega) ((a:Int)+1) (by have:=ha.out;omega))
    have HX3:=hid (cnt_stored (k0:=k0) (c:=j*3+2) HX2.out.1 (by omega) ((a:Int)+2) (by have:=ha.out;omega))
    have HN:=hid (show _∧_ from ⟨HX3.out.1,grown_trans (grown_trans (grown_trans (HG.out) HX1.out.2) HX2.out.2) HX3.out.2⟩)
    clear HO HO0 HG HX0 HX1 HX2 HX3
    go_wp2
    go_roundw
    case rel=>exact ⟨j+1,a+3,by omega,by go_num,by go_num,hid (by have:=ha.out;omega),by have:=ha.out;omega,by have:=HN.out.1;rw [show (j+1)*3=j*3+3 by omega];exact this,HN.out.2⟩
    case measure=>simp [intOf];omega
   ·have hj':=hid (show j=n by omega)
    have HO':=hid (show wr.ownsRow B 79 3 (.slice (some ⟨g1,0,none⟩) n c1) n (cnt k0 (n*3)) from by
     have:=HO.out;rw [List.drop_eq_nil_of_le (by omega),List.append_nil,hj'.out] at this;exact this)
    clear HO HO0
    go_wp2
    go_ret
    exact ⟨ret_i64 (by rw [ha.out,hj'.out]),HO'.out,HG.out⟩
theorem heldFieldS_any (v:Value) (k0 n B:Nat) (w:World) (hn:n≤1000) (hk:k0≤1000000000) (h:w.ownsRow B 79 3 v n (cnt k0 (n*3))) :
  Calls Tryz.prog 40 #[v,.int .i64 (k0:Int)] w fun e w'=>e=.returned (.int .i64 ((k0+n*3:Nat):Int))∧Below w.heap.size w w':=by
 by_cases hz:n=0
 ·obtain ⟨ao1,c1,rfl⟩:=own_len h
  subst hz
  clear h
  go_enter Tryz.func40,Tryz.ntmps40
  go_wp2
  refine wp_loop_rounds 1 ?_
  rw [rounds_succ]
  go_wp2
  go_ret
  exact ⟨by simp,Below.refl _ _⟩
 ·obtain ⟨g1,c1,rfl⟩:=Joins.ownsRow_form h (by omega)
  have HC:=hid (show ∀ c,c<n*3→w.cell? ⟨g1,c,none⟩=some (.int .i64 ((k0+c:Nat):Int)) from fun c hc=>by rw [h.cellAt c hc];exact cnt_get hc)
  clear h
  go_enter Tryz.func40,Tryz.ntmps40
  go_wp2
  go_loopw [1,5] (fun kv i wr=>∃ (j a q:Nat),j≤n∧i=.int .i64 j∧kv=.int .i64 (a:Int)∧Hid (a=k0+j*3)∧a≤1000010000∧wr=w.drewN q) (fun _ i _=>n - (intOf i).toNat)
  case atStart=>exact ⟨0,k0,0,by omega,rfl,rfl,hid (by omega),by omega,rfl⟩
  case round=>
   obtain ⟨j,a,q,hj,rfl,rfl,ha,hab,rfl⟩:=hrel
   by_cases hlt:j<n
   ·have hc0:w.cell? ⟨g1,j*3,none⟩=some (.int .i64 ((a:Int))):=by rw [HC.out _ (by omega)];congr 2;have:=ha.out;omega
    have hc1:w.cell? ⟨g1,j*3+1,none⟩=some (.int .i64 ((a:Int)+1)):=by rw [HC.out _ (by omega)];congr 2;have:=ha.out;omega
    have hc2:w.cell? ⟨g1,j*3+2,none⟩=some (.int .i64 ((a:Int)+2)):=by rw [HC.out _ (by omega)];congr 2;have:=ha.out;omega
    clear HC
    go_wp2
    go_roundw
    case rel=>exact ⟨j+1,a+3,_,by omega,by go_num,by go_num,hid (by have:=ha.out;omega),by have:=ha.out;omega,rfl⟩
    case measure=>simp [intOf];omega
   ·have hj':=hid (show j=n by omega)
    go_wp2
    go_ret
    exact ⟨ret_i64 (by rw [ha.out,hj'.out]),below_drewN (Below.refl _ _) _⟩
theorem markTrapS_any (v:Value) (k0 n B:Nat) (xs:List Value) (w:World) (hn:n≤1000) (hk:k0≤1000000000) (h:w.ownsRow B 140 4 v n xs) :
  Calls Tryz.prog 64 #[v,.int .i64 (k0:Int)] w fun e w'=>e=.returned (.int .i64 ((k0+n*4:Nat):Int))∧w'.ownsRow B 140 4 v n (cnt k0 (n*4))∧w.grownBy w' v.ownBlock:=by
 have hxl:xs.length=n*4:=h.1
 by_cases hz:n=0
 ·obtain ⟨ao1,c1,rfl⟩:=own_len h
  subst hz
  have hx0:xs=[]:=List.eq_nil_of_length_eq_zero (by omega)
  subst hx0
  have HO:=hid h
  clear h hxl
  go_enter Tryz.func64,Tryz.ntmps64
  go_wp2
  refine wp_loop_rounds 1 ?_
  rw [rounds_succ]
  go_wp2
  go_ret
  exact ⟨by simp,by simpa [cnt] using HO.out,grown_refl _ _⟩
 ·obtain ⟨g1,c1,rfl⟩:=Joins.ownsRow_form h (by omega)
  have HO0:=hid (show w.ownsRow B 140 4 (.slice (some ⟨g1,0,none⟩) n c1) n (cnt k0 0++xs.drop 0) from by simpa [cnt] using h)
  clear h
  go_enter Tryz.func64,Tryz.ntmps64
  go_wp2
  go_loopw [1,5] (fun kv i wr=>∃ (j a:Nat),j≤n∧i=.int .i64 j∧kv=.int .i64 (a:Int)∧Hid (a=k0+j*4)∧a≤1000010000∧Hid (wr.ownsRow B 140 4 (.slice (some ⟨g1,0,none⟩) n c1) n (cnt k0 (j*4)++xs.drop (j*4)))∧Hid (w.grownBy wr (some g1))) (fun _ i _=>n - (intOf i).toNat)
  case atStart=>exact ⟨0,k0,by omega,rfl,rfl,hid (by omega),by omega,by simpa using HO0,grown_refl _ _⟩
  case round=>
   obtain ⟨j,a,hj,rfl,rfl,ha,hab,HO,HG⟩:=hrel
   by_cases hlt:j<n
   ·obtain ⟨u0_,hc0⟩:=own_has HO.out (k:=j*4) (by omega)
    have hf0:=HO.out.frozenAt (j*4)
    obtain ⟨u1_,hc1⟩:=own_has HO.out (k:=j*4+1) (by omega)
    have hf1:=HO.out.frozenAt (j*4+1)
    obtain ⟨u2_,hc2⟩:=own_has HO.out (k:=j*4+2) (by omega)
    have hf2:=HO.out.frozenAt (j*4+2)
    obtain ⟨u3_,hc3⟩:=own_has HO.out (k:=j*4+3) (by omega)
    have hf3:=HO.out.frozenAt (j*4+3)
    have HX0:=hid (show _ from HO.out)
    have HX1:=hid (cnt_stored (k0:=k0) (c:=j*4) HO.out (by omega) ((a:Int)) (by have:=ha.out;omega))
    have HX2:=hid (cnt_stored (k0:=k0) (c:=j*4+1) HX1.out.1 (by omega) ((a:Int)+1) (by have:=ha.out;omega))
    have HX3:=hid (cnt_stored (k0:=k0) (c:=j*4+2) HX2.out.1 (by omega) ((a:Int)+2) (by have:=ha.out;omega))
    have HX4:=hid (cnt_stored (k0:=k0) (c:=j*4+3) HX3.out.1 (by omega) ((a:Int)+3) (by have:=ha.out;omega))
    have HN:=hid (show _∧_ from ⟨HX4.out.1,grown_trans (grown_trans (grown_trans (grown_trans (HG.out) HX1.out.2) HX2.out.2) HX3.out.2) HX4.out.2⟩)
    clear HO HO0 HG HX0 HX1 HX2 HX3 HX4
    go_wp2
    go_roundw
    case rel=>exact ⟨j+1,a+4,by omega,by go_num,by go_num,hid (by have:=ha.out;omega),by have:=ha.out;omega,by have:=HN.out.1;rw [show (j+1)*4=j*4+4 by omega];exact this,HN.out.2⟩
    case measure=>simp [intOf];omega
   ·have hj':=hid (show j=n by omega)
    have HO':=hid (show wr.ownsRow B 140 4 (.slice (some ⟨g1,0,none⟩) n c1) n (cnt k0 (n*4)) from by
     have:=HO.out;rw [List.drop_eq_nil_of_le (by omega),List.append_nil,hj'.out] at this;exact this)
    clear HO HO0
    go_wp2
    go_ret
    exact ⟨ret_i64 (by rw [ha.out,hj'.out]),HO'.out,HG.out⟩
theorem heldTrapS_any (v:Value) (k0 n B:Nat) (w:World) (hn:n≤1000) (hk:k0≤1000000000) (h:w.ownsRow B 140 4 v n (cnt k0 (n*4))) :
  Calls Tryz.prog 66 #[v,.int .i64 (k0:Int)] w fun e w'=>e=.returned (.int .i64 ((k0+n*4:Nat):Int))∧Below w.heap.size w w':=by
 by_cases hz:n=0
 ·obtain ⟨ao1,c1,rfl⟩:=own_len h
  subst hz
  clear h
  go_enter Tryz.func66,Tryz.ntmps66
  go_wp2
  refine wp_loop_rounds 1 ?_
  rw [rounds_succ]
  go_wp2
  go_ret
  exact ⟨by simp,Below.refl _ _⟩
 ·obtain ⟨g1,c1,rfl⟩:=Joins.ownsRow_form h (by omega)
  have HC:=hid (show ∀ c,c<n*4→w.cell? ⟨g1,c,none⟩=some (.int .i64 ((k0+c:Nat):Int)) from fun c hc=>by rw [h.cellAt c hc];exact cnt_get hc)
  clear h
  go_enter Tryz.func66,Tryz.ntmps66
  go_wp2
  go_loopw [1,5] (fun kv i wr=>∃ (j a q:Nat),j≤n∧i=.int .i64 j∧kv=.int .i64 (a:Int)∧Hid (a=k0+j*4)∧a≤1000010000∧wr=w.drewN q) (fun _ i _=>n - (intOf i).toNat)
  case atStart=>exact ⟨0,k0,0,by omega,rfl,rfl,hid (by omega),by omega,rfl⟩
  case round=>
   obtain ⟨j,a,q,hj,rfl,rfl,ha,hab,rfl⟩:=hrel
   by_cases hlt:j<n
   ·have hc0:w.cell? ⟨g1,j*4,none⟩=some (.int .i64 ((a:Int))):=by rw [HC.out _ (by omega)];congr 2;have:=ha.out;omega
    have hc1:w.cell? ⟨g1,j*4+1,none⟩=some (.int .i64 ((a:Int)+1)):=by rw [HC.out _ (by omega)];congr 2;have:=ha.out;omega
    have hc2:w.cell? ⟨g1,j*4+2,none⟩=some (.int .i64 ((a:Int)+2)):=by rw [HC.out _ (by omega)];congr 2;have:=ha.out;omega
    have hc3:w.cell? ⟨g1,j*4+3,none⟩=some (.int .i64 ((a:Int)+3)):=by rw [HC.out _ (by omega)];congr 2;have:=ha.out;omega
    clear HC
    go_wp2
    go_roundw
    case rel=>exact ⟨j+1,a+4,_,by omega,by go_num,by go_num,hid (by have:=ha.out;omega),by have:=ha.out;omega,rfl⟩
    case measure=>simp [intOf];omega
   ·have hj':=hid (show j=n by omega)
    go_wp2
    go_ret
    exact ⟨ret_i64 (by rw [ha.out,hj'.out]),below_drewN (Below.refl _ _) _⟩
def mrow (f:Nat→Value) (m:Nat):List Value:=(List.range m).map f
theorem mrow_len (f:Nat→Value) (m:Nat):(mrow f m).length=m:=by simp [mrow]
theorem mrow_get {f:Nat→Value} {m c:Nat} (h:c<m):(mrow f m)[c]? = some (f c):=by simp [mrow,h]
theorem mrow_succ (f:Nat→Value) (m:Nat):mrow f (m+1)=mrow f m++[f m]:=by simp [mrow,List.range_succ]
theorem mrow_set (f:Nat→Value) (c:Nat) (xs:List Value) (h:c<xs.length) (u:Value) (hu:u=f c):(mrow f c++xs.drop c).set c u=mrow f (c+1)++xs.drop (c+1):=by
 subst hu
 rw [List.set_append_right _ _ (by rw [mrow_len];omega),mrow_len,Nat.sub_self,List.drop_eq_getElem_cons h,List.set_cons_zero,mrow_succ]
 simp
theorem mrow_stored {w:World} {B g c1 n c z:Nat} {T:TypeId} {f:Nat→Value} {xs:List Value} (h:w.ownsRow B T z (.slice (some ⟨g,0,none⟩) n c1) n (mrow f c++xs.drop c)) (hc:c<xs.length) (u:Value) (hu:u=f c) :
  (w.setCell ⟨g,c,none⟩ u).ownsRow B T z (.slice (some ⟨g,0,none⟩) n c1) n (mrow f (c+1)++xs.drop (c+1))∧w.grownBy (w.setCell ⟨g,c,none⟩ u) (some g):=by
 have:=h.stored c u
 rw [mrow_set f c xs hc u hu] at this
 exact this
def mkC (k:Nat) (c:Nat):Value:=if c % 4=1 then .string (mt (k+c)) else .int .i64 ((k+c:Nat):Int)
theorem mkC_int {k c:Nat} {a:Int} (h:c % 4≠1) (ha:a=((k+c:Nat):Int)):Value.int .i64 a=mkC k c:=by unfold mkC;rw [if_neg h,ha]
theorem mkC_str {k c:Nat} {x:ByteArray} (h:c % 4=1) (ha:mt (k+c)=x):Value.string x=mkC k c:=by unfold mkC;rw [if_pos h,ha]
theorem markConstS_any (v:Value) (k0 n B:Nat) (xs:List Value) (w:World) (hn:n≤1000) (h0:0<k0) (hk:k0≤1000000000) (h:w.ownsRow B 40 4 v n xs) :
  Calls Tryz.prog 34 #[v,.int .i64 (k0:Int)] w fun e w'=>e=.returned (.int .i64 ((k0+n*4:Nat):Int))∧w'.ownsRow B 40 4 v n (mrow (mkC k0) (n*4))∧w.grownBy w' v.ownBlock:=by
 have hxl:xs.length=n*4:=h.1
 by_cases hz:n=0
 ·obtain ⟨ao1,c1,rfl⟩:=own_len h
  subst hz
  have hx0:xs=[]:=List.eq_nil_of_length_eq_zero (by omega)
  subst hx0
  have HO:=hid h
  clear h hxl
  go_enter Tryz.func34,Tryz.ntmps34
  go_wp2
  refine wp_loop_rounds 1 ?_
  rw [rounds_succ]
  go_wp2
  go_ret
  exact ⟨by simp,by simpa [mrow] using HO.out,grown_refl _ _⟩
 ·obtain ⟨g1,c1,rfl⟩:=Joins.ownsRow_form h (by omega)
  have HO0:=hid (show w.ownsRow B 40 4 (.slice (some ⟨g1,0,none⟩) n c1) n (mrow (mkC k0) 0++xs.drop 0) from by simpa [mrow] using h)
  clear h
  go_enter Tryz.func34,Tryz.ntmps34
  go_wp2
  go_loopw [1,5] (fun kv i wr=>∃ (j a:Nat),j≤n∧i=.int .i64 j∧kv=.int .i64 (a:Int)∧Hid (a=k0+j*4)∧a≤1000010000∧Hid (wr.ownsRow B 40 4 (.slice (some ⟨g1,0,none⟩) n c1) n (mrow (mkC k0) (j*4)++xs.drop (j*4)))∧Hid (w.grownBy wr (some g1))) (fun _ i _=>n - (intOf i).toNat)
  case atStart=>exact ⟨0,k0,by omega,rfl,rfl,hid (by omega),by omega,by simpa using HO0,grown_refl _ _⟩
  case round=>
   obtain ⟨j,a,hj,rfl,rfl,ha,hab,HO,HG⟩:=hrel
   by_cases hlt:j<n
   ·obtain ⟨u0_,hc0⟩:=own_has HO.out (k:=j*4) (by omega)
    have hf0:=HO.out.frozenAt (j*4)
    obtain ⟨x,HX⟩:∃ x,Hid (mt (a+1)=x):=⟨_,rfl⟩
    have hM:∀ W,Calls Tryz.prog 63 #[.int .i64 ((a:Int)+1)] W fun e w'=>e=.returned (.string x)∧Below W.heap.size W w':=by
     intro W
     have:=markText_any (a+1) W (by omega) (by omega)
     rw [HX.out] at this
     simpa using this
    have HX1:=hid (mrow_stored (f:=mkC k0) (c:=j*4) HO.out (by omega) (.int .i64 (a:Int)) (mkC_int (by omega) (by rw [ha.out])))
    clear HO HO0
    go_wp2_with fail
    refine (hM _).mono ?_
    rintro e w2 ⟨rfl,hb2⟩
    have HX1':=own_below HX1.out.1 hb2
    obtain ⟨u1_,hc1⟩:=own_has HX1' (k:=j*4+1) (by omega)
    have hf1:=HX1'.frozenAt (j*4+1)
    obtain ⟨u2_,hc2⟩:=own_has HX1' (k:=j*4+2) (by omega)
    have hf2:=HX1'.frozenAt (j*4+2)
    obtain ⟨u3_,hc3⟩:=own_has HX1' (k:=j*4+3) (by omega)
    have hf3:=HX1'.frozenAt (j*4+3)
    have HX2:=hid (mrow_stored (f:=mkC k0) (c:=j*4+1) HX1' (by omega) (.string x) (mkC_str (by omega) (by rw [← HX.out,ha.out];congr 1)))
    have HX3:=hid (mrow_stored (f:=mkC k0) (c:=j*4+2) HX2.out.1 (by omega) (.int .i64 ((a:Int)+2)) (mkC_int (by omega) (by rw [ha.out];omega)))
    have HX4:=hid (mrow_stored (f:=mkC k0) (c:=j*4+3) HX3.out.1 (by omega) (.int .i64 ((a:Int)+3)) (mkC_int (by omega) (by rw [ha.out];omega)))
    have HN:=hid (show _∧_ from ⟨HX4.out.1,grown_trans (grown_trans (grown_trans (grown_trans (grown_trans HG.out HX1.out.2) (below_grow hb2)) HX2.out.2) HX3.out.2) HX4.out.2⟩)
    clear HG HX1 HX2 HX3 HX4 HX1' hb2 hM hc0 hf0
    go_wp2
    go_roundw
    case rel=>exact ⟨j+1,a+4,by omega,by go_num,by go_num,hid (by have:=ha.out;omega),by have:=ha.out;omega,by have:=HN.out.1;rw [show (j+1)*4=j*4+4 by omega];exact this,HN.out.2⟩
    case measure=>simp [intOf];omega
   ·have hj':=hid (show j=n by omega)
    have HO':=hid (show wr.ownsRow B 40 4 (.slice (some ⟨g1,0,none⟩) n c1) n (mrow (mkC k0) (n*4)) from by
     have:=HO.out;rw [List.drop_eq_nil_of_le (by omega),List.append_nil,hj'.out] at this;exact this)
    clear HO HO0
    go_wp2
    go_ret
    exact ⟨ret_i64 (by rw [ha.out,hj'.out]),HO'.out,HG.out⟩
theorem heldConstS_any (v:Value) (k0 n B:Nat) (w:World) (hn:n≤1000) (h0:0<k0) (hk:k0≤1000000000) (h:w.ownsRow B 40 4 v n (mrow (mkC k0) (n*4))) :
  Calls Tryz.prog 38 #[v,.int .i64 (k0:Int)] w fun e w'=>e=.returned (.int .i64 ((k0+n*4:Nat):Int))∧Below w.heap.size w w':=by
 by_cases hz:n=0
 ·obtain ⟨ao1,c1,rfl⟩:=own_len h
  subst hz
  clear h
  go_enter Tryz.func38,Tryz.ntmps38
  go_wp2
  refine wp_loop_rounds 1 ?_
  rw [rounds_succ]
  go_wp2
  go_ret
  exact ⟨by simp,Below.refl _ _⟩
 ·obtain ⟨g1,c1,rfl⟩:=Joins.ownsRow_form h (by omega)
  have hg:=(h.lt g1 rfl).2
  have HC:=hid (show ∀ W,Below w.heap.size w W→∀ c,c<n*4→W.cell? ⟨g1,c,none⟩=some (mkC k0 c) from fun W hW c hc=>by rw [hW.cell (p:=⟨g1,c,none⟩) hg,h.cellAt c hc];exact mrow_get hc)
  clear h
  go_enter Tryz.func38,Tryz.ntmps38
  go_wp2
  go_loopw [1,5] (fun kv i wr=>∃ (j a:Nat),j≤n∧i=.int .i64 j∧kv=.int .i64 (a:Int)∧Hid (a=k0+j*4)∧a≤1000010000∧Hid (Below w.heap.size w wr)) (fun _ i _=>n - (intOf i).toNat)
  case atStart=>exact ⟨0,k0,by omega,rfl,rfl,hid (by omega),by omega,Below.refl _ _⟩
  case round=>
   obtain ⟨j,a,hj,rfl,rfl,ha,hab,HB⟩:=hrel
   by_cases hlt:j<n
   ·obtain ⟨x,HX⟩:∃ x,Hid (mt (a+1)=x):=⟨_,rfl⟩
    have hM:∀ W,Calls Tryz.prog 63 #[.int .i64 ((a:Int)+1)] W fun e w'=>e=.returned (.string x)∧Below W.heap.size W w':=by
     intro W
     have:=markText_any (a+1) W (by omega) (by omega)
     rw [HX.out] at this
     simpa using this
    have HC2:=hid (show ∀ W,Below w.heap.size w W→W.cell? ⟨g1,j*4,none⟩=some (.int .i64 (a:Int))∧W.cell? ⟨g1,j*4+1,none⟩=some (.string x)∧W.cell? ⟨g1,j*4+2,none⟩=some (.int .i64 ((a:Int)+2))∧W.cell? ⟨g1,j*4+3,none⟩=some (.int .i64 ((a:Int)+3)) from fun W hW=>by
     refine ⟨?_, ?_, ?_, ?_⟩
     ·exact (HC.out W hW _ (by omega)).trans (congrArg some (mkC_int (k:=k0) (c:=j*4) (a:=(a:Int)) (by omega) (by rw [ha.out])).symm)
     ·exact (HC.out W hW _ (by omega)).trans (congrArg some (mkC_str (k:=k0) (c:=j*4+1) (x:=x) (by omega) (by rw [← HX.out,ha.out];congr 1)).symm)
     ·exact (HC.out W hW _ (by omega)).trans (congrArg some (mkC_int (k:=k0) (c:=j*4+2) (a:=(a:Int)+2) (by omega) (by rw [ha.out];omega)).symm)
     ·exact (HC.out W hW _ (by omega)).trans (congrArg some (mkC_int (k:=k0) (c:=j*4+3) (a:=(a:Int)+3) (by omega) (by rw [ha.out];omega)).symm))
    obtain ⟨hc0,hc1,hc2,hc3⟩:=HC2.out _ HB.out
    have hg':g1<wr.heap.size:=Nat.lt_of_lt_of_le hg HB.out.size
    clear HC
    go_wp2
    go_region_with (go_at_call 63;refine (hM _).mono ?_;rintro e w1 ⟨rfl,hb1⟩;have hc9:w1.cell? ⟨g1,j*4+1,none⟩=some (.string x):=(hb1.cell (p:=⟨g1,j*4+1,none⟩) (by simpa using hg')).trans (by simpa using hc1))
    all_goals
     have HB2:=hid (show Below w.heap.size w w1 from HB.out.drew.trans (hb1.mono (by have:=HB.out.size;simpa using this)))
     obtain ⟨hd0,hd1,hd2,hd3⟩:=HC2.out _ HB2.out
     clear hb1 HC2 HB hM
     go_wp2
     go_roundw
     case rel=>exact ⟨j+1,a+4,by omega,by go_num,by go_num,hid (by have:=ha.out;omega),by have:=ha.out;omega,HB2⟩
     case measure=>simp [intOf];omega
   ·have hj':=hid (show j=n by omega)
    go_wp2
    go_ret
    exact ⟨ret_i64 (by rw [ha.out,hj'.out]),HB.out⟩
end Go.Proofs.YtecbcdfkedocbaaGreatDoor
