/- Gathered: MkCls MkClsW. -/
import Derived.Test.YtecbcdfkedocbaaGreatDoorM1
import Derived.Test.YtecbcdfkedocbaaGreatDoorG02
import Derived.Test.YtecbcdfkedocbaaGreatDoorG03
import Derived.Test.YtecbcdfkedocbaaGreatDoorK01
namespace Go.Proofs.YtecbcdfkedocbaaGreatDoor
open Go.RowKit Go.ChangeShapes Go.WideShapes
set_option maxHeartbeats 4000000
set_option maxRecDepth 20000
set_option linter.unusedVariables false
def CKind (W:World) (g i:Nat):Prop:=CellIs W g (i*2) isI∧CellIs W g (i*2+1) isI
theorem CKind.chg {B H:Nat} {W W':World} {g i:Nat} (h:CKind W g i) (c:Chg B H W W'):CKind W' g i:=by
 obtain ⟨h0,h1⟩:=h
 exact ⟨h0.chg c isI_like,h1.chg c isI_like⟩
def RKind (W:World) (B H:Nat) (v:Value) (n:Nat):Prop:=∃ ao c,v=.slice ao n c∧(n=0∨∃ g,ao=some ⟨g,0,none⟩∧B≤g∧g<H∧∀ i,i<n→CKind W g i)
theorem RKind.chg {B H b k:Nat} {W W':World} {v:Value} {n:Nat} (h:RKind W B H v n) (c:Chg b k W W'):RKind W' B H v n:=by
 obtain ⟨ao,cc,rfl,h⟩:=h
 refine ⟨ao,cc,rfl,h.imp id ?_⟩
 rintro ⟨g,rfl,h1,h2,h3⟩
 exact ⟨g,rfl,h1,h2,fun i hi=>(h3 i hi).chg c⟩
theorem RKind.own {W:World} {B:Nat} {v:Value} {ts:List MKind} (h:W.ownsRow B 144 2 v ts.length (rowKind ts)):RKind W B W.heap.size v ts.length:=by
 by_cases hz:ts.length=0
 ·obtain ⟨ao,c,rfl⟩:=own_len h
  exact ⟨ao,c,rfl,.inl hz⟩
 ·obtain ⟨g,c,rfl⟩:=Joins.ownsRow_form h (by omega)
  have hl:=h.lt g rfl
  refine ⟨_,_,rfl,.inr ⟨g,rfl,hl.1,hl.2,fun i hi=>?_⟩⟩
  have hx:∀ j,j<2→(rowKind ts)[i*2+j]? = (cellsKind ts[i])[j]?:=by
   intro j hj
   rw [rowKind_at ts i hi,List.getElem?_append_right (by rw [rowKind_len,List.length_take];omega),rowKind_len,List.length_take,show i*2+j - min i ts.length*2=j by omega,List.getElem?_append_left (by simp [cellsKind];omega)]
  exact ⟨CellIs.own h (j:=i*2) (hx 0 (by omega)) (v:=.int .i64 ts[i].tag) ⟨_,rfl⟩,CellIs.own h (j:=i*2+1) (hx 1 (by omega)) (v:=.int .i64 ts[i].cls) ⟨_,rfl⟩⟩
theorem markKindS_weak (v:Value) (n k0 B H:Nat) (w:World) (hn:n≤1048576) (h0:0<k0) (hk:k0≤4700000000000000000) (hB:B≤H) (h:RKind w B H v n) :
  Calls Tryz.prog 105 #[v,.int .i64 (k0:Int)] w fun e w'=>∃ k:Nat,e=.returned (.int .i64 (k:Int))∧k0≤k∧k≤k0+2*n∧Chg B H w w':=by
 obtain ⟨ao,cc,rfl,hrow⟩:=id h
 have HR:=hid h
 clear h
 go_enter Tryz.func105,Tryz.ntmps105
 go_wp2_with fail
 go_loopw [1,5] (fun kv i wr=>∃ (j a:Nat),j≤n∧i=.int .i64 j∧kv=.int .i64 (a:Int)∧k0≤a∧a≤k0+2*j∧Hid (Chg B H w wr)) (fun _ i _=>n - (intOf i).toNat)
 case atStart=>exact ⟨0,k0,by omega,rfl,rfl,by omega,by omega,Chg.refl _ _ _⟩
 case round=>
  obtain ⟨j,a,hj,rfl,rfl,ha0,ha1,HC⟩:=hrel
  by_cases hlt:j<n
  ·rcases hrow with h0'|⟨g,rfl,hg1,hg2,hcells⟩
   ·omega
   ·obtain ⟨c0,c1⟩:=(hcells j hlt).chg HC.out
    clear hcells
    have hT:=fun (k:Nat) (W:World) (hk:0<k) (hk2:k≤9000000000000000000)=>markText_any k W hk hk2
    have C0:=HC.out
    obtain ⟨u0,_,p0,f0⟩:=c0.get
    obtain ⟨u1,_,p1,f1⟩:=c1.get
    have S0:=c0.set (B:=B) (H:=H) (.int .i64 ((a:Nat):Int)) (fun v hv=>isI_to v hv) hg1 hg2
    have E0:=C0.trans S0
    replace c1:=c1.chg S0 isI_like
    clear C0 S0 c0
    have S1:=c1.set (B:=B) (H:=H) (.int .i64 ((a+1:Nat):Int)) (fun v hv=>isI_to v hv) hg1 hg2
    have E1:=E0.trans S1
    clear E0 S1 c1
    have HC2:=hid E1
    clear E1 hT HC
    go_wp2_with fail
    go_roundw
    case rel=>exact ⟨j+1,a+1+1,by omega,by go_num,by go_num,by omega,by omega,HC2⟩
    case measure=>simp [intOf];omega
  ·go_wp2_with fail
   go_ret
   exact ⟨a,rfl,by omega,by omega,HC.out⟩
def CTrap (W:World) (g i:Nat):Prop:=CellIs W g (i*4) isI∧CellIs W g (i*4+1) isI∧CellIs W g (i*4+2) isI∧CellIs W g (i*4+3) isI
theorem CTrap.chg {B H:Nat} {W W':World} {g i:Nat} (h:CTrap W g i) (c:Chg B H W W'):CTrap W' g i:=by
 obtain ⟨h0,h1,h2,h3⟩:=h
 exact ⟨h0.chg c isI_like,h1.chg c isI_like,h2.chg c isI_like,h3.chg c isI_like⟩
def RTrap (W:World) (B H:Nat) (v:Value) (n:Nat):Prop:=∃ ao c,v=.slice ao n c∧(n=0∨∃ g,ao=some ⟨g,0,none⟩∧B≤g∧g<H∧∀ i,i<n→CTrap W g i)
theorem RTrap.chg {B H b k:Nat} {W W':World} {v:Value} {n:Nat} (h:RTrap W B H v n) (c:Chg b k W W'):RTrap W' B H v n:=by
 obtain ⟨ao,cc,rfl,h⟩:=h
 refine ⟨ao,cc,rfl,h.imp id ?_⟩
 rintro ⟨g,rfl,h1,h2,h3⟩
 exact ⟨g,rfl,h1,h2,fun i hi=>(h3 i hi).chg c⟩
theorem RTrap.own {W:World} {B:Nat} {v:Value} {ts:List MTrap} (h:W.ownsRow B 140 4 v ts.length (rowTrap ts)):RTrap W B W.heap.size v ts.length:=by
 by_cases hz:ts.length=0
 ·obtain ⟨ao,c,rfl⟩:=own_len h
  exact ⟨ao,c,rfl,.inl hz⟩
 ·obtain ⟨g,c,rfl⟩:=Joins.ownsRow_form h (by omega)
  have hl:=h.lt g rfl
  refine ⟨_,_,rfl,.inr ⟨g,rfl,hl.1,hl.2,fun i hi=>?_⟩⟩
  have hx:∀ j,j<4→(rowTrap ts)[i*4+j]? = (cellsTrap ts[i])[j]?:=by
   intro j hj
   rw [rowTrap_at ts i hi,List.getElem?_append_right (by rw [rowTrap_len,List.length_take];omega),rowTrap_len,List.length_take,show i*4+j - min i ts.length*4=j by omega,List.getElem?_append_left (by simp [cellsTrap];omega)]
  exact ⟨CellIs.own h (j:=i*4) (hx 0 (by omega)) (v:=.int .i64 ts[i].from_) ⟨_,rfl⟩,CellIs.own h (j:=i*4+1) (hx 1 (by omega)) (v:=.int .i64 ts[i].to_) ⟨_,rfl⟩,CellIs.own h (j:=i*4+2) (hx 2 (by omega)) (v:=.int .i64 ts[i].at_) ⟨_,rfl⟩,CellIs.own h (j:=i*4+3) (hx 3 (by omega)) (v:=.int .i64 ts[i].cls) ⟨_,rfl⟩⟩
theorem markTrapS_weak (v:Value) (n k0 B H:Nat) (w:World) (hn:n≤1048576) (h0:0<k0) (hk:k0≤4700000000000000000) (hB:B≤H) (h:RTrap w B H v n) :
  Calls Tryz.prog 64 #[v,.int .i64 (k0:Int)] w fun e w'=>∃ k:Nat,e=.returned (.int .i64 (k:Int))∧k0≤k∧k≤k0+4*n∧Chg B H w w':=by
 obtain ⟨ao,cc,rfl,hrow⟩:=id h
 have HR:=hid h
 clear h
 go_enter Tryz.func64,Tryz.ntmps64
 go_wp2_with fail
 go_loopw [1,5] (fun kv i wr=>∃ (j a:Nat),j≤n∧i=.int .i64 j∧kv=.int .i64 (a:Int)∧k0≤a∧a≤k0+4*j∧Hid (Chg B H w wr)) (fun _ i _=>n - (intOf i).toNat)
 case atStart=>exact ⟨0,k0,by omega,rfl,rfl,by omega,by omega,Chg.refl _ _ _⟩
 case round=>
  obtain ⟨j,a,hj,rfl,rfl,ha0,ha1,HC⟩:=hrel
  by_cases hlt:j<n
  ·rcases hrow with h0'|⟨g,rfl,hg1,hg2,hcells⟩
   ·omega
   ·obtain ⟨c0,c1,c2,c3⟩:=(hcells j hlt).chg HC.out
    clear hcells
    have hT:=fun (k:Nat) (W:World) (hk:0<k) (hk2:k≤9000000000000000000)=>markText_any k W hk hk2
    have C0:=HC.out
    obtain ⟨u0,_,p0,f0⟩:=c0.get
    obtain ⟨u1,_,p1,f1⟩:=c1.get
    obtain ⟨u2,_,p2,f2⟩:=c2.get
    obtain ⟨u3,_,p3,f3⟩:=c3.get
    have S0:=c0.set (B:=B) (H:=H) (.int .i64 ((a:Nat):Int)) (fun v hv=>isI_to v hv) hg1 hg2
    have E0:=C0.trans S0
    replace c1:=c1.chg S0 isI_like
    replace c2:=c2.chg S0 isI_like
    replace c3:=c3.chg S0 isI_like
    clear C0 S0 c0
    have S1:=c1.set (B:=B) (H:=H) (.int .i64 ((a+1:Nat):Int)) (fun v hv=>isI_to v hv) hg1 hg2
    have E1:=E0.trans S1
    replace c2:=c2.chg S1 isI_like
    replace c3:=c3.chg S1 isI_like
    clear E0 S1 c1
    have S2:=c2.set (B:=B) (H:=H) (.int .i64 ((a+1+1:Nat):Int)) (fun v hv=>isI_to v hv) hg1 hg2
    have E2:=E1.trans S2
    replace c3:=c3.chg S2 isI_like
    clear E1 S2 c2
    have S3:=c3.set (B:=B) (H:=H) (.int .i64 ((a+1+1+1:Nat):Int)) (fun v hv=>isI_to v hv) hg1 hg2
    have E3:=E2.trans S3
    clear E2 S3 c3
    have HC2:=hid E3
    clear E3 hT HC
    go_wp2_with fail
    go_roundw
    case rel=>exact ⟨j+1,a+1+1+1+1,by omega,by go_num,by go_num,by omega,by omega,HC2⟩
    case measure=>simp [intOf];omega
  ·go_wp2_with fail
   go_ret
   exact ⟨a,rfl,by omega,by omega,HC.out⟩
def CField (W:World) (g i:Nat):Prop:=CellIs W g (i*3) isI∧CellIs W g (i*3+1) isI∧CellIs W g (i*3+2) isI
theorem CField.chg {B H:Nat} {W W':World} {g i:Nat} (h:CField W g i) (c:Chg B H W W'):CField W' g i:=by
 obtain ⟨h0,h1,h2⟩:=h
 exact ⟨h0.chg c isI_like,h1.chg c isI_like,h2.chg c isI_like⟩
def RField (W:World) (B H:Nat) (v:Value) (n:Nat):Prop:=∃ ao c,v=.slice ao n c∧(n=0∨∃ g,ao=some ⟨g,0,none⟩∧B≤g∧g<H∧∀ i,i<n→CField W g i)
theorem RField.chg {B H b k:Nat} {W W':World} {v:Value} {n:Nat} (h:RField W B H v n) (c:Chg b k W W'):RField W' B H v n:=by
 obtain ⟨ao,cc,rfl,h⟩:=h
 refine ⟨ao,cc,rfl,h.imp id ?_⟩
 rintro ⟨g,rfl,h1,h2,h3⟩
 exact ⟨g,rfl,h1,h2,fun i hi=>(h3 i hi).chg c⟩
theorem RField.own {W:World} {B:Nat} {v:Value} {ts:List MField} (h:W.ownsRow B 79 3 v ts.length (rowField ts)):RField W B W.heap.size v ts.length:=by
 by_cases hz:ts.length=0
 ·obtain ⟨ao,c,rfl⟩:=own_len h
  exact ⟨ao,c,rfl,.inl hz⟩
 ·obtain ⟨g,c,rfl⟩:=Joins.ownsRow_form h (by omega)
  have hl:=h.lt g rfl
  refine ⟨_,_,rfl,.inr ⟨g,rfl,hl.1,hl.2,fun i hi=>?_⟩⟩
  have hx:∀ j,j<3→(rowField ts)[i*3+j]? = (cellsField ts[i])[j]?:=by
   intro j hj
   rw [rowField_at ts i hi,List.getElem?_append_right (by rw [rowField_len,List.length_take];omega),rowField_len,List.length_take,show i*3+j - min i ts.length*3=j by omega,List.getElem?_append_left (by simp [cellsField];omega)]
  exact ⟨CellIs.own h (j:=i*3) (hx 0 (by omega)) (v:=.int .i64 ts[i].flags) ⟨_,rfl⟩,CellIs.own h (j:=i*3+1) (hx 1 (by omega)) (v:=.int .i64 ts[i].name) ⟨_,rfl⟩,CellIs.own h (j:=i*3+2) (hx 2 (by omega)) (v:=.int .i64 ts[i].typ) ⟨_,rfl⟩⟩
theorem markFieldS_weak (v:Value) (n k0 B H:Nat) (w:World) (hn:n≤1048576) (h0:0<k0) (hk:k0≤4700000000000000000) (hB:B≤H) (h:RField w B H v n) :
  Calls Tryz.prog 36 #[v,.int .i64 (k0:Int)] w fun e w'=>∃ k:Nat,e=.returned (.int .i64 (k:Int))∧k0≤k∧k≤k0+3*n∧Chg B H w w':=by
 obtain ⟨ao,cc,rfl,hrow⟩:=id h
 have HR:=hid h
 clear h
 go_enter Tryz.func36,Tryz.ntmps36
 go_wp2_with fail
 go_loopw [1,5] (fun kv i wr=>∃ (j a:Nat),j≤n∧i=.int .i64 j∧kv=.int .i64 (a:Int)∧k0≤a∧a≤k0+3*j∧Hid (Chg B H w wr)) (fun _ i _=>n - (intOf i).toNat)
 case atStart=>exact ⟨0,k0,by omega,rfl,rfl,by omega,by omega,Chg.refl _ _ _⟩
 case round=>
  obtain ⟨j,a,hj,rfl,rfl,ha0,ha1,HC⟩:=hrel
  by_cases hlt:j<n
  ·rcases hrow with h0'|⟨g,rfl,hg1,hg2,hcells⟩
   ·omega
   ·obtain ⟨c0,c1,c2⟩:=(hcells j hlt).chg HC.out
    clear hcells
    have hT:=fun (k:Nat) (W:World) (hk:0<k) (hk2:k≤9000000000000000000)=>markText_any k W hk hk2
    have C0:=HC.out
    obtain ⟨u0,_,p0,f0⟩:=c0.get
    obtain ⟨u1,_,p1,f1⟩:=c1.get
    obtain ⟨u2,_,p2,f2⟩:=c2.get
    have S0:=c0.set (B:=B) (H:=H) (.int .i64 ((a:Nat):Int)) (fun v hv=>isI_to v hv) hg1 hg2
    have E0:=C0.trans S0
    replace c1:=c1.chg S0 isI_like
    replace c2:=c2.chg S0 isI_like
    clear C0 S0 c0
    have S1:=c1.set (B:=B) (H:=H) (.int .i64 ((a+1:Nat):Int)) (fun v hv=>isI_to v hv) hg1 hg2
    have E1:=E0.trans S1
    replace c2:=c2.chg S1 isI_like
    clear E0 S1 c1
    have S2:=c2.set (B:=B) (H:=H) (.int .i64 ((a+1+1:Nat):Int)) (fun v hv=>isI_to v hv) hg1 hg2
    have E2:=E1.trans S2
    clear E1 S2 c2
    have HC2:=hid E2
    clear E2 hT HC
    go_wp2_with fail
    go_roundw
    case rel=>exact ⟨j+1,a+1+1+1,by omega,by go_num,by go_num,by omega,by omega,HC2⟩
    case measure=>simp [intOf];omega
  ·go_wp2_with fail
   go_ret
   exact ⟨a,rfl,by omega,by omega,HC.out⟩
def CConst (W:World) (g i:Nat):Prop:=CellIs W g (i*4) isI∧CellIs W g (i*4+1) isS∧CellIs W g (i*4+2) isI∧CellIs W g (i*4+3) isI
theorem CConst.chg {B H:Nat} {W W':World} {g i:Nat} (h:CConst W g i) (c:Chg B H W W'):CConst W' g i:=by
 obtain ⟨h0,h1,h2,h3⟩:=h
 exact ⟨h0.chg c isI_like,h1.chg c isS_like,h2.chg c isI_like,h3.chg c isI_like⟩
def RConst (W:World) (B H:Nat) (v:Value) (n:Nat):Prop:=∃ ao c,v=.slice ao n c∧(n=0∨∃ g,ao=some ⟨g,0,none⟩∧B≤g∧g<H∧∀ i,i<n→CConst W g i)
theorem RConst.chg {B H b k:Nat} {W W':World} {v:Value} {n:Nat} (h:RConst W B H v n) (c:Chg b k W W'):RConst W' B H v n:=by
 obtain ⟨ao,cc,rfl,h⟩:=h
 refine ⟨ao,cc,rfl,h.imp id ?_⟩
 rintro ⟨g,rfl,h1,h2,h3⟩
 exact ⟨g,rfl,h1,h2,fun i hi=>(h3 i hi).chg c⟩
theorem RConst.own {W:World} {B:Nat} {v:Value} {ts:List C4} (h:W.ownsRow B 40 4 v ts.length (cellsC ts)):RConst W B W.heap.size v ts.length:=by
 by_cases hz:ts.length=0
 ·obtain ⟨ao,c,rfl⟩:=own_len h
  exact ⟨ao,c,rfl,.inl hz⟩
 ·obtain ⟨g,c,rfl⟩:=Joins.ownsRow_form h (by omega)
  have hl:=h.lt g rfl
  refine ⟨_,_,rfl,.inr ⟨g,rfl,hl.1,hl.2,fun i hi=>?_⟩⟩
  have hx:∀ j,j<4→(cellsC ts)[i*4+j]? = (cells4 ts[i])[j]?:=by
   intro j hj
   rw [cellsC_at ts i hi,List.getElem?_append_right (by rw [cellsC_len,List.length_take];omega),cellsC_len,List.length_take,show i*4+j - min i ts.length*4=j by omega,List.getElem?_append_left (by simp [cells4];omega)]
  exact ⟨CellIs.own h (j:=i*4) (hx 0 (by omega)) (v:=.int .i64 ts[i].kind) ⟨_,rfl⟩,CellIs.own h (j:=i*4+1) (hx 1 (by omega)) (v:=.string ts[i].text) ⟨_,rfl⟩,CellIs.own h (j:=i*4+2) (hx 2 (by omega)) (v:=.int .i64 ts[i].a) ⟨_,rfl⟩,CellIs.own h (j:=i*4+3) (hx 3 (by omega)) (v:=.int .i64 ts[i].b) ⟨_,rfl⟩⟩
theorem markConstS_weak (v:Value) (n k0 B H:Nat) (w:World) (hn:n≤1048576) (h0:0<k0) (hk:k0≤4700000000000000000) (hB:B≤H) (h:RConst w B H v n) :
  Calls Tryz.prog 34 #[v,.int .i64 (k0:Int)] w fun e w'=>∃ k:Nat,e=.returned (.int .i64 (k:Int))∧k0≤k∧k≤k0+4*n∧Chg B H w w':=by
 obtain ⟨ao,cc,rfl,hrow⟩:=id h
 have HR:=hid h
 clear h
 go_enter Tryz.func34,Tryz.ntmps34
 go_wp2_with fail
 go_loopw [1,5] (fun kv i wr=>∃ (j a:Nat),j≤n∧i=.int .i64 j∧kv=.int .i64 (a:Int)∧k0≤a∧a≤k0+4*j∧Hid (Chg B H w wr)) (fun _ i _=>n - (intOf i).toNat)
 case atStart=>exact ⟨0,k0,by omega,rfl,rfl,by omega,by omega,Chg.refl _ _ _⟩
 case round=>
  obtain ⟨j,a,hj,rfl,rfl,ha0,ha1,HC⟩:=hrel
  by_cases hlt:j<n
  ·rcases hrow with h0'|⟨g,rfl,hg1,hg2,hcells⟩
   ·omega
   ·obtain ⟨c0,c1,c2,c3⟩:=(hcells j hlt).chg HC.out
    clear hcells
    have hT:=fun (k:Nat) (W:World) (hk:0<k) (hk2:k≤9000000000000000000)=>markText_any k W hk hk2
    have C0:=HC.out
    obtain ⟨u0,_,p0,f0⟩:=c0.get
    have S0:=c0.set (B:=B) (H:=H) (.int .i64 ((a:Nat):Int)) (fun v hv=>isI_to v hv) hg1 hg2
    have E0:=C0.trans S0
    replace c1:=c1.chg S0 isS_like
    replace c2:=c2.chg S0 isI_like
    replace c3:=c3.chg S0 isI_like
    clear C0 S0 c0
    have Q1:=hid c1
    have Q2:=hid c2
    have Q3:=hid c3
    have QC:=hid E0
    clear c1 c2 c3 E0
    go_wp2_with fail
    refine (hT (a+1) _ (by omega) (by omega)).mono ?_
    rintro e w2 ⟨rfl,hb2⟩
    have c1:=Q1.out.chg (Chg.below (B:=B) (H:=H) hb2) isS_like
    have c2:=Q2.out.chg (Chg.below (B:=B) (H:=H) hb2) isI_like
    have c3:=Q3.out.chg (Chg.below (B:=B) (H:=H) hb2) isI_like
    have D1:=QC.out.trans (Chg.below hb2)
    clear QC hb2 Q1 Q2 Q3 p0 f0
    obtain ⟨u1,_,p1,f1⟩:=c1.get
    obtain ⟨u2,_,p2,f2⟩:=c2.get
    obtain ⟨u3,_,p3,f3⟩:=c3.get
    have S1:=c1.set (B:=B) (H:=H) (.string (mt (a+1))) (fun v hv=>isS_to v hv) hg1 hg2
    have E1:=D1.trans S1
    replace c2:=c2.chg S1 isI_like
    replace c3:=c3.chg S1 isI_like
    clear D1 S1 c1
    have S2:=c2.set (B:=B) (H:=H) (.int .i64 ((a+1+1:Nat):Int)) (fun v hv=>isI_to v hv) hg1 hg2
    have E2:=E1.trans S2
    replace c3:=c3.chg S2 isI_like
    clear E1 S2 c2
    have S3:=c3.set (B:=B) (H:=H) (.int .i64 ((a+1+1+1:Nat):Int)) (fun v hv=>isI_to v hv) hg1 hg2
    have E3:=E2.trans S3
    clear E2 S3 c3
    have HC2:=hid E3
    clear E3 hT HC
    go_wp2_with fail
    go_roundw
    case rel=>exact ⟨j+1,a+1+1+1+1,by omega,by go_num,by go_num,by omega,by omega,HC2⟩
    case measure=>simp [intOf];omega
  ·go_wp2_with fail
   go_ret
   exact ⟨a,rfl,by omega,by omega,HC.out⟩
def CInt (W:World) (g i:Nat):Prop:=CellIs W g (i*1) isI
theorem CInt.chg {B H:Nat} {W W':World} {g i:Nat} (h:CInt W g i) (c:Chg B H W W'):CInt W' g i:=by
 exact CellIs.chg h c isI_like
def RInt (W:World) (B H:Nat) (v:Value) (n:Nat):Prop:=∃ ao c,v=.slice ao n c∧(n=0∨∃ g,ao=some ⟨g,0,none⟩∧B≤g∧g<H∧∀ i,i<n→CInt W g i)
theorem RInt.chg {B H b k:Nat} {W W':World} {v:Value} {n:Nat} (h:RInt W B H v n) (c:Chg b k W W'):RInt W' B H v n:=by
 obtain ⟨ao,cc,rfl,h⟩:=h
 refine ⟨ao,cc,rfl,h.imp id ?_⟩
 rintro ⟨g,rfl,h1,h2,h3⟩
 exact ⟨g,rfl,h1,h2,fun i hi=>(h3 i hi).chg c⟩
theorem RInt.own {W:World} {B:Nat} {v:Value} {ts:List Int} (h:W.ownsRow B 3 1 v ts.length (rowI ts)):RInt W B W.heap.size v ts.length:=by
 by_cases hz:ts.length=0
 ·obtain ⟨ao,c,rfl⟩:=own_len h
  exact ⟨ao,c,rfl,.inl hz⟩
 ·obtain ⟨g,c,rfl⟩:=Joins.ownsRow_form h (by omega)
  have hl:=h.lt g rfl
  refine ⟨_,_,rfl,.inr ⟨g,rfl,hl.1,hl.2,fun i hi=>?_⟩⟩
  exact CellIs.own h (j:=i*1) (v:=.int .i64 ts[i]) (by simp [rowI,hi]) ⟨_,rfl⟩
theorem markIntS_weak (v:Value) (n k0 B H:Nat) (w:World) (hn:n≤1048576) (h0:0<k0) (hk:k0≤4700000000000000000) (hB:B≤H) (h:RInt w B H v n) :
  Calls Tryz.prog 35 #[v,.int .i64 (k0:Int)] w fun e w'=>∃ k:Nat,e=.returned (.int .i64 (k:Int))∧k0≤k∧k≤k0+1*n∧Chg B H w w':=by
 obtain ⟨ao,cc,rfl,hrow⟩:=id h
 have HR:=hid h
 clear h
 go_enter Tryz.func35,Tryz.ntmps35
 go_wp2_with fail
 go_loopw [1,5] (fun kv i wr=>∃ (j a:Nat),j≤n∧i=.int .i64 j∧kv=.int .i64 (a:Int)∧k0≤a∧a≤k0+1*j∧Hid (Chg B H w wr)) (fun _ i _=>n - (intOf i).toNat)
 case atStart=>exact ⟨0,k0,by omega,rfl,rfl,by omega,by omega,Chg.refl _ _ _⟩
 case round=>
  obtain ⟨j,a,hj,rfl,rfl,ha0,ha1,HC⟩:=hrel
  by_cases hlt:j<n
  ·rcases hrow with h0'|⟨g,rfl,hg1,hg2,hcells⟩
   ·omega
   ·have c0:CellIs wr g j isI:=by
     have:=CellIs.chg (hcells j hlt) HC.out isI_like
     rwa [Nat.mul_one] at this
    clear hcells
    have hT:=fun (k:Nat) (W:World) (hk:0<k) (hk2:k≤9000000000000000000)=>markText_any k W hk hk2
    have C0:=HC.out
    obtain ⟨u0,_,p0,f0⟩:=c0.get
    have S0:=c0.set (B:=B) (H:=H) (.int .i64 ((a:Nat):Int)) (fun v hv=>isI_to v hv) hg1 hg2
    have E0:=C0.trans S0
    clear C0 S0 c0
    have HC2:=hid E0
    clear E0 hT HC
    go_wp2_with fail
    go_roundw
    case rel=>exact ⟨j+1,a+1,by omega,by go_num,by go_num,by omega,by omega,HC2⟩
    case measure=>simp [intOf];omega
  ·go_wp2_with fail
   go_ret
   exact ⟨a,rfl,by omega,by omega,HC.out⟩
structure FrRow (W:World) (B H g i:Nat):Prop where
 a:CellIs W g (i*3) isI
 l:∃ vl nl,CellIs W g (i*3+1) (fun v=>v=vl)∧nl≤1048576∧RKind W B H vl nl
 s:∃ vs ns,CellIs W g (i*3+2) (fun v=>v=vs)∧ns≤1048576∧RKind W B H vs ns
theorem FrRow.chg {B H:Nat} {W W':World} {g i:Nat} (h:FrRow W B H g i) {b k:Nat} (c:Chg b k W W'):FrRow W' B H g i:=by
 obtain ⟨h7,⟨vf,nf,h1,h2,h3⟩,⟨vy,ny,h4,h5,h6⟩⟩:=h
 have e1:=h3
 have e2:=h6
 obtain ⟨a1,c1,rfl,_⟩:=e1
 obtain ⟨a2,c2,rfl,_⟩:=e2
 exact ⟨h7.chg c isI_like,⟨_,nf,h1.chg c (slice_like _ _ _),h2,h3.chg c⟩,⟨_,ny,h4.chg c (slice_like _ _ _),h5,h6.chg c⟩⟩
def FrRows (W:World) (B H:Nat) (v:Value) (n:Nat):Prop:=∃ ao c,v=.slice ao n c∧(n=0∨∃ g,ao=some ⟨g,0,none⟩∧B≤g∧g<H∧∀ i,i<n→FrRow W B H g i)
theorem FrRows.chg {B H b k:Nat} {W W':World} {v:Value} {n:Nat} (h:FrRows W B H v n) (c:Chg b k W W'):FrRows W' B H v n:=by
 obtain ⟨ao,cc,rfl,h⟩:=h
 refine ⟨ao,cc,rfl,h.imp id ?_⟩
 rintro ⟨g,rfl,h1,h2,h3⟩
 exact ⟨g,rfl,h1,h2,fun i hi=>(h3 i hi).chg c⟩
theorem frRows_of {W:World} {B:Nat} {v:Value} {fs:List MFrame} (h:FramesW W B v fs) (hf:∀ f∈fs,f.few):FrRows W B W.heap.size v fs.length:=by
 obtain ⟨ys,hl,ho,he⟩:=h
 by_cases hz:fs.length=0
 ·obtain ⟨ao,c,rfl⟩:=own_len ho
  exact ⟨ao,c,rfl,.inl hz⟩
 ·obtain ⟨g,c,rfl⟩:=Joins.ownsRow_form ho (by omega)
  have hlt:=ho.lt g rfl
  refine ⟨_,_,rfl,.inr ⟨g,rfl,hlt.1,hlt.2,fun i hi=>?_⟩⟩
  have hi':i<ys.length:=by omega
  have hx:∀ j,j<3→(rowFrame ys)[i*3+j]? = (cellsFrame ys[i])[j]?:=by
   intro j hj
   rw [rowFrame_at ys i hi',List.getElem?_append_right (by rw [rowFrame_len,List.length_take];omega),rowFrame_len,List.length_take,show i*3+j - min i ys.length*3=j by omega,List.getElem?_append_left (by simp [cellsFrame];omega)]
  have hw:=he i hi hi'
  have hq:=hf _ (List.getElem_mem hi)
  exact ⟨CellIs.own ho (j:=i*3) (hx 0 (by omega)) (v:=.int .i64 ys[i].at_) ⟨_,rfl⟩,⟨ys[i].l,_,CellIs.own ho (j:=i*3+1) (hx 1 (by omega)) (v:=ys[i].l) rfl,hq.1,RKind.own hw.l⟩,⟨ys[i].s,_,CellIs.own ho (j:=i*3+2) (hx 2 (by omega)) (v:=ys[i].s) rfl,hq.2,RKind.own hw.s⟩⟩
theorem markFrameS_weak (v:Value) (n k0 B H:Nat) (w:World) (hn:n≤1048576) (h0:0<k0) (hk:k0≤4690000000000000000) (hB:B≤H) (h:FrRows w B H v n) :
  Calls Tryz.prog 65 #[v,.int .i64 (k0:Int)] w fun e w'=>∃ k:Nat,e=.returned (.int .i64 (k:Int))∧k0≤k∧k≤k0+4194305*n∧Chg B H w w':=by
 obtain ⟨ao,cc,rfl,hrow⟩:=id h
 clear h
 go_enter Tryz.func65,Tryz.ntmps65
 go_wp2_with fail
 go_loopw [1,5] (fun kv i wr=>∃ (j a:Nat),j≤n∧i=.int .i64 j∧kv=.int .i64 (a:Int)∧k0≤a∧a≤k0+4194305*j∧Hid (Chg B H w wr)) (fun _ i _=>n - (intOf i).toNat)
 case atStart=>exact ⟨0,k0,by omega,rfl,rfl,by omega,by omega,Chg.refl _ _ _⟩
 case round=>
  obtain ⟨j,a,hj,rfl,rfl,ha0,ha1,HC⟩:=hrel
  by_cases hlt:j<n
  ·rcases hrow with h0'|⟨g,rfl,hg1,hg2,hcells⟩
   ·omega
   ·have r0:=(hcells j hlt).chg HC.out
    clear hcells
    obtain ⟨u0,_,p0,f0⟩:=r0.a.get
    have S0:=r0.a.set (B:=B) (H:=H) (.int .i64 (a:Int)) (fun v hv=>isI_to v hv) hg1 hg2
    have HR1:=hid (r0.chg S0)
    obtain ⟨vf,nf,q1,q2,q3⟩:=r0.l
    obtain ⟨u1,e1,p1,_⟩:=q1.get
    obtain ⟨a1,c1,hvf,_⟩:=id q3
    subst e1
    have hcall:=markKindS_weak u1 nf (a+1) B H _ q2 (by omega) (by omega) hB (q3.chg S0)
    have HC0:=hid (HC.out.trans S0)
    subst hvf
    clear q1 q3 r0 S0
    go_wp2_with fail
    refine hcall.mono ?_
    rintro e w1 ⟨b,rfl,hb0,hb1,hc1⟩
    have HC1:=hid (HC0.out.trans hc1)
    have r1:=HR1.out.chg hc1
    have HR2:=hid r1
    clear hcall hc1 HR1 p0 f0 p1 HC0
    obtain ⟨vy,ny,q4,q5,q6⟩:=r1.s
    obtain ⟨u2,e2,p2,_⟩:=q4.get
    obtain ⟨a2,c2,hvy,_⟩:=id q6
    subst e2
    have hcall:=markKindS_weak u2 ny b B H w1 q5 (by omega) (by omega) hB q6
    subst hvy
    clear q4 q6 r1
    go_wp2_with fail
    refine hcall.mono ?_
    rintro e w2 ⟨d,rfl,hd0,hd1,hc2⟩
    have HC2:=hid (HC1.out.trans hc2)
    clear hcall hc2 HR2 p2 HC1
    go_wp2_with fail
    go_roundw
    case rel=>exact ⟨j+1,d,by omega,by go_num,by go_num,by omega,by omega,HC2⟩
    case measure=>simp [intOf];omega
  ·go_wp2_with fail
   go_ret
   exact ⟨a,rfl,by omega,by omega,HC.out⟩
structure MtRow (W:World) (B H g i:Nat):Prop where
 c0:CellIs W g (i*8) isI
 c1:CellIs W g (i*8+1) isI
 c2:CellIs W g (i*8+2) isI
 c3:CellIs W g (i*8+3) isI
 c4:CellIs W g (i*8+4) isI
 c5:CellIs W g (i*8+5) isS
 t:∃ vl nl,CellIs W g (i*8+6) (fun v=>v=vl)∧nl≤1048576∧RTrap W B H vl nl
 f:∃ vs ns,CellIs W g (i*8+7) (fun v=>v=vs)∧ns≤1048576∧FrRows W B H vs ns
theorem MtRow.chg {B H:Nat} {W W':World} {g i:Nat} (h:MtRow W B H g i) {b k:Nat} (c:Chg b k W W'):MtRow W' B H g i:=by
 obtain ⟨d0,d1,d2,d3,d4,d5,⟨vf,nf,h1,h2,h3⟩,⟨vy,ny,h4,h5,h6⟩⟩:=h
 have e1:=h3
 have e2:=h6
 obtain ⟨a1,c1,rfl,_⟩:=e1
 obtain ⟨a2,c2,rfl,_⟩:=e2
 exact ⟨d0.chg c isI_like,d1.chg c isI_like,d2.chg c isI_like,d3.chg c isI_like,d4.chg c isI_like,d5.chg c isS_like,⟨_,nf,h1.chg c (slice_like _ _ _),h2,h3.chg c⟩,⟨_,ny,h4.chg c (slice_like _ _ _),h5,h6.chg c⟩⟩
def MtRows (W:World) (B H:Nat) (v:Value) (n:Nat):Prop:=∃ ao c,v=.slice ao n c∧(n=0∨∃ g,ao=some ⟨g,0,none⟩∧B≤g∧g<H∧∀ i,i<n→MtRow W B H g i)
theorem MtRows.chg {B H b k:Nat} {W W':World} {v:Value} {n:Nat} (h:MtRows W B H v n) (c:Chg b k W W'):MtRows W' B H v n:=by
 obtain ⟨ao,cc,rfl,h⟩:=h
 refine ⟨ao,cc,rfl,h.imp id ?_⟩
 rintro ⟨g,rfl,h1,h2,h3⟩
 exact ⟨g,rfl,h1,h2,fun i hi=>(h3 i hi).chg c⟩
theorem mtRows_of {W:World} {B:Nat} {v:Value} {ms:List MMethod} (h:MethodsW W B v ms) (hf:∀ m∈ms,m.few):MtRows W B W.heap.size v ms.length:=by
 obtain ⟨ys,hl,ho,he⟩:=h
 by_cases hz:ms.length=0
 ·obtain ⟨ao,c,rfl⟩:=own_len ho
  exact ⟨ao,c,rfl,.inl hz⟩
 ·obtain ⟨g,c,rfl⟩:=Joins.ownsRow_form ho (by omega)
  have hlt:=ho.lt g rfl
  refine ⟨_,_,rfl,.inr ⟨g,rfl,hlt.1,hlt.2,fun i hi=>?_⟩⟩
  have hi':i<ys.length:=by omega
  have hx:∀ j,j<8→(rowMethod ys)[i*8+j]? = (cellsMethod ys[i])[j]?:=by
   intro j hj
   rw [rowMethod_at ys i hi',List.getElem?_append_right (by rw [rowMethod_len,List.length_take];omega),rowMethod_len,List.length_take,show i*8+j - min i ys.length*8=j by omega,List.getElem?_append_left (by simp [cellsMethod];omega)]
  obtain ⟨vt,vf,e,hw⟩:=he i hi hi'
  have hq:=hf _ (List.getElem_mem hi)
  have ht:ys[i].traps=vt:=by rw [e];rfl
  have hfr:ys[i].frames=vf:=by rw [e];rfl
  exact ⟨CellIs.own ho (j:=i*8) (hx 0 (by omega)) (v:=.int .i64 ys[i].flags) ⟨_,rfl⟩,CellIs.own ho (j:=i*8+1) (hx 1 (by omega)) (v:=.int .i64 ys[i].name) ⟨_,rfl⟩,CellIs.own ho (j:=i*8+2) (hx 2 (by omega)) (v:=.int .i64 ys[i].desc) ⟨_,rfl⟩,CellIs.own ho (j:=i*8+3) (hx 3 (by omega)) (v:=.int .i64 ys[i].deep) ⟨_,rfl⟩,CellIs.own ho (j:=i*8+4) (hx 4 (by omega)) (v:=.int .i64 ys[i].locals) ⟨_,rfl⟩,CellIs.own ho (j:=i*8+5) (hx 5 (by omega)) (v:=.string ys[i].code) ⟨_,rfl⟩,
   ⟨ys[i].traps,_,CellIs.own ho (j:=i*8+6) (hx 6 (by omega)) (v:=ys[i].traps) rfl,hq.2.1,by rw [ht];exact RTrap.own hw.t⟩,⟨ys[i].frames,_,CellIs.own ho (j:=i*8+7) (hx 7 (by omega)) (v:=ys[i].frames) rfl,hq.2.2.1,by rw [hfr];exact frRows_of hw.f hq.2.2.2⟩⟩
theorem markMethodS_weak (v:Value) (n k0 B H:Nat) (w:World) (hn:n≤1048576) (h0:0<k0) (hk:k0≤1000000000) (hB:B≤H) (h:MtRows w B H v n) :
  Calls Tryz.prog 37 #[v,.int .i64 (k0:Int)] w fun e w'=>∃ k:Nat,e=.returned (.int .i64 (k:Int))∧k0≤k∧k≤k0+4398051753990*n∧Chg B H w w':=by
 obtain ⟨ao,cc,rfl,hrow⟩:=id h
 clear h
 go_enter Tryz.func37,Tryz.ntmps37
 go_wp2_with fail
 go_loopw [1,5] (fun kv i wr=>∃ (j a:Nat),j≤n∧i=.int .i64 j∧kv=.int .i64 (a:Int)∧k0≤a∧a≤k0+4398051753990*j∧Hid (Chg B H w wr)) (fun _ i _=>n - (intOf i).toNat)
 case atStart=>exact ⟨0,k0,by omega,rfl,rfl,by omega,by omega,Chg.refl _ _ _⟩
 case round=>
  obtain ⟨j,a,hj,rfl,rfl,ha0,ha1,HC⟩:=hrel
  by_cases hlt:j<n
  ·rcases hrow with h0'|⟨g,rfl,hg1,hg2,hcells⟩
   ·omega
   ·have r0:=(hcells j hlt).chg HC.out
    clear hcells
    have hT:=fun (k:Nat) (W:World) (hk:0<k) (hk2:k≤9000000000000000000)=>markText_any k W hk hk2
    obtain ⟨u0,_,p0,f0⟩:=r0.c0.get
    obtain ⟨u1,_,p1,f1⟩:=r0.c1.get
    obtain ⟨u2,_,p2,f2⟩:=r0.c2.get
    obtain ⟨u3,_,p3,f3⟩:=r0.c3.get
    obtain ⟨u4,_,p4,f4⟩:=r0.c4.get
    have S0:=r0.c0.set (B:=B) (H:=H) (.int .i64 ((a:Nat):Int)) (fun v hv=>isI_to v hv) hg1 hg2
    have r1:=r0.chg S0
    have S1:=r1.c1.set (B:=B) (H:=H) (.int .i64 ((a+1:Nat):Int)) (fun v hv=>isI_to v hv) hg1 hg2
    have r2:=r1.chg S1
    have S2:=r2.c2.set (B:=B) (H:=H) (.int .i64 ((a+1+1:Nat):Int)) (fun v hv=>isI_to v hv) hg1 hg2
    have r3:=r2.chg S2
    have S3:=r3.c3.set (B:=B) (H:=H) (.int .i64 ((a+1+1+1:Nat):Int)) (fun v hv=>isI_to v hv) hg1 hg2
    have r4:=r3.chg S3
    have S4:=r4.c4.set (B:=B) (H:=H) (.int .i64 ((a+1+1+1+1:Nat):Int)) (fun v hv=>isI_to v hv) hg1 hg2
    have r5:=r4.chg S4
    have HE:=hid ((((((HC.out).trans S0).trans S1).trans S2).trans S3).trans S4)
    have HR5:=hid r5
    clear r0 r1 r2 r3 r4 r5 S0 S1 S2 S3 S4 HC
    go_wp2_with fail
    refine (hT (a+1+1+1+1+1) _ (by omega) (by omega)).mono ?_
    rintro e w6 ⟨rfl,hb6⟩
    have r6:=HR5.out.chg (Chg.below (B:=B) (H:=H) hb6)
    have HE6:=hid (HE.out.trans (Chg.below hb6))
    clear HR5 HE hb6 hT p0 f0 p1 f1 p2 f2 p3 f3 p4 f4
    obtain ⟨u5,_,p5,f5⟩:=r6.c5.get
    have S5:=r6.c5.set (B:=B) (H:=H) (.string (mt (a+1+1+1+1+1))) (fun v hv=>isS_to v hv) hg1 hg2
    have HR7:=hid (r6.chg S5)
    have HE7:=hid (HE6.out.trans S5)
    obtain ⟨vf,nf,q1,q2,q3⟩:=r6.t
    obtain ⟨u6,e6,p6,_⟩:=q1.get
    obtain ⟨a1,c1,hvf,_⟩:=id q3
    subst e6
    have hcall:=markTrapS_weak u6 nf (a+1+1+1+1+1+1) B H _ q2 (by omega) (by omega) hB (q3.chg S5)
    subst hvf
    clear q1 q3 r6 S5 HE6
    go_wp2_with fail
    refine hcall.mono ?_
    rintro e w7 ⟨b,rfl,hb0,hb1,hc7⟩
    have HE8:=hid (HE7.out.trans hc7)
    have r8:=HR7.out.chg hc7
    clear hcall hc7 HR7 p5 f5 p6 HE7
    obtain ⟨vy,ny,q4,q5,q6⟩:=r8.f
    obtain ⟨u7,e7,p7,_⟩:=q4.get
    obtain ⟨a2,c2,hvy,_⟩:=id q6
    subst e7
    have hcall:=markFrameS_weak u7 ny b B H w7 q5 (by omega) (by omega) hB q6
    subst hvy
    clear q4 q6 r8
    go_wp2_with fail
    refine hcall.mono ?_
    rintro e w8 ⟨d,rfl,hd0,hd1,hc8⟩
    have HE9:=hid (HE8.out.trans hc8)
    clear hcall hc8 p7 HE8
    go_wp2_with fail
    go_roundw
    case rel=>exact ⟨j+1,d,by omega,by go_num,by go_num,by omega,by omega,HE9⟩
    case measure=>simp [intOf];omega
  ·go_wp2_with fail
   go_ret
   exact ⟨a,rfl,by omega,by omega,HC.out⟩
structure ClX (W:World) (B H:Nat) (vp vi vf vm:Value) (c:MClass):Prop where
 p:RConst W B H vp c.pool.length
 i:RInt W B H vi c.faces.length
 f:RField W B H vf c.fields.length
 m:MtRows W B H vm c.methods.length
theorem clX_of {W:World} {B:Nat} {vp vi vf vm:Value} {c:MClass} (hc:c.few) (h:ClassW W B vp vi vf vm c):ClX W B W.heap.size vp vi vf vm c:=⟨RConst.own h.p,RInt.own h.i,RField.own h.f,mtRows_of h.m hc.each⟩
theorem ClX.chg {W W':World} {B H b k:Nat} {vp vi vf vm:Value} {c:MClass} (h:ClX W B H vp vi vf vm c) (g:Chg b k W W'):ClX W' B H vp vi vf vm c:=⟨h.p.chg g,h.i.chg g,h.f.chg g,h.m.chg g⟩
theorem ClX.keep {W W':World} {B H:Nat} {vp vi vf vm:Value} {c:MClass} (h:ClX W B H vp vi vf vm c) (hb:Below W.heap.size W W'):ClX W' B H vp vi vf vm c:=h.chg (Chg.below (B:=B) (H:=H) hb)
theorem Lk.chgd {W W':World} {B H C:Nat} {cs:Array Value} {T:TypeId} (h:Lk W C cs T) (c:Chg B H W W') (hC:H≤C):Lk W' C cs T:=by
 unfold Lk at *
 rw [c.out C (Array.getElem?_eq_some_iff.1 h).1 (.inr hC)]
 exact h
theorem markClass_weak (c:MClass) (vp vi vf vm:Value) (B H:Nat) (w:World) (hc:c.few) (hB:B≤H) (hH:H≤w.heap.size) (h:ClX w B H vp vi vf vm c) :
  Calls Tryz.prog 11 #[.agg #[vp,.int .i64 c.flags,.int .i64 c.name,.int .i64 c.super,vi,vf,vm],.int .i64 1] w fun e w'=>∃ k:Nat,e=.returned (.int .i64 (k:Int))∧Chg B H w w':=by
 have P0:=HB.one w (arrK vp c.flags c.name c.super vi vf vm) 36
 have hk:=h.keep P0.b
 have c0:=hk.p
 have hI:=hk.i
 have hF:=hk.f
 have hM:=hk.m
 have hpl:=hc.pool
 have hil:=hc.faces
 have hfl:=hc.fields
 have hml:=hc.methods
 have HI:=hid hI
 have HF:=hid hF
 have HM:=hid hM
 obtain ⟨o1,j1,hv1,_⟩:=id h.p
 obtain ⟨o2,j2,hv2,_⟩:=id h.i
 obtain ⟨o3,j3,hv3,_⟩:=id h.f
 obtain ⟨o4,j4,hv4,_⟩:=id h.m
 subst hv1 hv2 hv3 hv4
 have hcall:=markConstS_weak _ c.pool.length 1 B H _ hpl (by omega) (by omega) hB c0
 have HL:=hid P0.hd
 have HB0:=hid P0.b
 obtain ⟨d0,d1,d2,d3,d4,d5,d6⟩:=P0.hd.k7
 clear h hc c0 hI hF hM hk P0
 go_enter Tryz.func11,Tryz.ntmps11
 go_wp2_with fail
 refine hcall.mono ?_
 rintro e w1 ⟨a,rfl,ha0,ha1,hc1⟩
 have L1:=HL.out.chgd hc1 hH
 obtain ⟨e0,e1,e2,e3,e4,e5,e6⟩:=L1.k7
 have hcall:=markIntS_weak _ c.faces.length a B H _ hil (by omega) (by omega) hB (HI.out.chg hc1)
 have HF1:=hid (HF.out.chg hc1)
 have HM1:=hid (HM.out.chg hc1)
 have HC1:=hid ((Chg.below (B:=B) (H:=H) HB0.out).trans hc1)
 have HL1:=hid L1
 clear hc1 HI HF HM HL L1 d0 d1 d2 d3 d4 d5 d6 HB0
 go_wp2_with fail
 refine hcall.mono ?_
 rintro e w2 ⟨b,rfl,hb0,hb1,hc2⟩
 have L2:=HL1.out.chgd hc2 hH
 obtain ⟨d0,d1,d2,d3,d4,d5,d6⟩:=L2.k7
 have hcall:=markFieldS_weak _ c.fields.length b B H _ hfl (by omega) (by omega) hB (HF1.out.chg hc2)
 have HM2:=hid (HM1.out.chg hc2)
 have HC2:=hid (HC1.out.trans hc2)
 have HL2:=hid L2
 clear hc2 HF1 HM1 HL1 L2 e0 e1 e2 e3 e4 e5 e6 HC1
 go_wp2_with fail
 refine hcall.mono ?_
 rintro e w3 ⟨d,rfl,hd0,hd1,hc3⟩
 have L3:=HL2.out.chgd hc3 hH
 obtain ⟨e0,e1,e2,e3,e4,e5,e6⟩:=L3.k7
 have hcall:=markMethodS_weak _ c.methods.length d B H _ hml (by omega) (by omega) hB (HM2.out.chg hc3)
 have HC3:=hid (HC2.out.trans hc3)
 clear hc3 HM2 HL2 L3 d0 d1 d2 d3 d4 d5 d6 HC2
 go_wp2_with fail
 refine hcall.mono ?_
 rintro e w4 ⟨q,rfl,hq0,hq1,hc4⟩
 have HC4:=hid (HC3.out.trans hc4)
 clear hc4 HC3 e0 e1 e2 e3 e4 e5 e6
 go_wp2
 go_ret
 exact ⟨q,rfl,HC4.out⟩
end Go.Proofs.YtecbcdfkedocbaaGreatDoor
