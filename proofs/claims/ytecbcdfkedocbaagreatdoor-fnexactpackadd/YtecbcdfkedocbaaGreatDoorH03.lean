/- Gathered: RdMethod RdClassA RdClass. -/
import Derived.Test.YtecbcdfkedocbaaGreatDoorH02
namespace Go.Proofs.YtecbcdfkedocbaaGreatDoor
open Go.RowKit Fm
set_option maxHeartbeats 4000000
set_option maxRecDepth 20000
set_option linter.unusedVariables false
theorem l1method_any (b:Nat) (s:ByteArray) (st:Option (List UInt8)) (w:World) (hs:s.size≤1000000000) (h:RdAt w b s st) :
  Calls Tryz.prog 158 #[.pointer (some ⟨b,0,none⟩)] w fun e w'=>∃ (m:MMethod) (vt vf:Value) (st':Option (List UInt8)),e=.returned (.agg #[.int .i64 m.flags,.int .i64 m.name,.int .i64 m.desc,.int .i64 m.deep,.int .i64 m.locals,.string m.code,vt,vf])∧MethodW w' w.heap.size vt vf m∧m.few∧RdAt w' b s st'∧w.grownBy w' (some b)∧Rd rMethod st m st':=by
 have H1:=fun st w h=>l1one_any b s st w hs h
 have H2:=fun st w h=>l1two_any b s st w hs h
 have H3:=fun st x y z w h=>l1body_any b s st x y z w hs h
 have HB:=h.lt
 have S0:=(St.start h).alloc (.cells zM 75)
 have K0:=Lk.new w zM 75
 clear h
 go_enter Tryz.func158,Tryz.ntmps158
 go_upto_region 1 with fail
 go_cut [3] (fun p wc=>∃ (x y z:Nat) (st3:Option (List UInt8)) (M:Nat),p=.pointer (some ⟨M,0,none⟩)∧x<256∧M≠w.heap.size∧Hid (BS w b s M w.heap.size 75 zM st3 (arrM x y z 0 0 empty (.slice none 0 0) (.slice none 0 0)) wc)∧Hid (∀ m st',Rd (if absF (x:Int) then ppure ⟨x,y,z,0,0,empty,[],[]⟩ else rBody x y z) st3 m st'→Rd rMethod st m st'))
 case first=>
  go_wp2_with fail
  refine (H1 _ _ S0.rd).mono ?_
  rintro e w1 ⟨x,st1,rfl,hx,h1,g1,r1⟩
  have S1:=S0.call h1 g1
  have K1:=K0.call g1 (by omega)
  clear S0 K0 h1 g1
  go_wp2_with fail
  refine (H2 _ _ S1.rd).mono ?_
  rintro e w2 ⟨y,st2,rfl,hy,h2,g2,r2⟩
  have S2:=S1.call h2 g2
  have K2:=K1.call g2 (by omega)
  clear S1 K1 h2 g2
  go_wp2_with fail
  refine (H2 _ _ S2.rd).mono ?_
  rintro e w3 ⟨z,st3,rfl,hz,h3,g3,r3⟩
  have S3:=S2.call h3 g3
  have K3:=K2.call g3 (by omega)
  have hlt:=K3.lt
  have HB3:=hid (show BS w b s w3.heap.size w.heap.size 75 zM st3 (arrM x y z 0 0 empty (.slice none 0 0) (.slice none 0 0)) (w3.alloc (.cells (arrM x y z 0 0 empty (.slice none 0 0) (.slice none 0 0)) 75)) from ⟨S3.alloc _,Lk.new _ _ _,K3.alloc _,S3.size,Nat.le_refl _,by omega⟩)
  have HR:=hid (show ∀ m st',Rd (if absF (x:Int) then ppure ⟨x,y,z,0,0,empty,[],[]⟩ else rBody x y z) st3 m st'→Rd rMethod st m st' from fun m st' hm=>by
   refine r1.bind ?_
   refine r2.bind ?_
   refine r3.bind ?_
   exact hm)
  clear S2 K2 S3 K3 h3 g3 H1 H2 H3 r1 r2 r3
  go_wp2_with fail
  go_meet
  case rel=>exact ⟨x,y,z,st3,w3.heap.size,rfl,hx,by omega,HB3,HR⟩
 case rest=>
  obtain ⟨x,y,z,st3,M,rfl,hx,hM,HB3,HR⟩:=hcut
  obtain ⟨⟨p0,p1,p2,p3,p4,p5,p6,p7⟩,y0,y1,y2,y3,y4,y5,y6,y7⟩:=HB3.out.r.c8
  obtain ⟨⟨t0,t1,t2,t3,t4,t5,t6,t7⟩,_⟩:=HB3.out.m.c8
  have hM':¬w.heap.size=M:=fun e=>hM e.symm
  clear S0 K0 H1 H2
  by_cases ha:absF (x:Int)
  ·have hab:((x:Int) % 16 / 8==1)=true:=by unfold absF at ha;simpa using ha
   have HR2:=hid (show Rd rMethod st ⟨x,y,z,0,0,empty,[],[]⟩ st3 from HR.out _ _ (by rw [if_pos ha];exact Rd.pure))
   have HF:=hid (show FE w b s w.heap.size (.slice none 0 0) (.slice none 0 0) [] [] st3 wc from
    ⟨HB3.out.st,World.ownsRow_nil _ _ _ _,⟨[],rfl,World.ownsRow_nil _ _ _ _,fun k hk=>by simp at hk⟩,⟨_,HB3.out.r⟩,Nat.le_refl _⟩)
   clear H3 ha HR HB3
   go_wp2_with fail
   refine bodyPost_ret (v:=.agg #[.int .i64 x,.int .i64 y,.int .i64 z,.int .i64 0,.int .i64 0,.string empty,.slice none 0 0,.slice none 0 0]) (by simp [results,Tryz.results158,go_sem,p0,p1,p2,p3,p4,p5,p6,p7]) rfl ?_
   refine ⟨⟨x,y,z,0,0,empty,[],[]⟩,_,_,st3,rfl,FE.fin (R:=w.heap.size) ?_ HR2.out ?_⟩
   ·repeat' (first|refine FE.set ?_ _ _|exact HF.out)
   ·exact ⟨by simp [empty,ByteArray.size],by simp,by simp,by simp⟩
  ·have hab:((x:Int) % 16 / 8==1)=false:=by unfold absF at ha;simpa using ha
   have HA:=hid ha
   have H4:=fun w h=>H3 st3 x y z w h
   clear ha H3
   go_wp2_with fail
   refine (H4 _ HB3.out.st.rd).mono ?_
   rintro e w4 ⟨m,vt,vf,st4,rfl,hm,hf,h4,g4,r4⟩
   have HR2:=hid (show Rd rMethod st m st4 from HR.out _ _ (by rw [if_neg HA.out];exact r4))
   have B4:=HB3.out.call h4 g4
   have hm':=hm.mono (show w.heap.size≤_ from HB3.out.st.size)
   obtain ⟨xs,hxs⟩:=FX.of hm'.f
   have HF:=hid (show FE w b s w.heap.size vt vf m.traps m.frames st4 w4 from ⟨B4.st,hm'.t,⟨xs,hxs⟩,⟨_,B4.r⟩,Nat.le_refl _⟩)
   obtain ⟨o1,k1,hv1⟩:=own_len hm'.t
   obtain ⟨o2,k2,hv2⟩:=own_len hxs.row
   subst hv1 hv2
   have HW:=hid hf
   clear p0 p1 p2 p3 p4 p5 p6 p7 y0 y1 y2 y3 y4 y5 y6 y7
   obtain ⟨⟨p0,p1,p2,p3,p4,p5,p6,p7⟩,y0,y1,y2,y3,y4,y5,y6,y7⟩:=B4.r.c8
   clear H4 hm hm' hxs h4 g4 r4 hf HB3 HR B4
   go_wp2_with fail
   refine bodyPost_ret (v:=.agg #[.int .i64 m.flags,.int .i64 m.name,.int .i64 m.desc,.int .i64 m.deep,.int .i64 m.locals,.string m.code,.slice o1 m.traps.length k1,.slice o2 m.frames.length k2]) (by simp [results,Tryz.results158,go_sem,p0,p1,p2,p3,p4,p5,p6,p7]) rfl ?_
   refine ⟨m,_,_,st4,rfl,FE.fin (R:=w.heap.size) ?_ HR2.out HW.out⟩
   repeat' (first|refine FE.set ?_ _ _|exact HF.out)
def Kp (W W':World) (B:Nat) (e0:TypeId):Prop:=∀ e z v n xs,e≠e0→W.ownsRow B e z v n xs→W'.ownsRow B e z v n xs
theorem Kp.call {W W':World} {B b:Nat} (e0:TypeId) (g:W.grownBy W' (some b)) (hb:b<B):Kp W W' B e0:=fun e z v n xs _ ho=>grown_own g ho (fun q=>by have:=(ho.lt _ q).1;omega)
theorem Kp.grow {W W':World} {B B':Nat} {e0:TypeId} {z n:Nat} {v:Value} {xs:List Value} {o:Obj} (hv:W.ownsRow B' e0 z v n xs) (g:(W.alloc o).grownBy W' v.ownBlock):Kp W W' B e0:=fun e z v n xs he ho=>own_grow (ho.alloc o) (hv.alloc o) he g
theorem Kp.set {W:World} {B C:Nat} {cs:Array Value} {T:TypeId} (h:Lk W C cs T) (j:Nat) (u:Value):Kp W (W.setCell ⟨C,j,none⟩ u) B T:=fun e z v n xs he ho=>ownsRow_set_ne ho u (own_ne ho h (fun q=>he q.symm))
theorem Kp.trans {W W' W2:World} {B:Nat} {e0:TypeId} (h:Kp W W' B e0) (k:Kp W' W2 B e0):Kp W W2 B e0:=fun e z v n xs he ho=>k e z v n xs he (h e z v n xs he ho)
theorem FramesW.kp {W W':World} {B:Nat} {e0:TypeId} {v:Value} {fs:List MFrame} (h:FramesW W B v fs) (k:Kp W W' B e0) (h1:114≠e0) (h2:144≠e0):FramesW W' B v fs:=by
 obtain ⟨xs,k1,k2,k3⟩:=h
 exact ⟨xs,k1,k _ _ _ _ _ h1 k2,fun j hj hj'=>⟨(k3 j hj hj').at_,k _ _ _ _ _ h2 (k3 j hj hj').l,k _ _ _ _ _ h2 (k3 j hj hj').s⟩⟩
theorem MethodW.kp {W W':World} {B:Nat} {e0:TypeId} {vt vf:Value} {m:MMethod} (h:MethodW W B vt vf m) (k:Kp W W' B e0) (h0:140≠e0) (h1:114≠e0) (h2:144≠e0):MethodW W' B vt vf m:=⟨k _ _ _ _ _ h0 h.t,h.f.kp k h1 h2⟩
structure MX (W:World) (B:Nat) (v:Value) (ms:List MMethod) (xs:List SMethod):Prop where
 len:xs.length=ms.length
 row:W.ownsRow B 75 8 v ms.length (rowMethod xs)
 each:∀ k (h:k<ms.length) (h':k<xs.length),∃ vt vf,xs[k]=shM ms[k] vt vf∧MethodW W B vt vf ms[k]
theorem MX.all {W:World} {B:Nat} {v:Value} {ms:List MMethod} {xs:List SMethod} (h:MX W B v ms xs):MethodsW W B v ms:=⟨xs,h.len,h.row,h.each⟩
theorem MX.of {W:World} {B:Nat} {v:Value} {ms:List MMethod} (h:MethodsW W B v ms):∃ xs,MX W B v ms xs:=by
 obtain ⟨xs,h1,h2,h3⟩:=h
 exact ⟨xs,h1,h2,h3⟩
theorem MX.nil (W:World) (B:Nat):MX W B (.slice none 0 0) [] []:=⟨rfl,World.ownsRow_nil _ _ _ _,fun k hk=>by simp at hk⟩
theorem MX.kp {W W':World} {B:Nat} {e0:TypeId} {v:Value} {ms:List MMethod} {xs:List SMethod} (h:MX W B v ms xs) (k:Kp W W' B e0) (h3:75≠e0) (h0:140≠e0) (h1:114≠e0) (h2:144≠e0):MX W' B v ms xs:=
 ⟨h.len,k _ _ _ _ _ h3 h.row,fun j hj hj'=>by
  obtain ⟨vt,vf,q1,q2⟩:=h.each j hj hj'
  exact ⟨vt,vf,q1,q2.kp k h0 h1 h2⟩⟩
theorem rowMethod_snoc (ts:List SMethod) (t:SMethod):rowMethod (ts++[t])=rowMethod ts++cellsMethod t:=by simp [rowMethod]
theorem rowField_snoc (ts:List MField) (t:MField):rowField (ts++[t])=rowField ts++cellsField t:=by simp [rowField]
theorem rowI_snoc (ts:List Int) (t:Int):rowI (ts++[t])=rowI ts++[.int .i64 t]:=by simp [rowI]
theorem MX.snoc {W W':World} {B:Nat} {v v':Value} {ms:List MMethod} {xs:List SMethod} {vt vf:Value} {m:MMethod} {o:Obj} (h:MX W B v ms xs) (hm:MethodW W B vt vf m) (hg:(W.alloc o).grownBy W' v.ownBlock) (ho:W'.ownsRow B 75 8 v' (ms.length+1) (rowMethod xs++cellsMethod (shM m vt vf))):MX W' B v' (ms++[m]) (xs++[shM m vt vf]):=by
 have k:Kp W W' B 75:=Kp.grow h.row hg
 refine ⟨by simp [h.len], ?_,fun j hj hj'=>?_⟩
 ·rw [rowMethod_snoc,List.length_append];exact ho
 ·by_cases hlt:j<ms.length
  ·rw [List.getElem_append_left hlt,List.getElem_append_left (by have:=h.len;omega)]
   obtain ⟨a,b,q1,q2⟩:=h.each j hlt (by have:=h.len;omega)
   exact ⟨a,b,q1,q2.kp k (by decide) (by decide) (by decide)⟩
  ·have:j=ms.length:=by simp at hj;omega
   subst this
   rw [List.getElem_append_right (Nat.le_refl _),List.getElem_append_right (by have:=h.len;omega)]
   exact ⟨vt,vf,by simp [h.len],by simpa using hm.kp k (by decide) (by decide) (by decide)⟩
theorem Lk.c7 {W:World} {C:Nat} {a b c d e f g:Value} {T:TypeId} (k:Lk W C #[a,b,c,d,e,f,g] T):(W.cell? ⟨C,0,none⟩=some a∧W.cell? ⟨C,1,none⟩=some b∧W.cell? ⟨C,2,none⟩=some c∧W.cell? ⟨C,3,none⟩=some d∧W.cell? ⟨C,4,none⟩=some e∧W.cell? ⟨C,5,none⟩=some f∧W.cell? ⟨C,6,none⟩=some g) ∧
  W.frozen? ⟨C,0,none⟩=false∧W.frozen? ⟨C,1,none⟩=false∧W.frozen? ⟨C,2,none⟩=false∧W.frozen? ⟨C,3,none⟩=false∧W.frozen? ⟨C,4,none⟩=false∧W.frozen? ⟨C,5,none⟩=false∧W.frozen? ⟨C,6,none⟩=false:=
 ⟨⟨k.c 0 _ rfl,k.c 1 _ rfl,k.c 2 _ rfl,k.c 3 _ rfl,k.c 4 _ rfl,k.c 5 _ rfl,k.c 6 _ rfl⟩,k.z 0,k.z 1,k.z 2,k.z 3,k.z 4,k.z 5,k.z 6⟩
abbrev arrC (vp:Value) (f n s:Int) (vi vf vm:Value):Array Value:=#[vp,.int .i64 f,.int .i64 n,.int .i64 s,vi,vf,vm]
abbrev zC:Array Value:=arrC (.slice none 0 0) 0 0 0 (.slice none 0 0) (.slice none 0 0) (.slice none 0 0)
structure CSt (w:World) (b:Nat) (s:ByteArray) (cs:Array Value) (vp vi vf vm:Value) (ps:List C4) (is:List Int) (fs:List MField) (ms:List MMethod) (xs:List SMethod) (st:Option (List UInt8)) (W:World):Prop where
 bs:BS w b s (w.heap.size+1) w.heap.size 36 zC st cs W
 p:W.ownsRow w.heap.size 40 4 vp ps.length (cellsC ps)
 i:W.ownsRow w.heap.size 3 1 vi is.length (rowI is)
 f:W.ownsRow w.heap.size 79 3 vf fs.length (rowField fs)
 m:MX W w.heap.size vm ms xs
section
variable {w:World} {b:Nat} {s:ByteArray} {cs:Array Value} {vp vi vf vm:Value} {ps:List C4} {is:List Int} {fs:List MField} {ms:List MMethod} {xs:List SMethod} {st st':Option (List UInt8)} {W W':World}
theorem CSt.kp {cs':Array Value} {e0:TypeId} (h:CSt w b s cs vp vi vf vm ps is fs ms xs st W) (hb:BS w b s (w.heap.size+1) w.heap.size 36 zC st' cs' W') (k:Kp W W' w.heap.size e0) (h1:40≠e0) (h2:3≠e0) (h3:79≠e0) (h4:75≠e0) (h5:140≠e0) (h6:114≠e0) (h7:144≠e0):CSt w b s cs' vp vi vf vm ps is fs ms xs st' W':=
 ⟨hb,k _ _ _ _ _ h1 h.p,k _ _ _ _ _ h2 h.i,k _ _ _ _ _ h3 h.f,h.m.kp k h4 h5 h6 h7⟩
theorem CSt.call (h:CSt w b s cs vp vi vf vm ps is fs ms xs st W) (h1:RdAt W' b s st') (h2:W.grownBy W' (some b)):CSt w b s cs vp vi vf vm ps is fs ms xs st' W':=
 h.kp (h.bs.call h1 h2) (Kp.call 36 h2 h.bs.st.old) (by decide) (by decide) (by decide) (by decide) (by decide) (by decide) (by decide)
theorem CSt.keep (h:CSt w b s cs vp vi vf vm ps is fs ms xs st W) (hb:Below W.heap.size W W'):CSt w b s cs vp vi vf vm ps is fs ms xs st W':=h.call (h.bs.st.rd.keep hb) (below_grow hb)
theorem CSt.bad (h:CSt w b s cs vp vi vf vm ps is fs ms xs st W):CSt w b s cs vp vi vf vm ps is fs ms xs none (W.setCell ⟨b,2,none⟩ (.bool true)):=by
 obtain ⟨h1,h2⟩:=h.bs.st.rd.setBad W (Below.refl _ _)
 exact h.call h1 h2
theorem CSt.set {cs':Array Value} (h:CSt w b s cs vp vi vf vm ps is fs ms xs st W) (j:Nat) (u:Value) (hu:cs.setIfInBounds j u=cs'):CSt w b s cs' vp vi vf vm ps is fs ms xs st (W.setCell ⟨w.heap.size+1,j,none⟩ u):=
 h.kp (h.bs.set j u hu) (Kp.set h.bs.m j u) (by decide) (by decide) (by decide) (by decide) (by decide) (by decide) (by decide)
theorem CSt.appI {o:Obj} {v':Value} {a:Int} {f1 n1 s1:Int} (h:CSt w b s (arrC vp f1 n1 s1 vi vf vm) vp vi vf vm ps is fs ms xs st W) (hg:(W.alloc o).grownBy W' vi.ownBlock) (ho:W'.ownsRow w.heap.size 3 1 v' (is.length+1) (rowI is++[.int .i64 a])) :
  BS w b s (w.heap.size+1) w.heap.size 36 zC st (arrC vp f1 n1 s1 vi vf vm) W'∧CSt w b s (arrC vp f1 n1 s1 v' vf vm) vp v' vf vm ps (is++[a]) fs ms xs st (W'.setCell ⟨w.heap.size+1,4,none⟩ v'):=by
 have hB:=h.bs.app h.i (Nat.le_refl _) (by decide) hg
 have k:Kp W W' w.heap.size 3:=Kp.grow h.i hg
 refine ⟨hB,CSt.set (cs:=arrC vp f1 n1 s1 vi vf vm) ⟨hB,k _ _ _ _ _ (by decide) h.p, ?_,k _ _ _ _ _ (by decide) h.f,h.m.kp k (by decide) (by decide) (by decide) (by decide)⟩ 4 v' rfl⟩
 rw [rowI_snoc,List.length_append];exact ho
theorem CSt.appF {o:Obj} {v':Value} {x y z:Int} {f1 n1 s1:Int} (h:CSt w b s (arrC vp f1 n1 s1 vi vf vm) vp vi vf vm ps is fs ms xs st W) (hg:(W.alloc o).grownBy W' vf.ownBlock) (ho:W'.ownsRow w.heap.size 79 3 v' (fs.length+1) (rowField fs++[.int .i64 x,.int .i64 y,.int .i64 z])) :
  BS w b s (w.heap.size+1) w.heap.size 36 zC st (arrC vp f1 n1 s1 vi vf vm) W'∧CSt w b s (arrC vp f1 n1 s1 vi v' vm) vp vi v' vm ps is (fs++[⟨x,y,z⟩]) ms xs st (W'.setCell ⟨w.heap.size+1,5,none⟩ v'):=by
 have hB:=h.bs.app h.f (Nat.le_refl _) (by decide) hg
 have k:Kp W W' w.heap.size 79:=Kp.grow h.f hg
 refine ⟨hB,CSt.set (cs:=arrC vp f1 n1 s1 vi vf vm) ⟨hB,k _ _ _ _ _ (by decide) h.p,k _ _ _ _ _ (by decide) h.i, ?_,h.m.kp k (by decide) (by decide) (by decide) (by decide)⟩ 5 v' rfl⟩
 rw [rowField_snoc,List.length_append];exact ho
theorem CSt.appM {o:Obj} {v' vt ve:Value} {m:MMethod} {f1 n1 s1:Int} (h:CSt w b s (arrC vp f1 n1 s1 vi vf vm) vp vi vf vm ps is fs ms xs st W) (hm:MethodW W w.heap.size vt ve m) (hg:(W.alloc o).grownBy W' vm.ownBlock) (ho:W'.ownsRow w.heap.size 75 8 v' (ms.length+1) (rowMethod xs++cellsMethod (shM m vt ve))) :
  BS w b s (w.heap.size+1) w.heap.size 36 zC st (arrC vp f1 n1 s1 vi vf vm) W'∧CSt w b s (arrC vp f1 n1 s1 vi vf v') vp vi vf v' ps is fs (ms++[m]) (xs++[shM m vt ve]) st (W'.setCell ⟨w.heap.size+1,6,none⟩ v'):=by
 have hB:=h.bs.app h.m.row (Nat.le_refl _) (by decide) hg
 have k:Kp W W' w.heap.size 75:=Kp.grow h.m.row hg
 exact ⟨hB,CSt.set (cs:=arrC vp f1 n1 s1 vi vf vm) ⟨hB,k _ _ _ _ _ (by decide) h.p,k _ _ _ _ _ (by decide) h.i,k _ _ _ _ _ (by decide) h.f,h.m.snoc hm hg ho⟩ 6 v' rfl⟩
end
structure CE (w:World) (b:Nat) (s:ByteArray) (vp vi vf vm:Value) (ps:List C4) (is:List Int) (fs:List MField) (ms:List MMethod) (st:Option (List UInt8)) (W:World):Prop where
 st:St w b s st W
 p:W.ownsRow w.heap.size 40 4 vp ps.length (cellsC ps)
 i:W.ownsRow w.heap.size 3 1 vi is.length (rowI is)
 f:W.ownsRow w.heap.size 79 3 vf fs.length (rowField fs)
 m:∃ xs,MX W w.heap.size vm ms xs
 r:∃ zs,Lk W w.heap.size zs 36
section
variable {w:World} {b:Nat} {s:ByteArray} {cs:Array Value} {vp vi vf vm:Value} {ps:List C4} {is:List Int} {fs:List MField} {ms:List MMethod} {xs:List SMethod} {st st':Option (List UInt8)} {W:World}
theorem CSt.ce (h:CSt w b s cs vp vi vf vm ps is fs ms xs st W):CE w b s vp vi vf vm ps is fs ms st W:=⟨h.bs.st,h.p,h.i,h.f,⟨_,h.m⟩,⟨_,h.bs.r⟩⟩
theorem CE.set (h:CE w b s vp vi vf vm ps is fs ms st W) (j:Nat) (u:Value):CE w b s vp vi vf vm ps is fs ms st (W.setCell ⟨w.heap.size,j,none⟩ u):=by
 obtain ⟨zs,hz⟩:=h.r
 obtain ⟨xs,hx⟩:=h.m
 have k:Kp W (W.setCell ⟨w.heap.size,j,none⟩ u) w.heap.size 36:=Kp.set hz j u
 exact ⟨h.st.set (by exact Nat.le_refl _),k _ _ _ _ _ (by decide) h.p,k _ _ _ _ _ (by decide) h.i,k _ _ _ _ _ (by decide) h.f,⟨xs,hx.kp k (by decide) (by decide) (by decide) (by decide)⟩,⟨_,hz.set j u rfl⟩⟩
theorem CE.fin {c:MClass} (h:CE w b s vp vi vf vm c.pool c.faces c.fields c.methods st' W) (hr:Rd rClass st c st') (hf:c.few):ClassW W w.heap.size vp vi vf vm c∧c.few∧RdAt W b s st'∧w.grownBy W (some b)∧Rd rClass st c st':=by
 obtain ⟨xs,hx⟩:=h.m
 exact ⟨⟨h.p,h.i,h.f,hx.all⟩,hf,h.st.rd,h.st.grow,hr⟩
end
theorem Rd.field {st st':Option (List UInt8)} {a b c:Int} {st1 st2:Option (List UInt8)} (h1:Rd rOne st a st1) (h2:Rd rTwo st1 b st2) (h3:Rd rTwo st2 c st'):Rd rField st ⟨a,b,c⟩ st':=by
 refine h1.bind ?_
 refine h2.bind ?_
 refine h3.bind ?_
 exact Rd.pure
def Fd1 (rs:List UInt8) (a:Int) (st:Option (List UInt8)):Prop:=Rd rOne (some rs) a st
def Fd2 (rs:List UInt8) (a b:Int) (st:Option (List UInt8)):Prop:=∃ st1,Rd rOne (some rs) a st1∧Rd rTwo st1 b st
theorem Fd1.mk {rs:List UInt8} {a:Int} {st:Option (List UInt8)} (h:Rd rOne (some rs) a st):Fd1 rs a st:=h
theorem Fd1.next {rs:List UInt8} {a b:Int} {st st':Option (List UInt8)} (h:Fd1 rs a st) (r:Rd rTwo st b st'):Fd2 rs a b st':=⟨st,h,r⟩
theorem Fd2.done {rs:List UInt8} {a b c:Int} {st st':Option (List UInt8)} (h:Fd2 rs a b st) (r:Rd rTwo st c st'):Rd rField (some rs) ⟨a,b,c⟩ st':=by
 obtain ⟨st1,h1,h2⟩:=h
 exact Rd.field h1 h2 r
set_option maxHeartbeats 8000000
theorem l1class_any (b:Nat) (s:ByteArray) (st:Option (List UInt8)) (w:World) (hs:s.size≤1000000000) (h:RdAt w b s st) :
  Calls Tryz.prog 112 #[.pointer (some ⟨b,0,none⟩)] w fun e w'=>∃ (c:MClass) (vp vi vf vm:Value) (st':Option (List UInt8)),e=.returned (.agg #[vp,.int .i64 c.flags,.int .i64 c.name,.int .i64 c.super,vi,vf,vm])∧ClassW w' w.heap.size vp vi vf vm c∧c.few∧RdAt w' b s st'∧w.grownBy w' (some b)∧Rd rClass st c st':=by
 have H1:=fun st w h=>l1one_any b s st w hs h
 have H2:=fun st w h=>l1two_any b s st w hs h
 have H3:=fun st w h=>l1text_any b s st 4 w hs (by omega) h
 have H4:=fun st w h=>l1pool_any b s st w hs h
 have H5:=fun st w h=>l1method_any b s st w hs h
 have HB:=h.lt
 obtain ⟨i0,hi,hz0,hz1,hz2⟩:=info_parts infoInt
 obtain ⟨j0,hj,hy0,hy1,hy2⟩:=info_parts infoField
 obtain ⟨k0,hk0,hx0,hx1,hx2⟩:=info_parts infoMethod
 have B0:=(show BS w b s (w.heap.size+1) w.heap.size 36 zC st zC ((w.alloc (.cells zC 36)).alloc (.cells zC 36)) from
  ⟨((St.start h).alloc _).alloc _,by have:=Lk.new (w.alloc (.cells zC 36)) zC 36;simpa using this,(Lk.new w _ _).alloc _,by omega,Nat.le_refl _,by omega⟩)
 clear h
 go_enter Tryz.func112,Tryz.ntmps112
 go_wp2_with fail
 refine (H3 _ _ B0.st.rd).mono ?_
 rintro e w1 ⟨x,st1,rfl,hx,h1,g1,r1⟩
 have B1:=B0.call h1 g1
 clear B0 h1 g1
 go_upto_if 11 with fail
 go_cut [] (fun wc=>∃ st1',Hid (BS w b s (w.heap.size+1) w.heap.size 36 zC st1' zC wc)∧Hid (Rd rMark st () st1'))
 case first=>
  obtain ⟨c2,f2⟩:=B1.st.cells
  have R1:=hid r1
  clear r1
  go_wp2_with fail
  ·rename_i hc
   go_meet
   case rel=>
    refine ⟨none,B1.bad, ?_⟩
    refine R1.out.bind ?_
    rw [if_neg (fun e=>by rw [e,ByteArray.toList_eq] at hc;simp [Fm.mark] at hc)]
    exact Rd.fail
  ·rename_i hc
   go_meet
   case rel=>
    refine ⟨st1,B1, ?_⟩
    refine R1.out.bind ?_
    rw [if_pos (by
     simp [ByteArray.toList_eq] at hc
     exact ByteArray.ext (Array.ext' (by rw [hc];rfl)))]
    exact Rd.pure
 case rest=>
  obtain ⟨st1',B1',R1⟩:=hcut
  clear B1 r1 H3
  go_wp2_with fail
  refine (H4 _ _ B1'.out.st.rd).mono ?_
  rintro e w2 ⟨vp,ps,st2,rfl,op,hps,h2,g2,r2⟩
  have B2:=B1'.out.call h2 g2
  have op:=Joins.ownsRow_le op B1'.out.st.size
  obtain ⟨oo,oc,hv⟩:=own_len op
  have HO:=hid op
  subst hv
  obtain ⟨⟨p0,p1,p2,p3,p4,p5,p6⟩,y0,y1,y2,y3,y4,y5,y6⟩:=B2.m.c7
  have S2:=(show CSt w b s zC (.slice oo ps.length oc) (.slice none 0 0) (.slice none 0 0) (.slice none 0 0) ps [] [] [] [] st2 w2 from ⟨B2,op,World.ownsRow_nil _ _ _ _,World.ownsRow_nil _ _ _ _,MX.nil _ _⟩)
  have R2:=hid r2
  have HPs:=hid hps
  clear h2 g2 r2 op B1' B2 hps HO H4
  go_wp2_with fail
  have S2:=S2.set (cs':=arrC (.slice oo ps.length oc) 0 0 0 (.slice none 0 0) (.slice none 0 0) (.slice none 0 0)) 0 (.slice oo ps.length oc) rfl
  refine (H1 _ _ S2.bs.st.rd).mono ?_
  rintro e w3 ⟨f,st3,rfl,hf,h3,g3,r3⟩
  have S3:=S2.call h3 g3
  clear p0 p1 p2 p3 p4 p5 p6 y0 y1 y2 y3 y4 y5 y6
  obtain ⟨⟨p0,p1,p2,p3,p4,p5,p6⟩,y0,y1,y2,y3,y4,y5,y6⟩:=S3.bs.m.c7
  clear S2 h3 g3
  go_wp2_with fail
  have S3:=S3.set (cs':=arrC (.slice oo ps.length oc) f 0 0 (.slice none 0 0) (.slice none 0 0) (.slice none 0 0)) 1 (.int .i64 f) rfl
  refine (H2 _ _ S3.bs.st.rd).mono ?_
  rintro e w4 ⟨n,st4,rfl,hn,h4,g4,r4⟩
  have S4:=S3.call h4 g4
  clear p0 p1 p2 p3 p4 p5 p6 y0 y1 y2 y3 y4 y5 y6
  obtain ⟨⟨p0,p1,p2,p3,p4,p5,p6⟩,y0,y1,y2,y3,y4,y5,y6⟩:=S4.bs.m.c7
  clear S3 h4 g4
  go_wp2_with fail
  have S4:=S4.set (cs':=arrC (.slice oo ps.length oc) f n 0 (.slice none 0 0) (.slice none 0 0) (.slice none 0 0)) 2 (.int .i64 n) rfl
  refine (H2 _ _ S4.bs.st.rd).mono ?_
  rintro e w5 ⟨u,st5,rfl,hu,h5,g5,r5⟩
  have S5:=S4.call h5 g5
  clear p0 p1 p2 p3 p4 p5 p6 y0 y1 y2 y3 y4 y5 y6
  obtain ⟨⟨p0,p1,p2,p3,p4,p5,p6⟩,y0,y1,y2,y3,y4,y5,y6⟩:=S5.bs.m.c7
  clear S4 h5 g5
  go_wp2_with fail
  have S5:=S5.set (cs':=arrC (.slice oo ps.length oc) f n u (.slice none 0 0) (.slice none 0 0) (.slice none 0 0)) 3 (.int .i64 u) rfl
  refine (H1 _ _ S5.bs.st.rd).mono ?_
  rintro e w6 ⟨qI,st6,rfl,hqI,h6,g6,r6⟩
  have S6:=S5.call h6 g6
  have R3:=hid r3
  have R4:=hid r4
  have R5:=hid r5
  clear S5 h6 g6 p0 p1 p2 p3 p4 p5 p6 y0 y1 y2 y3 y4 y5 y6 r3 r4 r5
  go_upto_if 30 with fail
  go_cut [] (fun wc=>∃ st',Hid (CSt w b s (arrC (.slice oo ps.length oc) f n u (.slice none 0 0) (.slice none 0 0) (.slice none 0 0)) (.slice oo ps.length oc) (.slice none 0 0) (.slice none 0 0) (.slice none 0 0) ps [] [] [] [] st' wc)∧Hid (Rd (rCount 3) st5 qI st'))
  case first=>
   obtain ⟨c2,f2⟩:=S6.bs.st.cells
   by_cases hq1:qI≤3
   ·go_wp2_with fail
    go_meet
    case rel=>exact ⟨st6,S6,r6.count (by omega)⟩
   ·go_wp2_with fail
    go_meet
    case rel=>exact ⟨none,S6.bad,r6.over (by omega)⟩
  case rest=>
   obtain ⟨stq,HS,HR⟩:=hcut
   clear S6 r6
   go_upto_block 0 with fail
   go_cut [5] (fun _ wc=>∃ (is:List Int) (st':Option (List UInt8)) (v:Value),is.length≤255∧Hid (CSt w b s (arrC (.slice oo ps.length oc) f n u v (.slice none 0 0) (.slice none 0 0)) (.slice oo ps.length oc) v (.slice none 0 0) (.slice none 0 0) ps is [] [] [] st' wc)∧Hid (Rd (rList 3 rTwo) st5 is st'))
   case first=>
    go_wp2_with fail
    go_loopw [5] (fun i wr=>∃ (is:List Int) (st':Option (List UInt8)) (v:Value),i=.int .i64 is.length∧is.length≤qI∧Hid (CSt w b s (arrC (.slice oo ps.length oc) f n u v (.slice none 0 0) (.slice none 0 0)) (.slice oo ps.length oc) v (.slice none 0 0) (.slice none 0 0) ps is [] [] [] st' wr)∧Hid (Rd (rMany rTwo is.length) stq is st')) (fun i _=>qI - (intOf i).toNat)
    case atStart=>exact ⟨[],stq,.slice none 0 0,rfl,Nat.zero_le _,HS,Rd.pure⟩
    case round=>
     obtain ⟨is,st',v,rfl,hk,hS,hR⟩:=hrel
     obtain ⟨c2,f2⟩:=hS.out.bs.st.cells
     have mm:=hS.out.bs.m.c7
     have hsr:=hS.out.bs.st.size
     by_cases hlt:is.length<qI
     ·cases st' with
      | none=>
       simp only [Option.isNone_none] at c2
       go_wp2_with fail
       go_meet
       case rel=>exact ⟨is,none,v,by omega,hS,HR.out.list (hR.out.many_none (by omega))⟩
      | some rs=>
       simp only [Option.isNone_some] at c2
       obtain ⟨⟨_,_,_,_,mm4,mm5,mm6⟩,_⟩:=mm
       have hcs:=hS.out.keep (Below.refl _ _).drew
       have hrd:=hcs.bs.st.rd
       have hst:=hcs.bs.st
       have how:=hcs.i
       obtain ⟨ao,cap,hv⟩:=own_len how
       subst hv
       go_wp2_with fail
       go_region_law (first
        | (go_simp;go_at_call 157;refine (H2 _ _ (by assumption)).mono ?_;rintro e w9 ⟨a9,st9,rfl,ha9,h9,g9,r9⟩;have hcs9:=CSt.call (by assumption) h9 g9;have hsz9:=hcs9.bs.st.size;have how9:=hcs9.i;have hal9:∀ o,(w9.alloc o).cell? ⟨w.heap.size+1,4,none⟩=some (.slice ao is.length cap):=(fun o=>(hcs9.bs.m.alloc o).c 4 _ rfl);obtain ⟨⟨_,_,_,_,m49,m59,m69⟩,_,_,_,_,z49,z59,z69⟩:=hcs9.bs.m.c7;have hp9:=r9)
        | (refine step_append_lies _ rfl (.tmp 47) (.tmp 50) 23 rfl w.heap.size 3 i0 (.int .i64 0) 1 8 Tryz.underlying23 hi hz0 hz1 hz2 rfl (by decide) _ _ _ rfl (World.ownsRow.alloc (by assumption) _) _ 1 1 _ rfl (by rfl) (World.news_of_block (heap_alloc_new _ _)) (by intro u hu;simp at hu;rcases hu with rfl<;>rfl) (by omega) (by unfold maxLen;omega) (by omega) (by simp;omega) _ rfl ?_;intro g9 cap9 w8 hown9 hgrow9 hat9 hlt9;have hboth:=CSt.appI (by assumption) hgrow9 hown9;have hbs8:=hboth.1;obtain ⟨⟨_,_,_,_,m48,m58,m68⟩,_,_,_,_,z48,z58,z68⟩:=hbs8.m.c7))
       all_goals
        have S4:=hid hboth.2
        have R4:=hid (hR.out.step hp9)
        clear hboth hown9 hgrow9 hat9 hlt9 hbs8 m48 z48 m58 z58 m68 z68 hp9 hcs9 how9 hal9 hcs hrd hst how hS hR c2 f2 mm4 mm5 mm6 H1 H2 H5
        go_wp2_with fail
        go_roundw
        case rel=>exact ⟨_,_,_,by simp,by simp;omega,S4,by rw [List.length_append];exact R4⟩
        case measure=>simp [intOf];omega
     ·go_wp2_with fail
      go_meet
      case rel=>exact ⟨is,st',v,by omega,hS,HR.out.list (by rw [show qI=is.length by omega];exact hR.out)⟩
   case rest=>
    obtain ⟨is,st7,vi,his,HS7,R7⟩:=hcut
    clear HS HR
    go_wp2_with fail
    refine (H1 _ _ HS7.out.bs.st.rd).mono ?_
    rintro e w7 ⟨qF,st8,rfl,hqF,h7,g7,r7⟩
    have S7:=HS7.out.call h7 g7
    clear HS7 h7 g7
    go_upto_if 56 with fail
    go_cut [] (fun wc=>∃ st',Hid (CSt w b s (arrC (.slice oo ps.length oc) f n u vi (.slice none 0 0) (.slice none 0 0)) (.slice oo ps.length oc) vi (.slice none 0 0) (.slice none 0 0) ps is [] [] [] st' wc)∧Hid (Rd (rCount 5) st7 qF st'))
    case first=>
     obtain ⟨c2,f2⟩:=S7.bs.st.cells
     by_cases hq1:qF≤5
     ·go_wp2_with fail
      go_meet
      case rel=>exact ⟨st8,S7,r7.count (by omega)⟩
     ·go_wp2_with fail
      go_meet
      case rel=>exact ⟨none,S7.bad,r7.over (by omega)⟩
    case rest=>
     obtain ⟨stq,HS,HR⟩:=hcut
     clear S7 r7
     go_upto_block 2 with fail
     go_cut [6] (fun _ wc=>∃ (fs:List MField) (st':Option (List UInt8)) (v:Value),fs.length≤255∧Hid (CSt w b s (arrC (.slice oo ps.length oc) f n u vi v (.slice none 0 0)) (.slice oo ps.length oc) vi v (.slice none 0 0) ps is fs [] [] st' wc)∧Hid (Rd (rList 5 rField) st7 fs st'))
     case first=>
      go_wp2_with fail
      go_loopw [6] (fun i wr=>∃ (fs:List MField) (st':Option (List UInt8)) (v:Value),i=.int .i64 fs.length∧fs.length≤qF∧Hid (CSt w b s (arrC (.slice oo ps.length oc) f n u vi v (.slice none 0 0)) (.slice oo ps.length oc) vi v (.slice none 0 0) ps is fs [] [] st' wr)∧Hid (Rd (rMany rField fs.length) stq fs st')) (fun i _=>qF - (intOf i).toNat)
      case atStart=>exact ⟨[],stq,.slice none 0 0,rfl,Nat.zero_le _,HS,Rd.pure⟩
      case round=>
       obtain ⟨fs,st',v,rfl,hk,hS,hR⟩:=hrel
       obtain ⟨c2,f2⟩:=hS.out.bs.st.cells
       have mm:=hS.out.bs.m.c7
       have hsr:=hS.out.bs.st.size
       by_cases hlt:fs.length<qF
       ·cases st' with
        | none=>
         simp only [Option.isNone_none] at c2
         go_wp2_with fail
         go_meet
         case rel=>exact ⟨fs,none,v,by omega,hS,HR.out.list (hR.out.many_none (by omega))⟩
        | some rs=>
         simp only [Option.isNone_some] at c2
         obtain ⟨⟨_,_,_,_,mm4,mm5,mm6⟩,_⟩:=mm
         have hcs:=hS.out.keep (Below.refl _ _).drew
         have hrd:=hcs.bs.st.rd
         have hst:=hcs.bs.st
         have how:=hcs.f
         obtain ⟨ao,cap,hv⟩:=own_len how
         subst hv
         go_wp2_with fail
         go_region_law (first
          | (go_simp;go_at_call 156;refine (H1 _ _ (by assumption)).mono ?_;rintro e w9 ⟨a9,st9,rfl,ha9,h9,g9,r9⟩;have hcs9:=CSt.call (by assumption) h9 g9;have hsz9:=hcs9.bs.st.size;have how9:=hcs9.f;have hal9:∀ o,(w9.alloc o).cell? ⟨w.heap.size+1,5,none⟩=some (.slice ao fs.length cap):=(fun o=>(hcs9.bs.m.alloc o).c 5 _ rfl);obtain ⟨⟨_,_,_,_,m49,m59,m69⟩,_,_,_,_,z49,z59,z69⟩:=hcs9.bs.m.c7;have hp9:=Fd1.mk r9)
          | (go_simp;go_at_call 157;refine (H2 _ _ (by assumption)).mono ?_;rintro e w9 ⟨a9,st9,rfl,ha9,h9,g9,r9⟩;have hcs9:=CSt.call (by assumption) h9 g9;have hsz9:=hcs9.bs.st.size;have how9:=hcs9.f;have hal9:∀ o,(w9.alloc o).cell? ⟨w.heap.size+1,5,none⟩=some (.slice ao fs.length cap):=(fun o=>(hcs9.bs.m.alloc o).c 5 _ rfl);obtain ⟨⟨_,_,_,_,m49,m59,m69⟩,_,_,_,_,z49,z59,z69⟩:=hcs9.bs.m.c7;(first|(have hp9:=Fd1.next (by assumption) r9)|(have hp9:=Fd2.done (by assumption) r9)))
          | (refine step_append_lies _ rfl (.tmp 73) (.tmp 81) 33 rfl w.heap.size 79 j0 (.agg #[.int .i64 0,.int .i64 0,.int .i64 0]) 3 24 Tryz.underlying33 hj hy0 hy1 hy2 rfl (by decide) _ _ _ rfl (World.ownsRow.alloc (by assumption) _) _ 1 1 _ rfl (by rfl) (World.news_of_block (heap_alloc_new _ _)) (by intro u hu;simp at hu;rcases hu with rfl|rfl|rfl<;>rfl) (by omega) (by unfold maxLen;omega) (by omega) (by simp;omega) _ rfl ?_;intro g9 cap9 w8 hown9 hgrow9 hat9 hlt9;have hboth:=CSt.appF (by assumption) hgrow9 hown9;have hbs8:=hboth.1;obtain ⟨⟨_,_,_,_,m48,m58,m68⟩,_,_,_,_,z48,z58,z68⟩:=hbs8.m.c7))
         all_goals
          have S4:=hid hboth.2
          have R4:=hid (hR.out.step hp9)
          clear hboth hown9 hgrow9 hat9 hlt9 hbs8 m48 z48 m58 z58 m68 z68 hp9 hcs9 how9 hal9 hcs hrd hst how hS hR c2 f2 mm4 mm5 mm6 H1 H2 H5
          go_wp2_with fail
          go_roundw
          case rel=>exact ⟨_,_,_,by simp,by simp;omega,S4,by rw [List.length_append];exact R4⟩
          case measure=>simp [intOf];omega
       ·go_wp2_with fail
        go_meet
        case rel=>exact ⟨fs,st',v,by omega,hS,HR.out.list (by rw [show qF=fs.length by omega];exact hR.out)⟩
     case rest=>
      obtain ⟨fs,st9,vf,hfs,HS8,R8⟩:=hcut
      clear HS HR
      go_wp2_with fail
      refine (H1 _ _ HS8.out.bs.st.rd).mono ?_
      rintro e w8 ⟨qM,st10,rfl,hqM,h8,g8,r8⟩
      have S8:=HS8.out.call h8 g8
      clear HS8 h8 g8
      go_upto_if 87 with fail
      go_cut [] (fun wc=>∃ st',Hid (CSt w b s (arrC (.slice oo ps.length oc) f n u vi vf (.slice none 0 0)) (.slice oo ps.length oc) vi vf (.slice none 0 0) ps is fs [] [] st' wc)∧Hid (Rd (rCount 6) st9 qM st'))
      case first=>
       obtain ⟨c2,f2⟩:=S8.bs.st.cells
       by_cases hq1:qM≤6
       ·go_wp2_with fail
        go_meet
        case rel=>exact ⟨st10,S8,r8.count (by omega)⟩
       ·go_wp2_with fail
        go_meet
        case rel=>exact ⟨none,S8.bad,r8.over (by omega)⟩
      case rest=>
       obtain ⟨stq,HS,HR⟩:=hcut
       clear S8 r8
       go_upto_block 4 with fail
       go_cut [7] (fun _ wc=>∃ (ms:List MMethod) (xs:List SMethod) (st':Option (List UInt8)) (v:Value),ms.length≤255∧Hid (CSt w b s (arrC (.slice oo ps.length oc) f n u vi vf v) (.slice oo ps.length oc) vi vf v ps is fs ms xs st' wc)∧Hid (Rd (rList 6 rMethod) st9 ms st')∧Hid (∀ m∈ms,m.few))
       case first=>
        go_wp2_with fail
        go_loopw [7] (fun i wr=>∃ (ms:List MMethod) (xs:List SMethod) (st':Option (List UInt8)) (v:Value),i=.int .i64 ms.length∧ms.length≤qM∧Hid (CSt w b s (arrC (.slice oo ps.length oc) f n u vi vf v) (.slice oo ps.length oc) vi vf v ps is fs ms xs st' wr)∧Hid (Rd (rMany rMethod ms.length) stq ms st')∧Hid (∀ m∈ms,m.few)) (fun i _=>qM - (intOf i).toNat)
        case atStart=>exact ⟨[],[],stq,.slice none 0 0,rfl,Nat.zero_le _,HS,Rd.pure,hid (by simp)⟩
        case round=>
         obtain ⟨ms,xs,st',v,rfl,hk,hS,hR,hE⟩:=hrel
         obtain ⟨c2,f2⟩:=hS.out.bs.st.cells
         have mm:=hS.out.bs.m.c7
         have hsr:=hS.out.bs.st.size
         by_cases hlt:ms.length<qM
         ·cases st' with
          | none=>
           simp only [Option.isNone_none] at c2
           go_wp2_with fail
           go_meet
           case rel=>exact ⟨ms,xs,none,v,by omega,hS,HR.out.list (hR.out.many_none (by omega)),hE⟩
          | some rs=>
           simp only [Option.isNone_some] at c2
           obtain ⟨⟨_,_,_,_,mm4,mm5,mm6⟩,_⟩:=mm
           have hcs:=hS.out.keep (Below.refl _ _).drew
           have hrd:=hcs.bs.st.rd
           have hst:=hcs.bs.st
           have how:=hcs.m.row
           obtain ⟨ao,cap,hv⟩:=own_len how
           subst hv
           go_wp2_with fail
           go_region_law (first
            | (go_simp;go_at_call 158;refine (H5 _ _ (by assumption)).mono ?_;rintro e w9 ⟨m9,vt9,ve9,st9,rfl,hm9,hf9,h9,g9,r9⟩;have hm9:=hm9.mono (show w.heap.size≤_ from St.size (by assumption));obtain ⟨o9,c9,hv9⟩:=own_len hm9.t;obtain ⟨o8,c8,hv8⟩:=hm9.f.len;subst hv9 hv8;have hcs9:=CSt.call (by assumption) h9 g9;have hsz9:=hcs9.bs.st.size;have how9:=hcs9.m.row;have hal9:∀ o,(w9.alloc o).cell? ⟨w.heap.size+1,6,none⟩=some (.slice ao ms.length cap):=(fun o=>(hcs9.bs.m.alloc o).c 6 _ rfl);obtain ⟨⟨_,_,_,_,m49,m59,m69⟩,_,_,_,_,z49,z59,z69⟩:=hcs9.bs.m.c7;have hp9:=r9)
            | (refine step_append_lies _ rfl (.tmp 104) (.tmp 107) 34 rfl w.heap.size 75 k0 (.agg #[.int .i64 0,.int .i64 0,.int .i64 0,.int .i64 0,.int .i64 0,.string ⟨#[]⟩,.slice none 0 0,.slice none 0 0]) 8 104 Tryz.underlying34 hk0 hx0 hx1 hx2 rfl (by decide) _ _ _ rfl (World.ownsRow.alloc (by assumption) _) _ 1 1 _ rfl (by rfl) (World.news_of_block (heap_alloc_new _ _)) (by intro u hu;simp at hu;rcases hu with rfl|rfl|rfl|rfl|rfl|rfl|rfl|rfl<;>rfl) (by omega) (by unfold maxLen;omega) (by omega) (by simp;omega) _ rfl ?_;intro g9 cap9 w8 hown9 hgrow9 hat9 hlt9;have hboth:=CSt.appM (by assumption) hm9 hgrow9 hown9;have hbs8:=hboth.1;obtain ⟨⟨_,_,_,_,m48,m58,m68⟩,_,_,_,_,z48,z58,z68⟩:=hbs8.m.c7))
           all_goals
            have S4:=hid hboth.2
            have R4:=hid (hR.out.step hp9)
            have W4:=hid hf9
            clear hboth hown9 hgrow9 hat9 hlt9 hbs8 m48 z48 m58 z58 m68 z68 hp9 hcs9 how9 hal9 hcs hrd hst how hS hR c2 f2 mm4 mm5 mm6 H1 H2 H5
            go_wp2_with fail
            go_roundw
            case rel=>exact ⟨_,_,_,_,by simp,by simp;omega,S4,by rw [List.length_append];exact R4,hid (fun m hm=>by
             rcases List.mem_append.1 hm with hm|hm
             ·exact hE.out m hm
             ·simp at hm;subst hm;exact W4.out)⟩
            case measure=>simp [intOf];omega
         ·go_wp2_with fail
          go_meet
          case rel=>exact ⟨ms,xs,st',v,by omega,hS,HR.out.list (by rw [show qM=ms.length by omega];exact hR.out),hE⟩
       case rest=>
        obtain ⟨ms,xs,st11,vm,hms,HS9,R9,E9⟩:=hcut
        clear HS HR H1 H2 H5
        obtain ⟨⟨p0,p1,p2,p3,p4,p5,p6⟩,y0,y1,y2,y3,y4,y5,y6⟩:=HS9.out.bs.r.c7
        obtain ⟨⟨t0,t1,t2,t3,t4,t5,t6⟩,_⟩:=HS9.out.bs.m.c7
        obtain ⟨a1,k1,hv1⟩:=own_len HS9.out.i
        obtain ⟨a2,k2,hv2⟩:=own_len HS9.out.f
        obtain ⟨a3,k3,hv3⟩:=own_len HS9.out.m.row
        subst hv1 hv2 hv3
        have HRc:=hid (show Rd rClass st ⟨ps,f,n,u,is,fs,ms⟩ st11 from by
         refine R1.out.bind ?_
         refine R2.out.bind ?_
         refine R3.out.bind ?_
         refine R4.out.bind ?_
         refine R5.out.bind ?_
         refine R7.out.bind ?_
         refine R8.out.bind ?_
         refine R9.out.bind ?_
         exact Rd.pure)
        have HF:=hid HS9.out.ce
        clear HS9 R1 R2 R3 R4 R5 R7 R8 R9
        go_wp2_with fail
        refine bodyPost_ret (v:=.agg #[.slice oo ps.length oc,.int .i64 f,.int .i64 n,.int .i64 u,.slice a1 is.length k1,.slice a2 fs.length k2,.slice a3 ms.length k3]) (by simp [results,Tryz.results112,go_sem,p0,p1,p2,p3,p4,p5,p6]) rfl ?_
        refine ⟨⟨ps,f,n,u,is,fs,ms⟩,_,_,_,_,st11,rfl,CE.fin ?_ HRc.out ?_⟩
        ·repeat' (first|refine CE.set ?_ _ _|exact HF.out)
        ·exact ⟨by have:=HPs.out.1;simp;omega,fun t ht=>by have:=HPs.out.2 t ht;omega,by simp;omega,by simp;omega,by simp;omega,E9.out⟩
end Go.Proofs.YtecbcdfkedocbaaGreatDoor
