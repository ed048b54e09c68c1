/- Gathered: RfClass RfGet MkClass. -/
import Derived.Test.YtecbcdfkedocbaaGreatDoorC4
import Derived.Test.YtecbcdfkedocbaaGreatDoorH09
import Derived.Defers
import Derived.Recover
import Derived.Test.YtecbcdfkedocbaaGreatDoorM5
namespace Go.Proofs.YtecbcdfkedocbaaGreatDoor
open Go.RowKit Fm
set_option maxHeartbeats 8000000
set_option maxRecDepth 20000
set_option linter.unusedVariables false
set_option maxHeartbeats 4000000
theorem Kp.below {W W':World} {B:Nat} (e0:TypeId) (h:Below W.heap.size W W'):Kp W W' B e0:=fun e z v n xs _ ho=>own_below ho h
theorem ClA.below {W W':World} {B:Nat} {vp vi vf vm:Value} {c:MClass} {xs:List SMethod} {ys:List (List SFrame)} (h:ClA W B vp vi vf vm c xs ys) (hb:Below W.heap.size W W'):ClA W' B vp vi vf vm c xs ys:=h.kp (Kp.below 0 hb) (by decide) (by decide) (by decide) (by decide) (by decide) (by decide) (by decide)
theorem MA.mono {W:World} {B B':Nat} {v:Value} {ms:List MMethod} {xs:List SMethod} {ys:List (List SFrame)} (h:MA W B v ms xs ys) (hb:B'≤B):MA W B' v ms xs ys:=
 ⟨h.len,h.len2,Joins.ownsRow_le h.row hb,h.sh,fun k a b=>Joins.ownsRow_le (h.tr k a b) hb,fun k a b c=>(h.fx k a b c).mono hb,h.at_,h.af,h.ak⟩
theorem ClA.mono {W:World} {B B':Nat} {vp vi vf vm:Value} {c:MClass} {xs:List SMethod} {ys:List (List SFrame)} (h:ClA W B vp vi vf vm c xs ys) (hb:B'≤B):ClA W B' vp vi vf vm c xs ys:=⟨Joins.ownsRow_le h.p hb,Joins.ownsRow_le h.i hb,Joins.ownsRow_le h.f hb,h.m.mono hb⟩
structure RGet (w:World) (K:Nat) (vp vi vf vm:Value) (c:MClass) (xs:List SMethod) (ys:List (List SFrame)) (W:World):Prop where
 r:∃ zs,Lk W w.heap.size zs 36
 c:ClA W (w.heap.size+3) vp vi vf vm c xs ys
 k:∃ zs,Lk W K zs 4
 old:Below w.heap.size w W
def GetA (s:ByteArray) (w:World) (e:Ending) (w':World):Prop:=
 (getC s=none∧e=.returned (.tuple #[.agg zC,.bool false])∧Below w.heap.size w w') ∨
 ∃ c vp vi vf vm xs ys,getC s=some c∧e=.returned (.tuple #[.agg #[vp,.int .i64 c.flags,.int .i64 c.name,.int .i64 c.super,vi,vf,vm],.bool true])∧ClA w' w.heap.size vp vi vf vm c xs ys∧Below w.heap.size w w'
structure FGet (w:World) (vp vi vf vm:Value) (c:MClass) (xs:List SMethod) (ys:List (List SFrame)) (W:World):Prop where
 r:∃ zs,Lk W w.heap.size zs 36
 c:ClA W w.heap.size vp vi vf vm c xs ys
 old:Below w.heap.size w W
theorem FGet.set {w:World} {vp vi vf vm:Value} {c:MClass} {xs:List SMethod} {ys:List (List SFrame)} {W:World} (h:FGet w vp vi vf vm c xs ys W) (j:Nat) (u:Value):FGet w vp vi vf vm c xs ys (W.setCell ⟨w.heap.size,j,none⟩ u):=by
 obtain ⟨zs,hz⟩:=h.r
 exact ⟨⟨_,hz.set j u rfl⟩,h.c.kp (Kp.set hz j u) (by decide) (by decide) (by decide) (by decide) (by decide) (by decide) (by decide),h.old.setCell (p:=⟨w.heap.size,j,none⟩) (Nat.le_refl _) _⟩
theorem FGet.fin {s:ByteArray} {w:World} {vp vi vf vm:Value} {c:MClass} {xs:List SMethod} {ys:List (List SFrame)} {W:World} (hy:getC s=some c) (h:FGet w vp vi vf vm c xs ys W):GetA s w (.returned (.tuple #[.agg #[vp,.int .i64 c.flags,.int .i64 c.name,.int .i64 c.super,vi,vf,vm],.bool true])) W:=.inr ⟨c,vp,vi,vf,vm,xs,ys,hy,rfl,h.c,h.old⟩
structure shortC (c:MClass):Prop where
 p:c.pool.length≤60
 i:c.faces.length≤3
 f:c.fields.length≤5
 m:c.methods.length≤6
 each:∀ m∈c.methods,shortM m
def kI (c:MClass):Nat:=1+c.pool.length*4
def kD (c:MClass):Nat:=kI c+c.faces.length*1
def kE (c:MClass):Nat:=kD c+c.fields.length*3
def kAll (c:MClass):Nat:=kM (kE c) c.methods c.methods.length
theorem kE_le {c:MClass} (h:shortC c):kI c≤300∧kD c≤310∧kE c≤330:=by
 have h1:=h.p
 have h2:=h.i
 have h3:=h.f
 unfold kE kD kI
 omega
theorem kAll_le {c:MClass} (h:shortC c):kAll c≤3000:=by
 have:=kM_le (kE c) c.methods h.each c.methods.length (Nat.le_refl _)
 have h1:=(kE_le h).2.2
 have h2:=h.m
 unfold kAll
 omega
structure CKm (W:World) (B:Nat) (vp vi vf vm:Value) (c:MClass) (us:List SMethod) (ys:List (List SFrame)):Prop where
 p:W.ownsRow B 40 4 vp c.pool.length (mrow (mkC 1) (c.pool.length*4))
 i:W.ownsRow B 3 1 vi c.faces.length (cnt (kI c) (c.faces.length*1))
 f:W.ownsRow B 79 3 vf c.fields.length (cnt (kD c) (c.fields.length*3))
 m:MK W B vm c.methods us ys (kE c) c.methods.length
theorem MK.below {W W':World} {B:Nat} {v:Value} {ms:List MMethod} {us:List SMethod} {ys:List (List SFrame)} {k i:Nat} (h:MK W B v ms us ys k i) (hb:Below W.heap.size W W'):MK W' B v ms us ys k i:=
 ⟨h.len,h.len2,own_below h.row hb,h.hd,fun j a b=>by
  obtain ⟨xs,q1,q2⟩:=h.tr j a b
  exact ⟨xs,own_below q1 hb,q2⟩,fun j a b d=>by
  obtain ⟨p,q1,q2,q3⟩:=h.fm j a b d
  exact ⟨p,q1.mod (S:=[]) (Mod.below hb) (by simp) (by simp),q2,q3⟩,h.at_,h.af,h.ak⟩
theorem CKm.below {W W':World} {B:Nat} {vp vi vf vm:Value} {c:MClass} {us:List SMethod} {ys:List (List SFrame)} (h:CKm W B vp vi vf vm c us ys) (hb:Below W.heap.size W W'):CKm W' B vp vi vf vm c us ys:=⟨own_below h.p hb,own_below h.i hb,own_below h.f hb,h.m.below hb⟩
theorem Kp.mod {W W':World} {B B':Nat} {u:Value} {e:TypeId} {z n:Nat} {xs:List Value} (hm:Mod [u] W W') (hu:W.ownsRow B' e z u n xs):Kp W W' B e:=fun e' z' v n' xs' hne ho=>hm.other ho hu hne
theorem MK.rows {W:World} {B:Nat} {v:Value} {ms:List MMethod} {us:List SMethod} {ys:List (List SFrame)} {k i:Nat} (h:MK W B v ms us ys k i):∀ u∈mods v us ys,∃ e z n xs,W.ownsRow B e z u n xs∧(e=75∨e=140∨e=114∨e=144):=by
 intro u hu
 have hl:=h.len
 have hl2:=h.len2
 rcases List.mem_cons.1 hu with rfl|hu
 ·exact ⟨_,_,_,_,h.row,.inl rfl⟩
 ·rcases List.mem_append.1 hu with hu|hu
  ·obtain ⟨x,hx,rfl⟩:=List.mem_map.1 hu
   obtain ⟨j,hj,rfl⟩:=List.getElem_of_mem hx
   obtain ⟨xs,q,_⟩:=h.tr j hj (by omega)
   exact ⟨_,_,_,_,q,.inr (.inl rfl)⟩
  ·rcases List.mem_append.1 hu with hu|hu
   ·obtain ⟨x,hx,rfl⟩:=List.mem_map.1 hu
    obtain ⟨j,hj,rfl⟩:=List.getElem_of_mem hx
    obtain ⟨p,q,_⟩:=h.fm j hj (by omega) (by omega)
    exact ⟨_,_,_,_,q.row,.inr (.inr (.inl rfl))⟩
   ·obtain ⟨y,hy,hm⟩:=List.mem_flatMap.1 hu
    obtain ⟨j,hj,rfl⟩:=List.getElem_of_mem hy
    obtain ⟨p,q,_⟩:=h.fm j (by omega) (by omega) hj
    obtain ⟨n',xs',ho⟩:=q.kind u hm
    exact ⟨_,_,_,_,ho,.inr (.inr (.inr rfl))⟩
theorem Mod.keepM {W W':World} {B B':Nat} {v x:Value} {ms:List MMethod} {us:List SMethod} {ys:List (List SFrame)} {k i:Nat} {e:TypeId} {z n:Nat} {xs:List Value} (hm:Mod (mods v us ys) W W') (h:MK W B v ms us ys k i) (ho:W.ownsRow B' e z x n xs) (h1:e≠75) (h2:e≠140) (h3:e≠114) (h4:e≠144):W'.ownsRow B' e z x n xs:=hm.own ho (fun u hu q hq=>by
 obtain ⟨e',z',n',xs',hu',he⟩:=h.rows u hu
 refine own_types ho hu' ?_ q hq
 rcases he with rfl|rfl|rfl|rfl<;>assumption)
theorem Mod.old {S:List Value} {B:Nat} {w w':World} (h:Mod S w w') (hS:Over B S) (hB:B≤w.heap.size):Below B w w':=⟨h.os,h.tape,h.output,h.size,fun k hk=>h.block k (by omega) (fun u hu e=>by have:=hS u hu k e;omega)⟩
theorem MK.over {W:World} {B:Nat} {v:Value} {ms:List MMethod} {us:List SMethod} {ys:List (List SFrame)} {k i:Nat} (h:MK W B v ms us ys k i):Over B (mods v us ys):=fun u hu i hi=>by
 obtain ⟨e',z',n',xs',hu',_⟩:=h.rows u hu
 exact (hu'.lt i hi).1
theorem Lk.mod {S:List Value} {W W':World} {C:Nat} {cs:Array Value} {T:TypeId} (h:Lk W C cs T) (hm:Mod S W W') (hS:Under C S):Lk W' C cs T:=by
 unfold Lk at *
 rw [hm.block C (Array.getElem?_eq_some_iff.1 h).1 (fun u hu e=>by have:=hS u hu C e;omega)]
 exact h
theorem markClass_any (c:MClass) (vp vi vf vm:Value) (us:List SMethod) (ys:List (List SFrame)) (B:Nat) (w:World) (hs:shortC c) (hB:B≤w.heap.size) (h:ClA w B vp vi vf vm c us ys) :
  Calls Tryz.prog 11 #[.agg #[vp,.int .i64 c.flags,.int .i64 c.name,.int .i64 c.super,vi,vf,vm],.int .i64 1] w fun e w'=>e=.returned (.int .i64 (kAll c:Nat))∧(∃ us' ys',CKm w' B vp vi vf vm c us' ys')∧Below B w w'∧Mod (vp :: vi :: vf :: mods vm us ys) w w':=by
 obtain ⟨b1,b2,b3⟩:=kE_le hs
 have hsp:=hs.p
 have hsi:=hs.i
 have hsf:=hs.f
 have hsm:=hs.m
 obtain ⟨o1,k1,hv1⟩:=own_len h.p
 obtain ⟨o2,k2,hv2⟩:=own_len h.i
 obtain ⟨o3,k3,hv3⟩:=own_len h.f
 obtain ⟨o4,k4,hv4⟩:=own_len h.m.row
 subst hv1 hv2 hv3 hv4
 have hb0:Below w.heap.size w (w.alloc (.cells (arrC (.slice o1 c.pool.length k1) c.flags c.name c.super (.slice o2 c.faces.length k2) (.slice o3 c.fields.length k3) (.slice o4 c.methods.length k4)) 36)):=(Below.refl _ _).alloc (Nat.le_refl _) _
 have A0:=h.below hb0
 have L0:=Lk.new w (arrC (.slice o1 c.pool.length k1) c.flags c.name c.super (.slice o2 c.faces.length k2) (.slice o3 c.fields.length k3) (.slice o4 c.methods.length k4)) 36
 have U1:=under_row h.p
 have U2:=under_row h.i
 have U3:=under_row h.f
 have U4:=hid (show Under w.heap.size (mods (.slice o4 c.methods.length k4) us ys) from fun u hu i hi=>by
  obtain ⟨e',z',n',xs',hu',_⟩:=(h.m.mk0 0).rows u hu
  exact (hu'.lt i hi).2)
 clear h
 have hC:=markConstS_any (.slice o1 c.pool.length k1) 1 c.pool.length B _ _ (by omega) (by omega) (by omega) A0.p
 go_enter Tryz.func11,Tryz.ntmps11
 go_wp2_with fail
 refine hC.mono ?_
 rintro e w1 ⟨rfl,p1,g1⟩
 have m1:Mod [.slice o1 c.pool.length k1] _ w1:=Mod.grown g1 (by simp)
 have L1:=L0.mod m1 U1
 have i1:=m1.other A0.i A0.p (by decide)
 have f1:=m1.other A0.f A0.p (by decide)
 have M1:=A0.m.kp (Kp.mod m1 A0.p) (by decide) (by decide) (by decide) (by decide)
 have D1:Below B w w1:=(hb0.mono hB).trans (m1.old (over_row A0.p) (by simp;omega))
 have N1:=hid (show Mod (.slice o1 c.pool.length k1 :: .slice o2 c.faces.length k2 :: .slice o3 c.fields.length k3 :: mods (.slice o4 c.methods.length k4) us ys) w w1 from (Mod.below hb0).trans (m1.mono (fun u hu=>by simp at hu;subst hu;simp)))
 have hI:=markIntS_any (.slice o2 c.faces.length k2) (kI c) c.faces.length B _ w1 (by omega) (by omega) i1
 obtain ⟨q1,e1⟩:∃ q:Nat,Hid (kI c=q):=⟨_,hid rfl⟩
 rw [show (1+c.pool.length*4:Nat)=q1 from e1.out]
 rw [e1.out] at hI
 obtain ⟨⟨_,_,_,_,t4,_,_⟩,_⟩:=L1.c7
 clear hC g1 L0 A0
 go_wp2_with fail
 refine hI.mono ?_
 rintro e w2 ⟨rfl,i2,g2⟩
 have m2:Mod [.slice o2 c.faces.length k2] w1 w2:=Mod.grown g2 (by simp)
 have L2:=L1.mod m2 U2
 have p2:=m2.other p1 i1 (by decide)
 have f2:=m2.other f1 i1 (by decide)
 have M2:=M1.kp (Kp.mod m2 i1) (by decide) (by decide) (by decide) (by decide)
 have D2:Below B w w2:=D1.trans (m2.old (over_row i1) (by have:=D1.size;omega))
 have N2:=hid (N1.out.trans (m2.mono (fun u hu=>by simp at hu;subst hu;simp)))
 have hD:=markFieldS_any (.slice o3 c.fields.length k3) (kD c) c.fields.length B _ w2 (by omega) (by omega) f2
 obtain ⟨q2,e2⟩:∃ q:Nat,Hid (kD c=q):=⟨_,hid rfl⟩
 rw [show (q1+c.faces.length*1:Nat)=q2 from by rw [← e1.out];exact e2.out]
 rw [e2.out] at hD
 rw [← e1.out] at i2
 clear t4
 obtain ⟨⟨_,_,_,_,_,t5,_⟩,_⟩:=L2.c7
 clear hI g2 L1 i1 p1 f1 M1 m1 D1
 go_wp2_with fail
 refine hD.mono ?_
 rintro e w3 ⟨rfl,f3,g3⟩
 have m3:Mod [.slice o3 c.fields.length k3] w2 w3:=Mod.grown g3 (by simp)
 have L3:=L2.mod m3 U3
 have p3:=m3.other p2 f2 (by decide)
 have i3:=m3.other i2 f2 (by decide)
 have M3:=(M2.kp (Kp.mod m3 f2) (by decide) (by decide) (by decide) (by decide)).mk0 (kE c)
 have D3:Below B w w3:=D2.trans (m3.old (over_row f2) (by have:=D2.size;omega))
 have N3:=hid (N2.out.trans (m3.mono (fun u hu=>by simp at hu;subst hu;simp)))
 have hMm:=markMethodS_any (.slice o4 c.methods.length k4) (kE c) B c.methods us ys w3 hsm hs.each (by unfold kE kD kI;omega) (by omega) M3
 obtain ⟨q3,e3⟩:∃ q:Nat,Hid (kE c=q):=⟨_,hid rfl⟩
 rw [show (q2+c.fields.length*3:Nat)=q3 from by rw [← e2.out];exact e3.out]
 rw [e3.out] at hMm
 rw [← e2.out] at f3
 clear t5
 obtain ⟨⟨_,_,_,_,_,_,t6⟩,_⟩:=L3.c7
 clear hD g3 L2 i2 p2 f2 M2 m2 D2
 go_wp2_with fail
 refine hMm.mono ?_
 rintro e w4 ⟨rfl,us',ys',M4,m4⟩
 have HF:=hid (show (∃ us' ys',CKm w4 B (.slice o1 c.pool.length k1) (.slice o2 c.faces.length k2) (.slice o3 c.fields.length k3) (.slice o4 c.methods.length k4) c us' ys')∧Below B w w4∧Mod (.slice o1 c.pool.length k1 :: .slice o2 c.faces.length k2 :: .slice o3 c.fields.length k3 :: mods (.slice o4 c.methods.length k4) us ys) w w4 from
  ⟨⟨us',ys',m4.keepM M3 p3 (by decide) (by decide) (by decide) (by decide),m4.keepM M3 i3 (by decide) (by decide) (by decide) (by decide),m4.keepM M3 f3 (by decide) (by decide) (by decide) (by decide),by rw [e3.out];exact M4⟩,D3.trans (m4.old M3.over (by have:=D3.size;omega)),N3.out.trans (m4.mono (fun u hu=>List.mem_cons_of_mem _ (List.mem_cons_of_mem _ (List.mem_cons_of_mem _ hu))))⟩)
 clear hMm M3 M4 m4 p3 i3 f3 D3 L3 t6 m3
 have HK:=hid (show kM q3 c.methods c.methods.length=kAll c from by unfold kAll;rw [e3.out])
 go_wp2
 go_ret
 exact ⟨ret_i64 (by rw [HK.out]),HF.out⟩
theorem heldClass_any (c:MClass) (vp vi vf vm:Value) (us:List SMethod) (ys:List (List SFrame)) (B:Nat) (w:World) (hs:shortC c) (h:CKm w B vp vi vf vm c us ys) :
  Calls Tryz.prog 12 #[.agg #[vp,.int .i64 c.flags,.int .i64 c.name,.int .i64 c.super,vi,vf,vm],.int .i64 1] w fun e w'=>e=.returned (.int .i64 (kAll c:Nat))∧Below w.heap.size w w':=by
 obtain ⟨b1,b2,b3⟩:=kE_le hs
 have hsp:=hs.p
 have hsi:=hs.i
 have hsf:=hs.f
 have hsm:=hs.m
 obtain ⟨o1,k1,hv1⟩:=own_len h.p
 obtain ⟨o2,k2,hv2⟩:=own_len h.i
 obtain ⟨o3,k3,hv3⟩:=own_len h.f
 obtain ⟨o4,k4,hv4⟩:=own_len h.m.row
 subst hv1 hv2 hv3 hv4
 have hb0:Below w.heap.size w (w.alloc (.cells (arrC (.slice o1 c.pool.length k1) c.flags c.name c.super (.slice o2 c.faces.length k2) (.slice o3 c.fields.length k3) (.slice o4 c.methods.length k4)) 36)):=(Below.refl _ _).alloc (Nat.le_refl _) _
 have L0:=Lk.new w (arrC (.slice o1 c.pool.length k1) c.flags c.name c.super (.slice o2 c.faces.length k2) (.slice o3 c.fields.length k3) (.slice o4 c.methods.length k4)) 36
 have A0:=hid (show ∀ W,Below w.heap.size w W→CKm W B (.slice o1 c.pool.length k1) (.slice o2 c.faces.length k2) (.slice o3 c.fields.length k3) (.slice o4 c.methods.length k4) c us ys from fun W hW=>h.below hW)
 clear h
 obtain ⟨q1,e1⟩:∃ q:Nat,Hid (kI c=q):=⟨_,hid rfl⟩
 obtain ⟨q2,e2⟩:∃ q:Nat,Hid (kD c=q):=⟨_,hid rfl⟩
 obtain ⟨q3,e3⟩:∃ q:Nat,Hid (kE c=q):=⟨_,hid rfl⟩
 obtain ⟨q4,e4⟩:∃ q:Nat,Hid (kAll c=q):=⟨_,hid rfl⟩
 have HC:=hid (show ∀ W,Below w.heap.size w W→Calls Tryz.prog 38 #[.slice o1 c.pool.length k1,.int .i64 1] W fun e w'=>e=.returned (.int .i64 (q1:Nat))∧Below W.heap.size W w' from fun W hW=>by
  have:=heldConstS_any _ 1 _ B W (by omega) (by omega) (by omega) (A0.out W hW).p
  rwa [show (1+c.pool.length*4:Nat)=q1 from e1.out] at this)
 have HI:=hid (show ∀ W,Below w.heap.size w W→Calls Tryz.prog 39 #[.slice o2 c.faces.length k2,.int .i64 (q1:Nat)] W fun e w'=>e=.returned (.int .i64 (q2:Nat))∧Below W.heap.size W w' from fun W hW=>by
  have:=heldIntS_any _ (kI c) _ B W (by omega) (by omega) (A0.out W hW).i
  rwa [show (kI c+c.faces.length*1:Nat)=q2 from e2.out,e1.out] at this)
 have HD:=hid (show ∀ W,Below w.heap.size w W→Calls Tryz.prog 40 #[.slice o3 c.fields.length k3,.int .i64 (q2:Nat)] W fun e w'=>e=.returned (.int .i64 (q3:Nat))∧Below W.heap.size W w' from fun W hW=>by
  have:=heldFieldS_any _ (kD c) _ B W (by omega) (by omega) (A0.out W hW).f
  rwa [show (kD c+c.fields.length*3:Nat)=q3 from e3.out,e2.out] at this)
 have HMm:=hid (show ∀ W,Below w.heap.size w W→Calls Tryz.prog 41 #[.slice o4 c.methods.length k4,.int .i64 (q3:Nat)] W fun e w'=>e=.returned (.int .i64 (q4:Nat))∧Below W.heap.size W w' from fun W hW=>by
  have:=heldMethodS_any _ (kE c) B c.methods us ys W hsm hs.each (by unfold kE kD kI;omega) (by omega) (A0.out W hW).m
  rwa [show kM (kE c) c.methods c.methods.length=q4 from e4.out,e3.out] at this)
 rw [e4.out]
 clear A0 e1 e2 e3 e4
 go_enter Tryz.func12,Tryz.ntmps12
 go_wp2_with fail
 refine (HC.out _ hb0).mono ?_
 rintro e w1 ⟨rfl,d1⟩
 have B1:=hid (hb0.trans (d1.mono (by simp)))
 have L1:=L0.keep d1
 obtain ⟨⟨t0,t1,t2,t3,t4,t5,t6⟩,_⟩:=L1.c7
 clear d1 hb0 L0
 go_wp2_with fail
 refine (HI.out _ B1.out).mono ?_
 rintro e w2 ⟨rfl,d2⟩
 have B2:=hid (B1.out.trans (d2.mono B1.out.size))
 have L2:=L1.keep d2
 clear t0 t1 t2 t3 t4 t5 t6 d2 B1 L1
 obtain ⟨⟨t0,t1,t2,t3,t4,t5,t6⟩,_⟩:=L2.c7
 go_wp2_with fail
 refine (HD.out _ B2.out).mono ?_
 rintro e w3 ⟨rfl,d3⟩
 have B3:=hid (B2.out.trans (d3.mono B2.out.size))
 have L3:=L2.keep d3
 clear t0 t1 t2 t3 t4 t5 t6 d3 B2 L2
 obtain ⟨⟨t0,t1,t2,t3,t4,t5,t6⟩,_⟩:=L3.c7
 go_wp2_with fail
 refine (HMm.out _ B3.out).mono ?_
 rintro e w4 ⟨rfl,d4⟩
 have B4:=hid (B3.out.trans (d4.mono B3.out.size))
 clear t0 t1 t2 t3 t4 t5 t6 d4 B3 L3
 go_wp2
 go_ret
 exact ⟨rfl,B4.out⟩
end Go.Proofs.YtecbcdfkedocbaaGreatDoor
