/- Gathered: RdKinds RdPool RdBody. -/
import Derived.Test.YtecbcdfkedocbaaGreatDoorH01
import Derived.Deep.AppendLies
import Derived.Deep.RegionLaw
import Derived.Deep.CutBlock
import Derived.Deep.DeepCutAuto
namespace Go.Proofs.YtecbcdfkedocbaaGreatDoor
open Go.RowKit Fm
set_option maxHeartbeats 1000000
set_option maxRecDepth 20000
set_option linter.unusedVariables false
theorem Lk.c2 {W:World} {C:Nat} {a b:Value} {T:TypeId} (h:Lk W C #[a,b] T):W.cell? ⟨C,0,none⟩=some a∧W.cell? ⟨C,1,none⟩=some b∧W.frozen? ⟨C,0,none⟩=false∧W.frozen? ⟨C,1,none⟩=false:=
 ⟨h.c 0 _ rfl,h.c 1 _ rfl,h.z 0,h.z 1⟩
theorem St.cells {w:World} {b:Nat} {s:ByteArray} {st:Option (List UInt8)} {W:World} (h:St w b s st W):W.cell? ⟨b,2,none⟩=some (.bool st.isNone)∧W.frozen? ⟨b,2,none⟩=false:=by
 obtain ⟨a,ha,hr,c0,c1,c2,fz,_,_⟩:=h.rd.cells
 exact ⟨c2,fz 2⟩
theorem rowKind_snoc (ts:List MKind) (t:MKind):rowKind (ts++[t])=rowKind ts++cellsKind t:=by simp [rowKind]
theorem ownsRow_set_ne {w:World} {base:Nat} {e:TypeId} {size n:Nat} {v:Value} {xs:List Value} (h:w.ownsRow base e size v n xs) {a:Addr} (u:Value) (hne:v.ownBlock≠some a.block):(w.setCell a u).ownsRow base e size v n xs:=
 h.kept (row:=some a.block) ⟨rfl,rfl,rfl,by simp [World.setCell],fun k _ hk=>Below.heap_setCell _ _ _ _ (by intro e;exact hk (by rw [e]))⟩ (.inr hne)
theorem Rd.count {st st1:Option (List UInt8)} {n:Nat} {most:Int} (h:Rd rOne st (n:Int) st1) (hn:(n:Int)≤most):Rd (rCount most) st (n:Int) st1:=by
 refine h.bind ?_
 rw [if_pos hn]
 exact Rd.pure
theorem Rd.over {st st1:Option (List UInt8)} {n:Nat} {most:Int} (h:Rd rOne st (n:Int) st1) (hn:¬(n:Int)≤most):Rd (rCount most) st (n:Int) none:=by
 refine h.bind ?_
 rw [if_neg hn]
 exact Rd.fail
theorem Rd.list {α:Type} {p:Ps α} {most:Int} {n:Nat} {st st1 st2:Option (List UInt8)} {ts:List α} (h:Rd (rCount most) st (n:Int) st1) (k:Rd (rMany p n) st1 ts st2):Rd (rList most p) st ts st2:=by
 unfold rList
 refine h.bind ?_
 simpa using k
theorem Rd.step {α:Type} {p:Ps α} {k:Nat} {st1 st2 st3:Option (List UInt8)} {ts:List α} {x:α} (h:Rd (rMany p k) st1 ts st2) (g:Rd p st2 x st3):Rd (rMany p (k+1)) st1 (ts++[x]) st3:=by
 show Rd (pbind (rMany p k) fun xs=>pbind p fun x=>ppure (xs++[x])) st1 (ts++[x]) st3
 refine h.bind ?_
 refine g.bind ?_
 exact Rd.pure
theorem l1kinds_any (b:Nat) (s:ByteArray) (st:Option (List UInt8)) (w:World) (hs:s.size≤1000000000) (h:RdAt w b s st) :
  Calls Tryz.prog 233 #[.pointer (some ⟨b,0,none⟩)] w fun e w'=>∃ (v:Value) (ts:List MKind) (st':Option (List UInt8)),e=.returned v∧w'.ownsRow w.heap.size 144 2 v ts.length (rowKind ts)∧ts.length≤8∧RdAt w' b s st'∧w.grownBy w' (some b)∧Rd rKinds st ts st':=by
 have H1:=fun st w h=>l1one_any b s st w hs h
 have H2:=fun st w h=>l1two_any b s st w hs h
 have S0:=St.start h
 have HB:=h.lt
 obtain ⟨i0,hi,hz0,hz1,hz2⟩:=info_parts infoKind
 clear h
 go_enter Tryz.func233,Tryz.ntmps233
 go_wp2_with fail
 refine (H1 _ _ (S0.alloc _).rd).mono ?_
 rintro e w1 ⟨n,st1,rfl,hn,h1,g1,r1⟩
 have S1:=(S0.alloc _).call h1 g1
 obtain ⟨c2,f2⟩:=S1.cells
 have hsz:=S1.size
 have O1:=(show w1.ownsRow w.heap.size 144 2 _ 0 (rowKind []) from (World.ownsRow_made w #[] 0 (Nat.le_refl _) (by unfold maxLen;omega) rfl).kept g1 (.inr (by simp [Value.ownBlock];omega)))
 by_cases h8:n≤8
 ·have HR:=hid (r1.count (most:=8) (by omega))
  have HS:=hid S1
  have HO:=hid O1
  clear r1 S0 S1 h1 g1 c2 f2 O1
  go_wp2_with fail
  go_loopw [3,5] (fun v i wr=>∃ (ts:List MKind) (st':Option (List UInt8)),i=.int .i64 ts.length∧ts.length≤n∧Hid (St w b s st' wr)∧wr.ownsRow w.heap.size 144 2 v ts.length (rowKind ts)∧Hid (Rd (rMany rKind ts.length) st1 ts st')) (fun _ i _=>n - (intOf i).toNat)
  case atStart=>exact ⟨[],st1,rfl,Nat.zero_le _,HS,HO.out,Rd.pure⟩
  case round=>
   obtain ⟨ts,st',rfl,hk,hS,hown,hR⟩:=hrel
   obtain ⟨ao,cap,hv⟩:=own_len hown
   subst hv
   obtain ⟨c2,f2⟩:=hS.out.cells
   have HW:=hid hown
   have hsr:=hS.out.size
   by_cases hlt:ts.length<n
   ·cases st' with
    | none=>
     have HF:=hid (show Rd rKinds st ts none from HR.out.list (hR.out.many_none (by omega)))
     simp only [Option.isNone_none] at c2
     clear hown HS HO HR hR hsr
     go_wp2_with fail
     go_ret
     exact ⟨_,ts,none,rfl,HW.out,by omega,St.fin hS.out HF.out⟩
    | some rs=>
     simp only [Option.isNone_some] at c2
     clear hown HS HO
     go_wp2_with fail
     refine (H1 _ _ hS.out.rd).mono ?_
     rintro e w2 ⟨x,st2,rfl,hx,h2,g2,r2⟩
     have S2:=hS.out.call h2 g2
     have HO2:=hid (grown_own g2 HW.out (fun e=>by have:=(HW.out.lt _ e).1;omega))
     have R2:=hid r2
     clear r2 h2 g2 HW c2 f2
     have hs2:=S2.size
     by_cases x3:x=3
     ·subst x3
      go_wp2_with fail
      refine (H2 _ _ (S2.alloc _).rd).mono ?_
      rintro e w3 ⟨y,st3,rfl,hy,h3,g3,r3⟩
      have S3:=hid (((S2.alloc _).call h3 g3).set (a:=⟨w2.heap.size,1,none⟩) (u:=.int .i64 y) (by dsimp only;omega))
      have O3:=hid (ownsRow_set_ne (grown_own g3 (HO2.out.alloc (.cells #[.int .i64 3,.int .i64 0] 144)) (fun e=>by have:=(HO2.out.lt _ e).1;omega)) (a:=⟨w2.heap.size,1,none⟩) (.int .i64 y) (fun e=>by have:=(HO2.out.lt _ e).2;dsimp only at this;omega))
      have C3:=(Lk.new w2 _ _).call g3 (by omega)
      obtain ⟨q0,q1,z0,z1⟩:=C3.c2
      have HK:=hid (show Rd rKind (some rs) ⟨3,y⟩ st3 from by
       refine R2.out.bind ?_
       rw [if_pos (by simp),if_pos (by simp)]
       refine r3.bind ?_
       exact Rd.pure)
      clear h3 g3 r3 C3 S2 HO2 R2 H1 H2
      go_wp2_with (at_builtin;refine wpList_append_own _ rfl _ _ 112 rfl w.heap.size 144 i0 (.agg #[.int .i64 0,.int .i64 0]) 2 16 Tryz.underlying112 hi hz0 hz1 hz2 rfl (by decide) _ _ _ rfl (O3.out.alloc _) ⟨w3.heap.size,0,none⟩ 1 1 [.int .i64 3,.int .i64 (y:Int)] rfl rfl ?c1 ?c2 ?c3 ?c4 ?c5 ?_)
      case c1=>intro j u hj;have h:=cells_new (w3.setCell ⟨w2.heap.size,1,none⟩ (.int .i64 y)) _ 144 j u hj;rw [show (w3.setCell ⟨w2.heap.size,1,none⟩ (.int .i64 y)).heap.size=w3.heap.size by simp [World.setCell]] at h;exact h
      case c2=>intro u hu;simp at hu;rcases hu with rfl|rfl<;>rfl
      case c3=>unfold maxLen;omega
      case c4=>omega
      case c5=>have:=S3.out.size;simp at this ⊢;omega
      intro v' w4 hown' hgrow _
      have S4:=hid (S3.out.app (fun k hk=>(O3.out.lt k hk).1) hgrow)
      have O4:=hid (show w4.ownsRow w.heap.size 144 2 v' (ts++[(⟨3,(y:Int)⟩:MKind)]).length (rowKind (ts++[⟨3,(y:Int)⟩])) from by rw [rowKind_snoc,List.length_append];exact hown')
      have R4:=hid (show Rd (rMany rKind (ts++[(⟨3,(y:Int)⟩:MKind)]).length) st1 (ts++[⟨3,(y:Int)⟩]) _ from by rw [List.length_append];exact hR.out.step HK.out)
      clear hown' hgrow
      go_wp2_with fail
      go_roundw
      case rel=>exact ⟨ts++[⟨3,(y:Int)⟩],_,by simp,by simp;omega,S4,O4.out,R4⟩
      case measure=>simp [intOf];omega
     ·by_cases x4:x≤3
      ·have HK:=hid (show Rd rKind (some rs) ⟨x,0⟩ st2 from by
        refine R2.out.bind ?_
        rw [if_pos (by omega),if_neg (by omega)]
        exact Rd.pure)
       have e3:((x:Int)==3)=false:=by rw [beq_eq_false_iff_ne];omega
       have S3:=hid (S2.alloc (.cells #[.int .i64 (x:Int),.int .i64 0] 144))
       have O3:=hid (HO2.out.alloc (.cells #[.int .i64 (x:Int),.int .i64 0] 144))
       clear S2 HO2 R2 H1 H2 x3
       go_wp2_with (at_builtin;refine wpList_append_own _ rfl _ _ 112 rfl w.heap.size 144 i0 (.agg #[.int .i64 0,.int .i64 0]) 2 16 Tryz.underlying112 hi hz0 hz1 hz2 rfl (by decide) _ _ _ rfl (O3.out.alloc _) ⟨w2.heap.size+1,0,none⟩ 1 1 [.int .i64 (x:Int),.int .i64 0] rfl rfl ?c1 ?c2 ?c3 ?c4 ?c5 ?_)
       case c1=>intro j u hj;have h:=cells_new (w2.alloc (.cells #[.int .i64 (x:Int),.int .i64 0] 144)) _ 144 j u hj;rw [show (w2.alloc (.cells #[.int .i64 (x:Int),.int .i64 0] 144)).heap.size=w2.heap.size+1 by simp] at h;exact h
       case c2=>intro u hu;simp at hu;rcases hu with rfl|rfl<;>rfl
       case c3=>unfold maxLen;omega
       case c4=>omega
       case c5=>have:=S3.out.size;simp at this ⊢;omega
       intro v' w4 hown' hgrow _
       have S4:=hid (S3.out.app (fun k hk=>(O3.out.lt k hk).1) hgrow)
       have O4:=hid (show w4.ownsRow w.heap.size 144 2 v' (ts++[(⟨(x:Int),0⟩:MKind)]).length (rowKind (ts++[⟨(x:Int),0⟩])) from by rw [rowKind_snoc,List.length_append];exact hown')
       have R4:=hid (show Rd (rMany rKind (ts++[(⟨(x:Int),0⟩:MKind)]).length) st1 (ts++[⟨(x:Int),0⟩]) _ from by rw [List.length_append];exact hR.out.step HK.out)
       clear hown' hgrow
       go_wp2_with fail
       go_roundw
       case rel=>exact ⟨ts++[⟨(x:Int),0⟩],_,by simp,by simp;omega,S4,O4.out,R4⟩
       case measure=>simp [intOf];omega
      ·have HK:=hid (show Rd rKind (some rs) ⟨x,0⟩ none from by
        refine R2.out.bind ?_
        rw [if_neg (by omega)]
        exact Rd.fail)
       have e3:((x:Int)==3)=false:=by rw [beq_eq_false_iff_ne];omega
       have S2':=S2.alloc (.cells #[.int .i64 (x:Int),.int .i64 0] 144)
       obtain ⟨c2,f2⟩:=S2'.cells
       have S3:=hid S2'.bad
       have O3:=hid (ownsRow_set_ne (HO2.out.alloc (.cells #[.int .i64 (x:Int),.int .i64 0] 144)) (a:=⟨b,2,none⟩) (.bool true) (fun e=>by have:=(HO2.out.lt _ e).1;dsimp only at this;omega))
       obtain ⟨q0,q1,z0,z1⟩:=((Lk.new w2 #[.int .i64 (x:Int),.int .i64 0] 144).other (a:=⟨b,2,none⟩) (.bool true) (by dsimp only;omega)).c2
       clear S2 S2' HO2 R2 H1 H2 x3
       go_wp2_with (at_builtin;refine wpList_append_own _ rfl _ _ 112 rfl w.heap.size 144 i0 (.agg #[.int .i64 0,.int .i64 0]) 2 16 Tryz.underlying112 hi hz0 hz1 hz2 rfl (by decide) _ _ _ rfl (O3.out.alloc _) ⟨w2.heap.size+1,0,none⟩ 1 1 [.int .i64 (x:Int),.int .i64 0] rfl rfl ?c1 ?c2 ?c3 ?c4 ?c5 ?_)
       case c1=>intro j u hj;have h:=cells_new ((w2.alloc (.cells #[.int .i64 (x:Int),.int .i64 0] 144)).setCell ⟨b,2,none⟩ (.bool true)) _ 144 j u hj;rw [show ((w2.alloc (.cells #[.int .i64 (x:Int),.int .i64 0] 144)).setCell ⟨b,2,none⟩ (.bool true)).heap.size=w2.heap.size+1 by simp [World.setCell]] at h;exact h
       case c2=>intro u hu;simp at hu;rcases hu with rfl|rfl<;>rfl
       case c3=>unfold maxLen;omega
       case c4=>omega
       case c5=>have:=S3.out.size;simp at this ⊢;omega
       intro v' w4 hown' hgrow _
       have S4:=hid (S3.out.app (fun k hk=>(O3.out.lt k hk).1) hgrow)
       have O4:=hid (show w4.ownsRow w.heap.size 144 2 v' (ts++[(⟨(x:Int),0⟩:MKind)]).length (rowKind (ts++[⟨(x:Int),0⟩])) from by rw [rowKind_snoc,List.length_append];exact hown')
       have R4:=hid (show Rd (rMany rKind (ts++[(⟨(x:Int),0⟩:MKind)]).length) st1 (ts++[⟨(x:Int),0⟩]) _ from by rw [List.length_append];exact hR.out.step HK.out)
       clear hown' hgrow
       go_wp2_with fail
       go_roundw
       case rel=>exact ⟨ts++[⟨(x:Int),0⟩],_,by simp,by simp;omega,S4,O4.out,R4⟩
       case measure=>simp [intOf];omega
   ·have HF:=hid (show Rd rKinds st ts st' from HR.out.list (by rw [show n=ts.length by omega];exact hR.out))
    clear hown HS HO HR hR hsr
    go_wp2_with fail
    go_ret
    exact ⟨_,ts,st',rfl,HW.out,by omega,St.fin hS.out HF.out⟩
 ·have HR:=hid (r1.over (most:=8) (by omega))
  have HS:=hid (S1.bad)
  have HO:=hid (ownsRow_set_ne O1 (a:=⟨b,2,none⟩) (.bool true) (by simp [Value.ownBlock];omega))
  clear r1 S0 S1 h1 g1 O1 H1 H2
  go_wp2_with fail
  refine wp_loop_rounds 1 ?_
  rw [rounds_succ]
  go_wp2_with fail
  go_ret
  exact ⟨_,[],none,rfl,HO.out,by simp,St.fin HS.out (HR.out.list Rd.bad)⟩
theorem cellsC_snoc (ts:List C4) (t:C4):cellsC (ts++[t])=cellsC ts++cells4 t:=by simp [cellsC]
theorem l1pool_any (b:Nat) (s:ByteArray) (st:Option (List UInt8)) (w:World) (hs:s.size≤1000000000) (h:RdAt w b s st) :
  Calls Tryz.prog 155 #[.pointer (some ⟨b,0,none⟩)] w fun e w'=>∃ (v:Value) (ts:List C4) (st':Option (List UInt8)),e=.returned v∧w'.ownsRow w.heap.size 40 4 v ts.length (cellsC ts)∧(ts.length≤60∧∀ t∈ts,t.text.size≤255)∧RdAt w' b s st'∧w.grownBy w' (some b)∧Rd (rList 60 rEntry) st ts st':=by
 have H1:=fun st w h=>l1one_any b s st w hs h
 have H2:=fun st w h=>l1entry_any b s st w hs h
 have S0:=St.start h
 have HB:=h.lt
 obtain ⟨i0,hi,hz0,hz1,hz2⟩:=info_parts infoConst
 clear h
 go_enter Tryz.func155,Tryz.ntmps155
 go_wp2_with fail
 refine (H1 _ _ (S0.alloc _).rd).mono ?_
 rintro e w1 ⟨n,st1,rfl,hn,h1,g1,r1⟩
 have S1:=(S0.alloc _).call h1 g1
 obtain ⟨c2,f2⟩:=S1.cells
 have hsz:=S1.size
 have O1:=(show w1.ownsRow w.heap.size 40 4 _ 0 (cellsC []) from (World.ownsRow_made w #[] 0 (Nat.le_refl _) (by unfold maxLen;omega) rfl).kept g1 (.inr (by simp [Value.ownBlock];omega)))
 by_cases h8:n≤60
 ·have HR:=hid (r1.count (most:=60) (by omega))
  have HS:=hid S1
  have HO:=hid O1
  clear r1 S0 S1 h1 g1 c2 f2 O1
  go_wp2_with fail
  go_loopw [3,5] (fun v i wr=>∃ (ts:List C4) (st':Option (List UInt8)),i=.int .i64 ts.length∧ts.length≤n∧Hid (St w b s st' wr)∧wr.ownsRow w.heap.size 40 4 v ts.length (cellsC ts)∧Hid (Rd (rMany rEntry ts.length) st1 ts st')∧Hid (∀ t∈ts,t.text.size≤255)) (fun _ i _=>n - (intOf i).toNat)
  case atStart=>exact ⟨[],st1,rfl,Nat.zero_le _,HS,HO.out,Rd.pure,hid (by simp)⟩
  case round=>
   obtain ⟨ts,st',rfl,hk,hS,hown,hR,hT⟩:=hrel
   obtain ⟨ao,cap,hv⟩:=own_len hown
   subst hv
   obtain ⟨c2,f2⟩:=hS.out.cells
   have HW:=hid hown
   have hsr:=hS.out.size
   by_cases hlt:ts.length<n
   ·cases st' with
    | none=>
     have HF:=hid (show Rd (rList 60 rEntry) st ts none from HR.out.list (hR.out.many_none (by omega)))
     simp only [Option.isNone_none] at c2
     clear hown HS HO HR hR hsr
     go_wp2_with fail
     go_ret
     exact ⟨_,ts,none,rfl,HW.out,⟨by omega,hT.out⟩,St.fin hS.out HF.out⟩
    | some rs=>
     simp only [Option.isNone_some] at c2
     clear hown HS HO
     go_wp2_with fail 
     refine (H2 _ _ hS.out.rd).mono ?_
     rintro e w2 ⟨t,st2,rfl,hx,h2,g2,r2⟩
     have S2:=hid (hS.out.call h2 g2)
     have HO2:=hid (grown_own g2 HW.out (fun e=>by have:=(HW.out.lt _ e).1;omega))
     have R2:=hid r2
     clear r2 h2 g2 HW c2 f2 H1 H2
     go_wp2_with (at_builtin;refine wpList_append_own _ rfl _ _ 32 rfl w.heap.size 40 i0 (.agg #[.int .i64 0,.string ⟨#[]⟩,.int .i64 0,.int .i64 0]) 4 40 Tryz.underlying32 hi hz0 hz1 hz2 rfl (by decide) _ _ _ rfl (HO2.out.alloc _) ⟨w2.heap.size,0,none⟩ 1 1 [.int .i64 t.kind,.string t.text,.int .i64 t.a,.int .i64 t.b] rfl rfl ?c1 ?c2 ?c3 ?c4 ?c5 ?_)
     case c1=>exact fun j u hj=>cells_new _ _ _ j u hj
     case c2=>intro u hu;simp at hu;rcases hu with rfl|rfl|rfl|rfl<;>rfl
     case c3=>unfold maxLen;omega
     case c4=>omega
     case c5=>have:=S2.out.size;simp;omega
     intro v' w4 hown' hgrow _
     have S4:=hid (S2.out.app (fun k hk=>(HO2.out.lt k hk).1) hgrow)
     have O4:=hid (show w4.ownsRow w.heap.size 40 4 v' (ts++[t]).length (cellsC (ts++[t])) from by rw [cellsC_snoc,List.length_append];exact hown')
     have R4:=hid (show Rd (rMany rEntry (ts++[t]).length) st1 (ts++[t]) _ from by rw [List.length_append];exact hR.out.step R2.out)
     have T4:=hid (show ∀ x∈ts++[t],x.text.size≤255 from fun x hm=>by
      rcases List.mem_append.1 hm with hm|hm
      ·exact hT.out x hm
      ·simp at hm;subst hm;exact hx)
     clear hown' hgrow
     go_wp2_with fail
     go_roundw
     case rel=>exact ⟨ts++[t],_,by simp,by simp;omega,S4,O4.out,R4,T4⟩
     case measure=>simp [intOf];omega
   ·have HF:=hid (show Rd (rList 60 rEntry) st ts st' from HR.out.list (by rw [show n=ts.length by omega];exact hR.out))
    clear hown HS HO HR hR hsr
    go_wp2_with fail
    go_ret
    exact ⟨_,ts,st',rfl,HW.out,⟨by omega,hT.out⟩,St.fin hS.out HF.out⟩
 ·have HR:=hid (r1.over (most:=60) (by omega))
  have HS:=hid (S1.bad)
  have HO:=hid (ownsRow_set_ne O1 (a:=⟨b,2,none⟩) (.bool true) (by simp [Value.ownBlock];omega))
  clear r1 S0 S1 h1 g1 O1 H1 H2
  go_wp2_with fail
  refine wp_loop_rounds 1 ?_
  rw [rounds_succ]
  go_wp2_with fail
  go_ret
  exact ⟨_,[],none,rfl,HO.out,⟨by simp,by simp⟩,St.fin HS.out (HR.out.list Rd.bad)⟩
theorem own_grow {w w':World} {B B':Nat} {e e':TypeId} {z z' n n':Nat} {v v':Value} {xs xs':List Value} (h:w.ownsRow B e z v n xs) (hv:w.ownsRow B' e' z' v' n' xs') (hne:e≠e') (hg:w.grownBy w' v'.ownBlock):w'.ownsRow B e z v n xs:=by
 refine h.kept hg ?_
 rcases h.2 with ⟨rfl,_⟩|⟨g,cap,cur,rfl,_,hg1,_⟩
 ·exact .inl rfl
 ·refine .inr fun e2=>?_
  rcases hv.2 with ⟨rfl,_⟩|⟨g',cap',cur',rfl,_,hg2,_⟩
  ·simp [Value.ownBlock] at e2
  ·simp only [Value.ownBlock,Option.some.injEq] at e2
   subst e2
   rw [hg1] at hg2
   simp only [Option.some.injEq,Obj.cells.injEq] at hg2
   exact hne hg2.2.1
theorem FramesW.call {w w':World} {B b:Nat} {v:Value} {fs:List MFrame} (h:FramesW w B v fs) (g:w.grownBy w' (some b)) (hb:b<B):FramesW w' B v fs:=by
 obtain ⟨xs,h1,h2,h3⟩:=h
 have k:∀ {e z n v xs},w.ownsRow B e z v n xs→w'.ownsRow B e z v n xs:=fun ho=>grown_own g ho (fun e=>by have:=(ho.lt _ e).1;omega)
 exact ⟨xs,h1,k h2,fun j hj hj'=>⟨(h3 j hj hj').at_,k (h3 j hj hj').l,k (h3 j hj hj').s⟩⟩
theorem FramesW.grow {w w':World} {B B':Nat} {v v':Value} {fs:List MFrame} {e:TypeId} {z n:Nat} {xs':List Value} (h:FramesW w B v fs) (hv:w.ownsRow B' e z v' n xs') (h1:114≠e) (h2:144≠e) (hg:w.grownBy w' v'.ownBlock):FramesW w' B v fs:=by
 obtain ⟨xs,k1,k2,k3⟩:=h
 exact ⟨xs,k1,own_grow k2 hv h1 hg,fun j hj hj'=>⟨(k3 j hj hj').at_,own_grow (k3 j hj hj').l hv h2 hg,own_grow (k3 j hj hj').s hv h2 hg⟩⟩
theorem rowFrame_snoc (ts:List SFrame) (t:SFrame):rowFrame (ts++[t])=rowFrame ts++cellsFrame t:=by simp [rowFrame]
theorem rowTrap_snoc (ts:List MTrap) (t:MTrap):rowTrap (ts++[t])=rowTrap ts++cellsTrap t:=by simp [rowTrap]
theorem FramesW.nil (w:World) (B:Nat):FramesW w B (.slice none 0 0) []:=⟨[],rfl,World.ownsRow_nil _ _ _ _,fun k hk=>by simp at hk⟩
theorem FramesW.snoc {w w':World} {B:Nat} {v v':Value} {fs:List MFrame} {x:SFrame} {f:MFrame} (h:FramesW w B v fs) (hx:FrameW w B x f) (hg:w.grownBy w' v.ownBlock) (ho:∀ xs:List SFrame,xs.length=fs.length→w.ownsRow B 114 3 v fs.length (rowFrame xs)→w'.ownsRow B 114 3 v' (fs.length+1) (rowFrame xs++cellsFrame x)):FramesW w' B v' (fs++[f]):=by
 obtain ⟨xs,k1,k2,k3⟩:=h
 have kk:∀ {x f},FrameW w B x f→FrameW w' B x f:=fun q=>⟨q.at_,own_grow q.l k2 (by decide) hg,own_grow q.s k2 (by decide) hg⟩
 refine ⟨xs++[x],by simp [k1], ?_,fun j hj hj'=>?_⟩
 ·rw [rowFrame_snoc,List.length_append];exact ho xs k1 k2
 ·by_cases hlt:j<fs.length
  ·rw [List.getElem_append_left hlt,List.getElem_append_left (by omega)]
   exact kk (k3 j hlt (by omega))
  ·have:j=fs.length:=by simp at hj;omega
   subst this
   rw [List.getElem_append_right (Nat.le_refl _),List.getElem_append_right (by omega)]
   simpa [k1] using kk hx
theorem Lk.c8 {W:World} {C:Nat} {a b c d e f g h:Value} {T:TypeId} (k:Lk W C #[a,b,c,d,e,f,g,h] T):(W.cell? ⟨C,0,none⟩=some a∧W.cell? ⟨C,1,none⟩=some b∧W.cell? ⟨C,2,none⟩=some c∧W.cell? ⟨C,3,none⟩=some d∧W.cell? ⟨C,4,none⟩=some e∧W.cell? ⟨C,5,none⟩=some f∧W.cell? ⟨C,6,none⟩=some g∧W.cell? ⟨C,7,none⟩=some h) ∧
  W.frozen? ⟨C,0,none⟩=false∧W.frozen? ⟨C,1,none⟩=false∧W.frozen? ⟨C,2,none⟩=false∧W.frozen? ⟨C,3,none⟩=false∧W.frozen? ⟨C,4,none⟩=false∧W.frozen? ⟨C,5,none⟩=false∧W.frozen? ⟨C,6,none⟩=false∧W.frozen? ⟨C,7,none⟩=false:=
 ⟨⟨k.c 0 _ rfl,k.c 1 _ rfl,k.c 2 _ rfl,k.c 3 _ rfl,k.c 4 _ rfl,k.c 5 _ rfl,k.c 6 _ rfl,k.c 7 _ rfl⟩,k.z 0,k.z 1,k.z 2,k.z 3,k.z 4,k.z 5,k.z 6,k.z 7⟩
structure BS (w:World) (b:Nat) (s:ByteArray) (M R:Nat) (T:TypeId) (zs:Array Value) (st:Option (List UInt8)) (cs:Array Value) (W:World):Prop where
 st:St w b s st W
 m:Lk W M cs T
 r:Lk W R zs T
 mn:w.heap.size≤M
 rn:w.heap.size≤R
 mr:M≠R
theorem BS.call {w:World} {b:Nat} {s:ByteArray} {M R:Nat} {T:TypeId} {zs cs:Array Value} {st st':Option (List UInt8)} {W W':World} (h:BS w b s M R T zs st cs W) (h1:RdAt W' b s st') (h2:W.grownBy W' (some b)):BS w b s M R T zs st' cs W':=
 ⟨h.st.call h1 h2,h.m.call h2 (by have:=h.mn;have:=h.st.old;omega),h.r.call h2 (by have:=h.rn;have:=h.st.old;omega),h.mn,h.rn,h.mr⟩
theorem BS.set {w:World} {b:Nat} {s:ByteArray} {M R:Nat} {T:TypeId} {zs cs cs':Array Value} {st:Option (List UInt8)} {W:World} (h:BS w b s M R T zs st cs W) (j:Nat) (u:Value) (hu:cs.setIfInBounds j u=cs'):BS w b s M R T zs st cs' (W.setCell ⟨M,j,none⟩ u):=
 ⟨h.st.set (by exact h.mn),h.m.set j u hu,h.r.other u (by exact h.mr.symm),h.mn,h.rn,h.mr⟩
theorem BS.bad {w:World} {b:Nat} {s:ByteArray} {M R:Nat} {T:TypeId} {zs cs:Array Value} {st:Option (List UInt8)} {W:World} (h:BS w b s M R T zs st cs W):BS w b s M R T zs none cs (W.setCell ⟨b,2,none⟩ (.bool true)):=by
 obtain ⟨h1,h2⟩:=h.st.rd.setBad W (Below.refl _ _)
 exact h.call h1 h2
theorem BS.keep {w:World} {b:Nat} {s:ByteArray} {M R:Nat} {T:TypeId} {zs cs:Array Value} {st:Option (List UInt8)} {W W':World} (h:BS w b s M R T zs st cs W) (hb:Below W.heap.size W W'):BS w b s M R T zs st cs W':=
 h.call (h.st.rd.keep hb) (below_grow hb)
theorem BS.app {w:World} {b:Nat} {s:ByteArray} {M R:Nat} {T:TypeId} {zs cs:Array Value} {st:Option (List UInt8)} {W W':World} {o:Obj} {v:Value} {B:Nat} {e:TypeId} {z n:Nat} {xs:List Value} (h:BS w b s M R T zs st cs W) (hv:W.ownsRow B e z v n xs) (hB:w.heap.size≤B) (he:T≠e) (hg:(W.alloc o).grownBy W' v.ownBlock):BS w b s M R T zs st cs W':=by
 have k:∀ {C xs},Lk W C xs T→Lk W' C xs T:=fun {C xs} hk=>by
  unfold Lk
  rw [hg.block C (by have:=hk.lt;simp;omega) ?_,Below.heap_alloc W o C hk.lt]
  ·exact hk
  ·intro e2
   rcases hv.2 with ⟨rfl,_⟩|⟨g',cap',cur',rfl,_,hg2,_⟩
   ·simp [Value.ownBlock] at e2
   ·simp only [Value.ownBlock,Option.some.injEq] at e2
    subst e2
    unfold Lk at hk
    rw [hg2] at hk
    simp only [Option.some.injEq,Obj.cells.injEq] at hk
    exact he hk.2.1.symm
 exact ⟨h.st.app (fun q hq=>Nat.le_trans hB (hv.lt q hq).1) hg,k h.m,k h.r,h.mn,h.rn,h.mr⟩
theorem own_ne {w:World} {B:Nat} {e T:TypeId} {z n C:Nat} {v:Value} {xs:List Value} {cs:Array Value} (h:w.ownsRow B e z v n xs) (hk:Lk w C cs T) (hne:T≠e):v.ownBlock≠some C:=by
 rcases h.2 with ⟨rfl,_⟩|⟨g,cap,cur,rfl,_,hg,_⟩
 ·simp [Value.ownBlock]
 ·intro e2
  simp only [Value.ownBlock,Option.some.injEq] at e2
  subst e2
  unfold Lk at hk
  rw [hg] at hk
  simp only [Option.some.injEq,Obj.cells.injEq] at hk
  exact hne hk.2.1.symm
theorem trap_snoc {w:World} {B:Nat} {v:Value} {ts:List MTrap} {a b c d:Int} (h:w.ownsRow B 140 4 v (ts.length+1) (rowTrap ts++[.int .i64 a,.int .i64 b,.int .i64 c,.int .i64 d])):w.ownsRow B 140 4 v (ts++[(⟨a,b,c,d⟩:MTrap)]).length (rowTrap (ts++[⟨a,b,c,d⟩])):=by
 rw [rowTrap_snoc,List.length_append];exact h
theorem Rd.trap {st st':Option (List UInt8)} {a b c d:Int} (h:Rd (rMany rTwo (0+1+1+1+1)) st ([]++[a]++[b]++[c]++[d]) st'):Rd rTrap st ⟨a,b,c,d⟩ st':=by
 cases st with
 | none=>exact h
 | some s=>
  cases st' with
  | none=>
   cases hp:rTrap s with
   | none=>exact Rd.no hp
   | some y=>
    exfalso
    obtain ⟨f1,e1⟩:=codecTrap.only _ _ _ hp
    have hb:=(codecMany codecTwo 4).back [y.1.from_,y.1.to_,y.1.at_,y.1.cls] y.2 ⟨rfl,by
     intro q hq
     simp at hq
     obtain ⟨f2,f3,f4,f5⟩:=f1
     rcases hq with rfl|rfl|rfl|rfl<;>assumption⟩
    have:rMany rTwo (0+1+1+1+1) s=some ([y.1.from_,y.1.to_,y.1.at_,y.1.cls],y.2):=by
     rw [e1,← hb]
     simp [putT]
    simp [Rd,this] at h
  | some r=>
   obtain ⟨s',hs,hp⟩:=h.got
   cases hs
   obtain ⟨⟨f0,f1⟩,e1⟩:=(codecMany codecTwo (0+1+1+1+1)).only _ _ _ hp
   refine Rd.ok ?_
   have:=codecTrap.back ⟨a,b,c,d⟩ r ⟨f1 _ (by simp),f1 _ (by simp),f1 _ (by simp),f1 _ (by simp)⟩
   rw [← this,e1]
   simp [putT]
abbrev arrM (x y z d l:Int) (c:ByteArray) (vt vf:Value):Array Value:=#[.int .i64 x,.int .i64 y,.int .i64 z,.int .i64 d,.int .i64 l,.string c,vt,vf]
abbrev zM:Array Value:=#[.int .i64 0,.int .i64 0,.int .i64 0,.int .i64 0,.int .i64 0,.string ⟨#[]⟩,.slice none 0 0,.slice none 0 0]
structure FX (W:World) (B:Nat) (v:Value) (fs:List MFrame) (xs:List SFrame):Prop where
 len:xs.length=fs.length
 row:W.ownsRow B 114 3 v fs.length (rowFrame xs)
 each:∀ k (h:k<fs.length) (h':k<xs.length),FrameW W B xs[k] fs[k]
theorem FX.of {W:World} {B:Nat} {v:Value} {fs:List MFrame} (h:FramesW W B v fs):∃ xs,FX W B v fs xs:=by
 obtain ⟨xs,h1,h2,h3⟩:=h
 exact ⟨xs,h1,h2,h3⟩
theorem FX.all {W:World} {B:Nat} {v:Value} {fs:List MFrame} {xs:List SFrame} (h:FX W B v fs xs):FramesW W B v fs:=⟨xs,h.len,h.row,h.each⟩
theorem FrameW.call {w w':World} {B b:Nat} {x:SFrame} {f:MFrame} (h:FrameW w B x f) (g:w.grownBy w' (some b)) (hb:b<B):FrameW w' B x f:=by
 have k:∀ {e z n v xs},w.ownsRow B e z v n xs→w'.ownsRow B e z v n xs:=fun ho=>grown_own g ho (fun e=>by have:=(ho.lt _ e).1;omega)
 exact ⟨h.at_,k h.l,k h.s⟩
theorem FX.call {w w':World} {B b:Nat} {v:Value} {fs:List MFrame} {xs:List SFrame} (h:FX w B v fs xs) (g:w.grownBy w' (some b)) (hb:b<B):FX w' B v fs xs:=
 ⟨h.len,grown_own g h.row (fun e=>by have:=(h.row.lt _ e).1;omega),fun k h1 h2=>(h.each k h1 h2).call g hb⟩
theorem FX.snoc {w w':World} {B:Nat} {v v':Value} {fs:List MFrame} {xs:List SFrame} {x:SFrame} {f:MFrame} (h:FX w B v fs xs) (hx:FrameW w B x f) (hg:w.grownBy w' v.ownBlock) (ho:w'.ownsRow B 114 3 v' (fs.length+1) (rowFrame xs++cellsFrame x)):FX w' B v' (fs++[f]) (xs++[x]):=by
 have kk:∀ {x f},FrameW w B x f→FrameW w' B x f:=fun q=>⟨q.at_,own_grow q.l h.row (by decide) hg,own_grow q.s h.row (by decide) hg⟩
 refine ⟨by simp [h.len], ?_,fun j hj hj'=>?_⟩
 ·rw [rowFrame_snoc,List.length_append];exact ho
 ·by_cases hlt:j<fs.length
  ·rw [List.getElem_append_left hlt,List.getElem_append_left (by have:=h.len;omega)]
   exact kk (h.each j hlt (by have:=h.len;omega))
  ·have:j=fs.length:=by simp at hj;omega
   subst this
   rw [List.getElem_append_right (Nat.le_refl _),List.getElem_append_right (by have:=h.len;omega)]
   simpa [h.len] using kk hx
theorem FX.set {w:World} {B C:Nat} {v:Value} {fs:List MFrame} {xs:List SFrame} {T:TypeId} {cs:Array Value} (h:FX w B v fs xs) (hk:Lk w C cs T) (h1:T≠114) (h2:T≠144) (j:Nat) (u:Value):FX (w.setCell ⟨C,j,none⟩ u) B v fs xs:=
 ⟨h.len,ownsRow_set_ne h.row u (own_ne h.row hk h1),fun k q1 q2=>⟨(h.each k q1 q2).at_,ownsRow_set_ne (h.each k q1 q2).l u (own_ne (h.each k q1 q2).l hk h2),ownsRow_set_ne (h.each k q1 q2).s u (own_ne (h.each k q1 q2).s hk h2)⟩⟩
structure FSt (w:World) (b:Nat) (s:ByteArray) (M R:Nat) (zs cs:Array Value) (vt vf:Value) (ts:List MTrap) (fs:List MFrame) (xs:List SFrame) (st:Option (List UInt8)) (W:World):Prop where
 bs:BS w b s M R 75 zs st cs W
 tr:W.ownsRow w.heap.size 140 4 vt ts.length (rowTrap ts)
 fx:FX W w.heap.size vf fs xs
theorem FSt.call {w:World} {b:Nat} {s:ByteArray} {M R:Nat} {zs cs:Array Value} {vt vf:Value} {ts:List MTrap} {fs:List MFrame} {xs:List SFrame} {st st':Option (List UInt8)} {W W':World} (h:FSt w b s M R zs cs vt vf ts fs xs st W) (h1:RdAt W' b s st') (h2:W.grownBy W' (some b)):FSt w b s M R zs cs vt vf ts fs xs st' W':=
 ⟨h.bs.call h1 h2,grown_own h2 h.tr (fun e=>by have:=(h.tr.lt _ e).1;have:=h.bs.st.old;omega),h.fx.call h2 h.bs.st.old⟩
theorem FSt.keep {w:World} {b:Nat} {s:ByteArray} {M R:Nat} {zs cs:Array Value} {vt vf:Value} {ts:List MTrap} {fs:List MFrame} {xs:List SFrame} {st:Option (List UInt8)} {W W':World} (h:FSt w b s M R zs cs vt vf ts fs xs st W) (hb:Below W.heap.size W W'):FSt w b s M R zs cs vt vf ts fs xs st W':=h.call (h.bs.st.rd.keep hb) (below_grow hb)
theorem FSt.app {w:World} {b:Nat} {s:ByteArray} {M R:Nat} {zs:Array Value} {vt vf vf':Value} {ts:List MTrap} {fs:List MFrame} {xs:List SFrame} {st:Option (List UInt8)} {W W':World} {o:Obj} {x:SFrame} {f:MFrame} {a1 a2 a3 a4 a5:Int} {a6:ByteArray} (h:FSt w b s M R zs (arrM a1 a2 a3 a4 a5 a6 vt vf) vt vf ts fs xs st W) (hx:FrameW W w.heap.size x f) (hg:(W.alloc o).grownBy W' vf.ownBlock) (ho:W'.ownsRow w.heap.size 114 3 vf' (fs.length+1) (rowFrame xs++cellsFrame x)) :
  BS w b s M R 75 zs st (arrM a1 a2 a3 a4 a5 a6 vt vf) W'∧FSt w b s M R zs (arrM a1 a2 a3 a4 a5 a6 vt vf') vt vf' ts (fs++[f]) (xs++[x]) st (W'.setCell ⟨M,7,none⟩ vf'):=by
 have hB:=h.bs.app h.fx.row (Nat.le_refl _) (by decide) hg
 have ha:Below W.heap.size W (W.alloc o):=(Below.refl _ _).alloc (Nat.le_refl _) _
 have htr:W'.ownsRow w.heap.size 140 4 vt ts.length (rowTrap ts):=own_grow (own_below h.tr ha) (own_below h.fx.row ha) (by decide) hg
 have hfx:FX W' w.heap.size vf' (fs++[f]) (xs++[x]):=FX.snoc (w:=W.alloc o) ⟨h.fx.len,own_below h.fx.row ha,fun k q1 q2=>(h.fx.each k q1 q2).keep ha⟩ (hx.keep ha) hg ho
 exact ⟨hB,hB.set 7 vf' rfl,ownsRow_set_ne htr vf' (own_ne htr hB.m (by decide)),hfx.set hB.m (by decide) (by decide) 7 vf'⟩
structure FE (w:World) (b:Nat) (s:ByteArray) (R:Nat) (vt vf:Value) (ts:List MTrap) (fs:List MFrame) (st:Option (List UInt8)) (W:World):Prop where
 st:St w b s st W
 tr:W.ownsRow w.heap.size 140 4 vt ts.length (rowTrap ts)
 fx:∃ xs,FX W w.heap.size vf fs xs
 r:∃ zs,Lk W R zs 75
 rn:w.heap.size≤R
theorem FSt.fe {w:World} {b:Nat} {s:ByteArray} {M R:Nat} {zs cs:Array Value} {vt vf:Value} {ts:List MTrap} {fs:List MFrame} {xs:List SFrame} {st:Option (List UInt8)} {W:World} (h:FSt w b s M R zs cs vt vf ts fs xs st W):FE w b s R vt vf ts fs st W:=⟨h.bs.st,h.tr,⟨_,h.fx⟩,⟨_,h.bs.r⟩,h.bs.rn⟩
theorem FE.set {w:World} {b:Nat} {s:ByteArray} {R:Nat} {vt vf:Value} {ts:List MTrap} {fs:List MFrame} {st:Option (List UInt8)} {W:World} (h:FE w b s R vt vf ts fs st W) (j:Nat) (u:Value):FE w b s R vt vf ts fs st (W.setCell ⟨R,j,none⟩ u):=by
 obtain ⟨zs,hz⟩:=h.r
 obtain ⟨xs,hx⟩:=h.fx
 exact ⟨h.st.set (by exact h.rn),ownsRow_set_ne h.tr u (own_ne h.tr hz (by decide)),⟨xs,hx.set hz (by decide) (by decide) j u⟩,⟨_,hz.set j u rfl⟩,h.rn⟩
theorem FE.fin {w:World} {b:Nat} {s:ByteArray} {R:Nat} {vt vf:Value} {m:MMethod} {st st':Option (List UInt8)} {W:World} {p:Ps MMethod} (h:FE w b s R vt vf m.traps m.frames st' W) (hr:Rd p st m st') (hf:m.few):MethodW W w.heap.size vt vf m∧m.few∧RdAt W b s st'∧w.grownBy W (some b)∧Rd p st m st':=by
 obtain ⟨xs,hx⟩:=h.fx
 exact ⟨⟨h.tr,hx.all⟩,hf,h.st.rd,h.st.grow,hr⟩
def Fr1 (rs:List UInt8) (a:Int) (st:Option (List UInt8)):Prop:=∀ x st',Rd (pbind rKinds fun l=>pbind rKinds fun s=>ppure (⟨a,l,s⟩:MFrame)) st x st'→Rd rFrame (some rs) x st'
theorem Fr1.mk {rs:List UInt8} {a:Int} {st:Option (List UInt8)} (r:Rd rTwo (some rs) a st):Fr1 rs a st:=fun x st' h=>r.bind h
structure Fr2 (rs:List UInt8) (B:Nat) (a:Int) (l:List MKind) (v:Value) (st:Option (List UInt8)) (W:World):Prop where
 go:∀ x st',Rd (pbind rKinds fun s=>ppure (⟨a,l,s⟩:MFrame)) st x st'→Rd rFrame (some rs) x st'
 row:W.ownsRow B 144 2 v l.length (rowKind l)
 few:l.length≤8
theorem Fr1.next {rs:List UInt8} {B B':Nat} {a:Int} {st st':Option (List UInt8)} {l:List MKind} {v:Value} {W:World} (h:Fr1 rs a st) (r:Rd rKinds st l st') (ho:W.ownsRow B' 144 2 v l.length (rowKind l)) (hl:l.length≤8) (hB:B≤B'):Fr2 rs B a l v st' W:=
 ⟨fun x st2 hq=>h x st2 (r.bind hq),Joins.ownsRow_le ho hB,hl⟩
structure Fr3 (rs:List UInt8) (B:Nat) (x:SFrame) (f:MFrame) (st:Option (List UInt8)) (W:World):Prop where
 rd:Rd rFrame (some rs) f st
 row:FrameW W B x f
 few:f.few
theorem Fr2.done {rs:List UInt8} {B B' b:Nat} {a:Int} {st st':Option (List UInt8)} {l k:List MKind} {v u:Value} {W W':World} (h:Fr2 rs B a l v st W) (g:W.grownBy W' (some b)) (r:Rd rKinds st k st') (ho:W'.ownsRow B' 144 2 u k.length (rowKind k)) (hl:k.length≤8) (hB:B≤B') (hb:b<B):Fr3 rs B ⟨a,v,u⟩ ⟨a,l,k⟩ st' W':=
 ⟨h.go _ _ (r.bind Rd.pure),⟨rfl,grown_own g h.row (fun e=>by have:=(h.row.lt _ e).1;omega),Joins.ownsRow_le ho hB⟩,by have:=h.few;constructor<;>simp<;>omega⟩
set_option maxHeartbeats 12000000 in
theorem l1body_any (b:Nat) (s:ByteArray) (st:Option (List UInt8)) (x y z:Int) (w:World) (hs:s.size≤1000000000) (h:RdAt w b s st) :
  Calls Tryz.prog 200 #[.pointer (some ⟨b,0,none⟩),.agg #[.int .i64 x,.int .i64 y,.int .i64 z,.int .i64 0,.int .i64 0,.string empty,.slice none 0 0,.slice none 0 0]] w fun e w'=>∃ (m:MMethod) (vt vf:Value) (st':Option (List UInt8)),e=.returned (.agg #[.int .i64 m.flags,.int .i64 m.name,.int .i64 m.desc,.int .i64 m.deep,.int .i64 m.locals,.string m.code,vt,vf])∧MethodW w' w.heap.size vt vf m∧m.few∧RdAt w' b s st'∧w.grownBy w' (some b)∧Rd (rBody x y z) st m st':=by
 have H1:=fun st w h=>l1one_any b s st w hs h
 have H2:=fun st w h=>l1two_any b s st w hs h
 have H3:=fun st n w hn h=>l1text_any b s st n w hs hn h
 have H4:=fun st w h=>l1kinds_any b s st w hs h
 have HB:=h.lt
 obtain ⟨i0,hi,hz0,hz1,hz2⟩:=info_parts infoTrap
 obtain ⟨j0,hj,hy0,hy1,hy2⟩:=info_parts infoFrame
 have B0:=(show BS w b s w.heap.size (w.heap.size+1) 75 zM st (arrM x y z 0 0 empty (.slice none 0 0) (.slice none 0 0)) ((w.alloc (.cells (arrM x y z 0 0 empty (.slice none 0 0) (.slice none 0 0)) 75)).alloc (.cells zM 75)) from
  ⟨((St.start h).alloc _).alloc _,(Lk.new w _ _).alloc _,by have:=Lk.new (w.alloc (.cells (arrM x y z 0 0 empty (.slice none 0 0) (.slice none 0 0)) 75)) zM 75;simpa using this,Nat.le_refl _,by omega,by omega⟩)
 clear h
 go_enter Tryz.func200,Tryz.ntmps200
 go_wp2_with fail
 refine (H1 _ _ B0.st.rd).mono ?_
 rintro e w1 ⟨d,st1,rfl,hd,h1,g1,r1⟩
 have B1:=B0.call h1 g1
 have m3:=B1.m.c 3 _ rfl
 have z3:=B1.m.z 3
 clear B0 h1 g1
 go_wp2_with fail
 refine (H1 _ _ (B1.set (cs':=arrM x y z d 0 empty (.slice none 0 0) (.slice none 0 0)) 3 (.int .i64 d) rfl).st.rd).mono ?_
 rintro e w2 ⟨l,st2,rfl,hl,h2,g2,r2⟩
 have B2:=(B1.set (cs':=arrM x y z d 0 empty (.slice none 0 0) (.slice none 0 0)) 3 (.int .i64 d) rfl).call h2 g2
 have m4:=B2.m.c 4 _ rfl
 have z4:=B2.m.z 4
 clear B1 h2 g2 m3 z3
 go_wp2_with fail
 refine (H2 _ _ (B2.set (cs':=arrM x y z d l empty (.slice none 0 0) (.slice none 0 0)) 4 (.int .i64 l) rfl).st.rd).mono ?_
 rintro e w3 ⟨n,st3,rfl,hn,h3,g3,r3⟩
 have B3:=(B2.set (cs':=arrM x y z d l empty (.slice none 0 0) (.slice none 0 0)) 4 (.int .i64 l) rfl).call h3 g3
 clear B2 h3 g3 m4 z4
 go_upto_if 18 with fail
 go_cut [] (fun wc=>∃ st3',Hid (BS w b s w.heap.size (w.heap.size+1) 75 zM st3' (arrM x y z d l empty (.slice none 0 0) (.slice none 0 0)) wc)∧Hid (∀ cd st4,Rd (rText n) st3' cd st4→Rd rCode st2 cd st4))
 case first=>
  obtain ⟨c2,f2⟩:=B3.st.cells
  by_cases hn1:n≤120
  ·go_wp2_with fail
   go_meet
   case rel=>
    exact ⟨st3,B3,fun cd st4 hq=>by
     refine r3.bind ?_
     rw [if_pos (by omega)]
     exact hq⟩
  ·go_wp2_with fail
   go_meet
   case rel=>
    exact ⟨none,B3.bad,fun cd st4 hq=>by
     have e:=hq.of_none
     subst e
     refine r3.bind ?_
     rw [if_neg (by omega)]
     exact Rd.fail⟩
 case rest=>
  obtain ⟨st3',B3',RC⟩:=hcut
  clear B3 r3
  go_wp2_with fail
  refine (H3 _ _ _ (by omega) B3'.out.st.rd).mono ?_
  rintro e w4 ⟨cd,st4,rfl,hc,h4,g4,r4⟩
  have B4:=B3'.out.call h4 g4
  have R4:=hid (RC.out _ _ r4)
  have m5:=B4.m.c 5 _ rfl
  have z5:=B4.m.z 5
  clear B3' h4 g4 RC r4
  go_wp2_with fail
  refine (H1 _ _ (B4.set (cs':=arrM x y z d l cd (.slice none 0 0) (.slice none 0 0)) 5 (.string cd) rfl).st.rd).mono ?_
  rintro e w5 ⟨q,st5,rfl,hq,h5,g5,r5⟩
  have B5:=(B4.set (cs':=arrM x y z d l cd (.slice none 0 0) (.slice none 0 0)) 5 (.string cd) rfl).call h5 g5
  clear B4 h5 g5 m5 z5
  go_upto_if 29 with fail
  go_cut [] (fun wc=>∃ st5',Hid (BS w b s w.heap.size (w.heap.size+1) 75 zM st5' (arrM x y z d l cd (.slice none 0 0) (.slice none 0 0)) wc)∧Hid (Rd (rCount 3) st4 q st5'))
  case first=>
   obtain ⟨c2,f2⟩:=B5.st.cells
   by_cases hq1:q≤3
   ·go_wp2_with fail
    go_meet
    case rel=>exact ⟨st5,B5,r5.count (by omega)⟩
   ·go_wp2_with fail
    go_meet
    case rel=>exact ⟨none,B5.bad,r5.over (by omega)⟩
  case rest=>
   obtain ⟨st5',HS,HR⟩:=hcut
   clear B5 r5
   go_upto_block 0 with fail
   go_cut [7] (fun _ wc=>∃ (ts:List MTrap) (st6:Option (List UInt8)) (vt:Value),ts.length≤255∧Hid (BS w b s w.heap.size (w.heap.size+1) 75 zM st6 (arrM x y z d l cd vt (.slice none 0 0)) wc)∧Hid (wc.ownsRow w.heap.size 140 4 vt ts.length (rowTrap ts))∧Hid (Rd (rList 3 rTrap) st4 ts st6))
   case first=>
    clear r1 r2 H1 H3 H4
    go_wp2_with fail
    go_loopw [7] (fun i wr=>∃ (ts:List MTrap) (st':Option (List UInt8)) (vt:Value),i=.int .i64 ts.length∧ts.length≤q∧Hid (BS w b s w.heap.size (w.heap.size+1) 75 zM st' (arrM x y z d l cd vt (.slice none 0 0)) wr)∧Hid (wr.ownsRow w.heap.size 140 4 vt ts.length (rowTrap ts))∧Hid (Rd (rMany rTrap ts.length) st5' ts st')) (fun i _=>q - (intOf i).toNat)
    case atStart=>exact ⟨[],st5',.slice none 0 0,rfl,Nat.zero_le _,HS,World.ownsRow_nil _ _ _ _,Rd.pure⟩
    case round=>
     obtain ⟨ts,st',vt,rfl,hk,hS,hO,hR⟩:=hrel
     obtain ⟨c2,f2⟩:=hS.out.st.cells
     obtain ⟨⟨_,_,_,_,_,_,m6,_⟩,_⟩:=hS.out.m.c8
     have hsr:=hS.out.st.size
     by_cases hlt:ts.length<q
     ·cases st' with
      | none=>
       simp only [Option.isNone_none] at c2
       go_wp2_with fail
       go_meet
       case rel=>exact ⟨ts,none,vt,by omega,hS,hO,HR.out.list (hR.out.many_none (by omega))⟩
      | some rs=>
       simp only [Option.isNone_some] at c2
       have hbs:=hS.out.keep (Below.refl _ _).drew
       have hrd:=hbs.st.rd
       have hl0:=(show Rd (rMany rTwo 0) (some rs) [] (some rs) from Rd.pure)
       have how:=(own_below hO.out (Below.refl _ _).drew)
       obtain ⟨ao,cap,hv⟩:=own_len how
       subst hv
       clear HS
       go_wp2_with fail
       go_region_law (first
        | (go_simp;go_at_call 157;refine (H2 _ _ (by assumption)).mono ?_;rintro e w9 ⟨a9,st9,rfl,ha9,h9,g9,r9⟩;have hbs9:=BS.call (by assumption) h9 g9;have hsz9:=hbs9.st.size;have hal9:∀ o,(w9.alloc o).cell? ⟨w.heap.size,6,none⟩=some (.slice ao ts.length cap):=(fun o=>(hbs9.m.alloc o).c 6 _ rfl);obtain ⟨⟨_,_,_,_,_,_,m69,_⟩,_,_,_,_,_,_,z69,_⟩:=hbs9.m.c8;have hl9:=Rd.step (by assumption) r9;have how9:=grown_own g9 (by assumption) (fun e=>by have:=(hO.out.lt _ e).1;omega))
        | (refine step_append_lies _ rfl (.tmp 46) (.tmp 56) 72 rfl w.heap.size 140 i0 (.agg #[.int .i64 0,.int .i64 0,.int .i64 0,.int .i64 0]) 4 32 Tryz.underlying72 hi hz0 hz1 hz2 rfl (by decide) _ _ _ rfl (World.ownsRow.alloc (by assumption) _) _ 1 1 _ rfl (by rfl) (World.news_of_block (heap_alloc_new _ _)) (by intro u hu;simp at hu;rcases hu with rfl|rfl|rfl|rfl<;>rfl) (by omega) (by unfold maxLen;omega) (by omega) (by simp;omega) _ rfl ?_;intro g9 cap9 w8 hown9 hgrow9 hat9 hlt9;have hbs8:=BS.app (v:=.slice ao ts.length cap) (by assumption) (by assumption) (Nat.le_refl _) (by decide) hgrow9;obtain ⟨⟨_,_,_,_,_,_,m68,_⟩,_,_,_,_,_,_,z68,_⟩:=hbs8.m.c8))
       all_goals
        have S4:=hid (hbs8.set (cs':=arrM x y z d l cd (.slice (some ⟨g9,0,none⟩) (ts.length+1) cap9) (.slice none 0 0)) 6 (.slice (some ⟨g9,0,none⟩) (ts.length+1) cap9) rfl)
        have O4:=hid (trap_snoc (ownsRow_set_ne hown9 (a:=⟨w.heap.size,6,none⟩) (.slice (some ⟨g9,0,none⟩) (ts.length+1) cap9) (own_ne hown9 hbs8.m (by decide))))
        have R4:=hid (hR.out.step hl9.trap)
        clear hown9 hgrow9 hat9 hlt9 hbs8 m68 z68 hl9 hl0 how hbs hrd m6 c2 f2 hO hS hR H2
        go_wp2_with fail
        go_roundw
        case rel=>exact ⟨_,_,_,by simp,by simp;omega,S4,O4,by rw [List.length_append];exact R4⟩
        case measure=>simp [intOf];omega
     ·go_wp2_with fail
      go_meet
      case rel=>exact ⟨ts,st',vt,by omega,hS,hO,HR.out.list (by rw [show q=ts.length by omega];exact hR.out)⟩
   case rest=>
    obtain ⟨ts,st6,vt,hts,B6,O6,R6⟩:=hcut
    clear HS HR
    go_wp2_with fail
    refine (H1 _ _ B6.out.st.rd).mono ?_
    rintro e w7 ⟨q2,st7,rfl,hq2,h7,g7,r7⟩
    have B7:=B6.out.call h7 g7
    have O7:=hid (grown_own g7 O6.out (fun e=>by have:=(O6.out.lt _ e).1;omega))
    clear B6 h7 g7 O6
    go_upto_if 62 with fail
    go_cut [] (fun wc=>∃ st7',Hid (FSt w b s w.heap.size (w.heap.size+1) zM (arrM x y z d l cd vt (.slice none 0 0)) vt (.slice none 0 0) ts [] [] st7' wc)∧Hid (Rd (rCount 8) st6 q2 st7'))
    case first=>
     obtain ⟨c2,f2⟩:=B7.st.cells
     have N7:=(show ∀ W,FX W w.heap.size (.slice none 0 0) [] [] from fun W=>⟨rfl,World.ownsRow_nil _ _ _ _,fun k hk=>by simp at hk⟩)
     by_cases hq3:q2≤8
     ·go_wp2_with fail
      go_meet
      case rel=>exact ⟨st7,⟨B7,O7.out,N7 _⟩,r7.count (by omega)⟩
     ·go_wp2_with fail
      go_meet
      case rel=>exact ⟨none,⟨B7.bad,ownsRow_set_ne O7.out _ (fun e=>by have:=(O7.out.lt _ e).1;simp at this;omega),N7 _⟩,r7.over (by omega)⟩
    case rest=>
     obtain ⟨st7',HS,HR⟩:=hcut
     clear B7 r7 O7
     go_upto_block 2 with fail
     go_cut [8] (fun _ wc=>∃ (fs:List MFrame) (xs:List SFrame) (st8:Option (List UInt8)) (vf:Value),fs.length≤255∧Hid (FSt w b s w.heap.size (w.heap.size+1) zM (arrM x y z d l cd vt vf) vt vf ts fs xs st8 wc)∧Hid (Rd (rList 8 rFrame) st6 fs st8)∧Hid (∀ f∈fs,f.few))
     case first=>
      clear r1 r2 H1 H3 R4 R6
      go_wp2_with fail
      go_loopw [8] (fun i wr=>∃ (fs:List MFrame) (xs:List SFrame) (st':Option (List UInt8)) (vf:Value),i=.int .i64 fs.length∧fs.length≤q2∧Hid (FSt w b s w.heap.size (w.heap.size+1) zM (arrM x y z d l cd vt vf) vt vf ts fs xs st' wr)∧Hid (Rd (rMany rFrame fs.length) st7' fs st')∧Hid (∀ f∈fs,f.few)) (fun i _=>q2 - (intOf i).toNat)
      case atStart=>exact ⟨[],[],st7',.slice none 0 0,rfl,Nat.zero_le _,HS,Rd.pure,hid (by simp)⟩
      case round=>
       obtain ⟨fs,xs,st',vf,rfl,hk,hS,hR,hE⟩:=hrel
       obtain ⟨c2,f2⟩:=hS.out.bs.st.cells
       obtain ⟨⟨_,_,_,_,_,_,_,m7⟩,_⟩:=hS.out.bs.m.c8
       have hsr:=hS.out.bs.st.size
       by_cases hlt:fs.length<q2
       ·cases st' with
        | none=>
         simp only [Option.isNone_none] at c2
         go_wp2_with fail
         go_meet
         case rel=>exact ⟨fs,xs,none,vf,by omega,hS,HR.out.list (hR.out.many_none (by omega)),hE⟩
        | some rs=>
         simp only [Option.isNone_some] at c2
         have hfs:=hS.out.keep (Below.refl _ _).drew
         have hrd:=hfs.bs.st.rd
         have how:=hfs.fx.row
         have hlx:=hfs.fx.len
         obtain ⟨ao,cap,hv⟩:=own_len how
         subst hv
         go_wp2_with fail
         go_region_law (first
          | (go_simp;go_at_call 157;refine (H2 _ _ (by assumption)).mono ?_;rintro e w9 ⟨a9,st9,rfl,ha9,h9,g9,r9⟩;have hfs9:=FSt.call (by assumption) h9 g9;have hsz9:=hfs9.bs.st.size;have how9:=hfs9.fx.row;have hal9:∀ o,(w9.alloc o).cell? ⟨w.heap.size,7,none⟩=some (.slice ao fs.length cap):=(fun o=>(hfs9.bs.m.alloc o).c 7 _ rfl);obtain ⟨⟨_,_,_,_,_,_,_,m79⟩,_,_,_,_,_,_,_,z79⟩:=hfs9.bs.m.c8;have hfr9:=Fr1.mk r9)
          | (go_simp;go_at_call 233;refine (H4 _ _ (by assumption)).mono ?_;rintro e w9 ⟨v9,k9,st9,rfl,hk9,hkl9,h9,g9,r9⟩;obtain ⟨o9,c9,hv9⟩:=own_len hk9;subst hv9;have hfs9:=FSt.call (by assumption) h9 g9;have hsz9:=hfs9.bs.st.size;have how9:=hfs9.fx.row;have hal9:∀ o,(w9.alloc o).cell? ⟨w.heap.size,7,none⟩=some (.slice ao fs.length cap):=(fun o=>(hfs9.bs.m.alloc o).c 7 _ rfl);obtain ⟨⟨_,_,_,_,_,_,_,m79⟩,_,_,_,_,_,_,_,z79⟩:=hfs9.bs.m.c8;(first|(have hfr9:=Fr2.done (by assumption) g9 r9 hk9 hkl9 (by assumption) HB)|(have hfr9:=Fr1.next (B:=w.heap.size) (by assumption) r9 hk9 hkl9 (by first|assumption|exact Nat.le_refl _))))
          | (refine step_append_lies _ rfl (.tmp 79) (.tmp 87) 73 rfl w.heap.size 114 j0 (.agg #[.int .i64 0,.slice none 0 0,.slice none 0 0]) 3 56 Tryz.underlying73 hj hy0 hy1 hy2 rfl (by decide) _ _ _ rfl (World.ownsRow.alloc (by assumption) _) _ 1 1 _ rfl (by rfl) (World.news_of_block (heap_alloc_new _ _)) (by intro u hu;simp at hu;rcases hu with rfl|rfl|rfl<;>rfl) (by omega) (by unfold maxLen;omega) (by omega) (by simp;omega) _ rfl ?_;intro g9 cap9 w8 hown9 hgrow9 hat9 hlt9;have hboth:=FSt.app (by assumption) hfr9.row hgrow9 hown9;have hbs8:=hboth.1;obtain ⟨⟨_,_,_,_,_,_,_,m78⟩,_,_,_,_,_,_,_,z78⟩:=hbs8.m.c8)) 
         all_goals
          have S4:=hid hboth.2
          have R4:=hid (hR.out.step hfr9.rd)
          have W4:=hid hfr9.few
          clear hboth hown9 hgrow9 hat9 hlt9 hbs8 m78 z78 hfr9 hfs9 how hfs hrd m7 c2 f2 hS hR H2 H4
          go_wp2_with fail
          go_roundw
          case rel=>exact ⟨_,_,_,_,by simp,by simp;omega,S4,by rw [List.length_append];exact R4,fun f hf=>by
           rcases List.mem_append.1 hf with hf|hf
           ·exact hE.out f hf
           ·simp at hf;subst hf;exact W4.out⟩
          case measure=>simp [intOf];omega
       ·go_wp2_with fail
        go_meet
        case rel=>exact ⟨fs,xs,st',vf,by omega,hS,HR.out.list (by rw [show q2=fs.length by omega];exact hR.out),hE⟩
     case rest=>
      obtain ⟨fs,xs,st8,vf,hfl,S8,R8,E8⟩:=hcut
      clear HS HR
      obtain ⟨⟨p0,p1,p2,p3,p4,p5,p6,p7⟩,y0,y1,y2,y3,y4,y5,y6,y7⟩:=S8.out.bs.r.c8
      obtain ⟨⟨t0,t1,t2,t3,t4,t5,t6,t7⟩,_⟩:=S8.out.bs.m.c8
      obtain ⟨o1,k1,hv1⟩:=own_len S8.out.tr
      obtain ⟨o2,k2,hv2⟩:=own_len S8.out.fx.row
      subst hv1 hv2
      have HR:=hid (show Rd (rBody x y z) st ⟨x,y,z,d,l,cd,ts,fs⟩ st8 from by
       refine r1.bind ?_
       refine r2.bind ?_
       refine R4.out.bind ?_
       refine R6.out.bind ?_
       refine R8.out.bind ?_
       exact Rd.pure)
      have HF:=hid S8.out.fe
      clear S8 R4 R6 R8 r1 r2 H1 H2 H3 H4
      go_wp2_with fail
      refine bodyPost_ret (v:=.agg #[.int .i64 x,.int .i64 y,.int .i64 z,.int .i64 d,.int .i64 l,.string cd,.slice o1 ts.length k1,.slice o2 fs.length k2]) (by simp [results,Tryz.results200,go_sem,p0,p1,p2,p3,p4,p5,p6,p7]) rfl ?_
      refine ⟨⟨x,y,z,d,l,cd,ts,fs⟩,_,_,st8,rfl,FE.fin (R:=w.heap.size+1) ?_ HR.out ?_⟩
      ·repeat' (first|refine FE.set ?_ _ _|exact HF.out)
      ·exact ⟨by simp;omega,by simp;omega,by simp;omega,E8.out⟩
end Go.Proofs.YtecbcdfkedocbaaGreatDoor
