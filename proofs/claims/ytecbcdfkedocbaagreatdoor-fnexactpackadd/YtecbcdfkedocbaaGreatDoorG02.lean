/- Gathered: RowMethod RowMethods EqMethods RowClass ToClass ArgRow ArgRead ArgClass Math Names Types TypesTwo DescMath Desc DescSpec. -/
import Derived.Test.YtecbcdfkedocbaaGreatDoorG01
import Derived.Deep.Slices
import Derived.Deep.Strs
import Derived.Lib.SmallJoins
import Derived.OpenShut
import Derived.Lib.IndexBytes
import Derived.Test.YtecbcdfkedocbaaGreatDoorRows
import Derived.WalkKit
import Derived.Below
import Derived.WalkSpells
import Derived.WalkLawsBesides
import Derived.Test.YtecbcdfkedocbaaGreatDoorShelf
import Derived.Handy
namespace Go.Proofs.YtecbcdfkedocbaaGreatDoor
open Go.RowKit
set_option maxHeartbeats 1000000
set_option linter.unusedVariables false
structure MMethod where
 flags:Int
 name:Int
 desc:Int
 deep:Int
 locals:Int
 code:ByteArray
 traps:List MTrap
 frames:List MFrame
def MMethod.few (m:MMethod):Prop:=m.code.size≤1048576∧m.traps.length≤1048576∧m.frames.length≤1048576∧∀ f∈m.frames,f.few
def shM (m:MMethod) (vt vf:Value):SMethod:=⟨m.flags,m.name,m.desc,m.deep,m.locals,m.code,vt,vf⟩
theorem FramesW.set {w:World} {B:Nat} {v:Value} {fs:List MFrame} (h:FramesW w B v fs) {a:Addr} (ha:a.block<B) (u:Value):FramesW (w.setCell a u) B v fs:=by
 obtain ⟨xs,h1,h2,h3⟩:=h
 exact ⟨xs,h1,ownsRow_setCell_below h2 ha u,fun k hk hk'=>(h3 k hk hk').set ha u⟩
theorem FramesW.len {w:World} {B:Nat} {v:Value} {fs:List MFrame} (h:FramesW w B v fs):∃ ao cap,v=.slice ao fs.length cap:=by
 obtain ⟨xs,h1,h2,h3⟩:=h
 exact own_len h2
structure MethodW (w:World) (B:Nat) (vt vf:Value) (m:MMethod):Prop where
 t:w.ownsRow B 140 4 vt m.traps.length (rowTrap m.traps)
 f:FramesW w B vf m.frames
theorem MethodW.keep {w w':World} {B:Nat} {vt vf:Value} {m:MMethod} (h:MethodW w B vt vf m) (hb:Below w.heap.size w w'):MethodW w' B vt vf m:=⟨own_below h.t hb,h.f.keep hb⟩
theorem MethodW.mono {w:World} {B B':Nat} {vt vf:Value} {m:MMethod} (h:MethodW w B vt vf m) (hb:B'≤B):MethodW w B' vt vf m:=⟨Joins.ownsRow_le h.t hb,h.f.mono hb⟩
theorem MethodW.set {w:World} {B:Nat} {vt vf:Value} {m:MMethod} (h:MethodW w B vt vf m) {a:Addr} (ha:a.block<B) (u:Value):MethodW (w.setCell a u) B vt vf m:=⟨ownsRow_setCell_below h.t ha u,h.f.set ha u⟩
structure ArgM (w:World) (a:Option Addr) (l:Nat) (a':Option Addr) (l':Nat) (m:MMethod):Prop where
 t:ArgTrap w a l m.traps
 f:ArgFS w a' l' m.frames
 mc:m.code.size≤maxLen
 mt:l≤maxLen
 mf:l'≤maxLen
theorem ArgM.keep {w w':World} {a a':Option Addr} {l l':Nat} {m:MMethod} (h:ArgM w a l a' l' m) (hb:Below w.heap.size w w'):ArgM w' a l a' l' m:=⟨h.t.keep hb,h.f.keep hb,h.mc,h.mt,h.mf⟩
theorem szMethod_any (m:MMethod) (a:Option Addr) (l c:Nat) (a':Option Addr) (l' c':Nat) (n:Int) (w:World) (hn:0≤n) (hn2:n≤1048576) (hA:ArgM w a l a' l' m) :
  Calls Tryz.prog 42 #[.agg #[.int .i64 m.flags,.int .i64 m.name,.int .i64 m.desc,.int .i64 m.deep,.int .i64 m.locals,.string m.code,.slice a l c,.slice a' l' c'],.int .i64 n] w fun e w'=>∃ k,e=.returned (.int .i64 k)∧(k<0∨(0≤k∧k≤n∧m.few))∧Below w.heap.size w w':=by
 obtain ⟨ht,hf,mc,mt,mf⟩:=hA
 have e1:=ht.1
 have HF:=(show Hid (ArgFS w a' l' m.frames) from hf)
 have e2:=hf.1
 unfold maxLen at mc mt
 by_cases h0:(m.code.size:Int)≤n
 ·have hT:=fun w=>szTrapS_any a l c (n - m.code.size) w (by omega) (by omega) (by omega)
  by_cases h1:(l:Int)≤n - m.code.size
  ·simp only [h1,if_true] at hT
   have hS:=fun W hW=>szFrameS_any a' l' c' m.frames (n - m.code.size - l) W mf (by omega) (by omega) hW
   clear ht hf mf
   go_enter Tryz.func42,Tryz.ntmps42
   go_wp2_with fail
   refine (hT _).mono ?_
   rintro e w1 ⟨rfl,hw⟩;replace hw:=hw.symm;subst hw
   go_wp2_with fail
   refine (hS _ (HF.out.keep (by go_grown))).mono ?_
   rintro e w1 ⟨k,rfl,hk,hb0⟩
   have hb1:Below w.heap.size w w1:=(by go_grown:Below w.heap.size w _).trans (hb0.mono (by simp))
   clear hb0
   by_cases hneg:k<0
   ·go_wp2
    go_ret
    exact ⟨_,rfl,.inl (by omega),hb1⟩
   ·have hk':0≤k∧k≤n∧m.few:=by
     rcases hk with hk|⟨k1,k2,k3,k4⟩
     ·exact absurd hk hneg
     ·exact ⟨k1,by omega,by omega,by omega,by omega,k4⟩
    have HK:=(show Hid (0≤k∧k≤n∧m.few) from hk')
    have m1:=hk'.1
    clear hk hk'
    go_wp2
    go_ret
    exact ⟨_,rfl,.inr HK.out,hb1⟩
  ·simp only [h1,if_false] at hT
   clear ht hf mf
   go_enter Tryz.func42,Tryz.ntmps42
   go_wp2_with fail
   refine (hT _).mono ?_
   rintro e w1 ⟨rfl,hw⟩;replace hw:=hw.symm;subst hw
   go_wp2
   go_ret
   exact ⟨_,rfl,.inl (by omega),by go_grown⟩
 ·clear ht hf mf
  go_enter Tryz.func42,Tryz.ntmps42
  go_wp2
  go_ret
  exact ⟨_,rfl,.inl (by omega),by go_grown⟩
theorem toMethod_any (m:MMethod) (a:Option Addr) (l c:Nat) (a':Option Addr) (l' c':Nat) (w:World) (hA:ArgM w a l a' l' m) (hm:m.few) :
  Calls Tryz.prog 48 #[.agg #[.int .i64 m.flags,.int .i64 m.name,.int .i64 m.desc,.int .i64 m.deep,.int .i64 m.locals,.string m.code,.slice a l c,.slice a' l' c']] w fun e w'=>∃ v1 v2,e=.returned (.agg #[.int .i64 m.flags,.int .i64 m.name,.int .i64 m.desc,.int .i64 m.deep,.int .i64 m.locals,.string m.code,v1,v2])∧MethodW w' w.heap.size v1 v2 m∧Below w.heap.size w w':=by
 obtain ⟨ht,hf,mc,mt,mf⟩:=hA
 obtain ⟨f1,f2,f3,f4⟩:=hm
 have e1:=ht.1
 have e2:=hf.1
 have HA1:=(show Hid (ArgTrap w a l m.traps) from ht)
 have HA2:=(show Hid (ArgFS w a' l' m.frames) from hf)
 have hK1:=fun W hW=>toTrapS_any a l c m.traps W (by omega) hW
 have hK2:=fun W hW=>toFrameS_any a' l' c' m.frames W (by omega) hW f4
 clear ht hf mc mt mf f4
 go_enter Tryz.func48,Tryz.ntmps48
 go_wp2_with fail
 refine (hK1 _ (HA1.out.keep (by go_grown))).mono ?_
 rintro e w1 ⟨v1,rfl,ho1,hb1⟩
 have z1:w.heap.size+1+1+1≤w1.heap.size:=by have:=hb1.size;simpa using this
 have p0:w1.cell? ⟨w.heap.size,7,none⟩=some (Value.slice a' l' c'):=(hb1.cell (p:=⟨w.heap.size,7,none⟩) (by simp;omega)).trans (by go_cell)
 have r0:w1.cell? ⟨w.heap.size+1,0,none⟩=some (.int .i64 0):=(hb1.cell (p:=⟨w.heap.size+1,0,none⟩) (by simp)).trans (by go_cell)
 have s0:w1.frozen? ⟨w.heap.size+1,0,none⟩=false:=(hb1.frozen (p:=⟨w.heap.size+1,0,none⟩) (by simp)).trans (by go_cell)
 have r1:w1.cell? ⟨w.heap.size+1,1,none⟩=some (.int .i64 0):=(hb1.cell (p:=⟨w.heap.size+1,1,none⟩) (by simp)).trans (by go_cell)
 have s1:w1.frozen? ⟨w.heap.size+1,1,none⟩=false:=(hb1.frozen (p:=⟨w.heap.size+1,1,none⟩) (by simp)).trans (by go_cell)
 have r2:w1.cell? ⟨w.heap.size+1,2,none⟩=some (.int .i64 0):=(hb1.cell (p:=⟨w.heap.size+1,2,none⟩) (by simp)).trans (by go_cell)
 have s2:w1.frozen? ⟨w.heap.size+1,2,none⟩=false:=(hb1.frozen (p:=⟨w.heap.size+1,2,none⟩) (by simp)).trans (by go_cell)
 have r3:w1.cell? ⟨w.heap.size+1,3,none⟩=some (.int .i64 0):=(hb1.cell (p:=⟨w.heap.size+1,3,none⟩) (by simp)).trans (by go_cell)
 have s3:w1.frozen? ⟨w.heap.size+1,3,none⟩=false:=(hb1.frozen (p:=⟨w.heap.size+1,3,none⟩) (by simp)).trans (by go_cell)
 have r4:w1.cell? ⟨w.heap.size+1,4,none⟩=some (.int .i64 0):=(hb1.cell (p:=⟨w.heap.size+1,4,none⟩) (by simp)).trans (by go_cell)
 have s4:w1.frozen? ⟨w.heap.size+1,4,none⟩=false:=(hb1.frozen (p:=⟨w.heap.size+1,4,none⟩) (by simp)).trans (by go_cell)
 have r5:w1.cell? ⟨w.heap.size+1,5,none⟩=some (.string ⟨#[]⟩):=(hb1.cell (p:=⟨w.heap.size+1,5,none⟩) (by simp)).trans (by go_cell)
 have s5:w1.frozen? ⟨w.heap.size+1,5,none⟩=false:=(hb1.frozen (p:=⟨w.heap.size+1,5,none⟩) (by simp)).trans (by go_cell)
 have r6:w1.cell? ⟨w.heap.size+1,6,none⟩=some (Value.slice none 0 0):=(hb1.cell (p:=⟨w.heap.size+1,6,none⟩) (by simp)).trans (by go_cell)
 have s6:w1.frozen? ⟨w.heap.size+1,6,none⟩=false:=(hb1.frozen (p:=⟨w.heap.size+1,6,none⟩) (by simp)).trans (by go_cell)
 have r7:w1.cell? ⟨w.heap.size+1,7,none⟩=some (Value.slice none 0 0):=(hb1.cell (p:=⟨w.heap.size+1,7,none⟩) (by simp)).trans (by go_cell)
 have s7:w1.frozen? ⟨w.heap.size+1,7,none⟩=false:=(hb1.frozen (p:=⟨w.heap.size+1,7,none⟩) (by simp)).trans (by go_cell)
 have x0:w1.cell? ⟨w.heap.size+1+1,0,none⟩=some (.int .i64 m.flags):=(hb1.cell (p:=⟨w.heap.size+1+1,0,none⟩) (by simp)).trans (by go_cell)
 have x1:w1.cell? ⟨w.heap.size+1+1,1,none⟩=some (.int .i64 m.name):=(hb1.cell (p:=⟨w.heap.size+1+1,1,none⟩) (by simp)).trans (by go_cell)
 have x2:w1.cell? ⟨w.heap.size+1+1,2,none⟩=some (.int .i64 m.desc):=(hb1.cell (p:=⟨w.heap.size+1+1,2,none⟩) (by simp)).trans (by go_cell)
 have x3:w1.cell? ⟨w.heap.size+1+1,3,none⟩=some (.int .i64 m.deep):=(hb1.cell (p:=⟨w.heap.size+1+1,3,none⟩) (by simp)).trans (by go_cell)
 have x4:w1.cell? ⟨w.heap.size+1+1,4,none⟩=some (.int .i64 m.locals):=(hb1.cell (p:=⟨w.heap.size+1+1,4,none⟩) (by simp)).trans (by go_cell)
 have x5:w1.cell? ⟨w.heap.size+1+1,5,none⟩=some (.string m.code):=(hb1.cell (p:=⟨w.heap.size+1+1,5,none⟩) (by simp)).trans (by go_cell)
 have x6:w1.cell? ⟨w.heap.size+1+1,6,none⟩=some (Value.slice none 0 0):=(hb1.cell (p:=⟨w.heap.size+1+1,6,none⟩) (by simp)).trans (by go_cell)
 have x7:w1.cell? ⟨w.heap.size+1+1,7,none⟩=some (Value.slice none 0 0):=(hb1.cell (p:=⟨w.heap.size+1+1,7,none⟩) (by simp)).trans (by go_cell)
 have y6:w1.frozen? ⟨w.heap.size+1+1,6,none⟩=false:=(hb1.frozen (p:=⟨w.heap.size+1+1,6,none⟩) (by simp)).trans (by go_cell)
 have y7:w1.frozen? ⟨w.heap.size+1+1,7,none⟩=false:=(hb1.frozen (p:=⟨w.heap.size+1+1,7,none⟩) (by simp)).trans (by go_cell)
 obtain ⟨a1,k1,rfl⟩:=own_len ho1
 have HO1:Hid (w1.ownsRow (w.heap.size+1+1+1) 140 4 (.slice a1 m.traps.length k1) m.traps.length (rowTrap m.traps)):=by unfold Hid;simpa using ho1
 have HB1:Hid (Below w.heap.size w w1):=(by go_grown:Below w.heap.size w _).trans (hb1.mono (by simp;omega))
 clear ho1 hb1
 go_wp2_with fail
 refine (hK2 _ (HA2.out.keep (HB1.out.setCell (by simp;omega) _))).mono ?_
 rintro e w2 ⟨v2,rfl,ho2,hb2⟩
 have z2:w1.heap.size≤w2.heap.size:=by have:=hb2.size;simpa using this
 have r0':w2.cell? ⟨w.heap.size+1,0,none⟩=some (.int .i64 0):=(hb2.cell (p:=⟨w.heap.size+1,0,none⟩) (by simp;omega)).trans (by go_cell)
 have s0':w2.frozen? ⟨w.heap.size+1,0,none⟩=false:=(hb2.frozen (p:=⟨w.heap.size+1,0,none⟩) (by simp;omega)).trans (by go_cell)
 have r1':w2.cell? ⟨w.heap.size+1,1,none⟩=some (.int .i64 0):=(hb2.cell (p:=⟨w.heap.size+1,1,none⟩) (by simp;omega)).trans (by go_cell)
 have s1':w2.frozen? ⟨w.heap.size+1,1,none⟩=false:=(hb2.frozen (p:=⟨w.heap.size+1,1,none⟩) (by simp;omega)).trans (by go_cell)
 have r2':w2.cell? ⟨w.heap.size+1,2,none⟩=some (.int .i64 0):=(hb2.cell (p:=⟨w.heap.size+1,2,none⟩) (by simp;omega)).trans (by go_cell)
 have s2':w2.frozen? ⟨w.heap.size+1,2,none⟩=false:=(hb2.frozen (p:=⟨w.heap.size+1,2,none⟩) (by simp;omega)).trans (by go_cell)
 have r3':w2.cell? ⟨w.heap.size+1,3,none⟩=some (.int .i64 0):=(hb2.cell (p:=⟨w.heap.size+1,3,none⟩) (by simp;omega)).trans (by go_cell)
 have s3':w2.frozen? ⟨w.heap.size+1,3,none⟩=false:=(hb2.frozen (p:=⟨w.heap.size+1,3,none⟩) (by simp;omega)).trans (by go_cell)
 have r4':w2.cell? ⟨w.heap.size+1,4,none⟩=some (.int .i64 0):=(hb2.cell (p:=⟨w.heap.size+1,4,none⟩) (by simp;omega)).trans (by go_cell)
 have s4':w2.frozen? ⟨w.heap.size+1,4,none⟩=false:=(hb2.frozen (p:=⟨w.heap.size+1,4,none⟩) (by simp;omega)).trans (by go_cell)
 have r5':w2.cell? ⟨w.heap.size+1,5,none⟩=some (.string ⟨#[]⟩):=(hb2.cell (p:=⟨w.heap.size+1,5,none⟩) (by simp;omega)).trans (by go_cell)
 have s5':w2.frozen? ⟨w.heap.size+1,5,none⟩=false:=(hb2.frozen (p:=⟨w.heap.size+1,5,none⟩) (by simp;omega)).trans (by go_cell)
 have r6':w2.cell? ⟨w.heap.size+1,6,none⟩=some (Value.slice none 0 0):=(hb2.cell (p:=⟨w.heap.size+1,6,none⟩) (by simp;omega)).trans (by go_cell)
 have s6':w2.frozen? ⟨w.heap.size+1,6,none⟩=false:=(hb2.frozen (p:=⟨w.heap.size+1,6,none⟩) (by simp;omega)).trans (by go_cell)
 have r7':w2.cell? ⟨w.heap.size+1,7,none⟩=some (Value.slice none 0 0):=(hb2.cell (p:=⟨w.heap.size+1,7,none⟩) (by simp;omega)).trans (by go_cell)
 have s7':w2.frozen? ⟨w.heap.size+1,7,none⟩=false:=(hb2.frozen (p:=⟨w.heap.size+1,7,none⟩) (by simp;omega)).trans (by go_cell)
 have x0':w2.cell? ⟨w.heap.size+1+1,0,none⟩=some (.int .i64 m.flags):=(hb2.cell (p:=⟨w.heap.size+1+1,0,none⟩) (by simp;omega)).trans (by go_cell)
 have x1':w2.cell? ⟨w.heap.size+1+1,1,none⟩=some (.int .i64 m.name):=(hb2.cell (p:=⟨w.heap.size+1+1,1,none⟩) (by simp;omega)).trans (by go_cell)
 have x2':w2.cell? ⟨w.heap.size+1+1,2,none⟩=some (.int .i64 m.desc):=(hb2.cell (p:=⟨w.heap.size+1+1,2,none⟩) (by simp;omega)).trans (by go_cell)
 have x3':w2.cell? ⟨w.heap.size+1+1,3,none⟩=some (.int .i64 m.deep):=(hb2.cell (p:=⟨w.heap.size+1+1,3,none⟩) (by simp;omega)).trans (by go_cell)
 have x4':w2.cell? ⟨w.heap.size+1+1,4,none⟩=some (.int .i64 m.locals):=(hb2.cell (p:=⟨w.heap.size+1+1,4,none⟩) (by simp;omega)).trans (by go_cell)
 have x5':w2.cell? ⟨w.heap.size+1+1,5,none⟩=some (.string m.code):=(hb2.cell (p:=⟨w.heap.size+1+1,5,none⟩) (by simp;omega)).trans (by go_cell)
 have x6':w2.cell? ⟨w.heap.size+1+1,6,none⟩=some (Value.slice a1 m.traps.length k1):=(hb2.cell (p:=⟨w.heap.size+1+1,6,none⟩) (by simp;omega)).trans (by go_cell)
 have x7':w2.cell? ⟨w.heap.size+1+1,7,none⟩=some (Value.slice none 0 0):=(hb2.cell (p:=⟨w.heap.size+1+1,7,none⟩) (by simp;omega)).trans (by go_cell)
 have y7':w2.frozen? ⟨w.heap.size+1+1,7,none⟩=false:=(hb2.frozen (p:=⟨w.heap.size+1+1,7,none⟩) (by simp;omega)).trans (by go_cell)
 obtain ⟨a2,k2,rfl⟩:=ho2.len
 have HO2:Hid (FramesW w2 (w.heap.size+1+1+1) (.slice a2 m.frames.length k2) m.frames):=ho2.mono (by simpa using z1)
 have HO1':Hid (w2.ownsRow (w.heap.size+1+1+1) 140 4 (.slice a1 m.traps.length k1) m.traps.length (rowTrap m.traps)):=own_below (ownsRow_setCell_below HO1.out (by simp) _) hb2
 have HB2:Hid (Below w.heap.size w w2):=(HB1.out.setCell (by simp;omega) _).trans (hb2.mono (by simp;omega))
 clear ho2 hb2 HO1 HB1 hK1 hK2 HA1 HA2 p0 r0 s0 r1 s1 r2 s2 r3 s3 r4 s4 r5 s5 r6 s6 r7 s7 x0 x1 x2 x3 x4 x5 x6 x7 y6 y7
 go_wp2
 have g1:w2.ownsRow (w.heap.size+1+1+1) 140 4 (.slice a1 l k1) m.traps.length (rowTrap m.traps):=by
  have:=HO1'.out
  rwa [show (Value.slice a1 m.traps.length k1)=.slice a1 l k1 by rw [e1]] at this
 have g2:FramesW w2 (w.heap.size+1+1+1) (.slice a2 l' k2) m.frames:=by
  have:=HO2.out
  rwa [show (Value.slice a2 m.frames.length k2)=.slice a2 l' k2 by rw [e2]] at this
 have g3:MethodW w2 (w.heap.size+1+1+1) (.slice a1 l k1) (.slice a2 l' k2) m:=⟨g1,g2⟩
 refine bodyPost_ret (v:=.agg #[.int .i64 m.flags,.int .i64 m.name,.int .i64 m.desc,.int .i64 m.deep,.int .i64 m.locals,.string m.code,.slice a1 l k1,.slice a2 l' k2]) (by simp [results,Tryz.results48,go_sem, *]) rfl ⟨.slice a1 l k1,.slice a2 l' k2,rfl, ?_, ?_⟩
 ·exact MethodW.mono ((((((((((g3.set (by simp) _).set (by simp) _).set (by simp) _).set (by simp) _).set (by simp) _).set (by simp) _).set (by simp) _).set (by simp) _).set (by simp) _)) (by omega)
 ·exact ((((((((HB2.out.setCell (by simp;omega) _).setCell (by simp) _).setCell (by simp) _).setCell (by simp) _).setCell (by simp) _).setCell (by simp) _).setCell (by simp) _).setCell (by simp) _).setCell (by simp) _
set_option maxHeartbeats 2000000
def ArgMS (w:World) (ao:Option Addr) (len:Nat) (ms:List MMethod):Prop:=
 ms.length=len∧(len=0∨∃ b off,ao=some ⟨b,off,none⟩∧b<w.heap.size∧∀ k (h:k<ms.length),∃ a l c a' l' c',w.cell? ⟨b,off+k*8,none⟩=some (.int .i64 ms[k].flags)∧w.cell? ⟨b,off+k*8+1,none⟩=some (.int .i64 ms[k].name)∧w.cell? ⟨b,off+k*8+2,none⟩=some (.int .i64 ms[k].desc)∧w.cell? ⟨b,off+k*8+3,none⟩=some (.int .i64 ms[k].deep)∧w.cell? ⟨b,off+k*8+4,none⟩=some (.int .i64 ms[k].locals)∧w.cell? ⟨b,off+k*8+5,none⟩=some (.string ms[k].code)∧w.cell? ⟨b,off+k*8+6,none⟩=some (.slice a l c)∧w.cell? ⟨b,off+k*8+7,none⟩=some (.slice a' l' c')∧ArgM w a l a' l' ms[k])
theorem ArgMS.keep {w w':World} {ao:Option Addr} {len:Nat} {ms:List MMethod} (h:ArgMS w ao len ms) (hb:Below w.heap.size w w'):ArgMS w' ao len ms:=by
 obtain ⟨h1,h2⟩:=h
 refine ⟨h1,h2.imp id ?_⟩
 rintro ⟨b,off,rfl,hlt,hc⟩
 refine ⟨b,off,rfl,Nat.lt_of_lt_of_le hlt hb.size,fun k hk=>?_⟩
 obtain ⟨a,l,c,a',l',c',c0,c1,c2,c3,c4,c5,c6,c7,hx⟩:=hc k hk
 exact ⟨a,l,c,a',l',c',(hb.cell (p:=⟨b,off+k*8,none⟩) hlt).trans c0,(hb.cell (p:=⟨b,off+k*8+1,none⟩) hlt).trans c1,(hb.cell (p:=⟨b,off+k*8+2,none⟩) hlt).trans c2,(hb.cell (p:=⟨b,off+k*8+3,none⟩) hlt).trans c3,(hb.cell (p:=⟨b,off+k*8+4,none⟩) hlt).trans c4,(hb.cell (p:=⟨b,off+k*8+5,none⟩) hlt).trans c5,(hb.cell (p:=⟨b,off+k*8+6,none⟩) hlt).trans c6,(hb.cell (p:=⟨b,off+k*8+7,none⟩) hlt).trans c7,hx.keep hb⟩
theorem szMethodS_any (ao:Option Addr) (len cap:Nat) (ms:List MMethod) (n0:Int) (w:World) (hl:len≤maxLen) (hn0:0≤n0) (hn1:n0≤1048576) (hA:ArgMS w ao len ms) :
  Calls Tryz.prog 16 #[.slice ao len cap,.int .i64 n0] w fun e w'=>∃ n,e=.returned (.int .i64 n)∧(n<0∨(0≤n∧n≤n0∧len≤1048576∧∀ f∈ms,f.few))∧Below w.heap.size w w':=by
 unfold maxLen at hl
 by_cases h:(len:Int)≤n0
 ·obtain ⟨hlen,hcs⟩:=hA
  go_enter Tryz.func16,Tryz.ntmps16
  go_wp2
  go_loopw [1,5] (fun l i wr=>∃ (n:Int) (k:Nat),k≤len∧i=.int .i64 k∧l=.int .i64 n∧0≤n∧n≤n0∧Hid (∀ f∈ms.take k,f.few)∧Below w.heap.size w wr) (fun _ i _=>len - (intOf i).toNat)
  case atStart=>exact ⟨n0 - len,0,by omega,rfl,by first|rfl|go_num,by omega,by omega,fun t ht=>by simp at ht,Below.refl _ _⟩
  case round=>
   obtain ⟨n,k,hk,rfl,rfl,hn,hn2,HE,hbel⟩:=hrel
   by_cases hlt:k<len
   ·rcases hcs with h0|⟨b,off,rfl,hbw,hc⟩
    ·omega
    ·obtain ⟨a,l,c,a',l',c',c0,c1,c2,c3,c4,c5,c6,c7,hx⟩:=hc k (by omega)
     have d0:=(hbel.cell (p:=⟨b,off+k*8,none⟩) hbw).trans c0
     have d1:=(hbel.cell (p:=⟨b,off+k*8+1,none⟩) hbw).trans c1
     have d2:=(hbel.cell (p:=⟨b,off+k*8+2,none⟩) hbw).trans c2
     have d3:=(hbel.cell (p:=⟨b,off+k*8+3,none⟩) hbw).trans c3
     have d4:=(hbel.cell (p:=⟨b,off+k*8+4,none⟩) hbw).trans c4
     have d5:=(hbel.cell (p:=⟨b,off+k*8+5,none⟩) hbw).trans c5
     have d6:=(hbel.cell (p:=⟨b,off+k*8+6,none⟩) hbw).trans c6
     have d7:=(hbel.cell (p:=⟨b,off+k*8+7,none⟩) hbw).trans c7
     have hI:=szMethod_any ms[k] a l c a' l' c' n wr hn (by omega) (hx.keep hbel)
     have HX:Hid (∀ m,(0≤m∧m≤n∧ms[k].few)→∀ f∈ms.take (k+1),f.few):=by
      intro m hm f hf
      rw [List.take_succ_eq_append_getElem (by omega)] at hf
      rcases List.mem_append.mp hf with hf|hf
      ·exact HE.out f hf
      ·simp at hf;rw [hf];exact hm.2.2
     clear c0 c1 c2 c3 c4 c5 c6 c7 hc hx
     generalize ms[k]'(by omega)=mm at d0 d1 d2 d3 d4 d5 hI HX
     go_wp2_with fail
     refine hI.mono ?_
     rintro e w1 ⟨m,rfl,hm,hb1⟩
     ·by_cases hneg:m<0
      ·go_wp2
       go_ret
       exact ⟨_,rfl,.inl (by omega),hbel.trans (hb1.mono hbel.size)⟩
      ·have hm':0≤m∧m≤n∧mm.few:=by
        rcases hm with hm|hm
        ·exact absurd hm hneg
        ·exact hm
       have HN:=HX.out m hm'
       have HN':Hid (∀ f∈ms.take (k+1),f.few):=HN
       have m1:=hm'.1
       have m2:=hm'.2.1
       clear HN hm hm'
       go_wp2
       go_roundw
       case rel=>exact ⟨m,k+1,by omega,by go_num,rfl,by omega,by omega,HN'.out,hbel.trans (hb1.mono hbel.size)⟩
       case measure=>simp [intOf];omega
   ·go_wp2
    go_ret
    refine ⟨_,rfl,.inr ⟨hn,hn2,by omega, ?_⟩,hbel⟩
    have:=HE.out
    rwa [List.take_of_length_le (by omega)] at this
 ·clear hA
  go_enter Tryz.func16,Tryz.ntmps16
  go_wp2
  go_ret
  exact ⟨_,rfl,.inl (by omega),Below.refl _ _⟩
def MethodsW (w:World) (B:Nat) (v:Value) (ms:List MMethod):Prop:=
 ∃ xs:List SMethod,xs.length=ms.length∧w.ownsRow B 75 8 v ms.length (rowMethod xs)∧∀ k (h:k<ms.length) (h':k<xs.length),∃ vt vf,xs[k]=shM ms[k] vt vf∧MethodW w B vt vf ms[k]
theorem MethodsW.keep {w w':World} {B:Nat} {v:Value} {ms:List MMethod} (h:MethodsW w B v ms) (hb:Below w.heap.size w w'):MethodsW w' B v ms:=by
 obtain ⟨xs,h1,h2,h3⟩:=h
 refine ⟨xs,h1,own_below h2 hb,fun k hk hk'=>?_⟩
 obtain ⟨vt,vf,h4,h5⟩:=h3 k hk hk'
 exact ⟨vt,vf,h4,h5.keep hb⟩
theorem MethodsW.mono {w:World} {B B':Nat} {v:Value} {ms:List MMethod} (h:MethodsW w B v ms) (hb:B'≤B):MethodsW w B' v ms:=by
 obtain ⟨xs,h1,h2,h3⟩:=h
 refine ⟨xs,h1,Joins.ownsRow_le h2 hb,fun k hk hk'=>?_⟩
 obtain ⟨vt,vf,h4,h5⟩:=h3 k hk hk'
 exact ⟨vt,vf,h4,h5.mono hb⟩
theorem MethodsW.set {w:World} {B:Nat} {v:Value} {ms:List MMethod} (h:MethodsW w B v ms) {a:Addr} (ha:a.block<B) (u:Value):MethodsW (w.setCell a u) B v ms:=by
 obtain ⟨xs,h1,h2,h3⟩:=h
 refine ⟨xs,h1,ownsRow_setCell_below h2 ha u,fun k hk hk'=>?_⟩
 obtain ⟨vt,vf,h4,h5⟩:=h3 k hk hk'
 exact ⟨vt,vf,h4,h5.set ha u⟩
theorem MethodsW.len {w:World} {B:Nat} {v:Value} {ms:List MMethod} (h:MethodsW w B v ms):∃ ao cap,v=.slice ao ms.length cap:=by
 obtain ⟨xs,h1,h2,h3⟩:=h
 exact own_len h2
theorem toMethodS_any (ao:Option Addr) (len cap:Nat) (ms:List MMethod) (w:World) (hl:len≤1048576) (hA:ArgMS w ao len ms) (hf:∀ f∈ms,f.few) :
  Calls Tryz.prog 23 #[.slice ao len cap] w fun e w'=>∃ v,e=.returned v∧MethodsW w' w.heap.size v ms∧Below w.heap.size w w':=by
 obtain ⟨hlen,hcs⟩:=hA
 obtain ⟨i0,hi,hz0,hz1,hz2⟩:=info_parts infoMethod
 obtain ⟨M,hM⟩:∃ M,M=madeCells (Value.agg #[.int .i64 0,.int .i64 0,.int .i64 0,.int .i64 0,.int .i64 0,.string ⟨#[]⟩,.slice none 0 0,.slice none 0 0]).cells (len*8):=⟨_,rfl⟩
 have hmk:∀ W:World,(Instr.makeSlice 34 (.int .i64 (len:Int)) (.int .i64 (len:Int))).run Tryz.prog W=.ok (.slice (some ⟨W.heap.size,0,none⟩) len len) (W.alloc (.cells M 75)):=fun W=>by
  have h:=run_make (P:=Tryz.prog) W 34 75 i0 _ Tryz.underlying34 hi hz0 .i64 .i64 (len:Int) (len:Int) (by omega) (by omega) (by rw [hz2];omega) (by omega)
  rw [hz1] at h
  rw [hM]
  simpa using h
 have HO:Hid ((w.alloc (.cells M 75)).ownsRow w.heap.size 75 8 (.slice (some ⟨w.heap.size,0,none⟩) len len) len (rowMethod (zerosMethod len))):=by
  have hz:=zerosMethod_cells len
  rw [← hM] at hz
  have:=World.ownsRow_lit (base:=w.heap.size) (e:=75) (size:=8) w M len (Nat.le_refl _) (by unfold maxLen;omega) (by rw [← Array.length_toList,hz,rowMethod_len];simp [zerosMethod])
  rw [hz] at this
  exact this
 have HF:Hid (∀ f∈ms,f.few):=hf
 clear hM hf
 go_enter Tryz.func23,Tryz.ntmps23
 go_wp2
 go_loopw [4] (fun i wr=>∃ (k:Nat) (us:List SMethod),k≤len∧i=.int .i64 k∧us.length=len∧w.heap.size+1≤wr.heap.size∧Hid (∀ j (h:j<ms.length) (h':j<us.length),j<k→∃ vt vf,us[j]=shM ms[j] vt vf∧MethodW wr (w.heap.size+1) vt vf ms[j])∧Hid (wr.ownsRow w.heap.size 75 8 (.slice (some ⟨w.heap.size,0,none⟩) len len) len (rowMethod us))∧Below w.heap.size w wr) (fun i _=>len - (intOf i).toNat)
 case atStart=>exact ⟨0,zerosMethod len,by omega,rfl,by simp [zerosMethod],by simp,fun j _ _ h=>by omega,HO,(Below.refl _ _).alloc (Nat.le_refl _) _⟩
 case round=>
  obtain ⟨k,us,hk,rfl,hus,hsz,HE,HW,hbel⟩:=hrel
  by_cases hlt:k<len
  ·rcases hcs with h0|⟨b,off,rfl,hbw,hc⟩
   ·omega
   ·obtain ⟨a,l,c,a',l',c',c0,c1,c2,c3,c4,c5,c6,c7,hx⟩:=hc k (by omega)
    have hne:¬b=w.heap.size:=by omega
    have d0:=(hbel.cell (p:=⟨b,off+k*8,none⟩) hbw).trans c0
    have d1:=(hbel.cell (p:=⟨b,off+k*8+1,none⟩) hbw).trans c1
    have d2:=(hbel.cell (p:=⟨b,off+k*8+2,none⟩) hbw).trans c2
    have d3:=(hbel.cell (p:=⟨b,off+k*8+3,none⟩) hbw).trans c3
    have d4:=(hbel.cell (p:=⟨b,off+k*8+4,none⟩) hbw).trans c4
    have d5:=(hbel.cell (p:=⟨b,off+k*8+5,none⟩) hbw).trans c5
    have d6:=(hbel.cell (p:=⟨b,off+k*8+6,none⟩) hbw).trans c6
    have d7:=(hbel.cell (p:=⟨b,off+k*8+7,none⟩) hbw).trans c7
    have hI:=toMethod_any ms[k] a l c a' l' c' wr (hx.keep hbel) (HF.out _ (List.getElem_mem _))
    obtain ⟨mm,hmm⟩:∃ mm,ms[k]'(by omega)=mm:=⟨_,rfl⟩
    have HM:Hid (ms[k]'(by omega)=mm):=hmm
    rw [hmm] at d0 d1 d2 d3 d4 d5 hI
    clear c0 c1 c2 c3 c4 c5 c6 c7 hc hx hmm
    go_wp2_with fail
    refine hI.mono ?_
    rintro e w1 ⟨y1,y2,rfl,hy,hb1⟩
    have ho1:=own_below HW.out hb1
    have f0:=ho1.frozenAt (k*8)
    obtain ⟨p0,q0⟩:=own_has ho1 (k:=k*8) (by omega)
    have f1:=ho1.frozenAt (k*8+1)
    obtain ⟨p1,q1⟩:=own_has ho1 (k:=k*8+1) (by omega)
    have f2:=ho1.frozenAt (k*8+2)
    obtain ⟨p2,q2⟩:=own_has ho1 (k:=k*8+2) (by omega)
    have f3:=ho1.frozenAt (k*8+3)
    obtain ⟨p3,q3⟩:=own_has ho1 (k:=k*8+3) (by omega)
    have f4:=ho1.frozenAt (k*8+4)
    obtain ⟨p4,q4⟩:=own_has ho1 (k:=k*8+4) (by omega)
    have f5:=ho1.frozenAt (k*8+5)
    obtain ⟨p5,q5⟩:=own_has ho1 (k:=k*8+5) (by omega)
    have f6:=ho1.frozenAt (k*8+6)
    obtain ⟨p6,q6⟩:=own_has ho1 (k:=k*8+6) (by omega)
    have f7:=ho1.frozenAt (k*8+7)
    obtain ⟨p7,q7⟩:=own_has ho1 (k:=k*8+7) (by omega)
    have hs1:=hb1.size
    have HNH:Hid _:=nextMethod (t:=shM mm y1 y2) ho1 hus hlt
    have HE':Hid (∀ j (h:j<ms.length) (h':j<(us.set k (shM mm y1 y2)).length),j<k+1→∃ vt vf,(us.set k (shM mm y1 y2))[j]=shM ms[j] vt vf∧MethodW ((((((((w1.setCell ⟨w.heap.size,k*8,none⟩ (.int .i64 mm.flags)).setCell ⟨w.heap.size,k*8+1,none⟩ (.int .i64 mm.name)).setCell ⟨w.heap.size,k*8+2,none⟩ (.int .i64 mm.desc)).setCell ⟨w.heap.size,k*8+3,none⟩ (.int .i64 mm.deep)).setCell ⟨w.heap.size,k*8+4,none⟩ (.int .i64 mm.locals)).setCell ⟨w.heap.size,k*8+5,none⟩ (.string mm.code)).setCell ⟨w.heap.size,k*8+6,none⟩ (y1)).setCell ⟨w.heap.size,k*8+7,none⟩ (y2)) (w.heap.size+1) vt vf ms[j]):=by
     intro j h h' hj
     have hfw:∃ vt vf,(us.set k (shM mm y1 y2))[j]=shM ms[j] vt vf∧MethodW w1 (w.heap.size+1) vt vf ms[j]:=by
      by_cases hjk:j=k
      ·subst hjk
       have hm:=HM.out
       rw [List.getElem_set_self,hm]
       exact ⟨y1,y2,rfl,hy.mono hsz⟩
      ·rw [List.getElem_set_ne (by omega)]
       obtain ⟨vt,vf,e1,e2⟩:=HE.out j h (by simpa using h') (by omega)
       exact ⟨vt,vf,e1,e2.keep hb1⟩
     obtain ⟨vt,vf,e1,e2⟩:=hfw
     exact ⟨vt,vf,e1,(((((((e2.set (by simp) _).set (by simp) _).set (by simp) _).set (by simp) _).set (by simp) _).set (by simp) _).set (by simp) _).set (by simp) _⟩
    have hbw1:=hbel.trans (hb1.mono hbel.size)
    obtain ⟨a1,k1,e1⟩:=own_len hy.t
    obtain ⟨a2,k2,e2⟩:=hy.f.len
    subst e1 e2
    generalize mm.traps.length=tn at *
    generalize mm.frames.length=fn at *
    clear hy ho1 hb1 HE HW hI HM
    go_wp2
    go_roundw
    case rel=>exact ⟨k+1,_,by omega,by go_num,by simpa using hus,by simp;omega,HE',HNH.out,(((((((hbw1.setCell (Nat.le_refl _) _).setCell (Nat.le_refl _) _).setCell (Nat.le_refl _) _).setCell (Nat.le_refl _) _).setCell (Nat.le_refl _) _).setCell (Nat.le_refl _) _).setCell (Nat.le_refl _) _).setCell (Nat.le_refl _) _⟩
    case measure=>simp [intOf];omega
  ·have hk':k=len:=by omega
   subst hk'
   have HR:Hid (MethodsW wr w.heap.size (.slice (some ⟨w.heap.size,0,none⟩) k k) ms):=by
    refine ⟨us,by omega,by rw [hlen];exact HW.out,fun j h h'=>?_⟩
    obtain ⟨vt,vf,e1,e2⟩:=HE.out j h h' (by omega)
    exact ⟨vt,vf,e1,e2.mono (by omega)⟩
   clear HE HW
   go_wp2
   go_ret
   exact ⟨_,rfl,HR.out,hbel⟩
theorem eqMethod_same (m:MMethod) (vt vf ut uf:Value) (B1 B2:Nat) (w:World) (hm:m.few) (hx:MethodW w B1 vt vf m) (hy:MethodW w B2 ut uf m) :
  Calls Tryz.prog 62 #[.agg #[.int .i64 m.flags,.int .i64 m.name,.int .i64 m.desc,.int .i64 m.deep,.int .i64 m.locals,.string m.code,vt,vf],.agg #[.int .i64 m.flags,.int .i64 m.name,.int .i64 m.desc,.int .i64 m.deep,.int .i64 m.locals,.string m.code,ut,uf]] w fun e w'=>e=.returned (.bool true)∧Below w.heap.size w w':=by
 obtain ⟨f1,f2,f3,f4⟩:=hm
 have HX:=(show Hid (MethodW w B1 vt vf m) from hx)
 have HY:=(show Hid (MethodW w B2 ut uf m) from hy)
 have HF:=(show Hid (∀ f∈m.frames,f.few) from f4)
 obtain ⟨a1,k1,rfl⟩:=own_len hx.t
 obtain ⟨a2,k2,rfl⟩:=hx.f.len
 obtain ⟨a3,k3,rfl⟩:=own_len hy.t
 obtain ⟨a4,k4,rfl⟩:=hy.f.len
 clear hx hy f4
 go_enter Tryz.func62,Tryz.ntmps62
 go_wp2_with fail
 refine (eqTrapS_same _ _ m.traps B1 B2 _ f2 (own_below HX.out.t (by go_grown)) (own_below HY.out.t (by go_grown))).mono ?_
 rintro e w1 ⟨rfl,hb1⟩
 have z1:w.heap.size+1+1≤w1.heap.size:=by have:=hb1.size;simpa using this
 have p0:w1.cell? ⟨w.heap.size,7,none⟩=some (.slice a2 m.frames.length k2):=(hb1.cell (p:=⟨w.heap.size,7,none⟩) (by simp;omega)).trans (by go_cell)
 have p1:w1.cell? ⟨w.heap.size+1,7,none⟩=some (.slice a4 m.frames.length k4):=(hb1.cell (p:=⟨w.heap.size+1,7,none⟩) (by simp)).trans (by go_cell)
 have hbw:Below w.heap.size w w1:=(by go_grown:Below w.heap.size w _).trans (hb1.mono (by simp;omega))
 clear hb1
 go_wp2_with fail
 refine (eqFrameS_same _ _ m.frames B1 B2 w1 f3 HF.out (HX.out.f.keep hbw) (HY.out.f.keep hbw)).mono ?_
 rintro e w2 ⟨rfl,hb2⟩
 go_wp2
 go_ret
 exact ⟨rfl,hbw.trans (hb2.mono hbw.size)⟩
theorem eqMethodS_same (v1 v2:Value) (ms:List MMethod) (B1 B2:Nat) (w:World) (hl:ms.length≤1048576) (hf:∀ f∈ms,f.few) (h1:MethodsW w B1 v1 ms) (h2:MethodsW w B2 v2 ms) :
  Calls Tryz.prog 33 #[v1,v2] w fun e w'=>e=.returned (.bool true)∧Below w.heap.size w w':=by
 obtain ⟨xs,l1,o1,r1⟩:=h1
 obtain ⟨ys,l2,o2,r2⟩:=h2
 by_cases hz:ms.length=0
 ·obtain ⟨ao1,c1,rfl⟩:=own_len o1
  obtain ⟨ao2,c2,rfl⟩:=own_len o2
  rw [hz]
  clear o1 o2 hl hz r1 r2 l1 l2 hf
  go_enter Tryz.func33,Tryz.ntmps33
  go_wp2
  refine wp_loop_rounds 1 ?_
  rw [rounds_succ]
  go_wp2
  go_ret
  exact ⟨rfl,Below.refl _ _⟩
 ·obtain ⟨g1,c1,rfl⟩:=Joins.ownsRow_form o1 (by omega)
  obtain ⟨g2,c2,rfl⟩:=Joins.ownsRow_form o2 (by omega)
  have H1:=(show Hid (w.ownsRow B1 75 8 (.slice (some ⟨g1,0,none⟩) ms.length c1) ms.length (rowMethod xs)) from o1)
  have H2:=(show Hid (w.ownsRow B2 75 8 (.slice (some ⟨g2,0,none⟩) ms.length c2) ms.length (rowMethod ys)) from o2)
  have R1:=(show Hid (∀ k (h:k<ms.length) (h':k<xs.length),∃ vt vf,xs[k]=shM ms[k] vt vf∧MethodW w B1 vt vf ms[k]) from r1)
  have R2:=(show Hid (∀ k (h:k<ms.length) (h':k<ys.length),∃ vt vf,ys[k]=shM ms[k] vt vf∧MethodW w B2 vt vf ms[k]) from r2)
  have HF:=(show Hid (∀ f∈ms,f.few) from hf)
  have hg1:=(o1.lt g1 rfl).2
  have hg2:=(o2.lt g2 rfl).2
  clear o1 o2 r1 r2 hf
  go_enter Tryz.func33,Tryz.ntmps33
  go_wp2
  go_loopw [5] (fun i wr=>∃ (k:Nat),k≤ms.length∧i=.int .i64 k∧Below w.heap.size w wr) (fun i _=>ms.length - (intOf i).toNat)
  case atStart=>exact ⟨0,by omega,rfl,Below.refl _ _⟩
  case round=>
   obtain ⟨k,hk,rfl,hb⟩:=hrel
   by_cases hlt:k<ms.length
   ·have hx:=ownMethod_at (own_below H1.out hb) l1 (k:=k) (by omega)
    have hy:=ownMethod_at (own_below H2.out hb) l2 (k:=k) (by omega)
    obtain ⟨vt,vf,ex,rx⟩:=R1.out k hlt (by omega)
    obtain ⟨ut,uf,ey,ry⟩:=R2.out k hlt (by omega)
    rw [ex] at hx
    rw [ey] at hy
    have hE:=eqMethod_same ms[k] vt vf ut uf B1 B2 (wr.drewN 1) (HF.out _ (List.getElem_mem _)) ((rx.keep hb).keep (below_drewN (Below.refl _ _) 1)) ((ry.keep hb).keep (below_drewN (Below.refl _ _) 1))
    obtain ⟨a1,k1,e1⟩:=own_len rx.t
    obtain ⟨a2,k2,e2⟩:=rx.f.len
    obtain ⟨a3,k3,e3⟩:=own_len ry.t
    obtain ⟨a4,k4,e4⟩:=ry.f.len
    clear rx ry ex ey
    generalize ms[k]=mm at hx hy hE e1 e2 e3 e4
    subst e1 e2 e3 e4
    unfold shM at hx hy
    simp only at hx hy
    generalize mm.traps.length=tn at *
    generalize mm.frames.length=fn at *
    obtain ⟨x0,x1,x2,x3,x4,x5,x6,x7⟩:=hx
    obtain ⟨y0,y1,y2,y3,y4,y5,y6,y7⟩:=hy
    go_wp2
    go_region_with (go_at_call 62;refine hE.mono ?_;rintro e w1 ⟨rfl,hb1⟩)
    all_goals go_wp2
    all_goals
     have hb2:Below w.heap.size w w1:=(below_drewN hb 1).trans (hb1.mono (by have:=hb.size;simpa using this))
     clear hb1
     go_roundw
     case rel=>exact ⟨k+1,by omega,by go_num,hb2⟩
     case measure=>simp [intOf];omega
   ·go_wp2
    go_ret
    exact ⟨rfl,hb⟩
structure MClass where
 pool:List C4
 flags:Int
 name:Int
 super:Int
 faces:List Int
 fields:List MField
 methods:List MMethod
structure MClass.few (c:MClass):Prop where
 pool:c.pool.length≤1048576
 texts:∀ t∈c.pool,t.text.size≤1048576
 faces:c.faces.length≤1048576
 fields:c.fields.length≤1048576
 methods:c.methods.length≤1048576
 each:∀ m∈c.methods,m.few
structure ClassW (w:World) (B:Nat) (vp vi vf vm:Value) (c:MClass):Prop where
 p:w.ownsRow B 40 4 vp c.pool.length (cellsC c.pool)
 i:w.ownsRow B 3 1 vi c.faces.length (rowI c.faces)
 f:w.ownsRow B 79 3 vf c.fields.length (rowField c.fields)
 m:MethodsW w B vm c.methods
theorem ClassW.keep {w w':World} {B:Nat} {vp vi vf vm:Value} {c:MClass} (h:ClassW w B vp vi vf vm c) (hb:Below w.heap.size w w'):ClassW w' B vp vi vf vm c:=⟨own_below h.p hb,own_below h.i hb,own_below h.f hb,h.m.keep hb⟩
theorem ClassW.mono {w:World} {B B':Nat} {vp vi vf vm:Value} {c:MClass} (h:ClassW w B vp vi vf vm c) (hb:B'≤B):ClassW w B' vp vi vf vm c:=⟨Joins.ownsRow_le h.p hb,Joins.ownsRow_le h.i hb,Joins.ownsRow_le h.f hb,h.m.mono hb⟩
theorem ClassW.set {w:World} {B:Nat} {vp vi vf vm:Value} {c:MClass} (h:ClassW w B vp vi vf vm c) {a:Addr} (ha:a.block<B) (u:Value):ClassW (w.setCell a u) B vp vi vf vm c:=⟨ownsRow_setCell_below h.p ha u,ownsRow_setCell_below h.i ha u,ownsRow_setCell_below h.f ha u,h.m.set ha u⟩
structure ArgCl (w:World) (ap:Option Addr) (lp:Nat) (ai:Option Addr) (li:Nat) (af:Option Addr) (lf:Nat) (am:Option Addr) (lm:Nat) (c:MClass):Prop where
 p:ArgC w ap lp c.pool
 i:ArgI w ai li c.faces
 f:ArgField w af lf c.fields
 m:ArgMS w am lm c.methods
 mp:lp≤maxLen
 mi:li≤maxLen
 mf:lf≤maxLen
 mm:lm≤maxLen
theorem ArgCl.keep {w w':World} {ap ai af am:Option Addr} {lp li lf lm:Nat} {c:MClass} (h:ArgCl w ap lp ai li af lf am lm c) (hb:Below w.heap.size w w'):ArgCl w' ap lp ai li af lf am lm c:=⟨h.p.keep hb,h.i.keep hb,h.f.keep hb,h.m.keep hb,h.mp,h.mi,h.mf,h.mm⟩
theorem szClassN_any (c:MClass) (ap:Option Addr) (lp cp:Nat) (ai:Option Addr) (li ci:Nat) (af:Option Addr) (lf cf:Nat) (am:Option Addr) (lm cm:Nat) (w:World) (hA:ArgCl w ap lp ai li af lf am lm c) :
  Calls Tryz.prog 4 #[.agg #[.slice ap lp cp,.int .i64 c.flags,.int .i64 c.name,.int .i64 c.super,.slice ai li ci,.slice af lf cf,.slice am lm cm],.int .i64 1048576] w fun e w'=>∃ n,e=.returned (.int .i64 n)∧(n<0∨(c.few∧0≤n∧n≤1048576))∧Below w.heap.size w w':=by
 have HA:=(show Hid (ArgCl w ap lp ai li af lf am lm c) from hA)
 have hP:=fun W hW=>szConstS_any ap lp cp c.pool W hA.mp hW
 have e1:=hA.p.1
 have e2:=hA.i.1
 have e3:=hA.f.1
 have e4:=hA.m.1
 have mi:=hA.mi
 have mf:=hA.mf
 unfold maxLen at mi mf
 clear hA
 go_enter Tryz.func4,Tryz.ntmps4
 go_wp2_with fail
 refine (hP _ (HA.out.p.keep (by go_grown))).mono ?_
 rintro e w1 ⟨n1,rfl,hn1,hb0⟩
 have z1:w.heap.size+1≤w1.heap.size:=by have:=hb0.size;simpa using this
 have p4:w1.cell? ⟨w.heap.size,4,none⟩=some (.slice ai li ci):=(hb0.cell (p:=⟨w.heap.size,4,none⟩) (by simp)).trans (by go_cell)
 have p5:w1.cell? ⟨w.heap.size,5,none⟩=some (.slice af lf cf):=(hb0.cell (p:=⟨w.heap.size,5,none⟩) (by simp)).trans (by go_cell)
 have p6:w1.cell? ⟨w.heap.size,6,none⟩=some (.slice am lm cm):=(hb0.cell (p:=⟨w.heap.size,6,none⟩) (by simp)).trans (by go_cell)
 have hb1:Below w.heap.size w w1:=(by go_grown:Below w.heap.size w _).trans (hb0.mono (by simp))
 clear hb0 hP
 by_cases hneg:n1<0
 ·clear hn1
  go_wp2
  go_ret
  exact ⟨_,rfl,.inl (by omega),hb1⟩
 ·obtain ⟨⟨q1,q2⟩,q3,q4⟩:(0≤n1∧n1≤1048576)∧lp≤1048576∧∀ t∈c.pool,t.text.size≤1048576:=by
   rcases hn1 with hn|hn
   ·exact absurd hn hneg
   ·exact hn
  have HT:=(show Hid (∀ t∈c.pool,t.text.size≤1048576) from q4)
  clear q4 hn1
  have hI:=fun w=>szIntS_any ai li ci n1 w (by omega) q1 q2
  by_cases h2:(li:Int)≤n1
  ·simp only [h2,if_true] at hI
   have hF:=fun w=>szFieldS_any af lf cf (n1 - li) w (by omega) (by omega) (by omega)
   by_cases h3:(lf:Int)≤n1 - li
   ·simp only [h3,if_true] at hF
    have hM:=fun W hW=>szMethodS_any am lm cm c.methods (n1 - li - lf) W HA.out.mm (by omega) (by omega) hW
    go_wp2_with fail
    refine (hI _).mono ?_
    rintro e w2 ⟨rfl,hw⟩;replace hw:=hw.symm;subst hw
    go_wp2_with fail
    refine (hF _).mono ?_
    rintro e w2 ⟨rfl,hw⟩;replace hw:=hw.symm;subst hw
    go_wp2_with fail
    refine (hM _ (HA.out.m.keep hb1)).mono ?_
    rintro e w2 ⟨n2,rfl,hn2,hb2⟩
    have hb3:=hb1.trans (hb2.mono hb1.size)
    clear hb2
    by_cases hneg2:n2<0
    ·clear hn2
     go_wp2
     go_ret
     exact ⟨_,rfl,.inl (by omega),hb3⟩
    ·have HF:Hid (c.few∧0≤n2∧n2≤1048576):=by
      rcases hn2 with hn|⟨h7,h8,h5,h6⟩
      ·exact absurd hn hneg2
      ·exact ⟨⟨by omega,HT.out,by omega,by omega,by omega,h6⟩,h7,by omega⟩
     clear hn2
     go_wp2
     go_ret
     exact ⟨_,rfl,.inr HF.out,hb3⟩
   ·simp only [h3,if_false] at hF
    go_wp2_with fail
    refine (hI _).mono ?_
    rintro e w2 ⟨rfl,hw⟩;replace hw:=hw.symm;subst hw
    go_wp2_with fail
    refine (hF _).mono ?_
    rintro e w2 ⟨rfl,hw⟩;replace hw:=hw.symm;subst hw
    go_wp2
    go_ret
    exact ⟨_,rfl,.inl (by omega),hb1⟩
  ·simp only [h2,if_false] at hI
   go_wp2_with fail
   refine (hI _).mono ?_
   rintro e w2 ⟨rfl,hw⟩;replace hw:=hw.symm;subst hw
   go_wp2
   go_ret
   exact ⟨_,rfl,.inl (by omega),hb1⟩
theorem eqClass_same (c:MClass) (vp vi vf vm up ui uf um:Value) (B1 B2:Nat) (w:World) (hc:c.few) (hx:ClassW w B1 vp vi vf vm c) (hy:ClassW w B2 up ui uf um c) :
  Calls Tryz.prog 10 #[.agg #[vp,.int .i64 c.flags,.int .i64 c.name,.int .i64 c.super,vi,vf,vm],.agg #[up,.int .i64 c.flags,.int .i64 c.name,.int .i64 c.super,ui,uf,um]] w fun e w'=>e=.returned (.bool true)∧Below w.heap.size w w':=by
 have HX:=(show Hid (ClassW w B1 vp vi vf vm c) from hx)
 have HY:=(show Hid (ClassW w B2 up ui uf um c) from hy)
 have HC:=(show Hid (c.few) from hc)
 obtain ⟨a1,k1,rfl⟩:=own_len hx.p
 obtain ⟨a2,k2,rfl⟩:=own_len hx.i
 obtain ⟨a3,k3,rfl⟩:=own_len hx.f
 obtain ⟨a4,k4,rfl⟩:=hx.m.len
 obtain ⟨b1,l1,rfl⟩:=own_len hy.p
 obtain ⟨b2,l2,rfl⟩:=own_len hy.i
 obtain ⟨b3,l3,rfl⟩:=own_len hy.f
 obtain ⟨b4,l4,rfl⟩:=hy.m.len
 clear hx hy hc
 go_enter Tryz.func10,Tryz.ntmps10
 go_wp2_with fail
 refine (eqConstS_same _ _ c.pool B1 B2 _ HC.out.pool (own_below HX.out.p (by go_grown)) (own_below HY.out.p (by go_grown))).mono ?_
 rintro e w1 ⟨rfl,hb1⟩
 have z1:w.heap.size+1+1≤w1.heap.size:=by have:=hb1.size;simpa using this
 have x1:w1.cell? ⟨w.heap.size,1,none⟩=some (.int .i64 c.flags):=(hb1.cell (p:=⟨w.heap.size,1,none⟩) (by simp;omega)).trans (by go_cell)
 have y1:w1.cell? ⟨w.heap.size+1,1,none⟩=some (.int .i64 c.flags):=(hb1.cell (p:=⟨w.heap.size+1,1,none⟩) (by simp)).trans (by go_cell)
 have x2:w1.cell? ⟨w.heap.size,2,none⟩=some (.int .i64 c.name):=(hb1.cell (p:=⟨w.heap.size,2,none⟩) (by simp;omega)).trans (by go_cell)
 have y2:w1.cell? ⟨w.heap.size+1,2,none⟩=some (.int .i64 c.name):=(hb1.cell (p:=⟨w.heap.size+1,2,none⟩) (by simp)).trans (by go_cell)
 have x3:w1.cell? ⟨w.heap.size,3,none⟩=some (.int .i64 c.super):=(hb1.cell (p:=⟨w.heap.size,3,none⟩) (by simp;omega)).trans (by go_cell)
 have y3:w1.cell? ⟨w.heap.size+1,3,none⟩=some (.int .i64 c.super):=(hb1.cell (p:=⟨w.heap.size+1,3,none⟩) (by simp)).trans (by go_cell)
 have x4:w1.cell? ⟨w.heap.size,4,none⟩=some (.slice a2 c.faces.length k2):=(hb1.cell (p:=⟨w.heap.size,4,none⟩) (by simp;omega)).trans (by go_cell)
 have y4:w1.cell? ⟨w.heap.size+1,4,none⟩=some (.slice b2 c.faces.length l2):=(hb1.cell (p:=⟨w.heap.size+1,4,none⟩) (by simp)).trans (by go_cell)
 have x5:w1.cell? ⟨w.heap.size,5,none⟩=some (.slice a3 c.fields.length k3):=(hb1.cell (p:=⟨w.heap.size,5,none⟩) (by simp;omega)).trans (by go_cell)
 have y5:w1.cell? ⟨w.heap.size+1,5,none⟩=some (.slice b3 c.fields.length l3):=(hb1.cell (p:=⟨w.heap.size+1,5,none⟩) (by simp)).trans (by go_cell)
 have x6:w1.cell? ⟨w.heap.size,6,none⟩=some (.slice a4 c.methods.length k4):=(hb1.cell (p:=⟨w.heap.size,6,none⟩) (by simp;omega)).trans (by go_cell)
 have y6:w1.cell? ⟨w.heap.size+1,6,none⟩=some (.slice b4 c.methods.length l4):=(hb1.cell (p:=⟨w.heap.size+1,6,none⟩) (by simp)).trans (by go_cell)
 have hbw:Below w.heap.size w w1:=(by go_grown:Below w.heap.size w _).trans (hb1.mono (by simp;omega))
 clear hb1
 go_wp2_with fail
 refine (eqIntS_same _ _ c.faces B1 B2 w1 HC.out.faces (own_below HX.out.i hbw) (own_below HY.out.i hbw)).mono ?_
 rintro e w2 ⟨rfl,hb2⟩
 replace x5:w2.cell? ⟨w.heap.size,5,none⟩=some (.slice a3 c.fields.length k3):=(hb2.cell (p:=⟨w.heap.size,5,none⟩) (by simp;omega)).trans x5
 replace y5:w2.cell? ⟨w.heap.size+1,5,none⟩=some (.slice b3 c.fields.length l3):=(hb2.cell (p:=⟨w.heap.size+1,5,none⟩) (by simp;omega)).trans y5
 replace x6:w2.cell? ⟨w.heap.size,6,none⟩=some (.slice a4 c.methods.length k4):=(hb2.cell (p:=⟨w.heap.size,6,none⟩) (by simp;omega)).trans x6
 replace y6:w2.cell? ⟨w.heap.size+1,6,none⟩=some (.slice b4 c.methods.length l4):=(hb2.cell (p:=⟨w.heap.size+1,6,none⟩) (by simp;omega)).trans y6
 replace z1:w.heap.size+1+1≤w2.heap.size:=Nat.le_trans z1 hb2.size
 replace hbw:Below w.heap.size w w2:=hbw.trans (hb2.mono hbw.size)
 clear hb2
 go_wp2_with fail
 refine (eqFieldS_same _ _ c.fields B1 B2 w2 HC.out.fields (own_below HX.out.f hbw) (own_below HY.out.f hbw)).mono ?_
 rintro e w3 ⟨rfl,hb2⟩
 replace x6:w3.cell? ⟨w.heap.size,6,none⟩=some (.slice a4 c.methods.length k4):=(hb2.cell (p:=⟨w.heap.size,6,none⟩) (by simp;omega)).trans x6
 replace y6:w3.cell? ⟨w.heap.size+1,6,none⟩=some (.slice b4 c.methods.length l4):=(hb2.cell (p:=⟨w.heap.size+1,6,none⟩) (by simp;omega)).trans y6
 replace z1:w.heap.size+1+1≤w3.heap.size:=Nat.le_trans z1 hb2.size
 replace hbw:Below w.heap.size w w3:=hbw.trans (hb2.mono hbw.size)
 clear hb2
 go_wp2_with fail
 refine (eqMethodS_same _ _ c.methods B1 B2 w3 HC.out.methods HC.out.each (HX.out.m.keep hbw) (HY.out.m.keep hbw)).mono ?_
 rintro e w4 ⟨rfl,hb4⟩
 go_wp2
 go_ret
 exact ⟨rfl,hbw.trans (hb4.mono hbw.size)⟩
theorem toClass_any (c:MClass) (ap:Option Addr) (lp cp:Nat) (ai:Option Addr) (li ci:Nat) (af:Option Addr) (lf cf:Nat) (am:Option Addr) (lm cm:Nat) (w:World) (hA:ArgCl w ap lp ai li af lf am lm c) (hc:c.few) :
  Calls Tryz.prog 7 #[.agg #[.slice ap lp cp,.int .i64 c.flags,.int .i64 c.name,.int .i64 c.super,.slice ai li ci,.slice af lf cf,.slice am lm cm]] w fun e w'=>∃ vp vi vf vm,e=.returned (.agg #[vp,.int .i64 c.flags,.int .i64 c.name,.int .i64 c.super,vi,vf,vm])∧ClassW w' w.heap.size vp vi vf vm c∧Below w.heap.size w w':=by
 have HA:=(show Hid (ArgCl w ap lp ai li af lf am lm c) from hA)
 have HC:=(show Hid (c.few) from hc)
 have e1:=hA.p.1
 have e2:=hA.i.1
 have e3:=hA.f.1
 have e4:=hA.m.1
 have c1:=hc.pool
 have c2:=hc.faces
 have c3:=hc.fields
 have c4:=hc.methods
 have hP:=fun W hW=>toConstS_any ap lp cp c.pool W (by omega) hW
 have hI:=fun W hW=>toIntS_any ai li ci c.faces W (by omega) hW
 have hF:=fun W hW=>toFieldS_any af lf cf c.fields W (by omega) hW
 have hM:=fun W hW=>toMethodS_any am lm cm c.methods W (by omega) hW HC.out.each
 clear hA hc c1 c2 c3 c4
 go_enter Tryz.func7,Tryz.ntmps7
 go_wp2_with fail
 refine (hP _ (HA.out.p.keep (by go_grown))).mono ?_
 rintro e w1 ⟨v1,rfl,ho1,hb1⟩
 have z1:w.heap.size+1+1+1≤w1.heap.size:=by have:=hb1.size;simpa using this
 have p0_1:w1.cell? ⟨w.heap.size,1,none⟩=some (.int .i64 c.flags):=(hb1.cell (p:=⟨w.heap.size,1,none⟩) (by simp;omega)).trans (by go_cell)
 have p0_2:w1.cell? ⟨w.heap.size,2,none⟩=some (.int .i64 c.name):=(hb1.cell (p:=⟨w.heap.size,2,none⟩) (by simp;omega)).trans (by go_cell)
 have p0_3:w1.cell? ⟨w.heap.size,3,none⟩=some (.int .i64 c.super):=(hb1.cell (p:=⟨w.heap.size,3,none⟩) (by simp;omega)).trans (by go_cell)
 have p0_4:w1.cell? ⟨w.heap.size,4,none⟩=some (Value.slice ai li ci):=(hb1.cell (p:=⟨w.heap.size,4,none⟩) (by simp;omega)).trans (by go_cell)
 have p0_5:w1.cell? ⟨w.heap.size,5,none⟩=some (Value.slice af lf cf):=(hb1.cell (p:=⟨w.heap.size,5,none⟩) (by simp;omega)).trans (by go_cell)
 have p0_6:w1.cell? ⟨w.heap.size,6,none⟩=some (Value.slice am lm cm):=(hb1.cell (p:=⟨w.heap.size,6,none⟩) (by simp;omega)).trans (by go_cell)
 have r0_0:w1.cell? ⟨w.heap.size+1,0,none⟩=some (Value.slice none 0 0):=(hb1.cell (p:=⟨w.heap.size+1,0,none⟩) (by simp)).trans (by go_cell)
 have s0_0:w1.frozen? ⟨w.heap.size+1,0,none⟩=false:=(hb1.frozen (p:=⟨w.heap.size+1,0,none⟩) (by simp)).trans (by go_cell)
 have r0_1:w1.cell? ⟨w.heap.size+1,1,none⟩=some (.int .i64 0):=(hb1.cell (p:=⟨w.heap.size+1,1,none⟩) (by simp)).trans (by go_cell)
 have s0_1:w1.frozen? ⟨w.heap.size+1,1,none⟩=false:=(hb1.frozen (p:=⟨w.heap.size+1,1,none⟩) (by simp)).trans (by go_cell)
 have r0_2:w1.cell? ⟨w.heap.size+1,2,none⟩=some (.int .i64 0):=(hb1.cell (p:=⟨w.heap.size+1,2,none⟩) (by simp)).trans (by go_cell)
 have s0_2:w1.frozen? ⟨w.heap.size+1,2,none⟩=false:=(hb1.frozen (p:=⟨w.heap.size+1,2,none⟩) (by simp)).trans (by go_cell)
 have r0_3:w1.cell? ⟨w.heap.size+1,3,none⟩=some (.int .i64 0):=(hb1.cell (p:=⟨w.heap.size+1,3,none⟩) (by simp)).trans (by go_cell)
 have s0_3:w1.frozen? ⟨w.heap.size+1,3,none⟩=false:=(hb1.frozen (p:=⟨w.heap.size+1,3,none⟩) (by simp)).trans (by go_cell)
 have r0_4:w1.cell? ⟨w.heap.size+1,4,none⟩=some (Value.slice none 0 0):=(hb1.cell (p:=⟨w.heap.size+1,4,none⟩) (by simp)).trans (by go_cell)
 have s0_4:w1.frozen? ⟨w.heap.size+1,4,none⟩=false:=(hb1.frozen (p:=⟨w.heap.size+1,4,none⟩) (by simp)).trans (by go_cell)
 have r0_5:w1.cell? ⟨w.heap.size+1,5,none⟩=some (Value.slice none 0 0):=(hb1.cell (p:=⟨w.heap.size+1,5,none⟩) (by simp)).trans (by go_cell)
 have s0_5:w1.frozen? ⟨w.heap.size+1,5,none⟩=false:=(hb1.frozen (p:=⟨w.heap.size+1,5,none⟩) (by simp)).trans (by go_cell)
 have r0_6:w1.cell? ⟨w.heap.size+1,6,none⟩=some (Value.slice none 0 0):=(hb1.cell (p:=⟨w.heap.size+1,6,none⟩) (by simp)).trans (by go_cell)
 have s0_6:w1.frozen? ⟨w.heap.size+1,6,none⟩=false:=(hb1.frozen (p:=⟨w.heap.size+1,6,none⟩) (by simp)).trans (by go_cell)
 have x0_0:w1.cell? ⟨w.heap.size+1+1,0,none⟩=some (Value.slice none 0 0):=(hb1.cell (p:=⟨w.heap.size+1+1,0,none⟩) (by simp)).trans (by go_cell)
 have y0_0:w1.frozen? ⟨w.heap.size+1+1,0,none⟩=false:=(hb1.frozen (p:=⟨w.heap.size+1+1,0,none⟩) (by simp)).trans (by go_cell)
 have x0_1:w1.cell? ⟨w.heap.size+1+1,1,none⟩=some (.int .i64 0):=(hb1.cell (p:=⟨w.heap.size+1+1,1,none⟩) (by simp)).trans (by go_cell)
 have y0_1:w1.frozen? ⟨w.heap.size+1+1,1,none⟩=false:=(hb1.frozen (p:=⟨w.heap.size+1+1,1,none⟩) (by simp)).trans (by go_cell)
 have x0_2:w1.cell? ⟨w.heap.size+1+1,2,none⟩=some (.int .i64 0):=(hb1.cell (p:=⟨w.heap.size+1+1,2,none⟩) (by simp)).trans (by go_cell)
 have y0_2:w1.frozen? ⟨w.heap.size+1+1,2,none⟩=false:=(hb1.frozen (p:=⟨w.heap.size+1+1,2,none⟩) (by simp)).trans (by go_cell)
 have x0_3:w1.cell? ⟨w.heap.size+1+1,3,none⟩=some (.int .i64 0):=(hb1.cell (p:=⟨w.heap.size+1+1,3,none⟩) (by simp)).trans (by go_cell)
 have y0_3:w1.frozen? ⟨w.heap.size+1+1,3,none⟩=false:=(hb1.frozen (p:=⟨w.heap.size+1+1,3,none⟩) (by simp)).trans (by go_cell)
 have x0_4:w1.cell? ⟨w.heap.size+1+1,4,none⟩=some (Value.slice none 0 0):=(hb1.cell (p:=⟨w.heap.size+1+1,4,none⟩) (by simp)).trans (by go_cell)
 have y0_4:w1.frozen? ⟨w.heap.size+1+1,4,none⟩=false:=(hb1.frozen (p:=⟨w.heap.size+1+1,4,none⟩) (by simp)).trans (by go_cell)
 have x0_5:w1.cell? ⟨w.heap.size+1+1,5,none⟩=some (Value.slice none 0 0):=(hb1.cell (p:=⟨w.heap.size+1+1,5,none⟩) (by simp)).trans (by go_cell)
 have y0_5:w1.frozen? ⟨w.heap.size+1+1,5,none⟩=false:=(hb1.frozen (p:=⟨w.heap.size+1+1,5,none⟩) (by simp)).trans (by go_cell)
 have x0_6:w1.cell? ⟨w.heap.size+1+1,6,none⟩=some (Value.slice none 0 0):=(hb1.cell (p:=⟨w.heap.size+1+1,6,none⟩) (by simp)).trans (by go_cell)
 have y0_6:w1.frozen? ⟨w.heap.size+1+1,6,none⟩=false:=(hb1.frozen (p:=⟨w.heap.size+1+1,6,none⟩) (by simp)).trans (by go_cell)
 obtain ⟨a1,k1,rfl⟩:=own_len ho1
 have HO1_1:Hid (w1.ownsRow (w.heap.size+1+1+1) 40 4 (Value.slice a1 c.pool.length k1) c.pool.length (cellsC c.pool)):=by unfold Hid;simpa using ho1
 have HB1:Hid (Below w.heap.size w w1):=(by go_grown:Below w.heap.size w _).trans (hb1.mono (by simp;omega))
 clear ho1 hb1
 go_wp2_with fail
 refine (hI _ (HA.out.i.keep ((((HB1.out.setCell (by simp;omega) _).setCell (by simp;omega) _).setCell (by simp;omega) _).setCell (by simp;omega) _))).mono ?_
 rintro e w2 ⟨v2,rfl,ho2,hb2⟩
 have z2:w1.heap.size≤w2.heap.size:=by have:=hb2.size;simpa using this
 have p1_5:w2.cell? ⟨w.heap.size,5,none⟩=some (Value.slice af lf cf):=(hb2.cell (p:=⟨w.heap.size,5,none⟩) (by simp;omega)).trans (by go_cell)
 have p1_6:w2.cell? ⟨w.heap.size,6,none⟩=some (Value.slice am lm cm):=(hb2.cell (p:=⟨w.heap.size,6,none⟩) (by simp;omega)).trans (by go_cell)
 have r1_0:w2.cell? ⟨w.heap.size+1,0,none⟩=some (Value.slice none 0 0):=(hb2.cell (p:=⟨w.heap.size+1,0,none⟩) (by simp;omega)).trans (by go_cell)
 have s1_0:w2.frozen? ⟨w.heap.size+1,0,none⟩=false:=(hb2.frozen (p:=⟨w.heap.size+1,0,none⟩) (by simp;omega)).trans (by go_cell)
 have r1_1:w2.cell? ⟨w.heap.size+1,1,none⟩=some (.int .i64 0):=(hb2.cell (p:=⟨w.heap.size+1,1,none⟩) (by simp;omega)).trans (by go_cell)
 have s1_1:w2.frozen? ⟨w.heap.size+1,1,none⟩=false:=(hb2.frozen (p:=⟨w.heap.size+1,1,none⟩) (by simp;omega)).trans (by go_cell)
 have r1_2:w2.cell? ⟨w.heap.size+1,2,none⟩=some (.int .i64 0):=(hb2.cell (p:=⟨w.heap.size+1,2,none⟩) (by simp;omega)).trans (by go_cell)
 have s1_2:w2.frozen? ⟨w.heap.size+1,2,none⟩=false:=(hb2.frozen (p:=⟨w.heap.size+1,2,none⟩) (by simp;omega)).trans (by go_cell)
 have r1_3:w2.cell? ⟨w.heap.size+1,3,none⟩=some (.int .i64 0):=(hb2.cell (p:=⟨w.heap.size+1,3,none⟩) (by simp;omega)).trans (by go_cell)
 have s1_3:w2.frozen? ⟨w.heap.size+1,3,none⟩=false:=(hb2.frozen (p:=⟨w.heap.size+1,3,none⟩) (by simp;omega)).trans (by go_cell)
 have r1_4:w2.cell? ⟨w.heap.size+1,4,none⟩=some (Value.slice none 0 0):=(hb2.cell (p:=⟨w.heap.size+1,4,none⟩) (by simp;omega)).trans (by go_cell)
 have s1_4:w2.frozen? ⟨w.heap.size+1,4,none⟩=false:=(hb2.frozen (p:=⟨w.heap.size+1,4,none⟩) (by simp;omega)).trans (by go_cell)
 have r1_5:w2.cell? ⟨w.heap.size+1,5,none⟩=some (Value.slice none 0 0):=(hb2.cell (p:=⟨w.heap.size+1,5,none⟩) (by simp;omega)).trans (by go_cell)
 have s1_5:w2.frozen? ⟨w.heap.size+1,5,none⟩=false:=(hb2.frozen (p:=⟨w.heap.size+1,5,none⟩) (by simp;omega)).trans (by go_cell)
 have r1_6:w2.cell? ⟨w.heap.size+1,6,none⟩=some (Value.slice none 0 0):=(hb2.cell (p:=⟨w.heap.size+1,6,none⟩) (by simp;omega)).trans (by go_cell)
 have s1_6:w2.frozen? ⟨w.heap.size+1,6,none⟩=false:=(hb2.frozen (p:=⟨w.heap.size+1,6,none⟩) (by simp;omega)).trans (by go_cell)
 have x1_0:w2.cell? ⟨w.heap.size+1+1,0,none⟩=some (Value.slice a1 c.pool.length k1):=(hb2.cell (p:=⟨w.heap.size+1+1,0,none⟩) (by simp;omega)).trans (by go_cell)
 have y1_0:w2.frozen? ⟨w.heap.size+1+1,0,none⟩=false:=(hb2.frozen (p:=⟨w.heap.size+1+1,0,none⟩) (by simp;omega)).trans (by go_cell)
 have x1_1:w2.cell? ⟨w.heap.size+1+1,1,none⟩=some (.int .i64 c.flags):=(hb2.cell (p:=⟨w.heap.size+1+1,1,none⟩) (by simp;omega)).trans (by go_cell)
 have y1_1:w2.frozen? ⟨w.heap.size+1+1,1,none⟩=false:=(hb2.frozen (p:=⟨w.heap.size+1+1,1,none⟩) (by simp;omega)).trans (by go_cell)
 have x1_2:w2.cell? ⟨w.heap.size+1+1,2,none⟩=some (.int .i64 c.name):=(hb2.cell (p:=⟨w.heap.size+1+1,2,none⟩) (by simp;omega)).trans (by go_cell)
 have y1_2:w2.frozen? ⟨w.heap.size+1+1,2,none⟩=false:=(hb2.frozen (p:=⟨w.heap.size+1+1,2,none⟩) (by simp;omega)).trans (by go_cell)
 have x1_3:w2.cell? ⟨w.heap.size+1+1,3,none⟩=some (.int .i64 c.super):=(hb2.cell (p:=⟨w.heap.size+1+1,3,none⟩) (by simp;omega)).trans (by go_cell)
 have y1_3:w2.frozen? ⟨w.heap.size+1+1,3,none⟩=false:=(hb2.frozen (p:=⟨w.heap.size+1+1,3,none⟩) (by simp;omega)).trans (by go_cell)
 have x1_4:w2.cell? ⟨w.heap.size+1+1,4,none⟩=some (Value.slice none 0 0):=(hb2.cell (p:=⟨w.heap.size+1+1,4,none⟩) (by simp;omega)).trans (by go_cell)
 have y1_4:w2.frozen? ⟨w.heap.size+1+1,4,none⟩=false:=(hb2.frozen (p:=⟨w.heap.size+1+1,4,none⟩) (by simp;omega)).trans (by go_cell)
 have x1_5:w2.cell? ⟨w.heap.size+1+1,5,none⟩=some (Value.slice none 0 0):=(hb2.cell (p:=⟨w.heap.size+1+1,5,none⟩) (by simp;omega)).trans (by go_cell)
 have y1_5:w2.frozen? ⟨w.heap.size+1+1,5,none⟩=false:=(hb2.frozen (p:=⟨w.heap.size+1+1,5,none⟩) (by simp;omega)).trans (by go_cell)
 have x1_6:w2.cell? ⟨w.heap.size+1+1,6,none⟩=some (Value.slice none 0 0):=(hb2.cell (p:=⟨w.heap.size+1+1,6,none⟩) (by simp;omega)).trans (by go_cell)
 have y1_6:w2.frozen? ⟨w.heap.size+1+1,6,none⟩=false:=(hb2.frozen (p:=⟨w.heap.size+1+1,6,none⟩) (by simp;omega)).trans (by go_cell)
 obtain ⟨a2,k2,rfl⟩:=own_len ho2
 have HO2_2:Hid (w2.ownsRow (w.heap.size+1+1+1) 3 1 (Value.slice a2 c.faces.length k2) c.faces.length (rowI c.faces)):=Joins.ownsRow_le ho2 (by have:=z1;simp;omega)
 have HO1_2:Hid (w2.ownsRow (w.heap.size+1+1+1) 40 4 (Value.slice a1 c.pool.length k1) c.pool.length (cellsC c.pool)):=own_below (ownsRow_setCell_below (ownsRow_setCell_below (ownsRow_setCell_below (ownsRow_setCell_below HO1_1.out (by simp) _) (by simp) _) (by simp) _) (by simp) _) hb2
 have HB2:Hid (Below w.heap.size w w2):=((((HB1.out.setCell (by simp;omega) _).setCell (by simp;omega) _).setCell (by simp;omega) _).setCell (by simp;omega) _).trans (hb2.mono (by simp;omega))
 clear ho2 hb2 p0_1 p0_2 p0_3 p0_4 p0_5 p0_6 r0_0 s0_0 r0_1 s0_1 r0_2 s0_2 r0_3 s0_3 r0_4 s0_4 r0_5 s0_5 r0_6 s0_6 x0_0 y0_0 x0_1 y0_1 x0_2 y0_2 x0_3 y0_3 x0_4 y0_4 x0_5 y0_5 x0_6 y0_6 HB1 HO1_1
 go_wp2_with fail
 refine (hF _ (HA.out.f.keep (HB2.out.setCell (by simp;omega) _))).mono ?_
 rintro e w3 ⟨v3,rfl,ho3,hb3⟩
 have z3:w2.heap.size≤w3.heap.size:=by have:=hb3.size;simpa using this
 have p2_6:w3.cell? ⟨w.heap.size,6,none⟩=some (Value.slice am lm cm):=(hb3.cell (p:=⟨w.heap.size,6,none⟩) (by simp;omega)).trans (by go_cell)
 have r2_0:w3.cell? ⟨w.heap.size+1,0,none⟩=some (Value.slice none 0 0):=(hb3.cell (p:=⟨w.heap.size+1,0,none⟩) (by simp;omega)).trans (by go_cell)
 have s2_0:w3.frozen? ⟨w.heap.size+1,0,none⟩=false:=(hb3.frozen (p:=⟨w.heap.size+1,0,none⟩) (by simp;omega)).trans (by go_cell)
 have r2_1:w3.cell? ⟨w.heap.size+1,1,none⟩=some (.int .i64 0):=(hb3.cell (p:=⟨w.heap.size+1,1,none⟩) (by simp;omega)).trans (by go_cell)
 have s2_1:w3.frozen? ⟨w.heap.size+1,1,none⟩=false:=(hb3.frozen (p:=⟨w.heap.size+1,1,none⟩) (by simp;omega)).trans (by go_cell)
 have r2_2:w3.cell? ⟨w.heap.size+1,2,none⟩=some (.int .i64 0):=(hb3.cell (p:=⟨w.heap.size+1,2,none⟩) (by simp;omega)).trans (by go_cell)
 have s2_2:w3.frozen? ⟨w.heap.size+1,2,none⟩=false:=(hb3.frozen (p:=⟨w.heap.size+1,2,none⟩) (by simp;omega)).trans (by go_cell)
 have r2_3:w3.cell? ⟨w.heap.size+1,3,none⟩=some (.int .i64 0):=(hb3.cell (p:=⟨w.heap.size+1,3,none⟩) (by simp;omega)).trans (by go_cell)
 have s2_3:w3.frozen? ⟨w.heap.size+1,3,none⟩=false:=(hb3.frozen (p:=⟨w.heap.size+1,3,none⟩) (by simp;omega)).trans (by go_cell)
 have r2_4:w3.cell? ⟨w.heap.size+1,4,none⟩=some (Value.slice none 0 0):=(hb3.cell (p:=⟨w.heap.size+1,4,none⟩) (by simp;omega)).trans (by go_cell)
 have s2_4:w3.frozen? ⟨w.heap.size+1,4,none⟩=false:=(hb3.frozen (p:=⟨w.heap.size+1,4,none⟩) (by simp;omega)).trans (by go_cell)
 have r2_5:w3.cell? ⟨w.heap.size+1,5,none⟩=some (Value.slice none 0 0):=(hb3.cell (p:=⟨w.heap.size+1,5,none⟩) (by simp;omega)).trans (by go_cell)
 have s2_5:w3.frozen? ⟨w.heap.size+1,5,none⟩=false:=(hb3.frozen (p:=⟨w.heap.size+1,5,none⟩) (by simp;omega)).trans (by go_cell)
 have r2_6:w3.cell? ⟨w.heap.size+1,6,none⟩=some (Value.slice none 0 0):=(hb3.cell (p:=⟨w.heap.size+1,6,none⟩) (by simp;omega)).trans (by go_cell)
 have s2_6:w3.frozen? ⟨w.heap.size+1,6,none⟩=false:=(hb3.frozen (p:=⟨w.heap.size+1,6,none⟩) (by simp;omega)).trans (by go_cell)
 have x2_0:w3.cell? ⟨w.heap.size+1+1,0,none⟩=some (Value.slice a1 c.pool.length k1):=(hb3.cell (p:=⟨w.heap.size+1+1,0,none⟩) (by simp;omega)).trans (by go_cell)
 have y2_0:w3.frozen? ⟨w.heap.size+1+1,0,none⟩=false:=(hb3.frozen (p:=⟨w.heap.size+1+1,0,none⟩) (by simp;omega)).trans (by go_cell)
 have x2_1:w3.cell? ⟨w.heap.size+1+1,1,none⟩=some (.int .i64 c.flags):=(hb3.cell (p:=⟨w.heap.size+1+1,1,none⟩) (by simp;omega)).trans (by go_cell)
 have y2_1:w3.frozen? ⟨w.heap.size+1+1,1,none⟩=false:=(hb3.frozen (p:=⟨w.heap.size+1+1,1,none⟩) (by simp;omega)).trans (by go_cell)
 have x2_2:w3.cell? ⟨w.heap.size+1+1,2,none⟩=some (.int .i64 c.name):=(hb3.cell (p:=⟨w.heap.size+1+1,2,none⟩) (by simp;omega)).trans (by go_cell)
 have y2_2:w3.frozen? ⟨w.heap.size+1+1,2,none⟩=false:=(hb3.frozen (p:=⟨w.heap.size+1+1,2,none⟩) (by simp;omega)).trans (by go_cell)
 have x2_3:w3.cell? ⟨w.heap.size+1+1,3,none⟩=some (.int .i64 c.super):=(hb3.cell (p:=⟨w.heap.size+1+1,3,none⟩) (by simp;omega)).trans (by go_cell)
 have y2_3:w3.frozen? ⟨w.heap.size+1+1,3,none⟩=false:=(hb3.frozen (p:=⟨w.heap.size+1+1,3,none⟩) (by simp;omega)).trans (by go_cell)
 have x2_4:w3.cell? ⟨w.heap.size+1+1,4,none⟩=some (Value.slice a2 c.faces.length k2):=(hb3.cell (p:=⟨w.heap.size+1+1,4,none⟩) (by simp;omega)).trans (by go_cell)
 have y2_4:w3.frozen? ⟨w.heap.size+1+1,4,none⟩=false:=(hb3.frozen (p:=⟨w.heap.size+1+1,4,none⟩) (by simp;omega)).trans (by go_cell)
 have x2_5:w3.cell? ⟨w.heap.size+1+1,5,none⟩=some (Value.slice none 0 0):=(hb3.cell (p:=⟨w.heap.size+1+1,5,none⟩) (by simp;omega)).trans (by go_cell)
 have y2_5:w3.frozen? ⟨w.heap.size+1+1,5,none⟩=false:=(hb3.frozen (p:=⟨w.heap.size+1+1,5,none⟩) (by simp;omega)).trans (by go_cell)
 have x2_6:w3.cell? ⟨w.heap.size+1+1,6,none⟩=some (Value.slice none 0 0):=(hb3.cell (p:=⟨w.heap.size+1+1,6,none⟩) (by simp;omega)).trans (by go_cell)
 have y2_6:w3.frozen? ⟨w.heap.size+1+1,6,none⟩=false:=(hb3.frozen (p:=⟨w.heap.size+1+1,6,none⟩) (by simp;omega)).trans (by go_cell)
 obtain ⟨a3,k3,rfl⟩:=own_len ho3
 have HO3_3:Hid (w3.ownsRow (w.heap.size+1+1+1) 79 3 (Value.slice a3 c.fields.length k3) c.fields.length (rowField c.fields)):=Joins.ownsRow_le ho3 (by have:=z1;have:=z2;simp;omega)
 have HO1_3:Hid (w3.ownsRow (w.heap.size+1+1+1) 40 4 (Value.slice a1 c.pool.length k1) c.pool.length (cellsC c.pool)):=own_below (ownsRow_setCell_below HO1_2.out (by simp) _) hb3
 have HO2_3:Hid (w3.ownsRow (w.heap.size+1+1+1) 3 1 (Value.slice a2 c.faces.length k2) c.faces.length (rowI c.faces)):=own_below (ownsRow_setCell_below HO2_2.out (by simp) _) hb3
 have HB3:Hid (Below w.heap.size w w3):=(HB2.out.setCell (by simp;omega) _).trans (hb3.mono (by simp;omega))
 clear ho3 hb3 p1_5 p1_6 r1_0 s1_0 r1_1 s1_1 r1_2 s1_2 r1_3 s1_3 r1_4 s1_4 r1_5 s1_5 r1_6 s1_6 x1_0 y1_0 x1_1 y1_1 x1_2 y1_2 x1_3 y1_3 x1_4 y1_4 x1_5 y1_5 x1_6 y1_6 HB2 HO1_2 HO2_2
 go_wp2_with fail
 refine (hM _ (HA.out.m.keep (HB3.out.setCell (by simp;omega) _))).mono ?_
 rintro e w4 ⟨v4,rfl,ho4,hb4⟩
 have z4:w3.heap.size≤w4.heap.size:=by have:=hb4.size;simpa using this
 have r3_0:w4.cell? ⟨w.heap.size+1,0,none⟩=some (Value.slice none 0 0):=(hb4.cell (p:=⟨w.heap.size+1,0,none⟩) (by simp;omega)).trans (by go_cell)
 have s3_0:w4.frozen? ⟨w.heap.size+1,0,none⟩=false:=(hb4.frozen (p:=⟨w.heap.size+1,0,none⟩) (by simp;omega)).trans (by go_cell)
 have r3_1:w4.cell? ⟨w.heap.size+1,1,none⟩=some (.int .i64 0):=(hb4.cell (p:=⟨w.heap.size+1,1,none⟩) (by simp;omega)).trans (by go_cell)
 have s3_1:w4.frozen? ⟨w.heap.size+1,1,none⟩=false:=(hb4.frozen (p:=⟨w.heap.size+1,1,none⟩) (by simp;omega)).trans (by go_cell)
 have r3_2:w4.cell? ⟨w.heap.size+1,2,none⟩=some (.int .i64 0):=(hb4.cell (p:=⟨w.heap.size+1,2,none⟩) (by simp;omega)).trans (by go_cell)
 have s3_2:w4.frozen? ⟨w.heap.size+1,2,none⟩=false:=(hb4.frozen (p:=⟨w.heap.size+1,2,none⟩) (by simp;omega)).trans (by go_cell)
 have r3_3:w4.cell? ⟨w.heap.size+1,3,none⟩=some (.int .i64 0):=(hb4.cell (p:=⟨w.heap.size+1,3,none⟩) (by simp;omega)).trans (by go_cell)
 have s3_3:w4.frozen? ⟨w.heap.size+1,3,none⟩=false:=(hb4.frozen (p:=⟨w.heap.size+1,3,none⟩) (by simp;omega)).trans (by go_cell)
 have r3_4:w4.cell? ⟨w.heap.size+1,4,none⟩=some (Value.slice none 0 0):=(hb4.cell (p:=⟨w.heap.size+1,4,none⟩) (by simp;omega)).trans (by go_cell)
 have s3_4:w4.frozen? ⟨w.heap.size+1,4,none⟩=false:=(hb4.frozen (p:=⟨w.heap.size+1,4,none⟩) (by simp;omega)).trans (by go_cell)
 have r3_5:w4.cell? ⟨w.heap.size+1,5,none⟩=some (Value.slice none 0 0):=(hb4.cell (p:=⟨w.heap.size+1,5,none⟩) (by simp;omega)).trans (by go_cell)
 have s3_5:w4.frozen? ⟨w.heap.size+1,5,none⟩=false:=(hb4.frozen (p:=⟨w.heap.size+1,5,none⟩) (by simp;omega)).trans (by go_cell)
 have r3_6:w4.cell? ⟨w.heap.size+1,6,none⟩=some (Value.slice none 0 0):=(hb4.cell (p:=⟨w.heap.size+1,6,none⟩) (by simp;omega)).trans (by go_cell)
 have s3_6:w4.frozen? ⟨w.heap.size+1,6,none⟩=false:=(hb4.frozen (p:=⟨w.heap.size+1,6,none⟩) (by simp;omega)).trans (by go_cell)
 have x3_0:w4.cell? ⟨w.heap.size+1+1,0,none⟩=some (Value.slice a1 c.pool.length k1):=(hb4.cell (p:=⟨w.heap.size+1+1,0,none⟩) (by simp;omega)).trans (by go_cell)
 have y3_0:w4.frozen? ⟨w.heap.size+1+1,0,none⟩=false:=(hb4.frozen (p:=⟨w.heap.size+1+1,0,none⟩) (by simp;omega)).trans (by go_cell)
 have x3_1:w4.cell? ⟨w.heap.size+1+1,1,none⟩=some (.int .i64 c.flags):=(hb4.cell (p:=⟨w.heap.size+1+1,1,none⟩) (by simp;omega)).trans (by go_cell)
 have y3_1:w4.frozen? ⟨w.heap.size+1+1,1,none⟩=false:=(hb4.frozen (p:=⟨w.heap.size+1+1,1,none⟩) (by simp;omega)).trans (by go_cell)
 have x3_2:w4.cell? ⟨w.heap.size+1+1,2,none⟩=some (.int .i64 c.name):=(hb4.cell (p:=⟨w.heap.size+1+1,2,none⟩) (by simp;omega)).trans (by go_cell)
 have y3_2:w4.frozen? ⟨w.heap.size+1+1,2,none⟩=false:=(hb4.frozen (p:=⟨w.heap.size+1+1,2,none⟩) (by simp;omega)).trans (by go_cell)
 have x3_3:w4.cell? ⟨w.heap.size+1+1,3,none⟩=some (.int .i64 c.super):=(hb4.cell (p:=⟨w.heap.size+1+1,3,none⟩) (by simp;omega)).trans (by go_cell)
 have y3_3:w4.frozen? ⟨w.heap.size+1+1,3,none⟩=false:=(hb4.frozen (p:=⟨w.heap.size+1+1,3,none⟩) (by simp;omega)).trans (by go_cell)
 have x3_4:w4.cell? ⟨w.heap.size+1+1,4,none⟩=some (Value.slice a2 c.faces.length k2):=(hb4.cell (p:=⟨w.heap.size+1+1,4,none⟩) (by simp;omega)).trans (by go_cell)
 have y3_4:w4.frozen? ⟨w.heap.size+1+1,4,none⟩=false:=(hb4.frozen (p:=⟨w.heap.size+1+1,4,none⟩) (by simp;omega)).trans (by go_cell)
 have x3_5:w4.cell? ⟨w.heap.size+1+1,5,none⟩=some (Value.slice a3 c.fields.length k3):=(hb4.cell (p:=⟨w.heap.size+1+1,5,none⟩) (by simp;omega)).trans (by go_cell)
 have y3_5:w4.frozen? ⟨w.heap.size+1+1,5,none⟩=false:=(hb4.frozen (p:=⟨w.heap.size+1+1,5,none⟩) (by simp;omega)).trans (by go_cell)
 have x3_6:w4.cell? ⟨w.heap.size+1+1,6,none⟩=some (Value.slice none 0 0):=(hb4.cell (p:=⟨w.heap.size+1+1,6,none⟩) (by simp;omega)).trans (by go_cell)
 have y3_6:w4.frozen? ⟨w.heap.size+1+1,6,none⟩=false:=(hb4.frozen (p:=⟨w.heap.size+1+1,6,none⟩) (by simp;omega)).trans (by go_cell)
 obtain ⟨a4,k4,rfl⟩:=ho4.len
 have HO4_4:Hid (MethodsW w4 (w.heap.size+1+1+1) (Value.slice a4 c.methods.length k4) c.methods):=ho4.mono (by have:=z1;have:=z2;have:=z3;simp;omega)
 have HO1_4:Hid (w4.ownsRow (w.heap.size+1+1+1) 40 4 (Value.slice a1 c.pool.length k1) c.pool.length (cellsC c.pool)):=own_below (ownsRow_setCell_below HO1_3.out (by simp) _) hb4
 have HO2_4:Hid (w4.ownsRow (w.heap.size+1+1+1) 3 1 (Value.slice a2 c.faces.length k2) c.faces.length (rowI c.faces)):=own_below (ownsRow_setCell_below HO2_3.out (by simp) _) hb4
 have HO3_4:Hid (w4.ownsRow (w.heap.size+1+1+1) 79 3 (Value.slice a3 c.fields.length k3) c.fields.length (rowField c.fields)):=own_below (ownsRow_setCell_below HO3_3.out (by simp) _) hb4
 have HB4:Hid (Below w.heap.size w w4):=(HB3.out.setCell (by simp;omega) _).trans (hb4.mono (by simp;omega))
 clear ho4 hb4 p2_6 r2_0 s2_0 r2_1 s2_1 r2_2 s2_2 r2_3 s2_3 r2_4 s2_4 r2_5 s2_5 r2_6 s2_6 x2_0 y2_0 x2_1 y2_1 x2_2 y2_2 x2_3 y2_3 x2_4 y2_4 x2_5 y2_5 x2_6 y2_6 HB3 HO1_3 HO2_3 HO3_3
 go_wp2
 have g1:=HO1_4.out
 rw [show (Value.slice a1 c.pool.length k1)=.slice a1 lp k1 by rw [e1]] at g1
 have g2:=HO2_4.out
 rw [show (Value.slice a2 c.faces.length k2)=.slice a2 li k2 by rw [e2]] at g2
 have g3:=HO3_4.out
 rw [show (Value.slice a3 c.fields.length k3)=.slice a3 lf k3 by rw [e3]] at g3
 have g4:=HO4_4.out
 rw [show (Value.slice a4 c.methods.length k4)=.slice a4 lm k4 by rw [e4]] at g4
 have g5:ClassW w4 (w.heap.size+1+1+1) (.slice a1 lp k1) (.slice a2 li k2) (.slice a3 lf k3) (.slice a4 lm k4) c:=⟨g1,g2,g3,g4⟩
 refine bodyPost_ret (v:=.agg #[.slice a1 lp k1,.int .i64 c.flags,.int .i64 c.name,.int .i64 c.super,.slice a2 li k2,.slice a3 lf k3,.slice a4 lm k4]) (by simp [results,Tryz.results7,go_sem, *]) rfl ⟨.slice a1 lp k1,.slice a2 li k2,.slice a3 lf k3,.slice a4 lm k4,rfl, ?_, ?_⟩
 ·exact ClassW.mono (((((((((g5.set (by simp) _).set (by simp) _).set (by simp) _).set (by simp) _).set (by simp) _).set (by simp) _).set (by simp) _).set (by simp) _)) (by omega)
 ·exact (((((((HB4.out.setCell (by simp;omega) _).setCell (by simp) _).setCell (by simp) _).setCell (by simp) _).setCell (by simp) _).setCell (by simp) _).setCell (by simp) _).setCell (by simp) _
open Go.ChangeShapes Go.WideShapes
set_option maxHeartbeats 400000
theorem list_of {α:Type} {P:Nat→α→Prop}:∀ (n:Nat),(∀ i,i<n→∃ a,P i a)→∃ l:List α,l.length=n∧∀ k (h:k<l.length),P k l[k]
 | 0,_=>⟨[],rfl,fun k h=>by simp at h⟩
 | n+1,h=>by
  obtain ⟨l,hl,hp⟩:=list_of n (fun i hi=>h i (by omega))
  obtain ⟨a,ha⟩:=h n (by omega)
  refine ⟨l++[a],by simp [hl],fun k hk=>?_⟩
  by_cases hkn:k<n
  ·rw [List.getElem_append_left (by omega)];exact hp k (by omega)
  ·have:k=l.length:=by simp at hk;omega
   subst this
   rw [List.getElem_append_right (Nat.le_refl _)]
   simp;rw [hl];exact ha
theorem row_of {H:Type} {enc:TypeId × Value→H} {W:World} {fuel:Nat} {ao:Option Addr} {len cap T E n:Nat} {x:DataW H × List MemPlace} (hT:Tryz.prog.underlying T=some (.slice E)) (hn:Tryz.prog.cellsOf E=n) (hpos:0<n)
  (h:DataW.trod enc Tryz.prog W 0 (fun _=>true) true fuel T [.slice ao len cap]=some x) :
  len≤maxLen∧(len=0∨∃ b off,ao=some ⟨b,off,none⟩∧b<W.heap.size∧∀ i,i<len→∃ cs' n' y,(∀ j,j<n→W.cell? ⟨b,off+i*n+j,none⟩=cs'[j]?)∧DataW.trod enc Tryz.prog W 0 (fun _=>true) true n' E cs'=some y):=by
 rcases Go.Deep.open_slice hT h with ⟨hcs,_⟩|⟨a,len',cap',m,n',D,Pl,hcs,_,hl,hm,hmm,_,hx⟩
 ·simp at hcs
  obtain ⟨rfl,rfl,rfl⟩:=hcs
  exact ⟨by unfold maxLen;omega,.inl rfl⟩
 ·simp at hcs
  obtain ⟨rfl,rfl,rfl⟩:=hcs
  refine ⟨by omega, ?_⟩
  by_cases h0:len=0
  ·exact .inl h0
  ·rw [hn] at hx
   simp only [if_true] at hmm
   obtain ⟨b,off,spot⟩:=a
   have key:∀ i,i<len→∃ cs' y,cs'.length=n∧(∀ j,j<n→W.cell? (((⟨b,off,spot⟩:Addr).add (i*n)).add j)=cs'[j]?)∧DataW.trod enc Tryz.prog W 0 (fun _=>true) true n' E cs'=some y:=by
    intro i hi
    obtain ⟨cs',h1,h2⟩:=hx i (by omega)
    obtain ⟨_,hlen,hc⟩:=World.cells?_some h1
    exact ⟨cs',_,hlen,fun j hj=>hc j (by omega),h2⟩
   have hspot:spot=none:=by
    obtain ⟨cs',y,hlen,hc,_⟩:=key 0 (by omega)
    have h1:=hc 0 hpos
    rw [List.getElem?_eq_getElem (by omega)] at h1
    have:=World.cell?_spot h1
    simpa [Addr.add] using this
   subst hspot
   have hplain:∀ o i,(⟨b,o,none⟩:Addr).add i=⟨b,o+i,none⟩:=fun o i=>by unfold Addr.add;split<;>simp_all
   refine .inr ⟨b,off,rfl, ?_,fun i hi=>?_⟩
   ·obtain ⟨cs',y,hlen,hc,_⟩:=key 0 (by omega)
    have h1:=hc 0 hpos
    rw [List.getElem?_eq_getElem (by omega),hplain,hplain] at h1
    exact World.block_lt_of_cell? W _ h1
   ·obtain ⟨cs',y,hlen,hc,ht⟩:=key i hi
    refine ⟨cs',n',y,fun j hj=>?_,ht⟩
    have:=hc j hj
    rwa [hplain,hplain] at this
theorem at_int {H:Type} {enc:TypeId × Value→H} {W:World} {n o:Nat} {cs:List Value} {y:Option (DataW H × List MemPlace)} {i:Nat} {xs:List (DataW H × List MemPlace)} (hi:i<xs.length)
  (h:DataW.trod enc Tryz.prog W 0 (fun _=>true) true n 3 ((cs.drop o).take (Tryz.prog.cellsOf 3))=xs[i]?):∃ p,cs[o]? = some (.int .i64 p):=by
 rw [List.getElem?_eq_getElem hi] at h
 obtain ⟨p,q,_,_⟩:=DataW.trod_int Tryz.underlying3 h
 rw [show Tryz.prog.cellsOf 3=1 by kernel_rfl] at q
 exact ⟨p,by have:=congrArg (·[0]?) q;simpa [List.getElem?_take,List.getElem?_drop] using this⟩
theorem at_str {H:Type} {enc:TypeId × Value→H} {W:World} {n o:Nat} {cs:List Value} {i:Nat} {xs:List (DataW H × List MemPlace)} (hi:i<xs.length)
  (h:DataW.trod enc Tryz.prog W 0 (fun _=>true) true n 9 ((cs.drop o).take (Tryz.prog.cellsOf 9))=xs[i]?):∃ p,cs[o]? = some (.string p)∧p.size≤maxLen:=by
 rw [List.getElem?_eq_getElem hi] at h
 obtain ⟨p,q,_,hz⟩:=DataW.trod_string Tryz.underlying9 h
 rw [show Tryz.prog.cellsOf 9=1 by kernel_rfl] at q
 exact ⟨p,by have:=congrArg (·[0]?) q;simpa [List.getElem?_take,List.getElem?_drop] using this,hz⟩
theorem at_slice {H:Type} {enc:TypeId × Value→H} {W:World} {n o T E:Nat} {cs:List Value} {i:Nat} {xs:List (DataW H × List MemPlace)} (hT:Tryz.prog.underlying T=some (.slice E)) (hc:Tryz.prog.cellsOf T=1) (hi:i<xs.length)
  (h:DataW.trod enc Tryz.prog W 0 (fun _=>true) true n T ((cs.drop o).take (Tryz.prog.cellsOf T))=xs[i]?):∃ a l c y,cs[o]? = some (.slice a l c)∧DataW.trod enc Tryz.prog W 0 (fun _=>true) true n T [.slice a l c]=some y:=by
 rw [List.getElem?_eq_getElem hi,hc] at h
 have hq:∃ a l c,(cs.drop o).take 1=[.slice a l c]:=by
  rcases Go.Deep.open_slice hT h with ⟨hcs,_⟩|⟨a,len',cap',m,n',D,Pl,hcs,_⟩
  ·exact ⟨_,_,_,hcs⟩
  ·exact ⟨_,_,_,hcs⟩
 obtain ⟨a,l,c,q⟩:=hq
 rw [q] at h
 exact ⟨a,l,c,_,by have:=congrArg (·[0]?) q;simpa [List.getElem?_take,List.getElem?_drop] using this,h⟩
theorem kinds_of {H:Type} {enc:TypeId × Value→H} {W:World} {fuel:Nat} {ao:Option Addr} {len cap:Nat} {x:DataW H × List MemPlace}
  (h:DataW.trod enc Tryz.prog W 0 (fun _=>true) true fuel 153 [.slice ao len cap]=some x):len≤maxLen∧∃ ts,ArgKind W ao len ts:=by
 obtain ⟨hm,h0|⟨b,off,rfl,hb,hx⟩⟩:=row_of Tryz.underlying153 (show Tryz.prog.cellsOf 255=2 by kernel_rfl) (by decide) h
 ·exact ⟨hm,[],by simp [h0],.inl h0⟩
 ·refine ⟨hm, ?_⟩
  have key:∀ i,i<len→∃ t:MKind,W.cell? ⟨b,off+i*2,none⟩=some (.int .i64 t.tag)∧W.cell? ⟨b,off+i*2+1,none⟩=some (.int .i64 t.cls):=by
   intro i hi
   obtain ⟨cs,n',y,hc,ht⟩:=hx i hi
   obtain ⟨xs,n2,_,_,_,hl,hf⟩:=DataW.trod_struct Tryz.underlying255 ht
   simp at hl
   obtain ⟨p0,g0⟩:=at_int (y:=none) (by omega) (hf 0 _ rfl)
   obtain ⟨p1,g1⟩:=at_int (y:=none) (by omega) (hf 1 _ rfl)
   exact ⟨⟨p0,p1⟩,(hc 0 (by omega)).trans g0,(hc 1 (by omega)).trans g1⟩
  obtain ⟨ts,hl,hp⟩:=list_of len key
  exact ⟨ts,hl,.inr ⟨b,off,rfl,hb,hp⟩⟩
theorem traps_of {H:Type} {enc:TypeId × Value→H} {W:World} {fuel:Nat} {ao:Option Addr} {len cap:Nat} {x:DataW H × List MemPlace}
  (h:DataW.trod enc Tryz.prog W 0 (fun _=>true) true fuel 67 [.slice ao len cap]=some x):len≤maxLen∧∃ ts,ArgTrap W ao len ts:=by
 obtain ⟨hm,h0|⟨b,off,rfl,hb,hx⟩⟩:=row_of Tryz.underlying67 (show Tryz.prog.cellsOf 179=4 by kernel_rfl) (by decide) h
 ·exact ⟨hm,[],by simp [h0],.inl h0⟩
 ·refine ⟨hm, ?_⟩
  have key:∀ i,i<len→∃ t:MTrap,W.cell? ⟨b,off+i*4,none⟩=some (.int .i64 t.from_)∧W.cell? ⟨b,off+i*4+1,none⟩=some (.int .i64 t.to_)∧W.cell? ⟨b,off+i*4+2,none⟩=some (.int .i64 t.at_)∧W.cell? ⟨b,off+i*4+3,none⟩=some (.int .i64 t.cls):=by
   intro i hi
   obtain ⟨cs,n',y,hc,ht⟩:=hx i hi
   obtain ⟨xs,n2,_,_,_,hl,hf⟩:=DataW.trod_struct Tryz.underlying179 ht
   simp at hl
   obtain ⟨p0,g0⟩:=at_int (y:=none) (by omega) (hf 0 _ rfl)
   obtain ⟨p1,g1⟩:=at_int (y:=none) (by omega) (hf 1 _ rfl)
   obtain ⟨p2,g2⟩:=at_int (y:=none) (by omega) (hf 2 _ rfl)
   obtain ⟨p3,g3⟩:=at_int (y:=none) (by omega) (hf 3 _ rfl)
   exact ⟨⟨p0,p1,p2,p3⟩,(hc 0 (by omega)).trans g0,(hc 1 (by omega)).trans g1,(hc 2 (by omega)).trans g2,(hc 3 (by omega)).trans g3⟩
  obtain ⟨ts,hl,hp⟩:=list_of len key
  exact ⟨ts,hl,.inr ⟨b,off,rfl,hb,hp⟩⟩
theorem fields_of {H:Type} {enc:TypeId × Value→H} {W:World} {fuel:Nat} {ao:Option Addr} {len cap:Nat} {x:DataW H × List MemPlace}
  (h:DataW.trod enc Tryz.prog W 0 (fun _=>true) true fuel 24 [.slice ao len cap]=some x):len≤maxLen∧∃ ts,ArgField W ao len ts:=by
 obtain ⟨hm,h0|⟨b,off,rfl,hb,hx⟩⟩:=row_of Tryz.underlying24 (show Tryz.prog.cellsOf 81=3 by kernel_rfl) (by decide) h
 ·exact ⟨hm,[],by simp [h0],.inl h0⟩
 ·refine ⟨hm, ?_⟩
  have key:∀ i,i<len→∃ t:MField,W.cell? ⟨b,off+i*3,none⟩=some (.int .i64 t.flags)∧W.cell? ⟨b,off+i*3+1,none⟩=some (.int .i64 t.name)∧W.cell? ⟨b,off+i*3+2,none⟩=some (.int .i64 t.typ):=by
   intro i hi
   obtain ⟨cs,n',y,hc,ht⟩:=hx i hi
   obtain ⟨xs,n2,_,_,_,hl,hf⟩:=DataW.trod_struct Tryz.underlying81 ht
   simp at hl
   obtain ⟨p0,g0⟩:=at_int (y:=none) (by omega) (hf 0 _ rfl)
   obtain ⟨p1,g1⟩:=at_int (y:=none) (by omega) (hf 1 _ rfl)
   obtain ⟨p2,g2⟩:=at_int (y:=none) (by omega) (hf 2 _ rfl)
   exact ⟨⟨p0,p1,p2⟩,(hc 0 (by omega)).trans g0,(hc 1 (by omega)).trans g1,(hc 2 (by omega)).trans g2⟩
  obtain ⟨ts,hl,hp⟩:=list_of len key
  exact ⟨ts,hl,.inr ⟨b,off,rfl,hb,hp⟩⟩
theorem ints_of {H:Type} {enc:TypeId × Value→H} {W:World} {fuel:Nat} {ao:Option Addr} {len cap:Nat} {x:DataW H × List MemPlace}
  (h:DataW.trod enc Tryz.prog W 0 (fun _=>true) true fuel 23 [.slice ao len cap]=some x):len≤maxLen∧∃ ts,ArgI W ao len ts:=by
 obtain ⟨hm,h0|⟨b,off,rfl,hb,hx⟩⟩:=row_of Tryz.underlying23 (show Tryz.prog.cellsOf 3=1 by kernel_rfl) (by decide) h
 ·exact ⟨hm,[],by simp [h0],.inl h0⟩
 ·refine ⟨hm, ?_⟩
  have key:∀ i,i<len→∃ t:Int,W.cell? ⟨b,off+i,none⟩=some (.int .i64 t):=by
   intro i hi
   obtain ⟨cs,n',y,hc,ht⟩:=hx i hi
   obtain ⟨p,q,_,_⟩:=DataW.trod_int Tryz.underlying3 ht
   have:=hc 0 (by omega)
   rw [q] at this
   exact ⟨p,by simpa using this⟩
  obtain ⟨ts,hl,hp⟩:=list_of len key
  exact ⟨ts,hl,.inr ⟨b,off,rfl,hb,hp⟩⟩
theorem consts_of {H:Type} {enc:TypeId × Value→H} {W:World} {fuel:Nat} {ao:Option Addr} {len cap:Nat} {x:DataW H × List MemPlace}
  (h:DataW.trod enc Tryz.prog W 0 (fun _=>true) true fuel 22 [.slice ao len cap]=some x):len≤maxLen∧∃ ts,ArgC W ao len ts:=by
 obtain ⟨hm,h0|⟨b,off,rfl,hb,hx⟩⟩:=row_of Tryz.underlying22 (show Tryz.prog.cellsOf 29=4 by kernel_rfl) (by decide) h
 ·exact ⟨hm,[],by simp [h0],fun t ht=>by simp at ht,.inl h0⟩
 ·refine ⟨hm, ?_⟩
  have key:∀ i,i<len→∃ t:C4,(W.cell? ⟨b,off+i*4,none⟩=some (.int .i64 t.kind)∧W.cell? ⟨b,off+i*4+1,none⟩=some (.string t.text)∧W.cell? ⟨b,off+i*4+2,none⟩=some (.int .i64 t.a)∧W.cell? ⟨b,off+i*4+3,none⟩=some (.int .i64 t.b))∧t.text.size≤maxLen:=by
   intro i hi
   obtain ⟨cs,n',y,hc,ht⟩:=hx i hi
   obtain ⟨xs,n2,_,_,_,hl,hf⟩:=DataW.trod_struct Tryz.underlying29 ht
   simp at hl
   obtain ⟨p0,g0⟩:=at_int (y:=none) (by omega) (hf 0 _ rfl)
   obtain ⟨p1,g1,hz⟩:=at_str (by omega) (hf 1 _ rfl)
   obtain ⟨p2,g2⟩:=at_int (y:=none) (by omega) (hf 2 _ rfl)
   obtain ⟨p3,g3⟩:=at_int (y:=none) (by omega) (hf 3 _ rfl)
   exact ⟨⟨p0,p1,p2,p3⟩,⟨(hc 0 (by omega)).trans g0,(hc 1 (by omega)).trans g1,(hc 2 (by omega)).trans g2,(hc 3 (by omega)).trans g3⟩,hz⟩
  obtain ⟨ts,hl,hp⟩:=list_of len key
  refine ⟨ts,hl,fun t ht=>?_,.inr ⟨b,off,rfl,hb,fun k hk=>(hp k hk).1⟩⟩
  obtain ⟨k,hk,rfl⟩:=List.getElem_of_mem ht
  exact (hp k hk).2
theorem frames_of {H:Type} {enc:TypeId × Value→H} {W:World} {fuel:Nat} {ao:Option Addr} {len cap:Nat} {x:DataW H × List MemPlace}
  (h:DataW.trod enc Tryz.prog W 0 (fun _=>true) true fuel 68 [.slice ao len cap]=some x):len≤maxLen∧∃ fs,ArgFS W ao len fs:=by
 obtain ⟨hm,h0|⟨b,off,rfl,hb,hx⟩⟩:=row_of Tryz.underlying68 (show Tryz.prog.cellsOf 155=3 by kernel_rfl) (by decide) h
 ·exact ⟨hm,[],by simp [h0],.inl h0⟩
 ·refine ⟨hm, ?_⟩
  have key:∀ i,i<len→∃ f:MFrame,∃ x:SFrame,W.cell? ⟨b,off+i*3,none⟩=some (.int .i64 x.at_)∧W.cell? ⟨b,off+i*3+1,none⟩=some x.l∧W.cell? ⟨b,off+i*3+2,none⟩=some x.s∧ArgF W x f:=by
   intro i hi
   obtain ⟨cs,n',y,hc,ht⟩:=hx i hi
   obtain ⟨xs,n2,_,_,_,hl,hf⟩:=DataW.trod_struct Tryz.underlying155 ht
   simp at hl
   obtain ⟨p0,g0⟩:=at_int (y:=none) (by omega) (hf 0 _ rfl)
   obtain ⟨a1,l1,c1,y1,g1,t1⟩:=at_slice Tryz.underlying153 (by kernel_rfl) (by omega) (hf 1 _ rfl)
   obtain ⟨a2,l2,c2,y2,g2,t2⟩:=at_slice Tryz.underlying153 (by kernel_rfl) (by omega) (hf 2 _ rfl)
   obtain ⟨m1,k1,r1⟩:=kinds_of t1
   obtain ⟨m2,k2,r2⟩:=kinds_of t2
   exact ⟨⟨p0,k1,k2⟩,⟨p0,.slice a1 l1 c1,.slice a2 l2 c2⟩,(hc 0 (by omega)).trans g0,(hc 1 (by omega)).trans g1,(hc 2 (by omega)).trans g2,rfl,⟨a1,l1,c1,rfl,r1⟩,⟨a2,l2,c2,rfl,r2⟩,by rw [r1.1];exact m1,by rw [r2.1];exact m2⟩
  obtain ⟨ts,hl,hp⟩:=list_of len key
  exact ⟨ts,hl,.inr ⟨b,off,rfl,hb,hp⟩⟩
theorem methods_of {H:Type} {enc:TypeId × Value→H} {W:World} {fuel:Nat} {ao:Option Addr} {len cap:Nat} {x:DataW H × List MemPlace}
  (h:DataW.trod enc Tryz.prog W 0 (fun _=>true) true fuel 25 [.slice ao len cap]=some x):len≤maxLen∧∃ ms,ArgMS W ao len ms:=by
 obtain ⟨hm,h0|⟨b,off,rfl,hb,hx⟩⟩:=row_of Tryz.underlying25 (show Tryz.prog.cellsOf 70=8 by kernel_rfl) (by decide) h
 ·exact ⟨hm,[],by simp [h0],.inl h0⟩
 ·refine ⟨hm, ?_⟩
  have key:∀ i,i<len→∃ m:MMethod,∃ a l c a' l' c',W.cell? ⟨b,off+i*8,none⟩=some (.int .i64 m.flags)∧W.cell? ⟨b,off+i*8+1,none⟩=some (.int .i64 m.name)∧W.cell? ⟨b,off+i*8+2,none⟩=some (.int .i64 m.desc)∧W.cell? ⟨b,off+i*8+3,none⟩=some (.int .i64 m.deep)∧W.cell? ⟨b,off+i*8+4,none⟩=some (.int .i64 m.locals)∧W.cell? ⟨b,off+i*8+5,none⟩=some (.string m.code)∧W.cell? ⟨b,off+i*8+6,none⟩=some (.slice a l c)∧W.cell? ⟨b,off+i*8+7,none⟩=some (.slice a' l' c')∧ArgM W a l a' l' m:=by
   intro i hi
   obtain ⟨cs,n',y,hc,ht⟩:=hx i hi
   obtain ⟨xs,n2,_,_,_,hl,hf⟩:=DataW.trod_struct Tryz.underlying70 ht
   simp at hl
   obtain ⟨p0,g0⟩:=at_int (y:=none) (by omega) (hf 0 _ rfl)
   obtain ⟨p1,g1⟩:=at_int (y:=none) (by omega) (hf 1 _ rfl)
   obtain ⟨p2,g2⟩:=at_int (y:=none) (by omega) (hf 2 _ rfl)
   obtain ⟨p3,g3⟩:=at_int (y:=none) (by omega) (hf 3 _ rfl)
   obtain ⟨p4,g4⟩:=at_int (y:=none) (by omega) (hf 4 _ rfl)
   obtain ⟨p5,g5,hz⟩:=at_str (by omega) (hf 5 _ rfl)
   obtain ⟨a1,l1,c1,y1,g6,t1⟩:=at_slice Tryz.underlying67 (by kernel_rfl) (by omega) (hf 6 _ rfl)
   obtain ⟨a2,l2,c2,y2,g7,t2⟩:=at_slice Tryz.underlying68 (by kernel_rfl) (by omega) (hf 7 _ rfl)
   obtain ⟨m1,k1,r1⟩:=traps_of t1
   obtain ⟨m2,k2,r2⟩:=frames_of t2
   exact ⟨⟨p0,p1,p2,p3,p4,p5,k1,k2⟩,a1,l1,c1,a2,l2,c2,(hc 0 (by omega)).trans g0,(hc 1 (by omega)).trans g1,(hc 2 (by omega)).trans g2,(hc 3 (by omega)).trans g3,(hc 4 (by omega)).trans g4,(hc 5 (by omega)).trans g5,(hc 6 (by omega)).trans g6,(hc 7 (by omega)).trans g7,r1,r2,hz,m1,m2⟩
  obtain ⟨ts,hl,hp⟩:=list_of len key
  exact ⟨ts,hl,.inr ⟨b,off,rfl,hb,hp⟩⟩
theorem list7 {cs:List Value} {a0 a1 a2 a3 a4 a5 a6:Value} (hl:cs.length=7) (g0:cs[0]? = some a0) (g1:cs[1]? = some a1) (g2:cs[2]? = some a2) (g3:cs[3]? = some a3) (g4:cs[4]? = some a4) (g5:cs[5]? = some a5) (g6:cs[6]? = some a6):cs=[a0,a1,a2,a3,a4,a5,a6]:=by
 match cs,hl with
 | [q0,q1,q2,q3,q4,q5,q6],_=>
  simp at g0 g1 g2 g3 g4 g5 g6
  rw [g0,g1,g2,g3,g4,g5,g6]
theorem class_of {H:Type} {enc:TypeId × Value→H} {W:World} {fuel:Nat} {cs:List Value} {x:DataW H × List MemPlace}
  (h:DataW.trod enc Tryz.prog W 0 (fun _=>true) true fuel 27 cs=some x) :
  ∃ (c:MClass) (ap:Option Addr) (lp cp:Nat) (ai:Option Addr) (li ci:Nat) (af:Option Addr) (lf cf:Nat) (am:Option Addr) (lm cm:Nat),cs=[.slice ap lp cp,.int .i64 c.flags,.int .i64 c.name,.int .i64 c.super,.slice ai li ci,.slice af lf cf,.slice am lm cm]∧ArgCl W ap lp ai li af lf am lm c:=by
 obtain ⟨xs,n2,_,_,hlen,hl,hf⟩:=DataW.trod_struct Tryz.underlying27 h
 simp at hl
 rw [show Tryz.prog.cellsOf 27=7 by kernel_rfl] at hlen
 obtain ⟨a0,l0,c0,y0,g0,t0⟩:=at_slice Tryz.underlying22 (by kernel_rfl) (by omega) (hf 0 _ rfl)
 obtain ⟨p1,g1⟩:=at_int (y:=none) (by omega) (hf 1 _ rfl)
 obtain ⟨p2,g2⟩:=at_int (y:=none) (by omega) (hf 2 _ rfl)
 obtain ⟨p3,g3⟩:=at_int (y:=none) (by omega) (hf 3 _ rfl)
 obtain ⟨a4,l4,c4,y4,g4,t4⟩:=at_slice Tryz.underlying23 (by kernel_rfl) (by omega) (hf 4 _ rfl)
 obtain ⟨a5,l5,c5,y5,g5,t5⟩:=at_slice Tryz.underlying24 (by kernel_rfl) (by omega) (hf 5 _ rfl)
 obtain ⟨a6,l6,c6,y6,g6,t6⟩:=at_slice Tryz.underlying25 (by kernel_rfl) (by omega) (hf 6 _ rfl)
 obtain ⟨m0,k0,r0⟩:=consts_of t0
 obtain ⟨m4,k4,r4⟩:=ints_of t4
 obtain ⟨m5,k5,r5⟩:=fields_of t5
 obtain ⟨m6,k6,r6⟩:=methods_of t6
 refine ⟨⟨k0,p1,p2,p3,k4,k5,k6⟩,a0,l0,c0,a4,l4,c4,a5,l5,c5,a6,l6,c6, ?_,r0,r4,r5,r6,m0,m4,m5,m6⟩
 exact list7 hlen g0 g1 g2 g3 g4 g5 g6
namespace Mx
def figB (c:UInt8):Bool:=decide (48≤c.toNat) && decide (c.toNat≤57)
def letB (c:UInt8):Bool:=(decide (97≤c.toNat) && decide (c.toNat≤122)) || (decide (65≤c.toNat) && decide (c.toNat≤90))
def okAt (k:Nat) (c:UInt8):Bool:=letB c || (decide (k≠0) && figB c)
def good (l:List UInt8) (k:Nat):Bool:=(List.range k).all fun j=>okAt j (l.getD j 0)
def nameB (l:List UInt8):Bool:=decide (1≤l.length) && decide (l.length≤8) && good l l.length
theorem figB_iff (c:UInt8):figB c=true↔48≤(c.toNat:Int)∧(c.toNat:Int)≤57:=by
 simp [figB];omega
theorem letB_iff (c:UInt8):letB c=true↔(97≤(c.toNat:Int)∧(c.toNat:Int)≤122)∨(65≤(c.toNat:Int)∧(c.toNat:Int)≤90):=by
 simp [letB];omega
theorem fig_let {c:UInt8} (h:letB c=true):figB c=false:=by
 cases hf:figB c
 ·rfl
 ·rw [figB_iff] at hf;rw [letB_iff] at h;omega
theorem good_iff (l:List UInt8) (k:Nat):good l k=true↔∀ j,j<k→okAt j (l.getD j 0)=true:=by
 simp [good,List.all_eq_true]
theorem good_zero (l:List UInt8):good l 0=true:=by simp [good]
theorem good_succ (l:List UInt8) (k:Nat):good l (k+1)=(good l k && okAt k (l.getD k 0)):=by
 simp [good,List.range_succ]
theorem name_yes {l:List UInt8} (h1:1≤l.length) (h2:l.length≤8) (hg:good l l.length=true):nameB l=true:=by
 simp [nameB,h2,hg];omega
theorem name_none {l:List UInt8} (h:l.length<1):nameB l=false:=by
 simp [nameB];omega
theorem name_long {l:List UInt8} (h:8<l.length):nameB l=false:=by
 simp [nameB];omega
theorem name_bad {l:List UInt8} {k:Nat} (hk:k<l.length) (h:okAt k (l.getD k 0)=false):nameB l=false:=by
 have:good l l.length=false:=by
  cases hg:good l l.length
  ·rfl
  ·rw [good_iff] at hg;have:=hg k hk;rw [h] at this;cases this
 simp [nameB,this]
theorem mxByte (s:ByteArray) (k:Nat) (h:k<s.size):s.data.toList.getD k 0=s[k]:=by
 rw [List.getD_eq_getElem?_getD,List.getElem?_eq_getElem (by simpa using h)];rfl
theorem len_of (s:ByteArray):s.data.toList.length=s.size:=by simp
theorem index_cases (l:List UInt8) (c:UInt8) :
  (Lib.indexByte l c = -1∧∀ j,j<l.length→l.getD j 0≠c)∨∃ k:Nat,k<l.length∧Lib.indexByte l c=k∧l.getD k 0=c∧∀ j,j<k→l.getD j 0≠c:=by
 induction l with
 | nil=>left;exact ⟨rfl,fun j hj=>by simp at hj⟩
 | cons b l ih=>
  by_cases hb:b=c
  ·right
   refine ⟨0,by simp, ?_,by simpa using hb,fun j hj=>by omega⟩
   simp [Lib.indexByte,hb]
  ·have hb':(b==c)=false:=by simpa using hb
   rcases ih with ⟨h1,h2⟩|⟨k,hk,h1,h2,h3⟩
   ·left
    refine ⟨by simp [Lib.indexByte,hb',h1],fun j hj=>?_⟩
    cases j with
    | zero=>simpa using hb
    | succ j=>simpa using h2 j (by simpa using hj)
   ·right
    refine ⟨k+1,by simpa using hk, ?_,by simpa using h2,fun j hj=>?_⟩
    ·have:((k:Int) == -1)=false:=by simp
     simp [Lib.indexByte,hb',h1,this]
    ·cases j with
     | zero=>simpa using hb
     | succ j=>simpa using h3 j (by omega)
def tend (l:List UInt8) (a:Nat):Int:=
 if a<l.length then
  if l.getD a 0=73 then (a:Int)+1
  else if l.getD a 0=76 then
   (if Lib.indexByte (l.drop a) 59<0 then -1
    else if nameB ((l.drop (a+1)).take ((Lib.indexByte (l.drop a) 59).toNat - 1)) then (a:Int)+Lib.indexByte (l.drop a) 59+1 else -1)
  else -1
 else -1
theorem tend_out {l:List UInt8} {a:Nat} (h:¬a<l.length):tend l a = -1:=by simp [tend,h]
theorem tend_I {l:List UInt8} {a:Nat} (h:a<l.length) (hc:l.getD a 0=73):tend l a=(a:Int)+1:=by
 simp only [tend,h,hc,if_true]
theorem tend_other {l:List UInt8} {a:Nat} (h1:l.getD a 0≠73) (h2:l.getD a 0≠76):tend l a = -1:=by
 unfold tend;rw [if_neg h1,if_neg h2];split<;>rfl
theorem tend_L {l:List UInt8} {a:Nat} (h:a<l.length) (hc:l.getD a 0=76):tend l a =
   (if Lib.indexByte (l.drop a) 59<0 then -1
    else if nameB ((l.drop (a+1)).take ((Lib.indexByte (l.drop a) 59).toNat - 1)) then (a:Int)+Lib.indexByte (l.drop a) 59+1 else -1):=by
 unfold tend;rw [if_pos h,if_neg (by rw [hc];decide),if_pos hc]
theorem drop_getD (l:List UInt8) (a j:Nat):(l.drop a).getD j 0=l.getD (a+j) 0:=by
 simp [List.getD_eq_getElem?_getD]
theorem tend_none {l:List UInt8} {a:Nat} (h:a<l.length) (hc:l.getD a 0=76) (hn:∀ j,a<j→j<l.length→l.getD j 0≠59):tend l a = -1:=by
 rw [tend_L h hc]
 rcases index_cases (l.drop a) 59 with ⟨h1,_⟩|⟨k,hk,h1,h2,_⟩
 ·rw [h1];rfl
 ·exfalso
  rw [drop_getD] at h2
  rw [List.length_drop] at hk
  by_cases hz:k=0
  ·subst hz;rw [Nat.add_zero,hc] at h2;exact absurd h2 (by decide)
  ·exact hn (a+k) (by omega) (by omega) h2
theorem index_at {l:List UInt8} {a i:Nat} (hc:l.getD a 0=76) (hai:a<i) (hi:i<l.length) (hs:l.getD i 0=59) (hn:∀ j,a<j→j<i→l.getD j 0≠59) :
  Lib.indexByte (l.drop a) 59=((i - a:Nat):Int):=by
 have hne:∀ j,j<i - a→(l.drop a).getD j 0≠59:=by
  intro j hj
  rw [drop_getD]
  by_cases hz:j=0
  ·subst hz;rw [Nat.add_zero,hc];decide
  ·exact hn (a+j) (by omega) (by omega)
 have hat:(l.drop a).getD (i - a) 0=59:=by rw [drop_getD,show a+(i - a)=i by omega];exact hs
 rcases index_cases (l.drop a) 59 with ⟨_,h2⟩|⟨k,hk,h1,h2,h3⟩
 ·exact absurd hat (h2 (i - a) (by rw [List.length_drop];omega))
 ·rw [h1]
  by_cases h:k<i - a
  ·exact absurd h2 (hne k h)
  ·by_cases h':i - a<k
   ·exact absurd hat (h3 _ h')
   ·rw [show k=i - a by omega]
theorem tend_at {l:List UInt8} {a i:Nat} (hc:l.getD a 0=76) (hai:a<i) (hi:i<l.length) (hs:l.getD i 0=59) (hn:∀ j,a<j→j<i→l.getD j 0≠59) :
  tend l a=if nameB ((l.drop (a+1)).take (i - (a+1))) then (i:Int)+1 else -1:=by
 rw [tend_L (by omega) hc,index_at hc hai hi hs hn]
 rw [if_neg (by omega),show ((i - a:Nat):Int).toNat - 1=i - (a+1) by omega]
 split
 ·omega
 ·rfl
theorem tend_cases (l:List UInt8) (a:Nat):tend l a = -1∨((a:Int)<tend l a∧tend l a≤l.length):=by
 unfold tend
 split
 ·split
  ·right;omega
  ·split
   ·rcases index_cases (l.drop a) 59 with ⟨h1,_⟩|⟨k,hk,h1,_,_⟩
    ·left;rw [h1];rfl
    ·rw [h1]
     rw [List.length_drop] at hk
     rw [if_neg (by omega)]
     split
     ·right;omega
     ·left;rfl
   ·left;rfl
 ·left;rfl
def typeB (l:List UInt8):Bool:=tend l 0==(l.length:Int)
end Mx
open Mx
theorem isFigure_any (c:UInt8) (w:World) :
  Calls Tryz.prog 213 #[.int .u8 (c.toNat:Int)] w fun e w'=>e=.returned (.bool (figB c))∧w'=w:=by
 go_enter Tryz.func213,Tryz.ntmps213
 go_wp2
 all_goals go_ret
 all_goals refine ⟨ret_bool ?_,rfl⟩
 all_goals (rw [Bool.eq_iff_iff,figB_iff];simp;omega)
theorem isLetter_any (c:UInt8) (w:World) :
  Calls Tryz.prog 214 #[.int .u8 (c.toNat:Int)] w fun e w'=>e=.returned (.bool (letB c))∧w'=w:=by
 go_enter Tryz.func214,Tryz.ntmps214
 go_wp2
 all_goals go_ret
 all_goals refine ⟨ret_bool ?_,rfl⟩
 all_goals (rw [Bool.eq_iff_iff,letB_iff];simp;omega)
theorem l2Letter_any (c:UInt8) (w:World) :
  Calls Tryz.prog 122 #[.int .u8 (c.toNat:Int)] w fun e w'=>e=.returned (.bool (letB c))∧w'=w:=by
 go_enter Tryz.func122,Tryz.ntmps122
 go_wp2
 all_goals go_ret
 all_goals refine ⟨ret_bool ?_,rfl⟩
 all_goals (rw [Bool.eq_iff_iff,letB_iff];simp;omega)
theorem l1In_any (n lo hi:Int) (w:World) :
  Calls Tryz.prog 84 #[.int .i64 n,.int .i64 lo,.int .i64 hi] w fun e w'=>e=.returned (.bool (decide (lo≤n) && decide (n≤hi)))∧w'=w:=by
 go_enter Tryz.func84,Tryz.ntmps84
 go_wp2
 all_goals go_ret
 all_goals refine ⟨ret_bool ?_,rfl⟩
 all_goals (rw [Bool.eq_iff_iff];simp;omega)
theorem NameOk_any (s:ByteArray) (w:World) (hs:s.size≤maxLen) :
  Calls Tryz.prog 177 #[.string s] w fun e w'=>e=.returned (.bool (nameB s.data.toList))∧w'=w:=by
 unfold maxLen at hs
 have hlen:=len_of s
 by_cases h1:s.size<1
 ·rw [name_none (l:=s.data.toList) (by omega)]
  clear hlen
  go_enter Tryz.func177,Tryz.ntmps177
  go_wp2
  go_ret
  exact ⟨rfl,rfl⟩
 by_cases h2:8<s.size
 ·rw [name_long (l:=s.data.toList) (by omega)]
  clear hlen
  go_enter Tryz.func177,Tryz.ntmps177
  go_wp2
  go_ret
  exact ⟨rfl,rfl⟩
 have h0:0<s.size:=by omega
 have hb0:=mxByte s 0 h0
 have HL:Hid (s.data.toList.length=s.size):=hlen
 cases hf:figB s[0]
 ·have H0:Hid (s.data.toList.getD 0 0=s[0]):=hb0
  have HF:Hid (figB s[0]=false):=hf
  clear hlen hb0
  go_enter Tryz.func177,Tryz.ntmps177
  go_wp2_with (go_at_call 213;refine (isFigure_any _ _).mono ?_;rintro e w' ⟨rfl,rfl⟩)
  clear hf
  go_loop [19] (fun i=>∃ k:Nat,k≤s.size∧i=.int .i64 k∧Hid (good s.data.toList k=true)) (fun i=>s.size - (intOf i).toNat)
  case atStart=>exact ⟨0,Nat.zero_le _,rfl,good_zero _⟩
  case round=>
   obtain ⟨k,hk,rfl,HG⟩:=hrel
   by_cases hlt:k<s.size
   ·have HB:Hid (s.data.toList.getD k 0=s[k]):=mxByte s k hlt
    cases hfk:figB s[k]
    ·cases hlk:letB s[k]
     ·have HN:Hid (nameB s.data.toList=false):=name_bad (k:=k) (by rw [HL.out];exact hlt) (by rw [HB.out];simp [okAt,hfk,hlk])
      go_wp2_with (first|(go_at_call 213;refine (isFigure_any _ _).mono ?_;rintro e w' ⟨rfl,rfl⟩)|(go_at_call 214;refine (isLetter_any _ _).mono ?_;rintro e w' ⟨rfl,rfl⟩))
      go_ret
      exact ⟨ret_bool HN.out.symm,rfl⟩
     ·have HK:Hid (okAt k (s.data.toList.getD k 0)=true):=by unfold Hid;rw [HB.out];simp [okAt,hlk]
      go_wp2_with (first|(go_at_call 213;refine (isFigure_any _ _).mono ?_;rintro e w' ⟨rfl,rfl⟩)|(go_at_call 214;refine (isLetter_any _ _).mono ?_;rintro e w' ⟨rfl,rfl⟩))
      go_round
      case rel=>exact ⟨k+1,by omega,by go_num,by unfold Hid;rw [good_succ,HG.out,HK.out];rfl⟩
      case measure=>simp [intOf];omega
    ·have HK:Hid (okAt k (s.data.toList.getD k 0)=true):=by
      unfold Hid
      cases k with
      | zero=>rw [HF.out] at hfk;cases hfk
      | succ m=>rw [HB.out];simp [okAt,hfk]
     go_wp2_with (first|(go_at_call 213;refine (isFigure_any _ _).mono ?_;rintro e w' ⟨rfl,rfl⟩)|(go_at_call 214;refine (isLetter_any _ _).mono ?_;rintro e w' ⟨rfl,rfl⟩))
     go_round
     case rel=>exact ⟨k+1,by omega,by go_num,by unfold Hid;rw [good_succ,HG.out,HK.out];rfl⟩
     case measure=>simp [intOf];omega
   ·have HN:Hid (nameB s.data.toList=true):=name_yes (by rw [HL.out];omega) (by rw [HL.out];omega) (by rw [HL.out];rw [show s.size=k by omega];exact HG.out)
    go_wp2
    go_ret
    exact ⟨ret_bool HN.out.symm,rfl⟩
 ·have hn:nameB s.data.toList=false:=by
   refine name_bad (k:=0) (by omega) ?_
   rw [hb0]
   cases hl:letB s[0]
   ·simp [okAt,hl]
   ·rw [fig_let hl] at hf;cases hf
  rw [hn]
  clear hlen hb0 hn
  go_enter Tryz.func177,Tryz.ntmps177
  go_wp2_with (go_at_call 213;refine (isFigure_any _ _).mono ?_;rintro e w' ⟨rfl,rfl⟩)
  go_ret
  exact ⟨rfl,rfl⟩
theorem l2Name_any (s:ByteArray) (w:World) (hs:s.size≤maxLen) :
  Calls Tryz.prog 78 #[.string s] w fun e w'=>e=.returned (.bool (nameB s.data.toList))∧w'=w:=by
 unfold maxLen at hs
 have HL:Hid (s.data.toList.length=s.size):=len_of s
 go_enter Tryz.func78,Tryz.ntmps78
 go_wp2
 go_loop [3] (fun i=>∃ k:Nat,k≤s.size∧i=.int .i64 k∧Hid (good s.data.toList k=true)) (fun i=>s.size - (intOf i).toNat)
 case atStart=>exact ⟨0,Nat.zero_le _,rfl,good_zero _⟩
 case round=>
  obtain ⟨k,hk,rfl,HG⟩:=hrel
  by_cases hlt:k<s.size
  ·have HB:Hid (s.data.toList.getD k 0=s[k]):=mxByte s k hlt
   cases hok:okAt k s[k]
   ·have HN:Hid (nameB s.data.toList=false):=name_bad (k:=k) (by rw [HL.out];exact hlt) (by rw [HB.out];exact hok)
    have hlk:letB s[k]=false:=by cases h:letB s[k]<;>simp [okAt,h] at hok ⊢
    by_cases hz:k=0
    ·subst hz
     clear hok
     go_wp2_with (go_at_call 122;refine (l2Letter_any _ _).mono ?_;rintro e w' ⟨rfl,rfl⟩)
     go_ret
     exact ⟨ret_bool HN.out.symm,rfl⟩
    ·have hfk:figB s[k]=false:=by cases h:figB s[k]<;>simp [okAt,h,hz] at hok ⊢
     have HF:Hid (¬(48≤(s[k].toNat:Int)∧(s[k].toNat:Int)≤57)):=by
      unfold Hid;rw [← figB_iff,hfk];simp
     have hz':((k:Int)==0)=false:=by simp;omega
     clear hok hfk hz
     go_wp2_with (go_at_call 122;refine (l2Letter_any _ _).mono ?_;rintro e w' ⟨rfl,rfl⟩)
     all_goals first|(go_ret;exact ⟨ret_bool HN.out.symm,rfl⟩)|skip
     all_goals (exfalso;have:=HF.out;omega)
   ·have hor:letB s[k]=true∨(k≠0∧letB s[k]=false∧figB s[k]=true):=by
     cases h:letB s[k]
     ·right;simp [okAt,h] at hok;exact ⟨hok.1,rfl,hok.2⟩
     ·left;rfl
    have HK:Hid (okAt k (s.data.toList.getD k 0)=true):=by unfold Hid;rw [HB.out];exact hok
    clear hok
    rcases hor with hlk|⟨hz,hlk,hfk⟩
    ·go_wp2_with (go_at_call 122;refine (l2Letter_any _ _).mono ?_;rintro e w' ⟨rfl,rfl⟩)
     go_round
     case rel=>exact ⟨k+1,by omega,by go_num,by unfold Hid;rw [good_succ,HG.out,HK.out];rfl⟩
     case measure=>simp [intOf];omega
    ·obtain ⟨hf1,hf2⟩:=(figB_iff _).1 hfk
     have hz':((k:Int)==0)=false:=by simp;omega
     clear hfk hz
     go_wp2_with (go_at_call 122;refine (l2Letter_any _ _).mono ?_;rintro e w' ⟨rfl,rfl⟩)
     go_round
     case rel=>exact ⟨k+1,by omega,by go_num,by unfold Hid;rw [good_succ,HG.out,HK.out];rfl⟩
     case measure=>simp [intOf];omega
  ·have HN:Hid (nameB s.data.toList=(decide ((1:Int)≤(s.size:Int)) && decide ((s.size:Int)≤8))):=by
    have hg:good s.data.toList s.data.toList.length=true:=by rw [HL.out,show s.size=k by omega];exact HG.out
    unfold Hid nameB
    rw [hg,HL.out,Bool.eq_iff_iff]
    simp;omega
   go_wp2_with (go_at_call 84;refine (l1In_any _ _ _ _).mono ?_;rintro e w' ⟨rfl,rfl⟩)
   go_ret
   exact ⟨ret_bool HN.out.symm,rfl⟩
theorem IndexByte_of (s:ByteArray) (a:Nat) (n:Int) (w:World) (h:Lib.indexByte (s.data.toList.drop a) 59=n) :
  Calls Tryz.prog 240 #[.string (s.extract a s.size),.int .u8 59] w fun e w'=>e=.returned (.int .i64 n)∧w'=w:=by
 refine (Tryz.strings_IndexByte _ _ _).mono ?_
 rintro e w' ⟨rfl,rfl⟩
 rw [Lib.extract_to_end]
 exact ⟨ret_i64 h,rfl⟩
theorem NameOk_of (s:ByteArray) (a b:Nat) (c:Bool) (w:World) (hs:s.size≤2097152) (h:nameB ((s.data.toList.drop a).take (b - a))=c) :
  Calls Tryz.prog 177 #[.string (s.extract a b)] w fun e w'=>e=.returned (.bool c)∧w'=w:=by
 have hz:(s.extract a b).size≤s.size:=by simp;omega
 refine (NameOk_any _ _ (by unfold maxLen;omega)).mono ?_
 rintro e w' ⟨rfl,rfl⟩
 rw [Lib.extract_data]
 exact ⟨ret_bool h,rfl⟩
theorem l2Name_of (s:ByteArray) (a b:Nat) (c:Bool) (w:World) (hs:s.size≤2097152) (h:nameB ((s.data.toList.drop a).take (b - a))=c) :
  Calls Tryz.prog 78 #[.string (s.extract a b)] w fun e w'=>e=.returned (.bool c)∧w'=w:=by
 have hz:(s.extract a b).size≤s.size:=by simp;omega
 refine (l2Name_any _ _ (by unfold maxLen;omega)).mono ?_
 rintro e w' ⟨rfl,rfl⟩
 rw [Lib.extract_data]
 exact ⟨ret_bool h,rfl⟩
theorem typeEnd_any (s:ByteArray) (a:Nat) (w:World) (hs:s.size≤2097152) (ha:a≤2097152) :
  Calls Tryz.prog 215 #[.string s,.int .i64 (a:Int)] w fun e w'=>e=.returned (.int .i64 (tend s.data.toList a))∧w'=w:=by
 have hlen:=len_of s
 by_cases h1:a<s.size
 ·have hb:=mxByte s a h1
  by_cases hI:s[a]=73
  ·rw [tend_I (by omega) (by rw [hb];exact hI)]
   have hI':((s[a].toNat:Int)==73)=true:=by simpa using (u8_eq (n:=73) (by decide)).1 hI
   clear hI hb hlen
   go_enter Tryz.func215,Tryz.ntmps215
   go_wp2
   go_ret
   exact ⟨rfl,rfl⟩
  ·have hI':((s[a].toNat:Int)==73)=false:=by
    rw [beq_eq_false_iff_ne];intro h;exact hI ((u8_eq (n:=73) (by decide)).2 h)
   by_cases hL:s[a]=76
   ·have hL':((s[a].toNat:Int) != 76)=false:=by
     simp;exact (u8_eq (n:=76) (by decide)).1 hL
    rw [tend_L (by omega) (by rw [hb];exact hL)]
    rcases index_cases (s.data.toList.drop a) 59 with ⟨h3,_⟩|⟨k,hk,h3,h4,_⟩
    ·have hc:=fun w=>IndexByte_of s a (-1) w h3
     rw [h3]
     clear h3 hlen hI hL hb
     go_enter Tryz.func215,Tryz.ntmps215
     go_wp2_with (go_at_call 240;refine (hc _).mono ?_;rintro e w' ⟨rfl,rfl⟩)
     go_ret
     exact ⟨rfl,rfl⟩
    ·have hc:=fun w=>IndexByte_of s a k w h3
     have hk2:k+a<s.size:=by rw [List.length_drop] at hk;omega
     have hk1:1≤k:=by
      rcases Nat.eq_zero_or_pos k with h0|h0
      ·subst h0;rw [drop_getD,Nat.add_zero,hb,hL] at h4;exact absurd h4 (by decide)
      ·exact h0
     rw [h3,if_neg (by omega),show ((k:Nat):Int).toNat - 1=(a+k) - (a+1) by omega]
     cases hn:nameB ((s.data.toList.drop (a+1)).take ((a+k) - (a+1)))
     ·have hN:=fun w=>NameOk_of s (a+1) (a+k) false w hs hn
      clear h3 h4 hlen hI hL hb hn hk
      go_enter Tryz.func215,Tryz.ntmps215
      go_wp2_with (first|(go_at_call 240;refine (hc _).mono ?_;rintro e w' ⟨rfl,rfl⟩)|(go_at_call 177;refine (hN _).mono ?_;rintro e w' ⟨rfl,rfl⟩))
      go_ret
      exact ⟨rfl,rfl⟩
     ·have hN:=fun w=>NameOk_of s (a+1) (a+k) true w hs hn
      clear h3 h4 hlen hI hL hb hn hk
      go_enter Tryz.func215,Tryz.ntmps215
      go_wp2_with (first|(go_at_call 240;refine (hc _).mono ?_;rintro e w' ⟨rfl,rfl⟩)|(go_at_call 177;refine (hN _).mono ?_;rintro e w' ⟨rfl,rfl⟩))
      go_ret
      exact ⟨rfl,rfl⟩
   ·have hL':((s[a].toNat:Int) != 76)=true:=by
     simp;intro h;exact hL ((u8_eq (n:=76) (by decide)).2 h)
    rw [tend_other (by rw [hb];exact hI) (by rw [hb];exact hL)]
    clear hlen hI hL hb
    go_enter Tryz.func215,Tryz.ntmps215
    go_wp2
    go_ret
    exact ⟨rfl,rfl⟩
 ·rw [tend_out (by omega)]
  clear hlen
  go_enter Tryz.func215,Tryz.ntmps215
  go_wp2
  go_ret
  exact ⟨rfl,rfl⟩
theorem TypeOk_any (s:ByteArray) (w:World) (hs:s.size≤2097152) :
  Calls Tryz.prog 178 #[.string s] w fun e w'=>e=.returned (.bool (typeB s.data.toList))∧w'=w:=by
 have hc:=fun w=>typeEnd_any s 0 w hs (by omega)
 have HT:Hid (typeB s.data.toList=(tend s.data.toList 0==(s.size:Int))):=by
  unfold Hid typeB;rw [len_of]
 go_enter Tryz.func178,Tryz.ntmps178
 go_wp2_with (go_at_call 215;refine (hc _).mono ?_;rintro e w' ⟨rfl,rfl⟩)
 go_ret
 exact ⟨ret_bool HT.out.symm,rfl⟩
def noSemi (l:List UInt8) (a i:Nat):Prop:=∀ j,a<j→j<i→l.getD j 0≠59
theorem l2TypeEnd_any (s:ByteArray) (a:Nat) (w:World) (hs:s.size≤2097152) (ha:a≤2097152) :
  Calls Tryz.prog 123 #[.string s,.int .i64 (a:Int)] w fun e w'=>e=.returned (.int .i64 (tend s.data.toList a))∧w'=w:=by
 have hlen:=len_of s
 by_cases h1:a<s.size
 ·have hb:=mxByte s a h1
  by_cases hI:s[a]=73
  ·rw [tend_I (by omega) (by rw [hb];exact hI)]
   have hI':((s[a].toNat:Int)==73)=true:=by simpa using (u8_eq (n:=73) (by decide)).1 hI
   clear hI hb hlen
   go_enter Tryz.func123,Tryz.ntmps123
   go_wp2
   go_ret
   exact ⟨rfl,rfl⟩
  ·have hI':((s[a].toNat:Int)==73)=false:=by
    rw [beq_eq_false_iff_ne];intro h;exact hI ((u8_eq (n:=73) (by decide)).2 h)
   by_cases hL:s[a]=76
   ·have hL':((s[a].toNat:Int) != 76)=false:=by
     simp;exact (u8_eq (n:=76) (by decide)).1 hL
    have HC:Hid (s.data.toList.getD a 0=76):=by unfold Hid;rw [hb];exact hL
    have HL:Hid (s.data.toList.length=s.size):=hlen
    clear hI hL hb hlen
    go_enter Tryz.func123,Tryz.ntmps123
    go_wp2
    go_loop [5] (fun i=>∃ k:Nat,a<k∧k≤s.size∧i=.int .i64 k∧Hid (noSemi s.data.toList a k)) (fun i=>s.size - (intOf i).toNat)
    case atStart=>exact ⟨a+1,by omega,by omega,by go_num,fun j h1 h2=>by omega⟩
    case round=>
     obtain ⟨k,hak,hk,rfl,HG⟩:=hrel
     by_cases hlt:k<s.size
     ·have hbk:=mxByte s k hlt
      by_cases hS:s[k]=59
      ·have hS':((s[k].toNat:Int)==59)=true:=by simpa using (u8_eq (n:=59) (by decide)).1 hS
       have HT:Hid (tend s.data.toList a=if nameB ((s.data.toList.drop (a+1)).take (k - (a+1))) then (k:Int)+1 else -1):=
        tend_at HC.out hak (by rw [HL.out];exact hlt) (by rw [hbk];exact hS) HG.out
       cases hn:nameB ((s.data.toList.drop (a+1)).take (k - (a+1)))
       ·have hN:=fun w=>l2Name_of s (a+1) k false w hs hn
        have HR:Hid (tend s.data.toList a = -1):=by unfold Hid;rw [HT.out,hn];rfl
        clear hn hS hbk
        go_wp2_with (go_at_call 78;refine (hN _).mono ?_;rintro e w' ⟨rfl,rfl⟩)
        go_ret
        exact ⟨ret_i64 HR.out.symm,rfl⟩
       ·have hN:=fun w=>l2Name_of s (a+1) k true w hs hn
        have HR:Hid (tend s.data.toList a=(k:Int)+1):=by unfold Hid;rw [HT.out,hn];rfl
        clear hn hS hbk
        go_wp2_with (go_at_call 78;refine (hN _).mono ?_;rintro e w' ⟨rfl,rfl⟩)
        go_ret
        exact ⟨ret_i64 HR.out.symm,rfl⟩
      ·have hS':((s[k].toNat:Int)==59)=false:=by
        rw [beq_eq_false_iff_ne];intro h;exact hS ((u8_eq (n:=59) (by decide)).2 h)
       have HN:Hid (noSemi s.data.toList a (k+1)):=by
        intro j h1 h2
        by_cases hj:j=k
        ·subst hj;rw [hbk];exact hS
        ·exact HG.out j h1 (by omega)
       clear hS hbk
       go_wp2
       go_round
       case rel=>exact ⟨k+1,by omega,by omega,by go_num,HN⟩
       case measure=>simp [intOf];omega
     ·have HR:Hid (tend s.data.toList a = -1):=tend_none (by rw [HL.out];exact h1) HC.out (fun j h1 h2=>HG.out j h1 (by rw [HL.out] at h2;omega))
      go_wp2
      go_ret
      exact ⟨ret_i64 HR.out.symm,rfl⟩
   ·have hL':((s[a].toNat:Int) != 76)=true:=by
     simp;intro h;exact hL ((u8_eq (n:=76) (by decide)).2 h)
    rw [tend_other (by rw [hb];exact hI) (by rw [hb];exact hL)]
    clear hlen hI hL hb
    go_enter Tryz.func123,Tryz.ntmps123
    go_wp2
    go_ret
    exact ⟨rfl,rfl⟩
 ·rw [tend_out (by omega)]
  clear hlen
  go_enter Tryz.func123,Tryz.ntmps123
  go_wp2
  go_ret
  exact ⟨rfl,rfl⟩
theorem l2Type_any (s:ByteArray) (w:World) (hs:s.size≤2097152) :
  Calls Tryz.prog 79 #[.string s] w fun e w'=>e=.returned (.bool (typeB s.data.toList))∧w'=w:=by
 have hlen:=len_of s
 by_cases h0:0<s.size
 ·have hc:=fun w=>l2TypeEnd_any s 0 w hs (by omega)
  have HT:Hid (typeB s.data.toList=(tend s.data.toList 0==(s.size:Int))):=by
   unfold Hid typeB;rw [len_of]
  clear hlen
  go_enter Tryz.func79,Tryz.ntmps79
  go_wp2_with (go_at_call 123;refine (hc _).mono ?_;rintro e w' ⟨rfl,rfl⟩)
  go_ret
  exact ⟨ret_bool HT.out.symm,rfl⟩
 ·have HT:Hid (typeB s.data.toList=false):=by
   unfold Hid typeB;rw [tend_out (by omega),hlen];simp
  clear hlen
  go_enter Tryz.func79,Tryz.ntmps79
  go_wp2
  go_ret
  exact ⟨ret_bool HT.out.symm,rfl⟩
namespace Mx
def backB (b:ByteArray):Bool:=b.data.toList==[86] || typeB b.data.toList
def descEnd (s:ByteArray) (a:Nat):Option (List ByteArray × ByteArray):=
 if a<s.size∧s.data.toList.getD a 0=41∧backB (s.extract (a+1) s.size)=true then some ([],s.extract (a+1) s.size) else none
def descAt (s:ByteArray):Nat→Nat→Option (List ByteArray × ByteArray)
 | 0,a=>if tend s.data.toList a<0 then descEnd s a else none
 | r+1,a=>if tend s.data.toList a<0 then descEnd s a else (descAt s r (tend s.data.toList a).toNat).map fun x=>(s.extract a (tend s.data.toList a).toNat :: x.1,x.2)
def descOf (s:ByteArray):Option (List ByteArray × ByteArray):=
 if 0<s.size∧s.data.toList.getD 0 0=40 then descAt s 4 1 else none
def dTs (s:ByteArray):List ByteArray:=match descOf s with|some x=>x.1|none=>[]
def dBack (s:ByteArray):ByteArray:=match descOf s with|some x=>x.2|none=>⟨#[]⟩
def dOk (s:ByteArray):Bool:=match descOf s with|some _=>true|none=>false
def pre (ts:List ByteArray) (x:List ByteArray × ByteArray):List ByteArray × ByteArray:=(ts++x.1,x.2)
theorem desc_no {s:ByteArray} (h:descOf s=none):dTs s=[]∧dBack s=⟨#[]⟩∧dOk s=false:=by simp [dTs,dBack,dOk,h]
theorem desc_yes {s:ByteArray} {ts:List ByteArray} {b:ByteArray} (h:descOf s=some (ts,b)):dTs s=ts∧dBack s=b∧dOk s=true:=by simp [dTs,dBack,dOk,h]
theorem descAt_end {s:ByteArray} {r a:Nat} (h:tend s.data.toList a = -1):descAt s r a=descEnd s a:=by
 cases r<;>simp [descAt,h]
theorem descAt_full {s:ByteArray} {a b:Nat} (h:tend s.data.toList a=(b:Int)):descAt s 0 a=none:=by
 simp only [descAt,h];rw [if_neg (by omega)]
theorem descAt_step {s:ByteArray} {r a b:Nat} (h:tend s.data.toList a=(b:Int)):descAt s (r+1) a=(descAt s r b).map (pre [s.extract a b]):=by
 simp only [descAt,h];rw [if_neg (by omega)];rfl
theorem pre_nil (x:Option (List ByteArray × ByteArray)):x.map (pre [])=x:=by
 cases x<;>simp [pre]
theorem pre_pre (ts us:List ByteArray) (x:Option (List ByteArray × ByteArray)):(x.map (pre us)).map (pre ts)=x.map (pre (ts++us)):=by
 cases x<;>simp [pre]
theorem descOf_head {s:ByteArray} (h0:0<s.size) (h:s.data.toList.getD 0 0=40):descOf s=descAt s 4 1:=by
 unfold descOf;rw [if_pos ⟨h0,h⟩]
theorem descOf_none {s:ByteArray} (h:¬(0<s.size∧s.data.toList.getD 0 0=40)):descOf s=none:=by
 unfold descOf;rw [if_neg h]
theorem descEnd_no {s:ByteArray} {a:Nat} (h:¬(a<s.size∧s.data.toList.getD a 0=41∧backB (s.extract (a+1) s.size)=true)):descEnd s a=none:=by
 unfold descEnd;rw [if_neg h]
theorem descEnd_yes {s:ByteArray} {a:Nat} (h:a<s.size∧s.data.toList.getD a 0=41∧backB (s.extract (a+1) s.size)=true):descEnd s a=some ([],s.extract (a+1) s.size):=by
 unfold descEnd;rw [if_pos h]
theorem descAt_len {s:ByteArray}:∀ {r a:Nat} {x:List ByteArray × ByteArray},descAt s r a=some x→x.1.length≤r:=by
 intro r
 induction r with
 | zero=>
  intro a x h
  simp only [descAt] at h
  split at h
  ·unfold descEnd at h;split at h
   ·cases h;simp
   ·cases h
  ·cases h
 | succ r ih=>
  intro a x h
  simp only [descAt] at h
  split at h
  ·unfold descEnd at h;split at h
   ·cases h;simp
   ·cases h
  ·rw [Option.map_eq_some_iff] at h
   obtain ⟨y,hy,rfl⟩:=h
   have:=ih hy
   simp;omega
theorem dTs_len (s:ByteArray):(dTs s).length≤4:=by
 unfold dTs
 cases h:descOf s with
 | none=>simp
 | some x=>
  unfold descOf at h
  split at h
  ·exact descAt_len h
  ·cases h
theorem prefix_iff (s:ByteArray):Lib.hasPrefix s.data.toList [40]=decide (0<s.size∧s.data.toList.getD 0 0=40):=by
 rw [← len_of s]
 cases s.data.toList with
 | nil=>simp [Lib.hasPrefix]
 | cons c l=>rw [Bool.eq_iff_iff];simp [Lib.hasPrefix];constructor<;>intro h<;>exact h.symm
end Mx
set_option maxRecDepth 20000
theorem infoStr:(Tryz.prog.info? 9).map (fun i=>(i.zero,i.size,i.bytes))=some (some (.string ⟨#[]⟩),1,16):=by kernel_rfl
theorem Clone_any (s:ByteArray) (w:World) (hs:s.size≤2097152) :
  Calls Tryz.prog 27 #[.string s] w fun e w'=>e=.returned (.string s)∧Below w.heap.size w w':=by
 go_enter Tryz.func27,Tryz.ntmps27
 go_wp2_with (go_at_call 57;refine (Tryz.stringslite_Clone s _ (by omega)).mono ?_;rintro e w' ⟨rfl,hb⟩)
 go_ret
 exact ⟨rfl,hb⟩
theorem HasPrefix_of (s:ByteArray) (c:Bool) (w:World) (h:decide (0<s.size∧s.data.toList.getD 0 0=40)=c) :
  Calls Tryz.prog 241 #[.string s,.string ⟨#[40]⟩] w fun e w'=>e=.returned (.bool c)∧w'=w:=by
 refine (Tryz.strings_HasPrefix _ _ _).mono ?_
 rintro e w' ⟨rfl,rfl⟩
 refine ⟨ret_bool ?_,rfl⟩
 rw [← h]
 exact prefix_iff s
def DescPost (s:ByteArray) (w:World) (e:Ending) (w':World):Prop:=
 ∃ v,e=.returned (.tuple #[v,.string (dBack s),.bool (dOk s)])∧w'.ownsRow w.heap.size 9 1 v (dTs s).length ((dTs s).map Value.string)∧Below w.heap.size w w'
theorem post_no {s:ByteArray} {w w':World} (h:descOf s=none) (hb:Below w.heap.size w w') :
  DescPost s w (.returned (.tuple #[.slice none 0 0,.string ⟨#[]⟩,.bool false])) w':=by
 obtain ⟨h1,h2,h3⟩:=desc_no h
 refine ⟨.slice none 0 0,by rw [h2,h3], ?_,hb⟩
 rw [h1]
 exact World.ownsRow_nil _ _ _ _
theorem post_yes {s:ByteArray} {w w':World} {ts:List ByteArray} {b:ByteArray} {v:Value} (h:descOf s=some (ts,b)) (ho:w'.ownsRow w.heap.size 9 1 v ts.length (ts.map Value.string)) (hb:Below w.heap.size w w') :
  DescPost s w (.returned (.tuple #[v,.string b,.bool true])) w':=by
 obtain ⟨h1,h2,h3⟩:=desc_yes h
 exact ⟨v,by rw [h2,h3],by rw [h1];exact ho,hb⟩
theorem own_nextS {w wr w1 w2:World} {o:Obj} {v v':Value} {ts:List ByteArray} {x:ByteArray} (hown:wr.ownsRow w.heap.size 9 1 v ts.length (ts.map Value.string)) (hb1:Below wr.heap.size wr w1) (hbel:Below w.heap.size w wr)
  (hown':w2.ownsRow w.heap.size 9 1 v' (ts.length+1) (ts.map Value.string++[.string x])) (hgrow:(w1.alloc o).grownBy w2 v.ownBlock) :
  w2.ownsRow w.heap.size 9 1 v' (ts++[x]).length ((ts++[x]).map Value.string)∧Below w.heap.size w w2:=by
 refine ⟨by simpa using hown', ?_⟩
 have hs:=hb1.size
 have hs':=hbel.size
 exact ((hbel.trans (hb1.mono hs')).alloc (by omega) o).grown hgrow (by simp;omega) (fun k hk=>(hown.lt k hk).1)
theorem tend_or (s:ByteArray) (a:Nat):tend s.data.toList a = -1∨((a:Int)<tend s.data.toList a∧tend s.data.toList a≤s.size):=by
 have:=tend_cases s.data.toList a;rw [len_of] at this;exact this
theorem end_yes {s:ByteArray} {ts:List ByteArray} {a:Nat} (HE:descOf s=(descEnd s a).map (pre ts)) (h1:a<s.size) (h2:s.data.toList.getD a 0=41) (h3:backB (s.extract (a+1) s.size)=true):descOf s=some (ts,s.extract (a+1) s.size):=by
 rw [HE,descEnd_yes ⟨h1,h2,h3⟩];simp [pre]
theorem end_no {s:ByteArray} {ts:List ByteArray} {a:Nat} (HE:descOf s=(descEnd s a).map (pre ts)) (h3:backB (s.extract (a+1) s.size)=false):descOf s=none:=by
 rw [HE,descEnd_no (fun h=>by rw [h3] at h;exact absurd h.2.2 (by simp))];rfl
theorem back_V {s:ByteArray} {a b:Nat} (h:(s.extract a b).toList=[86]):backB (s.extract a b)=true:=by
 rw [Lib.toList_data] at h;simp only [backB,h];rfl
theorem back_no {s:ByteArray} {a b:Nat} (h:(!(s.extract a b).toList==[86])=true∧(!typeB (List.take (b - a) (List.drop a s.data.toList)))=true):backB (s.extract a b)=false:=by
 obtain ⟨h1,h2⟩:=h
 rw [Lib.toList_data] at h1
 rw [← Lib.extract_data] at h2
 simp only [Bool.not_eq_true'] at h1 h2
 simp only [backB,h1,h2];rfl
theorem back_T {s:ByteArray} {a b:Nat} (h:(!(s.extract a b).toList==[86])=false∨(!typeB (List.take (b - a) (List.drop a s.data.toList)))=false):backB (s.extract a b)=true:=by
 rw [Lib.toList_data] at h
 rw [← Lib.extract_data] at h
 simp only [Bool.not_eq_false'] at h
 unfold backB
 rcases h with h|h<;>rw [h]<;>simp
theorem DescOf_any (s:ByteArray) (w:World) (hs:s.size≤1048576) :
  Calls Tryz.prog 217 #[.string s] w fun e w'=>DescPost s w e w':=by
 by_cases hp:0<s.size∧s.data.toList.getD 0 0=40
 ·have hH:=fun w=>HasPrefix_of s true w (by simpa using hp)
  have HD:Hid (descOf s=descAt s 4 1):=descOf_head hp.1 hp.2
  have h0:=hp.1
  clear hp
  obtain ⟨i0,hi,hz0,hz1,hz2⟩:=info_parts infoStr
  have hT1:=fun w=>typeEnd_any s 1 w (by omega) (by omega)
  go_enter Tryz.func217,Tryz.ntmps217
  go_wp2_with (first|(go_at_call 241;refine (hH _).mono ?_;rintro e w1 ⟨rfl,hw⟩;replace hw:=hw.symm;subst hw)|(go_at_call 215;refine (hT1 _).mono ?_;rintro e w1 ⟨rfl,hw⟩;replace hw:=hw.symm;subst hw))
  clear hH hT1
  go_loopw [5,6,7] (fun v i e wr=>∃ (ts:List ByteArray) (a:Nat) (t:Int),ts.length≤4∧a≤s.size∧i=.int .i64 a∧e=.int .i64 t∧Hid (tend s.data.toList a=t)∧(t = -1∨((a:Int)<t∧t≤s.size))∧wr.ownsRow w.heap.size 9 1 v ts.length (ts.map Value.string)∧Below w.heap.size w wr∧Hid (descOf s=(descAt s (4 - ts.length) a).map (pre ts))) (fun _ i _ _=>s.size+1 - (intOf i).toNat)
  case atStart=>exact ⟨[],1,_,by simp,h0,rfl,rfl,rfl,tend_or s 1,World.ownsRow_nil _ _ _ _,Below.refl _ _,by unfold Hid;rw [HD.out];exact (pre_nil _).symm⟩
  case round=>
   obtain ⟨ts,a,t,hl,ha,rfl,rfl,HT,hor,hown,hbel,HR⟩:=hrel
   rcases hor with rfl|⟨h1,h2⟩
   ·have HE:Hid (descOf s=(descEnd s a).map (pre ts)):=by unfold Hid;rw [HR.out,descAt_end HT.out]
    clear HR HT
    by_cases hlt:a<s.size
    ·have hb:=mxByte s a hlt
     by_cases hP:s[a]=41
     ·have hP':((s[a].toNat:Int) != 41)=false:=by
       simp;exact (u8_eq (n:=41) (by decide)).1 hP
      have hC:=fun w=>Clone_any (s.extract (a+1) s.size) w (by simp;omega)
      have hTy:=fun w=>TypeOk_any (s.extract (a+1) s.size) w (by simp;omega)
      have HB:Hid (s.data.toList.getD a 0=41):=by unfold Hid;rw [hb];exact hP
      clear hb hP
      go_wp2_with (first|(go_at_call 27;refine (hC _).mono ?_;rintro e w1 ⟨rfl,hb1⟩)|(go_at_call 178;refine (hTy _).mono ?_;rintro e w1 ⟨rfl,hw⟩;replace hw:=hw.symm;subst hw))
      ·go_ret3
       exact post_yes (end_yes HE.out hlt HB.out (back_V ‹_›)) (own_below hown hb1) (hbel.trans (hb1.mono hbel.size))
      ·go_ret3
       exact post_no (end_no HE.out (back_no ‹_›)) hbel
      ·go_ret3
       exact post_yes (end_yes HE.out hlt HB.out (back_T ‹_›)) (own_below hown hb1) (hbel.trans (hb1.mono hbel.size))
     ·have hP':((s[a].toNat:Int) != 41)=true:=by
       simp;intro h;exact hP ((u8_eq (n:=41) (by decide)).2 h)
      have HN:Hid (descOf s=none):=by
       unfold Hid;rw [HE.out,descEnd_no (by rw [hb];exact fun h=>hP h.2.1)];rfl
      clear hb hP HE
      go_wp2
      go_ret3
      exact post_no HN.out hbel
    ·have HN:Hid (descOf s=none):=by
      unfold Hid;rw [HE.out,descEnd_no (fun h=>hlt h.1)];rfl
     have ha':a=s.size:=by omega
     subst ha'
     clear HE
     go_wp2
     go_ret3
     exact post_no HN.out hbel
   ·obtain ⟨b,rfl⟩:∃ b:Nat,t=b:=⟨t.toNat,by omega⟩
    by_cases h4:ts.length=4
    ·have HN:Hid (descOf s=none):=by unfold Hid;rw [HR.out,h4,descAt_full HT.out];rfl
     have h4':((ts.length:Int)==4)=true:=by simp;omega
     obtain ⟨ao,cap,hv⟩:=own_len hown
     subst hv
     clear HR HT h4
     go_wp2
     go_ret3
     exact post_no HN.out hbel
    ·have h4':((ts.length:Int)==4)=false:=by simp;omega
     obtain ⟨ao,cap,hv⟩:=own_len hown
     subst hv
     have hC:=fun w=>Clone_any (s.extract a b) w (by simp;omega)
     have hT:=fun w=>typeEnd_any s b w (by omega) (by omega)
     have HS:Hid (descOf s=(descAt s (4 - (ts++[s.extract a b]).length) b).map (pre (ts++[s.extract a b]))):=by
      unfold Hid
      rw [HR.out,← pre_pre,← descAt_step HT.out]
      congr 2
      simp;omega
     clear HR HT
     go_wp2_with (first|(go_at_call 27;refine (hC _).mono ?_;rintro e w1 ⟨rfl,hb1⟩;have ho1:=own_below hown hb1)|(at_builtin;refine wpList_append_own _ rfl _ _ 174 rfl w.heap.size 9 i0 (.string ⟨#[]⟩) 1 16 Tryz.underlying174 hi hz0 hz1 hz2 rfl (by decide) _ _ _ rfl (ho1.alloc _) ⟨w1.heap.size,0,none⟩ 1 1 [.string (s.extract a b)] rfl rfl ?c1 ?c2 ?c3 ?c4 ?c5 ?_))
     case c1=>exact cell_one_new _ _ _
     case c2=>intro u hu;simp at hu;subst hu;rfl
     case c3=>unfold maxLen;omega
     case c4=>omega
     case c5=>have:=hb1.size;have:=hbel.size;simp;omega
     ·intro v' w2 hown' hgrow _
      have R:=own_nextS hown hb1 hbel hown' hgrow
      obtain ⟨R1,R2⟩:=R
      clear hown' hgrow hown ho1 hb1 hbel
      go_wp2_with (go_at_call 215;refine (hT _).mono ?_;rintro e w3 ⟨rfl,hw⟩;replace hw:=hw.symm;subst hw)
      go_roundw
      case rel=>exact ⟨ts++[s.extract a b],b,_,by simp;omega,by omega,rfl,rfl,rfl,tend_or s b,R1,R2,HS⟩
      case measure=>simp [intOf];omega
 ·have hH:=fun w=>HasPrefix_of s false w (by simpa using hp)
  have HD:Hid (descOf s=none):=descOf_none hp
  clear hp
  go_enter Tryz.func217,Tryz.ntmps217
  go_wp2_with (go_at_call 241;refine (hH _).mono ?_;rintro e w' ⟨rfl,rfl⟩)
  go_ret3
  exact post_no HD.out (Below.refl _ _)
theorem own_nextS' {w wr w2:World} {o:Obj} {v v':Value} {ts:List ByteArray} {x:ByteArray} (hown:wr.ownsRow w.heap.size 9 1 v ts.length (ts.map Value.string)) (hbel:Below w.heap.size w wr)
  (hown':w2.ownsRow w.heap.size 9 1 v' (ts.length+1) (ts.map Value.string++[.string x])) (hgrow:(wr.alloc o).grownBy w2 v.ownBlock) :
  w2.ownsRow w.heap.size 9 1 v' (ts++[x]).length ((ts++[x]).map Value.string)∧Below w.heap.size w w2:=
 own_nextS hown (Below.refl _ _) hbel hown' hgrow
theorem l2Desc_any (s:ByteArray) (w:World) (hs:s.size≤1048576) :
  Calls Tryz.prog 124 #[.string s] w fun e w'=>DescPost s w e w':=by
 by_cases h0:0<s.size
 ·have hb:=mxByte s 0 h0
  by_cases hp:s[0]=40
  ·have hp':((s[0].toNat:Int) != 40)=false:=by
    simp;exact (u8_eq (n:=40) (by decide)).1 hp
   have HD:Hid (descOf s=descAt s 4 1):=descOf_head h0 (by rw [hb];exact hp)
   have h0':((s.size:Int)==0)=false:=by rw [beq_eq_false_iff_ne];omega
   clear hp hb
   obtain ⟨i0,hi,hz0,hz1,hz2⟩:=info_parts infoStr
   go_enter Tryz.func124,Tryz.ntmps124
   go_wp2
   go_loopw [5,6] (fun v i wr=>∃ (ts:List ByteArray) (a:Nat),ts.length≤4∧a≤s.size∧i=.int .i64 a∧wr.ownsRow w.heap.size 9 1 v ts.length (ts.map Value.string)∧Below w.heap.size w wr∧Hid (descOf s=(descAt s (4 - ts.length) a).map (pre ts))) (fun _ i _=>s.size+1 - (intOf i).toNat)
   case atStart=>exact ⟨[],1,by simp,h0,rfl,World.ownsRow_made w #[] 0 (Nat.le_refl _) (by unfold maxLen;omega) rfl,(Below.refl _ _).alloc (Nat.le_refl _) _,by unfold Hid;rw [HD.out];exact (pre_nil _).symm⟩
   case round=>
    obtain ⟨ts,a,hl,ha,rfl,hown,hbel,HR⟩:=hrel
    obtain ⟨ao,cap,hv⟩:=own_len hown
    subst hv
    by_cases hlt:a<s.size
    ·have hb:=mxByte s a hlt
     by_cases hP:s[a]=41
     ·have hP':((s[a].toNat:Int) != 41)=false:=by
       simp;exact (u8_eq (n:=41) (by decide)).1 hP
      have HB:Hid (s.data.toList.getD a 0=41):=by unfold Hid;rw [hb];exact hP
      have HE:Hid (descOf s=(descEnd s a).map (pre ts)):=by
       unfold Hid;rw [HR.out,descAt_end (tend_other (by rw [HB.out];decide) (by rw [HB.out];decide))]
      have hTy:=fun w=>l2Type_any (s.extract (a+1) s.size) w (by simp;omega)
      clear hb hP HR
      go_wp2_with (go_at_call 79;refine (hTy _).mono ?_;rintro e w1 ⟨rfl,hw⟩;replace hw:=hw.symm;subst hw)
      ·go_ret3
       exact post_yes (end_yes HE.out hlt HB.out (back_V ‹_›)) hown hbel
      ·go_ret3
       exact post_no (end_no HE.out (back_no ‹_›)) hbel
      ·go_ret3
       exact post_yes (end_yes HE.out hlt HB.out (back_T ‹_›)) hown hbel
     ·have hP':((s[a].toNat:Int) != 41)=true:=by
       simp;intro h;exact hP ((u8_eq (n:=41) (by decide)).2 h)
      have hor:=tend_or s a
      obtain ⟨t,HT⟩:∃ t,Hid (tend s.data.toList a=t):=⟨_,rfl⟩
      rw [HT.out] at hor
      have hT:∀ w,Calls Tryz.prog 123 #[.string s,.int .i64 (a:Int)] w fun e w'=>e=.returned (.int .i64 t)∧w'=w:=by
       intro w;have:=l2TypeEnd_any s a w (by omega) (by omega);rw [HT.out] at this;exact this
      rcases hor with ht|⟨h1,h2⟩
      ·subst ht
       have HN:Hid (descOf s=none):=by
        unfold Hid;rw [HR.out,descAt_end HT.out,descEnd_no (by rw [hb];exact fun h=>hP h.2.1)];rfl
       clear hb hP HR HT
       go_wp2_with (go_at_call 123;refine (hT _).mono ?_;rintro e w1 ⟨rfl,hw⟩;replace hw:=hw.symm;subst hw)
       go_ret3
       exact post_no HN.out hbel
      ·obtain ⟨b,rfl⟩:∃ b:Nat,t=b:=⟨t.toNat,by omega⟩
       clear hb hP
       by_cases h4:ts.length=4
       ·have HN:Hid (descOf s=none):=by unfold Hid;rw [HR.out,h4,descAt_full HT.out];rfl
        have h4':(4:Int)≤(ts.length:Int):=by omega
        clear HR HT h4
        go_wp2_with (go_at_call 123;refine (hT _).mono ?_;rintro e w1 ⟨rfl,hw⟩;replace hw:=hw.symm;subst hw)
        go_ret3
        exact post_no HN.out hbel
       ·have h4':¬(4:Int)≤(ts.length:Int):=by omega
        have HS:Hid (descOf s=(descAt s (4 - (ts++[s.extract a b]).length) b).map (pre (ts++[s.extract a b]))):=by
         unfold Hid
         rw [HR.out,← pre_pre,← descAt_step HT.out]
         congr 2
         simp;omega
        clear HR HT
        go_wp2_with (first|(go_at_call 123;refine (hT _).mono ?_;rintro e w1 ⟨rfl,hw⟩;replace hw:=hw.symm;subst hw)|(at_builtin;refine wpList_append_own _ rfl _ _ 174 rfl w.heap.size 9 i0 (.string ⟨#[]⟩) 1 16 Tryz.underlying174 hi hz0 hz1 hz2 rfl (by decide) _ _ _ rfl (hown.alloc _) ⟨wr.heap.size,0,none⟩ 1 1 [.string (s.extract a b)] rfl rfl ?c1 ?c2 ?c3 ?c4 ?c5 ?_))
        case c1=>exact cell_one_new _ _ _
        case c2=>intro u hu;simp at hu;subst hu;rfl
        case c3=>unfold maxLen;omega
        case c4=>omega
        case c5=>have:=hbel.size;simp;omega
        ·intro v' w2 hown' hgrow _
         obtain ⟨R1,R2⟩:=own_nextS' hown hbel hown' hgrow
         clear hown' hgrow hown hbel
         go_wp2
         go_roundw
         case rel=>exact ⟨ts++[s.extract a b],b,by simp;omega,by omega,rfl,R1,R2,HS⟩
         case measure=>simp [intOf];omega
    ·have HN:Hid (descOf s=none):=by
      unfold Hid;rw [HR.out,descAt_end (tend_out (by rw [len_of];exact hlt)),descEnd_no (fun h=>hlt h.1)];rfl
     clear HR
     go_wp2
     go_ret3
     exact post_no HN.out hbel
  ·have hp':((s[0].toNat:Int) != 40)=true:=by
    simp;intro h;exact hp ((u8_eq (n:=40) (by decide)).2 h)
   have HN:Hid (descOf s=none):=descOf_none (by rw [hb];exact fun h=>hp h.2)
   have h0':((s.size:Int)==0)=false:=by rw [beq_eq_false_iff_ne];omega
   clear hp hb
   go_enter Tryz.func124,Tryz.ntmps124
   go_wp2
   go_ret3
   exact post_no HN.out ((Below.refl _ _).alloc (Nat.le_refl _) _)
 ·have HN:Hid (descOf s=none):=descOf_none (fun h=>h0 h.1)
  have h0':((s.size:Int)==0)=true:=by rw [beq_iff_eq];omega
  go_enter Tryz.func124,Tryz.ntmps124
  go_wp2
  go_ret3
  exact post_no HN.out ((Below.refl _ _).alloc (Nat.le_refl _) _)
end Go.Proofs.YtecbcdfkedocbaaGreatDoor
