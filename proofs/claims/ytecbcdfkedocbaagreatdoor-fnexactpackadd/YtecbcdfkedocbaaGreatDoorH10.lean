/- Gathered: WrPut. -/
import Derived.Test.YtecbcdfkedocbaaGreatDoorH08
import Derived.Test.YtecbcdfkedocbaaGreatDoorH09
import Derived.Lib.UnsafeStr
namespace Go.Proofs.YtecbcdfkedocbaaGreatDoor
open Go.RowKit Fm
set_option maxHeartbeats 4000000
set_option maxRecDepth 20000
set_option linter.unusedVariables false
theorem wlen_any {w0:World} {b:Nat} {sp:Bool} {bs:List UInt8} {W:World} (h:WB w0 b sp bs W) :
  Calls Tryz.prog 167 #[.pointer (some ⟨b,0,none⟩)] W fun e w'=>e=.returned (.int .i64 bs.length)∧w'=W:=by
 obtain ⟨p,v,h1,h2,h3⟩:=h.at_
 obtain ⟨o,k,hv⟩:=own_len h3
 subst hv
 have c1:W.cell? ⟨b,1,none⟩=some (.slice o bs.length k):=by rw [Lib.cell_of_heap h2];rfl
 clear h h1 h2 h3
 go_enter Tryz.func167,Tryz.ntmps167
 go_wp2
 go_ret
 exact ⟨rfl,rfl⟩
theorem wstring_any {w0:World} {b:Nat} {sp:Bool} {l:List UInt8} {W:World} (h:WB w0 b sp l W) (h0:l≠[]) :
  Calls Tryz.prog 168 #[.pointer (some ⟨b,0,none⟩)] W fun e w'=>e=.returned (.string ⟨l.toArray⟩)∧Below w0.heap.size w0 w':=by
 obtain ⟨p,v,h1,hbk,hown⟩:=h.at_
 have hl0:l.length≠0:=by simpa using h0
 obtain ⟨g,cap,cur,rfl,hbg,hg,hnc,hcm,hcs,htake⟩:∃ g cap cur,v=.slice (some ⟨g,0,none⟩) l.length cap∧w0.heap.size≤g∧W.heap[g]? = some (.cells cur 5 (0,0))∧l.length≤cap∧cap≤maxLen∧cur.size=cap*1∧cur.toList.take (l.length*1)=Lib.byteCells l:=by
  rcases hown.2 with ⟨_,hz⟩|⟨g,cap,cur,hv,r⟩
  ·exact absurd hz hl0
  ·exact ⟨g,cap,cur,hv,r⟩
 have c1:W.drew.cell? ⟨b,1,none⟩=some (.slice (some ⟨g,0,none⟩) l.length cap):=by
  have:W.drew.heap[b]? = some (.cells #[p,.slice (some ⟨g,0,none⟩) l.length cap,.bool sp] 237 (0,0)):=hbk
  rw [Lib.cell_of_heap this];rfl
 have hSD:(Builtin.unsafeSliceData_ #[146] 147 #[.slice (some ⟨g,0,none⟩) l.length cap]).run Tryz.prog W.drew=.ok (.pointer (some ⟨g,0,none⟩)) W.drew:=
  Lib.run_unsafeSliceData_row _ _ _ _ _ _ (by omega)
 have hUS:(Builtin.unsafeString_ #[147,3] 9 #[.pointer (some ⟨g,0,none⟩),.int .i64 l.length]).run Tryz.prog W.drew=.ok (.string ⟨l.toArray⟩) (W.drew.freeze ⟨g,0,none⟩ l.length):=by
  refine Lib.run_unsafeString_row W.drew 147 3 9 5 (by kernel_rfl) (by kernel_rfl) g cur.size (by have hg':W.drew.heap[g]? = some (.cells cur 5 (0,0)):=hg;simp [World.shape?,hg']) l h0 (by omega) (by unfold maxLen at hcm;omega) ?_
  intro j x hx
  have:=hown.cells (g:=g) rfl j (.int .u8 x.toNat) (by simp [Lib.byteCells,hx])
  exact this
 have HB:=hid (show Below w0.heap.size w0 (W.drew.freeze ⟨g,0,none⟩ l.length) from Lib.below_freeze (Below.drew h.old) (p:=⟨g,0,none⟩) hbg _)
 clear h h1 hbk hown hg htake hcs
 go_enter Tryz.func168,Tryz.ntmps168
 go_wp2
 go_region
 all_goals (go_wp2;go_ret;exact ⟨rfl,HB.out⟩)
theorem implFilePut_any (c:MClass) (vp vi vf vm:Value) (B:Nat) (w:World) (hc:c.few) (h:ClassW w B vp vi vf vm c) :
  Calls Tryz.prog 132 #[.agg #[vp,.int .i64 c.flags,.int .i64 c.name,.int .i64 c.super,vi,vf,vm]] w fun e w'=>∃ r,e=.returned (.string r)∧PutOut c r∧Below w.heap.size w w':=by
 obtain ⟨o1,k1,hv1⟩:=own_len h.p
 obtain ⟨o2,k2,hv2⟩:=own_len h.i
 obtain ⟨o3,k3,hv3⟩:=own_len h.f
 obtain ⟨o4,k4,hv4⟩:=h.m.len
 subst hv1 hv2 hv3 hv4
 have hb1:=(Below.refl w.heap.size w).alloc (Nat.le_refl _) (.cells (arrC (.slice o1 c.pool.length k1) c.flags c.name c.super (.slice o2 c.faces.length k2) (.slice o3 c.fields.length k3) (.slice o4 c.methods.length k4)) 36)
 have hb2:=hb1.alloc hb1.size (.cells #[.pointer none,.slice none 0 0,.bool false] 237)
 have hWB:WB w (w.heap.size+1) false [] ((w.alloc (.cells (arrC (.slice o1 c.pool.length k1) c.flags c.name c.super (.slice o2 c.faces.length k2) (.slice o3 c.fields.length k3) (.slice o4 c.methods.length k4)) 36)).alloc (.cells #[.pointer none,.slice none 0 0,.bool false] 237)):=
  ⟨⟨.pointer none,.slice none 0 0,.inl rfl,by
   have e:=Lk.new (w.alloc (.cells (arrC (.slice o1 c.pool.length k1) c.flags c.name c.super (.slice o2 c.faces.length k2) (.slice o3 c.fields.length k3) (.slice o4 c.methods.length k4)) 36)) #[.pointer none,.slice none 0 0,.bool false] 237
   unfold Lk at e
   rw [show (w.alloc (.cells (arrC (.slice o1 c.pool.length k1) c.flags c.name c.super (.slice o2 c.faces.length k2) (.slice o3 c.fields.length k3) (.slice o4 c.methods.length k4)) 36)).heap.size=w.heap.size+1 by simp] at e
   exact e,by simp [World.ownsRow,Lib.byteCells]⟩,hb2,Nat.le_succ _⟩
 have hCl:=wclass_any c _ _ _ _ B hWB hc (h.keep hb2)
 clear h hc hb1 hb2 hWB
 go_enter Tryz.func132,Tryz.ntmps132
 go_wp2_with fail
 refine hCl.mono ?_
 rintro e w1 ⟨rfl,sp,bs,hw1,hk1,hx1⟩
 have HX:=hid hx1
 have HO:=hid hw1.old
 have hLen:=wlen_any hw1
 have hStr:=fun h0=>wstring_any (l:=bs) hw1 h0
 have HW:=hid hw1
 obtain ⟨p,v,h1,h2,h3⟩:=hw1.at_
 have c2:w1.cell? ⟨w.heap.size+1,2,none⟩=some (.bool sp):=by rw [Lib.cell_of_heap h2];rfl
 clear hCl hw1 hk1 hx1 h1 h2 h3
 cases sp with
 | true=>
  have HR:=hid (show PutOut c ⟨#[]⟩ from .inr ⟨fun hf=>by have:=HX.out.ok.2 ⟨rfl,hf.1⟩;simp at this,rfl⟩)
  clear hStr hLen
  go_wp2_with fail
  go_ret
  exact ⟨_,rfl,HR.out,HO.out⟩
 | false=>
  have hf:=(HX.out.ok.1 rfl).2
  have hbs:=HX.out.out rfl
  simp only [List.nil_append] at hbs
  subst hbs
  have h0:putC c≠[]:=by simp [putC,Fm.mark]
  have HF:=hid hf
  have hS:=hStr h0
  clear hStr h0 hf
  go_wp2_with fail
  refine hLen.mono ?_
  rintro e w2 ⟨rfl,rfl⟩
  clear hLen
  by_cases hl:(putC c).length≤900
  ·have HR:=hid (show PutOut c (bytesOf (putC c)) from .inl ⟨HF.out,hl,rfl⟩)
   have hg:¬((900:Int)<(putC c).length):=by omega
   clear hl
   go_wp2_with fail
   refine hS.mono ?_
   rintro e w3 ⟨rfl,hb3⟩
   have HB:=hid hb3
   clear hS hb3
   go_wp2_with fail
   go_ret
   exact ⟨_,rfl,HR.out,HB.out⟩
  ·have HR:=hid (show PutOut c ⟨#[]⟩ from .inr ⟨fun hf=>hl hf.2,rfl⟩)
   have hg:((900:Int)<(putC c).length):=by omega
   clear hl hS
   go_wp2_with fail
   go_ret
   exact ⟨_,rfl,HR.out,HO.out⟩
end Go.Proofs.YtecbcdfkedocbaaGreatDoor
