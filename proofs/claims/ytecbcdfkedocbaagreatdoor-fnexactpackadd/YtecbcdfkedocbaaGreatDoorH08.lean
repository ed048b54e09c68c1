/- Gathered: WrBody WrMethod WrClass. -/
import Derived.Test.YtecbcdfkedocbaaGreatDoorH07
import Derived.Test.YtecbcdfkedocbaaGreatDoorH04
import Derived.Test.YtecbcdfkedocbaaGreatDoorH05
namespace Go.Proofs.YtecbcdfkedocbaaGreatDoor
open Go.RowKit Fm
set_option maxHeartbeats 4000000
set_option maxRecDepth 20000
set_option linter.unusedVariables false
structure WS (w0:World) (b:Nat) (sp:Bool) (bs:List UInt8) (W:World) (C:Nat) (cs:Array Value) (T:TypeId) (n:Nat) (P:Prop) (l:List UInt8) (s:Bool) (r:List UInt8) (W':World):Prop where
 wb:WB w0 b s r W'
 kw:Kw b W W'
 wx:Wx sp s bs r n P l
 box:Lk W' C cs T
theorem WS.call {w0:World} {b:Nat} {sp:Bool} {bs:List UInt8} {W:World} {C:Nat} {cs:Array Value} {T:TypeId} {n m:Nat} {P Q:Prop} {l t:List UInt8} {s s':Bool} {r r':List UInt8} {W1 W2:World} (h:WS w0 b sp bs W C cs T n P l s r W1) (hC:C≠b) (hT:T≠5) (h2:WB w0 b s' r' W2) (k2:Kw b W1 W2) (z2:Wx s s' r r' m Q t):WS w0 b sp bs W C cs T (n+m) (P∧Q) (l++t) s' r' W2:=
 ⟨h2,h.kw.trans k2,h.wx.trans z2,k2.lk h.box hC hT⟩
theorem WS.to {w0:World} {b:Nat} {sp:Bool} {bs:List UInt8} {W:World} {C:Nat} {cs:Array Value} {T:TypeId} {n n':Nat} {P P':Prop} {l l':List UInt8} {s:Bool} {r:List UInt8} {W1:World} (h:WS w0 b sp bs W C cs T n P l s r W1) (hn:n≤n') (hp:P↔P') (hl:P'→l=l'):WS w0 b sp bs W C cs T n' P' l' s r W1:=⟨h.wb,h.kw,h.wx.to hn hp hl,h.box⟩
theorem wbody_any {w0:World} {b:Nat} {sp:Bool} {bs:List UInt8} {W:World} (m:MMethod) (vt vf:Value) (B:Nat) (h:WB w0 b sp bs W) (hl:bs.length≤500000) (hm:m.few) (hw:MethodW W B vt vf m) :
  Calls Tryz.prog 238 #[.pointer (some ⟨b,0,none⟩),.agg #[.int .i64 m.flags,.int .i64 m.name,.int .i64 m.desc,.int .i64 m.deep,.int .i64 m.locals,.string m.code,vt,vf]] W fun e w'=>e=.returned (.tuple #[])∧WP w0 b sp bs W 566 (fineBody m) (putBody m) w':=by
 obtain ⟨x,y,z,d,l,cd,ts,fs⟩:=m
 obtain ⟨xs,hxs⟩:=FX.of hw.f
 have ht:=hw.t
 obtain ⟨o1,k1,hv1⟩:=own_len ht
 obtain ⟨o2,k2,hv2⟩:=own_len hxs.row
 simp only at ht hxs hv1 hv2
 subst hv1 hv2
 obtain ⟨f1,f2,f3,f4⟩:=hm
 simp only at f1 f2 f3 f4
 have HT:=hid ht
 have HX:=hid hxs
 have HF4:=hid f4
 have HH:=hid h
 have hb:=h.lt
 have S0:=(show WS w0 b sp bs W W.heap.size (arrM x y z d l cd (.slice o1 ts.length k1) (.slice o2 fs.length k2)) 75 0 True [] sp bs (W.alloc (.cells (arrM x y z d l cd (.slice o1 ts.length k1) (.slice o2 fs.length k2)) 75)) from ⟨h.alloc _,Kw.alloc _ _ _,Wx.nil,Lk.new _ _ _⟩)
 clear h ht hxs f4 hw
 go_enter Tryz.func238,Tryz.ntmps238
 go_wp2_with fail
 refine (wone_any _ S0.wb (by omega)).mono ?_
 rintro e w1 ⟨rfl,s1,r1,h1,q1,z1⟩
 have S1:=S0.call (by omega) (by decide) h1 q1 z1
 obtain ⟨⟨c0,c1,c2,c3,c4,c5,c6,c7⟩,_⟩:=S1.box.c8
 have hl1:=S1.wx.len
 clear S0 h1 q1 z1
 go_wp2_with fail
 refine (wone_any _ S1.wb (by omega)).mono ?_
 rintro e w2 ⟨rfl,s2,r2,h2,q2,z2⟩
 have S2:=S1.call (by omega) (by decide) h2 q2 z2
 clear c0 c1 c2 c3 c4 c5 c6 c7
 obtain ⟨⟨c0,c1,c2,c3,c4,c5,c6,c7⟩,_⟩:=S2.box.c8
 have hl2:=S2.wx.len
 clear S1 h2 q2 z2 hl1
 go_wp2_with fail
 refine (wcode_any _ S2.wb (by omega) f1).mono ?_
 rintro e w3 ⟨rfl,s3,r3,h3,q3,z3⟩
 have S3:=S2.call (by omega) (by decide) h3 q3 z3
 clear c0 c1 c2 c3 c4 c5 c6 c7
 obtain ⟨⟨c0,c1,c2,c3,c4,c5,c6,c7⟩,_⟩:=S3.box.c8
 have hl3:=S3.wx.len
 clear S2 h3 q3 z3 hl2
 go_wp2_with fail
 refine (wcount_any ts.length 3 S3.wb (by omega) (by omega) (by omega)).mono ?_
 rintro e w4 ⟨rfl,s4,r4,h4,q4,z4⟩
 have S4:=hid (S3.call (by omega) (by decide) h4 q4 z4)
 have hl4:=S4.out.wx.len
 clear S3 h4 q4 z4 hl3 c0 c1 c2 c3 c4 c5 c6 c7
 go_upto_block 0 with fail
 go_cut [4,22] (fun _ _ wc=>∃ s r,Hid (WS w0 b sp bs W W.heap.size (arrM x y z d l cd (.slice o1 ts.length k1) (.slice o2 fs.length k2)) 75 149 (((in1 d∧in1 l)∧fineCode cd)∧fineL 3 fineT ts) (one d++(one l++(putCode cd++putL putT ts))) s r wc))
 case first=>
  have hi4:=S4.out.wx
  by_cases h3:ts.length≤3
  ·have hif:(if (ts.length:Int)≤3 then (ts.length:Int) else 0)=ts.length:=if_pos (by omega)
   rw [hif]
   clear hif hi4
   go_wp2_with fail
   go_loopw [23,4] (fun c _ wr=>∃ (k:Nat) (s:Bool) (r:List UInt8),k≤ts.length∧c=.int .i64 k∧Hid (WS w0 b sp bs W W.heap.size (arrM x y z d l cd (.slice o1 ts.length k1) (.slice o2 fs.length k2)) 75 (125+8*k) (((((True∧in1 d)∧in1 l)∧fineCode cd)∧(ts.length:Int)≤3)∧∀ q∈ts.take k,fineT q) (one d++(one l++putCode cd)++one ts.length++(ts.take k).flatMap putT) s r wr)) (fun c _ _=>ts.length - (intOf c).toNat)
   case atStart=>exact ⟨0,s4,r4,by omega,rfl,S4.out.to (by omega) (by simp) (fun _=>by simp)⟩
   case round=>
    obtain ⟨k,s,r,hk,rfl,HS⟩:=hrel
    obtain ⟨⟨c0,c1,c2,c3,c4,c5,c6,c7⟩,_⟩:=HS.out.box.c8
    have hlr:=HS.out.wx.len
    by_cases hlt:k<ts.length
    ·obtain ⟨g,hg⟩:=own_some HT.out (by omega)
     subst hg
     obtain ⟨a1,a2,a3,a4,ha⟩:∃ a b c d,ts[k]=⟨a,b,c,d⟩:=⟨_,_,_,_,rfl⟩
     obtain ⟨e1,e2,e3,e4⟩:=trap_at (HH.out.row HS.out.kw HT.out (by decide) (by decide)) hlt ha
     have HK:=hid (List.take_succ_eq_append_getElem hlt)
     have HA:=hid ha
     have hcall:=wtrap_any ⟨a1,a2,a3,a4⟩ HS.out.wb (by omega)
     clear ha
     go_wp2_with fail
     refine hcall.mono ?_
     rintro e w5 ⟨rfl,s5,r5,h5,q5,z5⟩
     have S5:=hid ((HS.out.call (by omega) (by decide) h5 q5 z5).to (n':=125+8*(k+1)) (P':=((((True∧in1 d)∧in1 l)∧fineCode cd)∧(ts.length:Int)≤3)∧∀ q∈ts.take (k+1),fineT q) (l':=one d++(one l++putCode cd)++one ts.length++(ts.take (k+1)).flatMap putT) (by omega) (by
      rw [HK.out,HA.out]
      simp only [List.mem_append,List.mem_singleton]
      constructor
      ·rintro ⟨⟨h0,h1⟩,h2⟩
       exact ⟨h0,fun q hq=>by rcases hq with hq|rfl;exact h1 q hq;exact h2⟩
      ·rintro ⟨h0,h1⟩
       exact ⟨⟨h0,fun q hq=>h1 q (.inl hq)⟩,h1 _ (.inr rfl)⟩) (fun _=>by rw [HK.out,HA.out];simp))
     clear HS h5 q5 z5 hcall
     go_wp2_with fail
     go_roundw
     case rel=>exact ⟨k+1,s5,r5,by omega,by go_num,S5⟩
     case measure=>simp [intOf];omega
    ·have hke:k=ts.length:=by omega
     have S5:=hid (HS.out.to (n':=149) (P':=((in1 d∧in1 l)∧fineCode cd)∧fineL 3 fineT ts) (l':=one d++(one l++(putCode cd++putL putT ts))) (by omega) (by
      rw [hke,List.take_length]
      unfold fineL
      simp [and_assoc]) (fun _=>by rw [hke,List.take_length];simp [putL]))
     clear HS
     go_wp2_with fail
     go_meet
     case rel=>exact ⟨s,r,S5⟩
  ·have hif:(if (ts.length:Int)≤3 then (ts.length:Int) else 0)=0:=if_neg (by omega)
   have HN:=hid (show ¬fineL 3 fineT ts from fun q=>h3 (by have:=q.1;omega))
   have HN2:=hid (show ¬(ts.length:Int)≤3 from by omega)
   have S5:=hid (S4.out.to (n':=149) (P':=((in1 d∧in1 l)∧fineCode cd)∧fineL 3 fineT ts) (l':=one d++(one l++(putCode cd++putL putT ts))) (by omega) (by simp [HN.out,HN2.out]) (fun q=>absurd q.2 HN.out))
   rw [hif]
   clear hif hi4 S4 h3
   go_wp2_with fail
   refine wp_loop_rounds 1 ?_
   rw [rounds_succ]
   go_wp2_with fail
   go_meet
   case rel=>exact ⟨s4,r4,S5⟩
 case rest=>
  obtain ⟨s5,r5,S5⟩:=hcut
  clear S4 hl4
  obtain ⟨⟨c0,c1,c2,c3,c4,c5,c6,c7⟩,_⟩:=S5.out.box.c8
  have hl5:=S5.out.wx.len
  go_wp2_with fail
  refine (wcount_any fs.length 8 S5.out.wb (by omega) (by omega) (by omega)).mono ?_
  rintro e w6 ⟨rfl,s6,r6,h6,q6,z6⟩
  have S6:=hid (S5.out.call (by omega) (by decide) h6 q6 z6)
  clear S5 h6 q6 z6 hl5 c0 c1 c2 c3 c4 c5 c6 c7
  by_cases h8:fs.length≤8
  ·have hif:(if (fs.length:Int)≤8 then (fs.length:Int) else 0)=fs.length:=if_pos (by omega)
   rw [hif]
   clear hif
   go_wp2_with fail
   go_loopw [39,5] (fun c _ wr=>∃ (k:Nat) (s:Bool) (r:List UInt8),k≤fs.length∧c=.int .i64 k∧Hid (WS w0 b sp bs W W.heap.size (arrM x y z d l cd (.slice o1 ts.length k1) (.slice o2 fs.length k2)) 75 (150+52*k) (((((in1 d∧in1 l)∧fineCode cd)∧fineL 3 fineT ts)∧(fs.length:Int)≤8)∧∀ q∈fs.take k,fineF q) (one d++(one l++(putCode cd++putL putT ts))++one fs.length++(fs.take k).flatMap putF) s r wr)) (fun c _ _=>fs.length - (intOf c).toNat)
   case atStart=>exact ⟨0,s6,r6,by omega,rfl,S6.out.to (by omega) (by simp) (fun _=>by simp)⟩
   case round=>
    obtain ⟨k,s,r,hk,rfl,HS⟩:=hrel
    obtain ⟨⟨c0,c1,c2,c3,c4,c5,c6,c7⟩,_⟩:=HS.out.box.c8
    have hlr:=HS.out.wx.len
    by_cases hlt:k<fs.length
    ·obtain ⟨g,hg⟩:=own_some HX.out.row (by omega)
     subst hg
     have hxl:k<xs.length:=by rw [HX.out.len];exact hlt
     obtain ⟨b1,b2,b3,hbx⟩:∃ a b c,xs[k]=⟨a,b,c⟩:=⟨_,_,_,rfl⟩
     obtain ⟨f,hfk⟩:∃ f,fs[k]=f:=⟨_,rfl⟩
     have hfe:=HX.out.each k hlt hxl
     have hfw:=HF4.out fs[k] (List.getElem_mem _)
     rw [hbx,hfk] at hfe
     rw [hfk] at hfw
     have hfe2:=(show FrameW wr B ⟨b1,b2,b3⟩ f from ⟨hfe.at_,HH.out.row HS.out.kw hfe.l (by decide) (by decide),HH.out.row HS.out.kw hfe.s (by decide) (by decide)⟩)
     obtain ⟨u1,v1,hv1⟩:=own_len hfe.l
     obtain ⟨u2,v2,hv2⟩:=own_len hfe.s
     simp only at hv1 hv2
     subst hv1 hv2
     obtain ⟨e1,e2,e3⟩:=ownFrame_at (HH.out.row HS.out.kw HX.out.row (by decide) (by decide)) HX.out.len hxl
     rw [hbx] at e1 e2 e3
     simp only at e1 e2 e3
     have HK:=hid (List.take_succ_eq_append_getElem hlt)
     have HA:=hid hfk
     have hcall:=wframe_any ⟨b1,.slice u1 f.locals.length v1,.slice u2 f.stack.length v2⟩ f B HS.out.wb (by omega) hfw hfe2
     simp only at hcall
     clear hfk hbx hfe hfe2 hfw
     go_wp2_with fail
     refine hcall.mono ?_
     rintro e w7 ⟨rfl,s7,r7,h7,q7,z7⟩
     have S7:=hid ((HS.out.call (by omega) (by decide) h7 q7 z7).to (n':=150+52*(k+1)) (P':=((((in1 d∧in1 l)∧fineCode cd)∧fineL 3 fineT ts)∧(fs.length:Int)≤8)∧∀ q∈fs.take (k+1),fineF q) (l':=one d++(one l++(putCode cd++putL putT ts))++one fs.length++(fs.take (k+1)).flatMap putF) (by omega) (by
      rw [HK.out,HA.out]
      simp only [List.mem_append,List.mem_singleton]
      constructor
      ·rintro ⟨⟨h0,h1⟩,h2⟩
       exact ⟨h0,fun q hq=>by rcases hq with hq|rfl;exact h1 q hq;exact h2⟩
      ·rintro ⟨h0,h1⟩
       exact ⟨⟨h0,fun q hq=>h1 q (.inl hq)⟩,h1 _ (.inr rfl)⟩) (fun _=>by rw [HK.out,HA.out];simp))
     clear HS h7 q7 z7 hcall
     go_wp2_with fail
     go_roundw
     case rel=>exact ⟨k+1,s7,r7,by omega,by go_num,S7⟩
     case measure=>simp [intOf];omega
    ·have hke:k=fs.length:=by omega
     have S7:=hid (HS.out.to (n':=566) (P':=fineBody ⟨x,y,z,d,l,cd,ts,fs⟩) (l':=putBody ⟨x,y,z,d,l,cd,ts,fs⟩) (by omega) (by
      rw [hke,List.take_length]
      unfold fineBody fineL
      simp [and_assoc]) (fun _=>by rw [hke,List.take_length];simp [putL,putBody]))
     have HF:=hid (show WP w0 b sp bs W 566 (fineBody ⟨x,y,z,d,l,cd,ts,fs⟩) (putBody ⟨x,y,z,d,l,cd,ts,fs⟩) wr from ⟨s,r,S7.out.wb,S7.out.kw,S7.out.wx⟩)
     clear HS S7
     go_wp2_with fail
     go_end0
     exact ⟨rfl,HF.out⟩
  ·have hif:(if (fs.length:Int)≤8 then (fs.length:Int) else 0)=0:=if_neg (by omega)
   have HN:=hid (show ¬fineBody ⟨x,y,z,d,l,cd,ts,fs⟩ from fun q=>h8 (by have:=q.2.2.2.2.1;simp only at this;omega))
   have HN2:=hid (show ¬(fs.length:Int)≤8 from by omega)
   have S7:=hid (S6.out.to (n':=566) (P':=fineBody ⟨x,y,z,d,l,cd,ts,fs⟩) (l':=putBody ⟨x,y,z,d,l,cd,ts,fs⟩) (by omega) (by simp [HN.out,HN2.out]) (fun q=>absurd q HN.out))
   have HF:=hid (show WP w0 b sp bs W 566 (fineBody ⟨x,y,z,d,l,cd,ts,fs⟩) (putBody ⟨x,y,z,d,l,cd,ts,fs⟩) w6 from ⟨s6,r6,S7.out.wb,S7.out.kw,S7.out.wx⟩)
   rw [hif]
   clear hif S6 S7 h8
   go_wp2_with fail
   refine wp_loop_rounds 1 ?_
   rw [rounds_succ]
   go_wp2_with fail
   go_end0
   exact ⟨rfl,HF.out⟩
theorem wmethod_any {w0:World} {b:Nat} {sp:Bool} {bs:List UInt8} {W:World} (m:MMethod) (vt vf:Value) (B:Nat) (h:WB w0 b sp bs W) (hl:bs.length≤400000) (hm:m.few) (hw:MethodW W B vt vf m) :
  Calls Tryz.prog 209 #[.pointer (some ⟨b,0,none⟩),.agg #[.int .i64 m.flags,.int .i64 m.name,.int .i64 m.desc,.int .i64 m.deep,.int .i64 m.locals,.string m.code,vt,vf]] W fun e w'=>e=.returned (.tuple #[])∧WP w0 b sp bs W 571 (fineM m) (putM m) w':=by
 have hbody:=fun (s:Bool) (r:List UInt8) (W':World) (h':WB w0 b s r W') (hl':r.length≤500000) (hw':MethodW W' B vt vf m)=>wbody_any m vt vf B h' hl' hm hw'
 obtain ⟨x,y,z,d,l,cd,ts,fs⟩:=m
 obtain ⟨o1,k1,hv1⟩:=own_len hw.t
 obtain ⟨o2,k2,hv2⟩:=hw.f.len
 simp only at hv1 hv2
 subst hv1 hv2
 have HM:=hid hw
 have HH:=hid h
 have hb:=h.lt
 have S0:=(show WS w0 b sp bs W W.heap.size (arrM x y z d l cd (.slice o1 ts.length k1) (.slice o2 fs.length k2)) 75 0 True [] sp bs (W.alloc (.cells (arrM x y z d l cd (.slice o1 ts.length k1) (.slice o2 fs.length k2)) 75)) from ⟨h.alloc _,Kw.alloc _ _ _,Wx.nil,Lk.new _ _ _⟩)
 have HB:=hid hbody
 clear h hw hbody hm
 go_enter Tryz.func209,Tryz.ntmps209
 go_wp2_with fail
 refine (wone_any _ S0.wb (by omega)).mono ?_
 rintro e w1 ⟨rfl,s1,r1,h1,q1,z1⟩
 have S1:=S0.call (by omega) (by decide) h1 q1 z1
 obtain ⟨⟨c0,c1,c2,c3,c4,c5,c6,c7⟩,_⟩:=S1.box.c8
 have hl1:=S1.wx.len
 clear S0 h1 q1 z1
 go_wp2_with fail
 refine (wtwo_any _ S1.wb (by omega)).mono ?_
 rintro e w2 ⟨rfl,s2,r2,h2,q2,z2⟩
 have S2:=S1.call (by omega) (by decide) h2 q2 z2
 clear c0 c1 c2 c3 c4 c5 c6 c7
 obtain ⟨⟨c0,c1,c2,c3,c4,c5,c6,c7⟩,_⟩:=S2.box.c8
 have hl2:=S2.wx.len
 clear S1 h2 q2 z2 hl1
 go_wp2_with fail
 refine (wtwo_any _ S2.wb (by omega)).mono ?_
 rintro e w3 ⟨rfl,s3,r3,h3,q3,z3⟩
 have S3:=S2.call (by omega) (by decide) h3 q3 z3
 clear c0 c1 c2 c3 c4 c5 c6 c7
 obtain ⟨⟨c0,c1,c2,c3,c4,c5,c6,c7⟩,_⟩:=S3.box.c8
 have hl3:=S3.wx.len
 clear S2 h3 q3 z3 hl2
 have HA:=hid (show in1 x→hasB x=decide (¬absF x) from hasB_in)
 obtain ⟨hb2,HB2⟩:∃ q,Hid (hasB x=q):=⟨_,rfl⟩
 have hhas:=(show Calls Tryz.prog 148 #[.int .i64 x] w3 fun e w'=>e=.returned (.bool hb2)∧w'=w3 from by rw [← HB2.out];exact whas_any x w3)
 go_wp2_with fail
 refine hhas.mono ?_
 rintro e w4 ⟨rfl,hw4⟩
 replace hw4:=hw4.symm
 subst hw4
 clear hhas
 have HS3:=hid S3
 clear S3
 cases hb2 with
 | true=>
  go_wp2_with fail
  refine (HB.out _ _ _ HS3.out.wb (by omega) (show MethodW w3 B _ _ ⟨x,y,z,d,l,cd,ts,fs⟩ from ⟨HH.out.row HS3.out.kw HM.out.t (by decide) (by decide),by
   obtain ⟨xs,hxs⟩:=FX.of HM.out.f
   exact ⟨xs,hxs.len,HH.out.row HS3.out.kw hxs.row (by decide) (by decide),fun k p1 p2=>⟨(hxs.each k p1 p2).at_,HH.out.row HS3.out.kw (hxs.each k p1 p2).l (by decide) (by decide),HH.out.row HS3.out.kw (hxs.each k p1 p2).s (by decide) (by decide)⟩⟩⟩)).mono ?_
  rintro e w5 ⟨rfl,s5,r5,h5,q5,z5⟩
  have S5:=HS3.out.call (by omega) (by decide) h5 q5 z5
  have HF:=hid (show WP w0 b sp bs W 571 (fineM ⟨x,y,z,d,l,cd,ts,fs⟩) (putM ⟨x,y,z,d,l,cd,ts,fs⟩) w5 from ⟨s5,r5,S5.wb,S5.kw,S5.wx.to (by omega) (by
   unfold fineM fineM2
   constructor
   ·rintro ⟨⟨⟨⟨_,p1⟩,p2⟩,p3⟩,p4⟩
    have:=HA.out p1
    rw [HB2.out] at this
    have hna:¬absF x:=by simpa using this.symm
    exact ⟨p1,p2,p3,by rw [if_neg hna];exact p4⟩
   ·rintro ⟨p1,p2,p3,p4⟩
    have:=HA.out p1
    rw [HB2.out] at this
    have hna:¬absF x:=by simpa using this.symm
    rw [if_neg hna] at p4
    exact ⟨⟨⟨⟨trivial,p1⟩,p2⟩,p3⟩,p4⟩) (fun p=>by
   have:=HA.out p.1
   rw [HB2.out] at this
   have hna:¬absF x:=by simpa using this.symm
   simp [putM,hna])⟩)
  clear S5 h5 q5 z5 HS3 c0 c1 c2 c3 c4 c5 c6 c7
  go_wp2_with fail
  refine bodyPost_ret (results_none (by rfl) _ _ _) rfl ?_
  exact ⟨rfl,HF.out⟩
 | false=>
  have HAb:=hid (show in1 x→absF x from fun p=>by
   have:=HA.out p
   rw [HB2.out] at this
   simpa using this.symm)
  have HFin:=hid (show ∀ w5 s5 r5,WS w0 b sp bs W W.heap.size (arrM x y z d l cd (.slice o1 ts.length k1) (.slice o2 fs.length k2)) 75 (0+1+2+2+0+0) ((((((True∧in1 x)∧in2 y)∧in2 z)∧(d=0∧l=0∧cd=empty))∧(ts=[]∧fs=[]))) ([]++one x++two y++two z++[]++[]) s5 r5 w5→WP w0 b sp bs W 571 (fineM ⟨x,y,z,d,l,cd,ts,fs⟩) (putM ⟨x,y,z,d,l,cd,ts,fs⟩) w5 from fun w5 s5 r5 S5=>⟨s5,r5,S5.wb,S5.kw,S5.wx.to (by omega) (by
   unfold fineM fineM2 bare
   constructor
   ·rintro ⟨⟨⟨⟨⟨_,p1⟩,p2⟩,p3⟩,p4,p5,p6⟩,p7,p8⟩
    exact ⟨p1,p2,p3,by rw [if_pos (HAb.out p1)];exact ⟨p4,p5,p6,p7,p8⟩⟩
   ·rintro ⟨p1,p2,p3,p4⟩
    rw [if_pos (HAb.out p1)] at p4
    obtain ⟨p4,p5,p6,p7,p8⟩:=p4
    exact ⟨⟨⟨⟨⟨trivial,p1⟩,p2⟩,p3⟩,p4,p5,p6⟩,p7,p8⟩) (fun p=>by
   have ha:=HAb.out p.1
   simp [putM,ha])⟩)
  clear HA HAb HB2
  by_cases hd:d=0
  ·have HD:=hid hd
   have hd':(d==0)=true:=by simpa using hd
   clear hd
   by_cases hlz:l=0
   ·have HL:=hid hlz
    have hl':(l==0)=true:=by simpa using hlz
    clear hlz
    go_wp2_with fail
    refine (wmust_any HS3.out.wb (cd.toList.isEmpty) (d=0∧l=0∧cd=empty) (by rw [HD.out,HL.out,← empty_iff];simp)).mono ?_
    rintro e w5 ⟨rfl,s5,r5,h5,q5,z5⟩
    have S4:=hid (HS3.out.call (by omega) (by decide) h5 q5 z5)
    clear c0 c1 c2 c3 c4 c5 c6 c7
    obtain ⟨⟨c0,c1,c2,c3,c4,c5,c6,c7⟩,_⟩:=S4.out.box.c8
    clear HS3 h5 q5 z5
    by_cases ht:ts.length=0
    ·have ht':((ts.length:Int)==0)=true:=by simp [ht]
     have HT0:=hid (List.eq_nil_of_length_eq_zero ht)
     clear ht
     go_wp2_with fail
     refine (wmust_any S4.out.wb ((fs.length:Int)==0) (ts=[]∧fs=[]) (by rw [HT0.out];simp)).mono ?_
     rintro e w6 ⟨rfl,s6,r6,h6,q6,z6⟩
     have HF:=hid (HFin.out _ _ _ (S4.out.call (by omega) (by decide) h6 q6 z6))
     clear S4 h6 q6 z6 HFin c0 c1 c2 c3 c4 c5 c6 c7
     go_wp2_with fail
     go_end0
     exact ⟨rfl,HF.out⟩
    ·have ht':((ts.length:Int)==0)=false:=by simp;exact fun e=>ht (by rw [e];rfl)
     have HT0:=hid (show ¬ts=[] from fun e=>ht (by rw [e];rfl))
     clear ht
     go_wp2_with fail
     refine (wmust_any S4.out.wb false (ts=[]∧fs=[]) (by simp [HT0.out])).mono ?_
     rintro e w6 ⟨rfl,s6,r6,h6,q6,z6⟩
     have HF:=hid (HFin.out _ _ _ (S4.out.call (by omega) (by decide) h6 q6 z6))
     clear S4 h6 q6 z6 HFin c0 c1 c2 c3 c4 c5 c6 c7
     go_wp2_with fail
     go_end0
     exact ⟨rfl,HF.out⟩
   ·have HL:=hid hlz
    have hl':(l==0)=false:=by simpa using hlz
    clear hlz
    go_wp2_with fail
    refine (wmust_any HS3.out.wb (false) (d=0∧l=0∧cd=empty) (by simp [HL.out])).mono ?_
    rintro e w5 ⟨rfl,s5,r5,h5,q5,z5⟩
    have S4:=hid (HS3.out.call (by omega) (by decide) h5 q5 z5)
    clear c0 c1 c2 c3 c4 c5 c6 c7
    obtain ⟨⟨c0,c1,c2,c3,c4,c5,c6,c7⟩,_⟩:=S4.out.box.c8
    clear HS3 h5 q5 z5
    by_cases ht:ts.length=0
    ·have ht':((ts.length:Int)==0)=true:=by simp [ht]
     have HT0:=hid (List.eq_nil_of_length_eq_zero ht)
     clear ht
     go_wp2_with fail
     refine (wmust_any S4.out.wb ((fs.length:Int)==0) (ts=[]∧fs=[]) (by rw [HT0.out];simp)).mono ?_
     rintro e w6 ⟨rfl,s6,r6,h6,q6,z6⟩
     have HF:=hid (HFin.out _ _ _ (S4.out.call (by omega) (by decide) h6 q6 z6))
     clear S4 h6 q6 z6 HFin c0 c1 c2 c3 c4 c5 c6 c7
     go_wp2_with fail
     go_end0
     exact ⟨rfl,HF.out⟩
    ·have ht':((ts.length:Int)==0)=false:=by simp;exact fun e=>ht (by rw [e];rfl)
     have HT0:=hid (show ¬ts=[] from fun e=>ht (by rw [e];rfl))
     clear ht
     go_wp2_with fail
     refine (wmust_any S4.out.wb false (ts=[]∧fs=[]) (by simp [HT0.out])).mono ?_
     rintro e w6 ⟨rfl,s6,r6,h6,q6,z6⟩
     have HF:=hid (HFin.out _ _ _ (S4.out.call (by omega) (by decide) h6 q6 z6))
     clear S4 h6 q6 z6 HFin c0 c1 c2 c3 c4 c5 c6 c7
     go_wp2_with fail
     go_end0
     exact ⟨rfl,HF.out⟩
  ·have HD:=hid hd
   have hd':(d==0)=false:=by simpa using hd
   clear hd
   go_wp2_with fail
   refine (wmust_any HS3.out.wb (false) (d=0∧l=0∧cd=empty) (by simp [HD.out])).mono ?_
   rintro e w5 ⟨rfl,s5,r5,h5,q5,z5⟩
   have S4:=hid (HS3.out.call (by omega) (by decide) h5 q5 z5)
   clear c0 c1 c2 c3 c4 c5 c6 c7
   obtain ⟨⟨c0,c1,c2,c3,c4,c5,c6,c7⟩,_⟩:=S4.out.box.c8
   clear HS3 h5 q5 z5
   by_cases ht:ts.length=0
   ·have ht':((ts.length:Int)==0)=true:=by simp [ht]
    have HT0:=hid (List.eq_nil_of_length_eq_zero ht)
    clear ht
    go_wp2_with fail
    refine (wmust_any S4.out.wb ((fs.length:Int)==0) (ts=[]∧fs=[]) (by rw [HT0.out];simp)).mono ?_
    rintro e w6 ⟨rfl,s6,r6,h6,q6,z6⟩
    have HF:=hid (HFin.out _ _ _ (S4.out.call (by omega) (by decide) h6 q6 z6))
    clear S4 h6 q6 z6 HFin c0 c1 c2 c3 c4 c5 c6 c7
    go_wp2_with fail
    go_end0
    exact ⟨rfl,HF.out⟩
   ·have ht':((ts.length:Int)==0)=false:=by simp;exact fun e=>ht (by rw [e];rfl)
    have HT0:=hid (show ¬ts=[] from fun e=>ht (by rw [e];rfl))
    clear ht
    go_wp2_with fail
    refine (wmust_any S4.out.wb false (ts=[]∧fs=[]) (by simp [HT0.out])).mono ?_
    rintro e w6 ⟨rfl,s6,r6,h6,q6,z6⟩
    have HF:=hid (HFin.out _ _ _ (S4.out.call (by omega) (by decide) h6 q6 z6))
    clear S4 h6 q6 z6 HFin c0 c1 c2 c3 c4 c5 c6 c7
    go_wp2_with fail
    go_end0
    exact ⟨rfl,HF.out⟩
set_option maxHeartbeats 8000000
theorem wclass_any {w0:World} {b:Nat} {W:World} (c:MClass) (vp vi vf vm:Value) (B:Nat) (h:WB w0 b false [] W) (hc:c.few) (hw:ClassW W B vp vi vf vm c) :
  Calls Tryz.prog 166 #[.pointer (some ⟨b,0,none⟩),.agg #[vp,.int .i64 c.flags,.int .i64 c.name,.int .i64 c.super,vi,vf,vm]] W fun e w'=>e=.returned (.tuple #[])∧WP w0 b false [] W 30000 (fineC c) (putC c) w':=by
 obtain ⟨ps,f,n,u,is,fs,ms⟩:=c
 obtain ⟨xs,hxs⟩:=MX.of hw.m
 obtain ⟨o1,k1,hv1⟩:=own_len hw.p
 obtain ⟨o2,k2,hv2⟩:=own_len hw.i
 obtain ⟨o3,k3,hv3⟩:=own_len hw.f
 obtain ⟨o4,k4,hv4⟩:=own_len hxs.row
 have l1:=hc.pool
 have l2:=hc.faces
 have l3:=hc.fields
 have l4:=hc.methods
 simp only at hv1 hv2 hv3 hv4 l1 l2 l3 l4
 subst hv1 hv2 hv3 hv4
 have HP:=hid hw.p
 have HI:=hid hw.i
 have HF:=hid hw.f
 have HM:=hid hxs
 have HT:=hid hc.texts
 have HE:=hid hc.each
 simp only at HP HI HF HM HT HE
 have HH:=hid h
 have hb:=h.lt
 have S0:=(show WS w0 b false [] W W.heap.size (arrC (.slice o1 ps.length k1) f n u (.slice o2 is.length k2) (.slice o3 fs.length k3) (.slice o4 ms.length k4)) 36 0 True [] false [] (W.alloc (.cells (arrC (.slice o1 ps.length k1) f n u (.slice o2 is.length k2) (.slice o3 fs.length k3) (.slice o4 ms.length k4)) 36)) from ⟨h.alloc _,Kw.alloc _ _ _,Wx.nil,Lk.new _ _ _⟩)
 clear h hw hxs hc
 go_enter Tryz.func166,Tryz.ntmps166
 go_wp2_with fail
 refine (wstr_any _ S0.wb (by simp) (by simp [ByteArray.size])).mono ?_
 rintro e w1 ⟨rfl,h1,q1⟩
 have S1:=(S0.call (m:=4) (Q:=True) (t:=Fm.mark) (by omega) (by decide) h1 q1 ⟨by simp,by simp,fun _=>rfl⟩)
 obtain ⟨⟨c0,c1,c2,c3,c4,c5,c6⟩,_⟩:=S1.box.c7
 have hl1:=S1.wx.len
 clear S0 h1 q1
 go_wp2_with fail
 refine (wcount_any ps.length 60 S1.wb (by simp) (by omega) (by omega)).mono ?_
 rintro e w2 ⟨rfl,s2,r2,h2,q2,z2⟩
 have S2:=hid ((S1.call (by omega) (by decide) h2 q2 z2).to (n':=5) (P':=(ps.length:Int)≤60) (l':=Fm.mark++one ps.length) (by omega) (by simp) (fun _=>by simp))
 clear S1 h2 q2 z2 hl1 c0 c1 c2 c3 c4 c5 c6
 go_upto_block 0 with fail
 go_cut [4,16] (fun _ _ wc=>∃ s r,Hid (WS w0 b false [] W W.heap.size (arrC (.slice o1 ps.length k1) f n u (.slice o2 is.length k2) (.slice o3 fs.length k3) (.slice o4 ms.length k4)) 36 (15425) (fineL 60 fineE ps) (Fm.mark++putL putE ps) s r wc))
 case first=>
  by_cases hcnt:ps.length≤60
  ·have hif:(if (ps.length:Int)≤60 then (ps.length:Int) else 0)=ps.length:=if_pos (by omega)
   rw [hif]
   clear hif
   go_wp2_with fail
   go_loopw [17,4] (fun c _ wr=>∃ (k:Nat) (s:Bool) (r:List UInt8),k≤ps.length∧c=.int .i64 k∧Hid (WS w0 b false [] W W.heap.size (arrC (.slice o1 ps.length k1) f n u (.slice o2 is.length k2) (.slice o3 fs.length k3) (.slice o4 ms.length k4)) 36 (5+257*k) (((ps.length:Int)≤60)∧∀ q∈ps.take k,fineE q) ((Fm.mark++one ps.length)++(ps.take k).flatMap putE) s r wr)) (fun c _ _=>ps.length - (intOf c).toNat)
   case atStart=>exact ⟨0,s2,r2,by omega,rfl,S2.out.to (by omega) (by simp) (fun _=>by simp)⟩
   case round=>
    obtain ⟨k,s,r,hk,rfl,HS⟩:=hrel
    obtain ⟨⟨c0,c1,c2,c3,c4,c5,c6⟩,_⟩:=HS.out.box.c7
    have hlr:=HS.out.wx.len
    simp only [List.length_nil] at hlr
    by_cases hlt:k<ps.length
    ·have HK:=hid (List.take_succ_eq_append_getElem hlt)
     obtain ⟨g,hg⟩:=own_some HP.out (by omega)
     subst hg
     obtain ⟨a1,a2,a3,a4,ha⟩:∃ a b c d,ps[k]=⟨a,b,c,d⟩:=⟨_,_,_,_,rfl⟩
     obtain ⟨e1,e2,e3,e4⟩:=const_at (HH.out.row HS.out.kw HP.out (by decide) (by decide)) hlt ha
     have hx:a2.size≤1048576:=by have:=HT.out ps[k] (List.getElem_mem _);rw [ha] at this;exact this
     have HA:=hid ha
     have hcall:=wentry_any ⟨a1,a2,a3,a4⟩ HS.out.wb (by omega) hx
     clear ha
     go_wp2_with fail
     refine hcall.mono ?_
     rintro e w5 ⟨rfl,s5,r5,h5,q5,z5⟩
     have S5:=hid ((HS.out.call (by omega) (by decide) h5 q5 z5).to (n':=5+257*(k+1)) (P':=((ps.length:Int)≤60)∧∀ q∈ps.take (k+1),fineE q) (l':=(Fm.mark++one ps.length)++(ps.take (k+1)).flatMap putE) (by omega) (by
      rw [HK.out,HA.out]
      simp only [List.mem_append,List.mem_singleton]
      constructor
      ·rintro ⟨⟨h0,h1⟩,h2⟩
       exact ⟨h0,fun q hq=>by rcases hq with hq|rfl;exact h1 q hq;exact h2⟩
      ·rintro ⟨h0,h1⟩
       exact ⟨⟨h0,fun q hq=>h1 q (.inl hq)⟩,h1 _ (.inr rfl)⟩) (fun _=>by rw [HK.out,HA.out];simp))
     clear HS h5 q5 z5 hcall
     go_wp2_with fail
     go_roundw
     case rel=>exact ⟨k+1,s5,r5,by omega,by go_num,S5⟩
     case measure=>simp [intOf];omega
    ·have hke:k=ps.length:=by omega
     have S5:=hid (HS.out.to (n':=15425) (P':=fineL 60 fineE ps) (l':=Fm.mark++putL putE ps) (by omega) (by
      rw [hke,List.take_length]
      unfold fineL
      exact Iff.rfl) (fun _=>by rw [hke,List.take_length];simp [putL]))
     clear HS
     go_wp2_with fail
     go_meet
     case rel=>exact ⟨s,r,S5⟩
  ·have hif:(if (ps.length:Int)≤60 then (ps.length:Int) else 0)=0:=if_neg (by omega)
   have HN:=hid (show ¬fineL 60 fineE ps from fun q=>hcnt (by have:=q.1;omega))
   have HN2:=hid (show ¬(ps.length:Int)≤60 from by omega)
   have S5:=hid (S2.out.to (n':=15425) (P':=fineL 60 fineE ps) (l':=Fm.mark++putL putE ps) (by omega) (by simp [HN.out,HN2.out]) (fun q=>by simp [HN.out] at q))
   rw [hif]
   clear hif S2 hcnt
   go_wp2_with fail
   refine wp_loop_rounds 1 ?_
   rw [rounds_succ]
   go_wp2_with fail
   go_meet
   case rel=>exact ⟨s2,r2,S5⟩
 case rest=>
  obtain ⟨s3,r3,S3⟩:=hcut
  clear S2
  obtain ⟨⟨c0,c1,c2,c3,c4,c5,c6⟩,_⟩:=S3.out.box.c7
  have hl3:=S3.out.wx.len
  simp only [List.length_nil] at hl3
  go_wp2_with fail
  refine (wone_any _ S3.out.wb (by omega)).mono ?_
  rintro e w4 ⟨rfl,s4,r4,h4,q4,z4⟩
  have S4:=S3.out.call (by omega) (by decide) h4 q4 z4
  clear c0 c1 c2 c3 c4 c5 c6
  obtain ⟨⟨c0,c1,c2,c3,c4,c5,c6⟩,_⟩:=S4.box.c7
  have hl4:=S4.wx.len
  simp only [List.length_nil] at hl4
  clear S3 h4 q4 z4
  go_wp2_with fail
  refine (wtwo_any _ S4.wb (by omega)).mono ?_
  rintro e w5 ⟨rfl,s5,r5,h5,q5,z5⟩
  have S5:=S4.call (by omega) (by decide) h5 q5 z5
  clear c0 c1 c2 c3 c4 c5 c6
  obtain ⟨⟨c0,c1,c2,c3,c4,c5,c6⟩,_⟩:=S5.box.c7
  have hl5:=S5.wx.len
  simp only [List.length_nil] at hl5
  clear S4 h5 q5 z5
  go_wp2_with fail
  refine (wtwo_any _ S5.wb (by omega)).mono ?_
  rintro e w6 ⟨rfl,s6,r6,h6,q6,z6⟩
  have S6:=S5.call (by omega) (by decide) h6 q6 z6
  clear c0 c1 c2 c3 c4 c5 c6
  obtain ⟨⟨c0,c1,c2,c3,c4,c5,c6⟩,_⟩:=S6.box.c7
  have hl6:=S6.wx.len
  simp only [List.length_nil] at hl6
  clear S5 h6 q6 z6
  go_wp2_with fail
  refine (wcount_any is.length 3 S6.wb (by omega) (by omega) (by omega)).mono ?_
  rintro e w7 ⟨rfl,s7,r7,h7,q7,z7⟩
  have S7:=hid ((S6.call (by omega) (by decide) h7 q7 z7).to (n':=15431) (P':=((((fineL 60 fineE ps)∧in1 f)∧in2 n)∧in2 u)∧(is.length:Int)≤3) (l':=Fm.mark++(putL putE ps++(one f++(two n++two u)))++one is.length) (by omega) (by simp) (fun _=>by simp))
  clear S6 h7 q7 z7 hl3 hl4 hl5 hl6 c0 c1 c2 c3 c4 c5 c6
  go_upto_block 2 with fail
  go_cut [5,44] (fun _ _ wc=>∃ s r,Hid (WS w0 b false [] W W.heap.size (arrC (.slice o1 ps.length k1) f n u (.slice o2 is.length k2) (.slice o3 fs.length k3) (.slice o4 ms.length k4)) 36 (15437) (((((fineL 60 fineE ps)∧in1 f)∧in2 n)∧in2 u)∧fineL 3 in2 is) (Fm.mark++(putL putE ps++(one f++(two n++(two u++putL two is))))) s r wc))
  case first=>
   by_cases hcnt:is.length≤3
   ·have hif:(if (is.length:Int)≤3 then (is.length:Int) else 0)=is.length:=if_pos (by omega)
    rw [hif]
    clear hif
    go_wp2_with fail
    go_loopw [45,5] (fun c _ wr=>∃ (k:Nat) (s:Bool) (r:List UInt8),k≤is.length∧c=.int .i64 k∧Hid (WS w0 b false [] W W.heap.size (arrC (.slice o1 ps.length k1) f n u (.slice o2 is.length k2) (.slice o3 fs.length k3) (.slice o4 ms.length k4)) 36 (15431+2*k) ((((((fineL 60 fineE ps)∧in1 f)∧in2 n)∧in2 u)∧(is.length:Int)≤3)∧∀ q∈is.take k,in2 q) ((Fm.mark++(putL putE ps++(one f++(two n++two u)))++one is.length)++(is.take k).flatMap two) s r wr)) (fun c _ _=>is.length - (intOf c).toNat)
    case atStart=>exact ⟨0,s7,r7,by omega,rfl,S7.out.to (by omega) (by simp) (fun _=>by simp)⟩
    case round=>
     obtain ⟨k,s,r,hk,rfl,HS⟩:=hrel
     obtain ⟨⟨c0,c1,c2,c3,c4,c5,c6⟩,_⟩:=HS.out.box.c7
     have hlr:=HS.out.wx.len
     simp only [List.length_nil] at hlr
     by_cases hlt:k<is.length
     ·have HK:=hid (List.take_succ_eq_append_getElem hlt)
      obtain ⟨g,hg⟩:=own_some HI.out (by omega)
      subst hg
      obtain ⟨a1,ha⟩:∃ a,is[k]=a:=⟨_,rfl⟩
      have e1:=ownI_at (HH.out.row HS.out.kw HI.out (by decide) (by decide)) rfl hlt
      rw [ha] at e1
      have HA:=hid ha
      have hcall:=wtwo_any a1 HS.out.wb (by omega)
      clear ha
      go_wp2_with fail
      refine hcall.mono ?_
      rintro e w5 ⟨rfl,s5,r5,h5,q5,z5⟩
      have S5:=hid ((HS.out.call (by omega) (by decide) h5 q5 z5).to (n':=15431+2*(k+1)) (P':=(((((fineL 60 fineE ps)∧in1 f)∧in2 n)∧in2 u)∧(is.length:Int)≤3)∧∀ q∈is.take (k+1),in2 q) (l':=(Fm.mark++(putL putE ps++(one f++(two n++two u)))++one is.length)++(is.take (k+1)).flatMap two) (by omega) (by
       rw [HK.out,HA.out]
       simp only [List.mem_append,List.mem_singleton]
       constructor
       ·rintro ⟨⟨h0,h1⟩,h2⟩
        exact ⟨h0,fun q hq=>by rcases hq with hq|rfl;exact h1 q hq;exact h2⟩
       ·rintro ⟨h0,h1⟩
        exact ⟨⟨h0,fun q hq=>h1 q (.inl hq)⟩,h1 _ (.inr rfl)⟩) (fun _=>by rw [HK.out,HA.out];simp))
      clear HS h5 q5 z5 hcall
      go_wp2_with fail
      go_roundw
      case rel=>exact ⟨k+1,s5,r5,by omega,by go_num,S5⟩
      case measure=>simp [intOf];omega
     ·have hke:k=is.length:=by omega
      have S5:=hid (HS.out.to (n':=15437) (P':=((((fineL 60 fineE ps)∧in1 f)∧in2 n)∧in2 u)∧fineL 3 in2 is) (l':=Fm.mark++(putL putE ps++(one f++(two n++(two u++putL two is))))) (by omega) (by
       rw [hke,List.take_length]
       unfold fineL
       simp only [and_assoc]) (fun _=>by rw [hke,List.take_length];simp [putL]))
      clear HS
      go_wp2_with fail
      go_meet
      case rel=>exact ⟨s,r,S5⟩
   ·have hif:(if (is.length:Int)≤3 then (is.length:Int) else 0)=0:=if_neg (by omega)
    have HN:=hid (show ¬fineL 3 in2 is from fun q=>hcnt (by have:=q.1;omega))
    have HN2:=hid (show ¬(is.length:Int)≤3 from by omega)
    have S5:=hid (S7.out.to (n':=15437) (P':=((((fineL 60 fineE ps)∧in1 f)∧in2 n)∧in2 u)∧fineL 3 in2 is) (l':=Fm.mark++(putL putE ps++(one f++(two n++(two u++putL two is))))) (by omega) (by simp [HN.out,HN2.out]) (fun q=>by simp [HN.out] at q))
    rw [hif]
    clear hif S7 hcnt
    go_wp2_with fail
    refine wp_loop_rounds 1 ?_
    rw [rounds_succ]
    go_wp2_with fail
    go_meet
    case rel=>exact ⟨s7,r7,S5⟩
  case rest=>
   obtain ⟨sa,ra,SA⟩:=hcut
   clear S7
   obtain ⟨⟨c0,c1,c2,c3,c4,c5,c6⟩,_⟩:=SA.out.box.c7
   have hla:=SA.out.wx.len
   simp only [List.length_nil] at hla
   go_wp2_with fail
   refine (wcount_any fs.length 5 SA.out.wb (by omega) (by omega) (by omega)).mono ?_
   rintro e wb9 ⟨rfl,s8,r8,h7,q7,z7⟩
   have S8:=hid ((SA.out.call (by omega) (by decide) h7 q7 z7).to (n':=15438) (P':=(((((fineL 60 fineE ps)∧in1 f)∧in2 n)∧in2 u)∧fineL 3 in2 is)∧(fs.length:Int)≤5) (l':=(Fm.mark++(putL putE ps++(one f++(two n++(two u++putL two is)))))++one fs.length) (by omega) Iff.rfl (fun _=>by simp))
   clear SA h7 q7 z7 hla c0 c1 c2 c3 c4 c5 c6
   go_upto_block 4 with fail
   go_cut [6,60] (fun _ _ wc=>∃ s r,Hid (WS w0 b false [] W W.heap.size (arrC (.slice o1 ps.length k1) f n u (.slice o2 is.length k2) (.slice o3 fs.length k3) (.slice o4 ms.length k4)) 36 (15463) ((((((fineL 60 fineE ps)∧in1 f)∧in2 n)∧in2 u)∧fineL 3 in2 is)∧fineL 5 fineFd fs) (Fm.mark++(putL putE ps++(one f++(two n++(two u++(putL two is++putL putFd fs)))))) s r wc))
   case first=>
    by_cases hcnt:fs.length≤5
    ·have hif:(if (fs.length:Int)≤5 then (fs.length:Int) else 0)=fs.length:=if_pos (by omega)
     rw [hif]
     clear hif
     go_wp2_with fail
     go_loopw [61,6] (fun c _ wr=>∃ (k:Nat) (s:Bool) (r:List UInt8),k≤fs.length∧c=.int .i64 k∧Hid (WS w0 b false [] W W.heap.size (arrC (.slice o1 ps.length k1) f n u (.slice o2 is.length k2) (.slice o3 fs.length k3) (.slice o4 ms.length k4)) 36 (15438+5*k) (((((((fineL 60 fineE ps)∧in1 f)∧in2 n)∧in2 u)∧fineL 3 in2 is)∧(fs.length:Int)≤5)∧∀ q∈fs.take k,fineFd q) (((Fm.mark++(putL putE ps++(one f++(two n++(two u++putL two is)))))++one fs.length)++(fs.take k).flatMap putFd) s r wr)) (fun c _ _=>fs.length - (intOf c).toNat)
     case atStart=>exact ⟨0,s8,r8,by omega,rfl,S8.out.to (by omega) (by simp) (fun _=>by simp)⟩
     case round=>
      obtain ⟨k,s,r,hk,rfl,HS⟩:=hrel
      obtain ⟨⟨c0,c1,c2,c3,c4,c5,c6⟩,_⟩:=HS.out.box.c7
      have hlr:=HS.out.wx.len
      simp only [List.length_nil] at hlr
      by_cases hlt:k<fs.length
      ·have HK:=hid (List.take_succ_eq_append_getElem hlt)
       obtain ⟨g,hg⟩:=own_some HF.out (by omega)
       subst hg
       obtain ⟨a1,a2,a3,ha⟩:∃ a b c,fs[k]=⟨a,b,c⟩:=⟨_,_,_,rfl⟩
       obtain ⟨e1,e2,e3⟩:=field_at (HH.out.row HS.out.kw HF.out (by decide) (by decide)) hlt ha
       have HA:=hid ha
       have hcall:=wfield_any ⟨a1,a2,a3⟩ HS.out.wb (by omega)
       clear ha
       go_wp2_with fail
       refine hcall.mono ?_
       rintro e w5 ⟨rfl,s5,r5,h5,q5,z5⟩
       have S5:=hid ((HS.out.call (by omega) (by decide) h5 q5 z5).to (n':=15438+5*(k+1)) (P':=((((((fineL 60 fineE ps)∧in1 f)∧in2 n)∧in2 u)∧fineL 3 in2 is)∧(fs.length:Int)≤5)∧∀ q∈fs.take (k+1),fineFd q) (l':=((Fm.mark++(putL putE ps++(one f++(two n++(two u++putL two is)))))++one fs.length)++(fs.take (k+1)).flatMap putFd) (by omega) (by
        rw [HK.out,HA.out]
        simp only [List.mem_append,List.mem_singleton]
        constructor
        ·rintro ⟨⟨h0,h1⟩,h2⟩
         exact ⟨h0,fun q hq=>by rcases hq with hq|rfl;exact h1 q hq;exact h2⟩
        ·rintro ⟨h0,h1⟩
         exact ⟨⟨h0,fun q hq=>h1 q (.inl hq)⟩,h1 _ (.inr rfl)⟩) (fun _=>by rw [HK.out,HA.out];simp))
       clear HS h5 q5 z5 hcall
       go_wp2_with fail
       go_roundw
       case rel=>exact ⟨k+1,s5,r5,by omega,by go_num,S5⟩
       case measure=>simp [intOf];omega
      ·have hke:k=fs.length:=by omega
       have S5:=hid (HS.out.to (n':=15463) (P':=(((((fineL 60 fineE ps)∧in1 f)∧in2 n)∧in2 u)∧fineL 3 in2 is)∧fineL 5 fineFd fs) (l':=Fm.mark++(putL putE ps++(one f++(two n++(two u++(putL two is++putL putFd fs)))))) (by omega) (by
        rw [hke,List.take_length]
        unfold fineL
        simp only [and_assoc]) (fun _=>by rw [hke,List.take_length];simp [putL]))
       clear HS
       go_wp2_with fail
       go_meet
       case rel=>exact ⟨s,r,S5⟩
    ·have hif:(if (fs.length:Int)≤5 then (fs.length:Int) else 0)=0:=if_neg (by omega)
     have HN:=hid (show ¬fineL 5 fineFd fs from fun q=>hcnt (by have:=q.1;omega))
     have HN2:=hid (show ¬(fs.length:Int)≤5 from by omega)
     have S5:=hid (S8.out.to (n':=15463) (P':=(((((fineL 60 fineE ps)∧in1 f)∧in2 n)∧in2 u)∧fineL 3 in2 is)∧fineL 5 fineFd fs) (l':=Fm.mark++(putL putE ps++(one f++(two n++(two u++(putL two is++putL putFd fs)))))) (by omega) (by simp [HN.out,HN2.out]) (fun q=>by simp [HN.out] at q))
     rw [hif]
     clear hif S8 hcnt
     go_wp2_with fail
     refine wp_loop_rounds 1 ?_
     rw [rounds_succ]
     go_wp2_with fail
     go_meet
     case rel=>exact ⟨s8,r8,S5⟩
   case rest=>
    obtain ⟨sa,ra,SA⟩:=hcut
    clear S8
    obtain ⟨⟨c0,c1,c2,c3,c4,c5,c6⟩,_⟩:=SA.out.box.c7
    have hla:=SA.out.wx.len
    simp only [List.length_nil] at hla
    go_wp2_with fail
    refine (wcount_any ms.length 6 SA.out.wb (by omega) (by omega) (by omega)).mono ?_
    rintro e wb9 ⟨rfl,s9,r9,h7,q7,z7⟩
    have S9:=hid ((SA.out.call (by omega) (by decide) h7 q7 z7).to (n':=15464) (P':=((((((fineL 60 fineE ps)∧in1 f)∧in2 n)∧in2 u)∧fineL 3 in2 is)∧fineL 5 fineFd fs)∧(ms.length:Int)≤6) (l':=(Fm.mark++(putL putE ps++(one f++(two n++(two u++(putL two is++putL putFd fs))))))++one ms.length) (by omega) Iff.rfl (fun _=>by simp))
    clear SA h7 q7 z7 hla c0 c1 c2 c3 c4 c5 c6
    by_cases hcnt:ms.length≤6
    ·have hif:(if (ms.length:Int)≤6 then (ms.length:Int) else 0)=ms.length:=if_pos (by omega)
     rw [hif]
     clear hif
     go_wp2_with fail
     go_loopw [77,7] (fun c _ wr=>∃ (k:Nat) (s:Bool) (r:List UInt8),k≤ms.length∧c=.int .i64 k∧Hid (WS w0 b false [] W W.heap.size (arrC (.slice o1 ps.length k1) f n u (.slice o2 is.length k2) (.slice o3 fs.length k3) (.slice o4 ms.length k4)) 36 (15464+571*k) ((((((((fineL 60 fineE ps)∧in1 f)∧in2 n)∧in2 u)∧fineL 3 in2 is)∧fineL 5 fineFd fs)∧(ms.length:Int)≤6)∧∀ q∈ms.take k,fineM q) (((Fm.mark++(putL putE ps++(one f++(two n++(two u++(putL two is++putL putFd fs))))))++one ms.length)++(ms.take k).flatMap putM) s r wr)) (fun c _ _=>ms.length - (intOf c).toNat)
     case atStart=>exact ⟨0,s9,r9,by omega,rfl,S9.out.to (by omega) (by simp) (fun _=>by simp)⟩
     case round=>
      obtain ⟨k,s,r,hk,rfl,HS⟩:=hrel
      obtain ⟨⟨c0,c1,c2,c3,c4,c5,c6⟩,_⟩:=HS.out.box.c7
      have hlr:=HS.out.wx.len
      simp only [List.length_nil] at hlr
      by_cases hlt:k<ms.length
      ·have HK:=hid (List.take_succ_eq_append_getElem hlt)
       obtain ⟨g,hg⟩:=own_some HM.out.row (by omega)
       subst hg
       have hxl:k<xs.length:=by rw [HM.out.len];exact hlt
       obtain ⟨vt,ve,hq1,hq2⟩:=HM.out.each k hlt hxl
       obtain ⟨m,hmk⟩:∃ m,ms[k]=m:=⟨_,rfl⟩
       have hfw:=HE.out ms[k] (List.getElem_mem _)
       rw [hmk] at hq1 hq2 hfw
       obtain ⟨u1,v1,hv1⟩:=own_len hq2.t
       obtain ⟨u2,v2,hv2⟩:=hq2.f.len
       subst hv1 hv2
       obtain ⟨ys,hys⟩:=FX.of hq2.f
       have eM:=ownMethod_at (HH.out.row HS.out.kw HM.out.row (by decide) (by decide)) HM.out.len hxl
       rw [hq1] at eM
       simp only [shM] at eM
       obtain ⟨e0,e1,e2,e3,e4,e5,e6,e7⟩:=eM
       have HA:=hid hmk
       have hcall:=wmethod_any m _ _ B HS.out.wb (by omega) hfw ⟨HH.out.row HS.out.kw hq2.t (by decide) (by decide),ys,hys.len,HH.out.row HS.out.kw hys.row (by decide) (by decide),fun j p1 p2=>⟨(hys.each j p1 p2).at_,HH.out.row HS.out.kw (hys.each j p1 p2).l (by decide) (by decide),HH.out.row HS.out.kw (hys.each j p1 p2).s (by decide) (by decide)⟩⟩
       clear hmk hq1 hq2 hfw hys
       go_wp2_with fail
       refine hcall.mono ?_
       rintro e w5 ⟨rfl,s5,r5,h5,q5,z5⟩
       have S5:=hid ((HS.out.call (by omega) (by decide) h5 q5 z5).to (n':=15464+571*(k+1)) (P':=(((((((fineL 60 fineE ps)∧in1 f)∧in2 n)∧in2 u)∧fineL 3 in2 is)∧fineL 5 fineFd fs)∧(ms.length:Int)≤6)∧∀ q∈ms.take (k+1),fineM q) (l':=((Fm.mark++(putL putE ps++(one f++(two n++(two u++(putL two is++putL putFd fs))))))++one ms.length)++(ms.take (k+1)).flatMap putM) (by omega) (by
        rw [HK.out,HA.out]
        simp only [List.mem_append,List.mem_singleton]
        constructor
        ·rintro ⟨⟨h0,h1⟩,h2⟩
         exact ⟨h0,fun q hq=>by rcases hq with hq|rfl;exact h1 q hq;exact h2⟩
        ·rintro ⟨h0,h1⟩
         exact ⟨⟨h0,fun q hq=>h1 q (.inl hq)⟩,h1 _ (.inr rfl)⟩) (fun _=>by rw [HK.out,HA.out];simp))
       clear HS h5 q5 z5 hcall
       go_wp2_with fail
       go_roundw
       case rel=>exact ⟨k+1,s5,r5,by omega,by go_num,S5⟩
       case measure=>simp [intOf];omega
      ·have hke:k=ms.length:=by omega
       have S5:=hid (HS.out.to (n':=30000) (P':=((((((fineL 60 fineE ps)∧in1 f)∧in2 n)∧in2 u)∧fineL 3 in2 is)∧fineL 5 fineFd fs)∧fineL 6 fineM ms) (l':=putC ⟨ps,f,n,u,is,fs,ms⟩) (by omega) (by
        rw [hke,List.take_length]
        unfold fineL
        simp only [and_assoc]) (fun _=>by rw [hke,List.take_length];simp [putL,putC]))
       have HFin:=hid (show WP w0 b false [] W 30000 (fineC ⟨ps,f,n,u,is,fs,ms⟩) (putC ⟨ps,f,n,u,is,fs,ms⟩) wr from ⟨s,r,S5.out.wb,S5.out.kw,S5.out.wx.to (by omega) (by unfold fineC;simp only [and_assoc]) (fun _=>rfl)⟩)
       clear HS S5
       go_wp2_with fail
       go_end0
       exact ⟨rfl,HFin.out⟩
    ·have hif:(if (ms.length:Int)≤6 then (ms.length:Int) else 0)=0:=if_neg (by omega)
     have HN:=hid (show ¬fineL 6 fineM ms from fun q=>hcnt (by have:=q.1;omega))
     have HN2:=hid (show ¬(ms.length:Int)≤6 from by omega)
     have S5:=hid (S9.out.to (n':=30000) (P':=((((((fineL 60 fineE ps)∧in1 f)∧in2 n)∧in2 u)∧fineL 3 in2 is)∧fineL 5 fineFd fs)∧fineL 6 fineM ms) (l':=putC ⟨ps,f,n,u,is,fs,ms⟩) (by omega) (by simp [HN.out,HN2.out]) (fun q=>by simp [HN.out] at q))
     have HFin:=hid (show WP w0 b false [] W 30000 (fineC ⟨ps,f,n,u,is,fs,ms⟩) (putC ⟨ps,f,n,u,is,fs,ms⟩) wb9 from ⟨s9,r9,S5.out.wb,S5.out.kw,S5.out.wx.to (by omega) (by unfold fineC;simp only [and_assoc]) (fun _=>rfl)⟩)
     rw [hif]
     clear hif S9 hcnt S5
     go_wp2_with fail
     refine wp_loop_rounds 1 ?_
     rw [rounds_succ]
     go_wp2_with fail
     go_end0
     exact ⟨rfl,HFin.out⟩
end Go.Proofs.YtecbcdfkedocbaaGreatDoor
