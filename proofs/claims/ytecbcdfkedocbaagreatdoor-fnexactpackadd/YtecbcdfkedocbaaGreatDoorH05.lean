/- Gathered: PutClass SameFlat SameFrames. -/
import Derived.Test.YtecbcdfkedocbaaGreatDoorH04
import Derived.Test.YtecbcdfkedocbaaGreatDoorH03
import Derived.Test.YtecbcdfkedocbaaGreatDoorG02
import Derived.Test.YtecbcdfkedocbaaGreatDoorH02
namespace Go.Proofs.YtecbcdfkedocbaaGreatDoor
open Go.RowKit Fm
set_option maxHeartbeats 8000000
set_option maxRecDepth 20000
set_option linter.unusedVariables false
theorem const_at {w:World} {B g cap:Nat} {ts:List C4} (h:w.ownsRow B 40 4 (.slice (some ⟨g,0,none⟩) ts.length cap) ts.length (cellsC ts)) {k:Nat} (hk:k<ts.length) {a:Int} {b:ByteArray} {c d:Int} (hx:ts[k]=⟨a,b,c,d⟩):w.cell? ⟨g,k*4,none⟩=some (.int .i64 a)∧w.cell? ⟨g,k*4+1,none⟩=some (.string b)∧w.cell? ⟨g,k*4+2,none⟩=some (.int .i64 c)∧w.cell? ⟨g,k*4+3,none⟩=some (.int .i64 d):=by
 obtain ⟨h1,h2,h3,h4⟩:=cells4_at h hk
 rw [hx] at h1 h2 h3 h4
 exact ⟨h1,h2,h3,h4⟩
theorem field_at {w:World} {B g cap:Nat} {ts:List MField} (h:w.ownsRow B 79 3 (.slice (some ⟨g,0,none⟩) ts.length cap) ts.length (rowField ts)) {k:Nat} (hk:k<ts.length) {a b c:Int} (hx:ts[k]=⟨a,b,c⟩):w.cell? ⟨g,k*3,none⟩=some (.int .i64 a)∧w.cell? ⟨g,k*3+1,none⟩=some (.int .i64 b)∧w.cell? ⟨g,k*3+2,none⟩=some (.int .i64 c):=by
 obtain ⟨h1,h2,h3⟩:=ownField_at h hk
 rw [hx] at h1 h2 h3
 exact ⟨h1,h2,h3⟩
theorem putClass_any (c:MClass) (vp vi vf vm:Value) (B:Nat) (w:World) (hc:c.few) (l1:c.pool.length≤60) (l2:c.faces.length≤3) (l3:c.fields.length≤5) (l4:c.methods.length≤6) (h:ClassW w B vp vi vf vm c) :
  Calls Tryz.prog 71 #[.agg #[vp,.int .i64 c.flags,.int .i64 c.name,.int .i64 c.super,vi,vf,vm]] w fun e w'=>∃ u,e=.returned (.string u)∧Pt u 1000000000000000 (fineC c) (putC c)∧Below w.heap.size w w':=by
 obtain ⟨ps,f,n,u,is,fs,ms⟩:=c
 obtain ⟨xs,hxs⟩:=MX.of h.m
 obtain ⟨o1,k1,hv1⟩:=own_len h.p
 obtain ⟨o2,k2,hv2⟩:=own_len h.i
 obtain ⟨o3,k3,hv3⟩:=own_len h.f
 obtain ⟨o4,k4,hv4⟩:=own_len hxs.row
 simp only at hv1 hv2 hv3 hv4 l1 l2 l3 l4
 subst hv1 hv2 hv3 hv4
 have HP:=hid h.p
 have HI:=hid h.i
 have HF:=hid h.f
 have HM:=hid hxs
 have HT:=hid hc.texts
 have HE:=hid hc.each
 simp only at HP HI HF HM HT HE
 clear h hxs hc
 have P0:=PB.start w (arrC (.slice o1 ps.length k1) f n u (.slice o2 is.length k2) (.slice o3 fs.length k3) (.slice o4 ms.length k4)) 36
 obtain ⟨⟨c0,c1,c2,c3,c4,c5,c6⟩,_⟩:=P0.lk.c7
 go_enter Tryz.func71,Tryz.ntmps71
 go_wp2_with fail
 refine (put1x_any _ _).mono ?_
 rintro e w1 ⟨u1,rfl,pu1,hb1⟩
 have P1:=P0.keep hb1
 have A1:=hid ((show Acc (⟨#[83,84,79,87]⟩:ByteArray) 4 True Fm.mark from ⟨⟨by simp [ByteArray.size],fun _=>rfl⟩,by omega⟩).next pu1 (by omega))
 have hs1:=pu1.1
 clear P0 pu1 hb1 c0 c1 c2 c3 c4 c5 c6
 go_wp2_with fail
 go_loopw [3,4] (fun sv i wr=>∃ (k:Nat) (t:ByteArray),k≤ps.length∧i=.int .i64 k∧sv=.string t∧Hid (Acc t (5+1048600*k) (∀ x∈ps.take k,fineE x) (Fm.mark++one ps.length++(ps.take k).flatMap putE))∧PB w (arrC (.slice o1 ps.length k1) f n u (.slice o2 is.length k2) (.slice o3 fs.length k3) (.slice o4 ms.length k4)) 36 wr) (fun _ i _=>ps.length - (intOf i).toNat)
 case atStart=>exact ⟨0,_,by omega,rfl,rfl,A1.out.to (by omega) (by omega) (fun _=>⟨trivial,trivial⟩) (by simp),P1⟩
 case round=>
  obtain ⟨k,t2,hk,rfl,rfl,A2,P2⟩:=hrel
  obtain ⟨⟨c0,c1,c2,c3,c4,c5,c6⟩,_⟩:=P2.lk.c7
  have ht2:=A2.out.pt.1
  clear A1 P1 hs1
  by_cases hlt:k<ps.length
  ·obtain ⟨g,hg⟩:=own_some HP.out (by omega)
   subst hg
   obtain ⟨a1,a2,a3,a4,ha⟩:∃ a b c d,ps[k]=⟨a,b,c,d⟩:=⟨_,_,_,_,rfl⟩
   obtain ⟨e1,e2,e3,e4⟩:=const_at (own_below HP.out P2.old) hlt ha
   have hx:a2.size≤1048576:=by have:=HT.out ps[k] (List.getElem_mem _);rw [ha] at this;exact this
   have HK:=hid (List.take_succ_eq_append_getElem hlt)
   have HA:=hid ha
   have HE1:=fun W=>putEntry_any ⟨a1,a2,a3,a4⟩ W hx
   clear ha
   go_wp2_with fail
   refine (HE1 _).mono ?_
   rintro e w3 ⟨u3,rfl,pu3,hb3⟩
   have hu3:=pu3.1
   have A3:=hid ((A2.out.next pu3 (by first|omega|(simp only;omega))).to (n':=5+1048600*(k+1)) (P':=∀ x∈ps.take (k+1),fineE x) (l':=Fm.mark++one ps.length++(ps.take (k+1)).flatMap putE) (by first|omega|(simp only;omega)) (by omega) (fun hq=>by
    rw [HK.out,HA.out] at hq
    exact ⟨fun x hx=>hq x (by simp [hx]),hq _ (by simp)⟩) (by
    rw [HK.out,HA.out]
    simp))
   have P3:=hid (P2.keep hb3)
   clear A2 pu3 hb3 HE1
   go_wp2_with fail
   go_roundw
   case rel=>exact ⟨k+1,_,by omega,by go_num,rfl,A3,P3.out⟩
   case measure=>simp [intOf];omega
  ·have hke:k=ps.length:=by omega
   have A3:=(A2.out.to (n':=5+1048600*ps.length) (P':=∀ x∈ps,fineE x) (l':=Fm.mark++putL putE ps) (by omega) (by omega) (fun hq x hx=>hq x (List.mem_of_mem_take hx)) (by rw [hke,List.take_length];simp [putL]))
   clear A2 hke
   go_upto_region 6 with fail
   go_cut [3] (fun sv wc=>∃ t,sv=.string t∧Hid (Acc t (11+1048600*ps.length) ((∀ x∈ps,fineE x)∧in2 n∧in2 u) (Fm.mark++(putL putE ps++(one f++(two n++(two u++one is.length))))))∧PB w (arrC (.slice o1 ps.length k1) f n u (.slice o2 is.length k2) (.slice o3 fs.length k3) (.slice o4 ms.length k4)) 36 wc)
   case first=>
    have PD:=P2.drew
    clear c0 c1 c2 c3 c4 c5 c6 P2
    obtain ⟨⟨c0,c1,c2,c3,c4,c5,c6⟩,_⟩:=PD.lk.c7
    go_region_held (fun w'=>w'.cell? ⟨w.heap.size,1,none⟩=some (.int .i64 f)∧w'.cell? ⟨w.heap.size,2,none⟩=some (.int .i64 n)∧w'.cell? ⟨w.heap.size,3,none⟩=some (.int .i64 u)∧w'.cell? ⟨w.heap.size,4,none⟩=some (.slice o2 is.length k2)) (refine ⟨?_, ?_, ?_, ?_⟩<;>assumption) (first
     | (go_at_call 108;refine (put1x_any _ _).mono ?_;rintro e w9 ⟨u9,rfl,pu9,hb9⟩;have PB9:=PB.keep (by assumption) hb9;obtain ⟨⟨_,d1,d2,d3,d4,_⟩,_⟩:=PB9.lk.c7;have hc9:=Acc.cat (by assumption) pu9 (by omega);(try simp only [ByteArray.size_append] at hc9);have ac9:=Acc.next (by assumption) pu9 (by omega))
     | (go_at_call 110;refine (put2_any _ _).mono ?_;rintro e w9 ⟨u9,rfl,pu9,hb9⟩;have PB9:=PB.keep (by assumption) hb9;obtain ⟨⟨_,d1,d2,d3,d4,_⟩,_⟩:=PB9.lk.c7;have hc9:=Acc.cat (by assumption) pu9 (by omega);(try simp only [ByteArray.size_append] at hc9);have ac9:=Acc.next (by assumption) pu9 (by omega)))
    go_wp2_with fail
    go_meet
    case rel=>exact ⟨_,rfl,ac9.to (by omega) (by omega) (fun h=>⟨⟨⟨⟨h.1,trivial⟩,h.2.1⟩,h.2.2⟩,trivial⟩) (by simp),PB9⟩
   case rest=>
    obtain ⟨t4,rfl,A4,P4⟩:=hcut
    clear A3 P2 c0 c1 c2 c3 c4 c5 c6 ht2
    go_wp2_with fail
    go_loopw [3,5] (fun sv i wr=>∃ (k:Nat) (t:ByteArray),k≤is.length∧i=.int .i64 k∧sv=.string t∧Hid (Acc t (11+1048600*ps.length+2*k) (((∀ x∈ps,fineE x)∧in2 n∧in2 u)∧∀ x∈is.take k,in2 x) (Fm.mark++(putL putE ps++(one f++(two n++(two u++one is.length))))++(is.take k).flatMap two))∧PB w (arrC (.slice o1 ps.length k1) f n u (.slice o2 is.length k2) (.slice o3 fs.length k3) (.slice o4 ms.length k4)) 36 wr) (fun _ i _=>is.length - (intOf i).toNat)
    case atStart=>exact ⟨0,_,by omega,rfl,rfl,A4.out.to (by omega) (by omega) (fun h=>h.1) (by simp),P4⟩
    case round=>
     obtain ⟨k,t5,hk,rfl,rfl,A5,P5⟩:=hrel
     obtain ⟨⟨c0,c1,c2,c3,c4,c5,c6⟩,_⟩:=P5.lk.c7
     have ht5:=A5.out.pt.1
     clear A4 P4
     by_cases hlt:k<is.length
     ·obtain ⟨g,hg⟩:=own_some HI.out (by omega)
      subst hg
      obtain ⟨a1,ha⟩:∃ a,is[k]=a:=⟨_,rfl⟩
      have e1:=ownI_at (own_below HI.out P5.old) rfl hlt
      rw [ha] at e1
      have HK:=hid (List.take_succ_eq_append_getElem hlt)
      have HA:=hid ha
      clear ha
      go_wp2_with fail
      refine (put2_any _ _).mono ?_
      rintro e w6 ⟨u6,rfl,pu6,hb6⟩
      have hu6:=pu6.1
      have A6:=hid ((A5.out.next pu6 (by omega)).to (n':=11+1048600*ps.length+2*(k+1)) (P':=((∀ x∈ps,fineE x)∧in2 n∧in2 u)∧∀ x∈is.take (k+1),in2 x) (l':=Fm.mark++(putL putE ps++(one f++(two n++(two u++one is.length))))++(is.take (k+1)).flatMap two) (by omega) (by omega) (fun hq=>by
       rw [HK.out,HA.out] at hq
       exact ⟨⟨hq.1,fun x hx=>hq.2 x (by simp [hx])⟩,hq.2 _ (by simp)⟩) (by
       rw [HK.out,HA.out]
       simp))
      have P6:=hid (P5.keep hb6)
      clear A5 pu6 hb6
      go_wp2_with fail
      go_roundw
      case rel=>exact ⟨k+1,_,by omega,by go_num,rfl,A6,P6.out⟩
      case measure=>simp [intOf];omega
     ·have hke:k=is.length:=by omega
      have A6:=(A5.out.to (n':=11+1048600*ps.length+2*is.length) (P':=((∀ x∈ps,fineE x)∧in2 n∧in2 u)∧∀ x∈is,in2 x) (l':=Fm.mark++(putL putE ps++(one f++(two n++(two u++putL two is))))) (by omega) (by omega) (fun hq=>⟨hq.1,fun x hx=>hq.2 x (List.mem_of_mem_take hx)⟩) (by rw [hke,List.take_length];simp [putL]))
      have ht6:=A6.pt.1
      have HA6:=hid A6
      clear A5 hke A6
      go_wp2_with fail
      refine (put1x_any _ _).mono ?_
      rintro e w7 ⟨u7x,rfl,pu7,hb7⟩
      have P7:=P5.keep hb7
      have hu7:=pu7.1
      have A7:=hid (HA6.out.next pu7 (by omega))
      clear c0 c1 c2 c3 c4 c5 c6 P5 pu7 hb7 HA6 ht5
      go_wp2_with fail
      go_loopw [3,6] (fun sv i wr=>∃ (k:Nat) (t:ByteArray),k≤fs.length∧i=.int .i64 k∧sv=.string t∧Hid (Acc t (12+1048600*ps.length+2*is.length+5*k) ((((∀ x∈ps,fineE x)∧in2 n∧in2 u)∧∀ x∈is,in2 x)∧∀ x∈fs.take k,fineFd x) (Fm.mark++(putL putE ps++(one f++(two n++(two u++putL two is))))++one fs.length++(fs.take k).flatMap putFd))∧PB w (arrC (.slice o1 ps.length k1) f n u (.slice o2 is.length k2) (.slice o3 fs.length k3) (.slice o4 ms.length k4)) 36 wr) (fun _ i _=>fs.length - (intOf i).toNat)
      case atStart=>exact ⟨0,_,by omega,rfl,rfl,A7.out.to (by omega) (by omega) (fun h=>⟨h.1,trivial⟩) (by simp),P7⟩
      case round=>
       obtain ⟨k,t8,hk,rfl,rfl,A8,P8⟩:=hrel
       obtain ⟨⟨c0,c1,c2,c3,c4,c5,c6⟩,_⟩:=P8.lk.c7
       have ht8:=A8.out.pt.1
       clear A7 P7 ht6 hu7
       by_cases hlt:k<fs.length
       ·obtain ⟨g,hg⟩:=own_some HF.out (by omega)
        subst hg
        obtain ⟨a1,a2,a3,ha⟩:∃ a b c,fs[k]=⟨a,b,c⟩:=⟨_,_,_,rfl⟩
        have hge:∀ W,PB w (arrC (.slice o1 ps.length k1) f n u (.slice o2 is.length k2) (.slice (some ⟨g,0,none⟩) fs.length k3) (.slice o4 ms.length k4)) 36 W→W.cell? ⟨w.heap.size,5,none⟩=some (.slice (some ⟨g,0,none⟩) fs.length k3)∧W.cell? ⟨g,k*3,none⟩=some (.int .i64 a1)∧W.cell? ⟨g,k*3+1,none⟩=some (.int .i64 a2)∧W.cell? ⟨g,k*3+2,none⟩=some (.int .i64 a3):=fun W hW=>by
         obtain ⟨⟨_,_,_,_,_,m5,_⟩,_⟩:=hW.lk.c7
         obtain ⟨n1,n2,n3⟩:=field_at (own_below HF.out hW.old) hlt ha
         exact ⟨m5,n1,n2,n3⟩
        have HGE:=hid hge
        have HK:=hid (List.take_succ_eq_append_getElem hlt)
        have HA:=hid ha
        have PD:=P8.drew
        have A0:=A8.out
        obtain ⟨s1,s2,s3,s4⟩:=HGE.out _ PD
        clear ha hge
        go_wp2_with fail
        go_region_held (fun w'=>w'.cell? ⟨w.heap.size,5,none⟩=some (.slice (some ⟨g,0,none⟩) fs.length k3)∧w'.cell? ⟨g,k*3,none⟩=some (.int .i64 a1)∧w'.cell? ⟨g,k*3+1,none⟩=some (.int .i64 a2)∧w'.cell? ⟨g,k*3+2,none⟩=some (.int .i64 a3)) (refine ⟨?_, ?_, ?_, ?_⟩<;>assumption) (first
         | (go_at_call 108;refine (put1x_any _ _).mono ?_;rintro e w9 ⟨u9,rfl,pu9,hb9⟩;have PB9:=PB.keep (by assumption) hb9;obtain ⟨d1,d2,d3,d4⟩:=HGE.out _ PB9;have hc9:=Acc.cat (by assumption) pu9 (by omega);(try simp only [ByteArray.size_append] at hc9);have ac9:=Acc.next (by assumption) pu9 (by omega))
         | (go_at_call 110;refine (put2_any _ _).mono ?_;rintro e w9 ⟨u9,rfl,pu9,hb9⟩;have PB9:=PB.keep (by assumption) hb9;obtain ⟨d1,d2,d3,d4⟩:=HGE.out _ PB9;have hc9:=Acc.cat (by assumption) pu9 (by omega);(try simp only [ByteArray.size_append] at hc9);have ac9:=Acc.next (by assumption) pu9 (by omega)))
        have A9:=hid (ac9.to (n':=12+1048600*ps.length+2*is.length+5*(k+1)) (P':=(((∀ x∈ps,fineE x)∧in2 n∧in2 u)∧∀ x∈is,in2 x)∧∀ x∈fs.take (k+1),fineFd x) (l':=Fm.mark++(putL putE ps++(one f++(two n++(two u++putL two is))))++one fs.length++(fs.take (k+1)).flatMap putFd) (by omega) (by omega) (fun hq=>by
         rw [HK.out,HA.out] at hq
         have hf:=hq.2 ⟨a1,a2,a3⟩ (by simp)
         exact ⟨⟨⟨⟨hq.1,fun x hx=>hq.2 x (by simp [hx])⟩,trivial⟩,hf.2.1⟩,hf.2.2⟩) (by
         rw [HK.out,HA.out]
         simp [putFd]))
        have P9:=hid PB9
        clear ac9 A8 A0 pu9 hc9 PB9 PD
        go_wp2_with fail
        go_roundw
        case rel=>exact ⟨k+1,_,by omega,by go_num,rfl,A9,P9.out⟩
        case measure=>simp [intOf];omega
       ·have hke:k=fs.length:=by omega
        have A9:=(A8.out.to (n':=12+1048600*ps.length+2*is.length+5*fs.length) (P':=(((∀ x∈ps,fineE x)∧in2 n∧in2 u)∧∀ x∈is,in2 x)∧∀ x∈fs,fineFd x) (l':=Fm.mark++(putL putE ps++(one f++(two n++(two u++(putL two is++putL putFd fs)))))) (by omega) (by omega) (fun hq=>⟨hq.1,fun x hx=>hq.2 x (List.mem_of_mem_take hx)⟩) (by rw [hke,List.take_length];simp [putL]))
        have ht9:=A9.pt.1
        have HA9:=hid A9
        clear A8 hke A9
        go_wp2_with fail
        refine (put1x_any _ _).mono ?_
        rintro e w10 ⟨u10x,rfl,pu10,hb10⟩
        have P10:=P8.keep hb10
        have hu10:=pu10.1
        have A10:=hid (HA9.out.next pu10 (by omega))
        clear c0 c1 c2 c3 c4 c5 c6 P8 pu10 hb10 HA9 ht8
        go_wp2_with fail
        go_loopw [3,7] (fun sv i wr=>∃ (k:Nat) (t:ByteArray),k≤ms.length∧i=.int .i64 k∧sv=.string t∧Hid (Acc t (13+1048600*ps.length+2*is.length+5*fs.length+100000000000000*k) (((((∀ x∈ps,fineE x)∧in2 n∧in2 u)∧∀ x∈is,in2 x)∧∀ x∈fs,fineFd x)∧∀ x∈ms.take k,fineM x) (Fm.mark++(putL putE ps++(one f++(two n++(two u++(putL two is++putL putFd fs)))))++one ms.length++(ms.take k).flatMap putM))∧PB w (arrC (.slice o1 ps.length k1) f n u (.slice o2 is.length k2) (.slice o3 fs.length k3) (.slice o4 ms.length k4)) 36 wr) (fun _ i _=>ms.length - (intOf i).toNat)
        case atStart=>exact ⟨0,_,by omega,rfl,rfl,A10.out.to (by omega) (by omega) (fun h=>⟨h.1,trivial⟩) (by simp),P10⟩
        case round=>
         obtain ⟨k,t11,hk,rfl,rfl,A11,P11⟩:=hrel
         obtain ⟨⟨c0,c1,c2,c3,c4,c5,c6⟩,_⟩:=P11.lk.c7
         have ht11:=A11.out.pt.1
         clear A10 P10 ht9 hu10
         by_cases hlt:k<ms.length
         ·obtain ⟨g,hg⟩:=own_some HM.out.row (by omega)
          subst hg
          have hxl:k<xs.length:=by rw [HM.out.len];exact hlt
          obtain ⟨vt,ve,hq1,hq2⟩:=HM.out.each k hlt hxl
          obtain ⟨m,hmk⟩:∃ m,ms[k]=m:=⟨_,rfl⟩
          have hfw:=HE.out ms[k] (List.getElem_mem _)
          rw [hmk] at hq1 hq2 hfw
          obtain ⟨q1,r1,hv1⟩:=own_len hq2.t
          obtain ⟨q2,r2,hv2⟩:=hq2.f.len
          subst hv1 hv2
          have eM:=ownMethod_at (own_below HM.out.row P11.old) HM.out.len hxl
          rw [hq1] at eM
          simp only [shM] at eM
          obtain ⟨e0,e1,e2,e3,e4,e5,e6,e7⟩:=eM
          have HK:=hid (List.take_succ_eq_append_getElem hlt)
          have HA:=hid hmk
          have HPM:=(show ∀ W,Below w.heap.size w W→Calls Tryz.prog 111 #[.agg #[.int .i64 m.flags,.int .i64 m.name,.int .i64 m.desc,.int .i64 m.deep,.int .i64 m.locals,.string m.code,.slice q1 m.traps.length r1,.slice q2 m.frames.length r2]] W fun e w'=>∃ u,e=.returned (.string u)∧Pt u 100000000000000 (fineM m) (putM m)∧Below W.heap.size W w' from fun W hW=>putMethod_any m _ _ B W hfw (hq2.keep hW))
          clear hq1 hq2 hmk hfw
          go_wp2_with fail
          refine (HPM _ P11.old).mono ?_
          rintro e w12 ⟨u12x,rfl,pu12,hb12⟩
          have hu12:=pu12.1
          have A12:=hid ((A11.out.next pu12 (by omega)).to (n':=13+1048600*ps.length+2*is.length+5*fs.length+100000000000000*(k+1)) (P':=((((∀ x∈ps,fineE x)∧in2 n∧in2 u)∧∀ x∈is,in2 x)∧∀ x∈fs,fineFd x)∧∀ x∈ms.take (k+1),fineM x) (l':=Fm.mark++(putL putE ps++(one f++(two n++(two u++(putL two is++putL putFd fs)))))++one ms.length++(ms.take (k+1)).flatMap putM) (by omega) (by omega) (fun hq=>by
           rw [HK.out,HA.out] at hq
           exact ⟨⟨hq.1,fun x hx=>hq.2 x (by simp [hx])⟩,hq.2 _ (by simp)⟩) (by
           rw [HK.out,HA.out]
           simp))
          have P12:=hid (P11.keep hb12)
          clear A11 pu12 hb12 HPM
          go_wp2_with fail
          go_roundw
          case rel=>exact ⟨k+1,_,by omega,by go_num,rfl,A12,P12.out⟩
          case measure=>simp [intOf];omega
         ·have hke:k=ms.length:=by omega
          have HFin:=hid (A11.out.pt.mono2 (n':=1000000000000000) (P':=fineC ⟨ps,f,n,u,is,fs,ms⟩) (l':=putC ⟨ps,f,n,u,is,fs,ms⟩) (by omega) (fun hf=>⟨⟨⟨⟨hf.1.2,hf.2.2.1,hf.2.2.2.1⟩,hf.2.2.2.2.1.2⟩,hf.2.2.2.2.2.1.2⟩,fun x hx=>hf.2.2.2.2.2.2.2 x (List.mem_of_mem_take hx)⟩) (fun hf=>by
           rw [hke,List.take_length]
           simp [putC,putL]))
          have HO:=hid P11.old
          clear A11 P11
          go_wp2_with fail
          go_ret
          exact ⟨t11,rfl,HFin.out,HO.out⟩
set_option maxHeartbeats 1000000
theorem neq_l1Kinds {x0 y0:Int} {x1 y1:Int} (h:((x0==y0)=false)∨((x0==y0)=true∧(x1==y1)=false)) (W:World) :
  (binOp .neq 144 (.agg #[.int .i64 x0,.int .i64 x1]) (.agg #[.int .i64 y0,.int .i64 y1])).run Tryz.prog W=.ok (.bool true) W:=by
 rcases h with h0|⟨h0,h1⟩
 ·go_simp
 ·go_simp
theorem l1Kinds_any (v1 v2:Value) (xs ts:List MKind) (B1 B2:Nat) (w:World) (hx:xs.length≤1048576) (hl:ts.length≤1048576)
  (h1:w.ownsRow B1 144 2 v1 xs.length (rowKind xs)) (h2:w.ownsRow B2 144 2 v2 ts.length (rowKind ts)) :
  Calls Tryz.prog 201 #[v1,v2] w fun e w'=>∃ c:Bool,e=.returned (.bool c)∧(c=true↔xs=ts)∧∃ q,w'=w.drewN q:=by
 by_cases hn:xs.length=ts.length
 ·obtain ⟨ao1,c1,hv1⟩:=own_len h1
  obtain ⟨ao2,c2,hv2⟩:=own_len h2
  subst hv1 hv2
  have H1:=hid h1
  have H2:=hid h2
  have HN:=hid hn
  have hn':((xs.length:Int) != (ts.length:Int))=false:=by simp;omega
  clear h1 h2 hn
  go_enter Tryz.func201,Tryz.ntmps201
  go_wp2
  go_loopw [5] (fun i wr=>∃ k:Nat,k≤xs.length∧i=.int .i64 k∧Hid (xs.take k=ts.take k)∧Hid (∃ q,wr=w.drewN q)) (fun i _=>xs.length - (intOf i).toNat)
  case atStart=>exact ⟨0,by omega,rfl,rfl,0,rfl⟩
  case round=>
   obtain ⟨k,hk,rfl,HE,HQ⟩:=hrel
   by_cases hlt:k<xs.length
   ·have hlt2:k<ts.length:=by rw [← HN.out];exact hlt
    obtain ⟨g1,hg1⟩:=own_some H1.out (by omega)
    obtain ⟨g2,hg2⟩:=own_some H2.out (by omega)
    subst hg1 hg2
    obtain ⟨q0,hq0⟩:=HQ.out
    obtain ⟨a0,a1⟩:=ownKind_at (w:=wr) (by rw [hq0];exact own_drewN H1.out q0) hlt
    obtain ⟨b0,b1⟩:=ownKind_at (w:=wr) (by rw [hq0];exact own_drewN H2.out q0) hlt2
    clear hq0
    by_cases he:xs[k]=ts[k]
    ·have HE2:=hid (show xs.take (k+1)=ts.take (k+1) from by rw [List.take_succ_eq_append_getElem hlt,List.take_succ_eq_append_getElem hlt2,HE.out,he])
     rw [he] at a0 a1
     clear he
     obtain ⟨x0,x1,hxyz⟩:∃ x0 x1,ts[k]=⟨x0,x1⟩:=⟨_,_,rfl⟩
     rw [hxyz] at a0 a1 b0 b1
     simp only at a0 a1 b0 b1
     clear hxyz
     go_wp2
     go_quiet (fail)
     go_wp2
     go_roundw
     case rel=>exact ⟨k+1,by omega,by go_num,HE2,drew_more HQ.out _⟩
     case measure=>simp [intOf];omega
    ·have HF:=hid (show ¬xs=ts from fun e=>he (by subst e;rfl))
     obtain ⟨x0,x1,hxyz⟩:∃ x0 x1,xs[k]=⟨x0,x1⟩:=⟨_,_,rfl⟩
     obtain ⟨y0,y1,hxyz'⟩:∃ y0 y1,ts[k]=⟨y0,y1⟩:=⟨_,_,rfl⟩
     rw [hxyz,hxyz'] at he
     rw [hxyz] at a0 a1
     rw [hxyz'] at b0 b1
     simp only at a0 a1 b0 b1
     clear hxyz hxyz'
     have hne:((x0==y0)=false)∨((x0==y0)=true∧(x1==y1)=false):=by
      by_cases g0:x0=y0
      ·by_cases g1:x1=y1
       ·exact absurd (by rw [g0,g1]) he
       ·exact .inr ⟨by simpa using g0,by simpa using g1⟩
      ·exact .inl (by simpa using g0)
     have hrun:=neq_l1Kinds hne
     clear he hne
     go_wp2
     go_quiet (fail)
     go_wp2
     go_ret
     exact ⟨false,rfl,⟨fun h=>by simp at h,fun h=>absurd h HF.out⟩,drew_more HQ.out _⟩
   ·have HF:=hid (show xs=ts from by
     have:=HE.out
     rw [List.take_of_length_le (by omega),List.take_of_length_le (by rw [← HN.out];omega)] at this
     exact this)
    go_wp2
    go_ret
    exact ⟨true,rfl,⟨fun _=>HF.out,fun _=>rfl⟩,HQ.out⟩
 ·obtain ⟨ao1,c1,hv1⟩:=own_len h1
  obtain ⟨ao2,c2,hv2⟩:=own_len h2
  subst hv1 hv2
  have HF:=hid (show ¬xs=ts from fun e=>hn (by rw [e]))
  have hn':((xs.length:Int) != (ts.length:Int))=true:=by simp;omega
  clear h1 h2 hn
  go_enter Tryz.func201,Tryz.ntmps201
  go_wp2
  go_ret
  exact ⟨false,rfl,⟨fun h=>by simp at h,fun h=>absurd h HF.out⟩,0,rfl⟩
theorem neq_l1Consts {x0 y0:Int} {x1 y1:ByteArray} {x2 y2:Int} {x3 y3:Int} (h:((x0==y0)=false)∨((x0==y0)=true∧(x1.toList==y1.toList)=false)∨((x0==y0)=true∧(x1.toList==y1.toList)=true∧(x2==y2)=false)∨((x0==y0)=true∧(x1.toList==y1.toList)=true∧(x2==y2)=true∧(x3==y3)=false)) (W:World) :
  (binOp .neq 40 (.agg #[.int .i64 x0,.string x1,.int .i64 x2,.int .i64 x3]) (.agg #[.int .i64 y0,.string y1,.int .i64 y2,.int .i64 y3])).run Tryz.prog W=.ok (.bool true) W:=by
 rcases h with h0|⟨h0,h1⟩|⟨h0,h1,h2⟩|⟨h0,h1,h2,h3⟩
 ·go_simp
 ·go_simp
 ·go_simp
 ·go_simp
theorem l1Consts_any (v1 v2:Value) (xs ts:List C4) (B1 B2:Nat) (w:World) (hx:xs.length≤1048576) (hl:ts.length≤1048576)
  (h1:w.ownsRow B1 40 4 v1 xs.length (cellsC xs)) (h2:w.ownsRow B2 40 4 v2 ts.length (cellsC ts)) :
  Calls Tryz.prog 113 #[v1,v2] w fun e w'=>∃ c:Bool,e=.returned (.bool c)∧(c=true↔xs=ts)∧∃ q,w'=w.drewN q:=by
 by_cases hn:xs.length=ts.length
 ·obtain ⟨ao1,c1,hv1⟩:=own_len h1
  obtain ⟨ao2,c2,hv2⟩:=own_len h2
  subst hv1 hv2
  have H1:=hid h1
  have H2:=hid h2
  have HN:=hid hn
  have hn':((xs.length:Int) != (ts.length:Int))=false:=by simp;omega
  clear h1 h2 hn
  go_enter Tryz.func113,Tryz.ntmps113
  go_wp2
  go_loopw [5] (fun i wr=>∃ k:Nat,k≤xs.length∧i=.int .i64 k∧Hid (xs.take k=ts.take k)∧Hid (∃ q,wr=w.drewN q)) (fun i _=>xs.length - (intOf i).toNat)
  case atStart=>exact ⟨0,by omega,rfl,rfl,0,rfl⟩
  case round=>
   obtain ⟨k,hk,rfl,HE,HQ⟩:=hrel
   by_cases hlt:k<xs.length
   ·have hlt2:k<ts.length:=by rw [← HN.out];exact hlt
    obtain ⟨g1,hg1⟩:=own_some H1.out (by omega)
    obtain ⟨g2,hg2⟩:=own_some H2.out (by omega)
    subst hg1 hg2
    obtain ⟨q0,hq0⟩:=HQ.out
    obtain ⟨a0,a1,a2,a3⟩:=cells4_at (w:=wr) (by rw [hq0];exact own_drewN H1.out q0) hlt
    obtain ⟨b0,b1,b2,b3⟩:=cells4_at (w:=wr) (by rw [hq0];exact own_drewN H2.out q0) hlt2
    clear hq0
    by_cases he:xs[k]=ts[k]
    ·have HE2:=hid (show xs.take (k+1)=ts.take (k+1) from by rw [List.take_succ_eq_append_getElem hlt,List.take_succ_eq_append_getElem hlt2,HE.out,he])
     rw [he] at a0 a1 a2 a3
     clear he
     obtain ⟨x0,x1,x2,x3,hxyz⟩:∃ x0 x1 x2 x3,ts[k]=⟨x0,x1,x2,x3⟩:=⟨_,_,_,_,rfl⟩
     rw [hxyz] at a0 a1 a2 a3 b0 b1 b2 b3
     simp only at a0 a1 a2 a3 b0 b1 b2 b3
     clear hxyz
     go_wp2
     go_quiet (fail)
     go_wp2
     go_roundw
     case rel=>exact ⟨k+1,by omega,by go_num,HE2,drew_more HQ.out _⟩
     case measure=>simp [intOf];omega
    ·have HF:=hid (show ¬xs=ts from fun e=>he (by subst e;rfl))
     obtain ⟨x0,x1,x2,x3,hxyz⟩:∃ x0 x1 x2 x3,xs[k]=⟨x0,x1,x2,x3⟩:=⟨_,_,_,_,rfl⟩
     obtain ⟨y0,y1,y2,y3,hxyz'⟩:∃ y0 y1 y2 y3,ts[k]=⟨y0,y1,y2,y3⟩:=⟨_,_,_,_,rfl⟩
     rw [hxyz,hxyz'] at he
     rw [hxyz] at a0 a1 a2 a3
     rw [hxyz'] at b0 b1 b2 b3
     simp only at a0 a1 a2 a3 b0 b1 b2 b3
     clear hxyz hxyz'
     have hne:((x0==y0)=false)∨((x0==y0)=true∧(x1.toList==y1.toList)=false)∨((x0==y0)=true∧(x1.toList==y1.toList)=true∧(x2==y2)=false)∨((x0==y0)=true∧(x1.toList==y1.toList)=true∧(x2==y2)=true∧(x3==y3)=false):=by
      by_cases g0:x0=y0
      ·by_cases g1:x1=y1
       ·by_cases g2:x2=y2
        ·by_cases g3:x3=y3
         ·exact absurd (by rw [g0,g1,g2,g3]) he
         ·exact .inr (.inr (.inr ⟨by simpa using g0,by rw [g1];simp,by simpa using g2,by simpa using g3⟩))
        ·exact .inr (.inr (.inl ⟨by simpa using g0,by rw [g1];simp,by simpa using g2⟩))
       ·exact .inr (.inl ⟨by simpa using g0,by rw [beq_eq_false_iff_ne,ByteArray.toList_eq,ByteArray.toList_eq];exact fun e=>g1 (ByteArray.ext (Array.ext' e))⟩)
      ·exact .inl (by simpa using g0)
     have hrun:=neq_l1Consts hne
     clear he hne
     go_wp2
     go_quiet (fail)
     go_wp2
     go_ret
     exact ⟨false,rfl,⟨fun h=>by simp at h,fun h=>absurd h HF.out⟩,drew_more HQ.out _⟩
   ·have HF:=hid (show xs=ts from by
     have:=HE.out
     rw [List.take_of_length_le (by omega),List.take_of_length_le (by rw [← HN.out];omega)] at this
     exact this)
    go_wp2
    go_ret
    exact ⟨true,rfl,⟨fun _=>HF.out,fun _=>rfl⟩,HQ.out⟩
 ·obtain ⟨ao1,c1,hv1⟩:=own_len h1
  obtain ⟨ao2,c2,hv2⟩:=own_len h2
  subst hv1 hv2
  have HF:=hid (show ¬xs=ts from fun e=>hn (by rw [e]))
  have hn':((xs.length:Int) != (ts.length:Int))=true:=by simp;omega
  clear h1 h2 hn
  go_enter Tryz.func113,Tryz.ntmps113
  go_wp2
  go_ret
  exact ⟨false,rfl,⟨fun h=>by simp at h,fun h=>absurd h HF.out⟩,0,rfl⟩
set_option maxHeartbeats 4000000
theorem l1Kinds_is (v1 v2:Value) (xs ts:List MKind) (B1 B2:Nat) (w:World) (c:Bool) (hc:c=true↔xs=ts) (hx:xs.length≤1048576) (hl:ts.length≤1048576)
  (h1:w.ownsRow B1 144 2 v1 xs.length (rowKind xs)) (h2:w.ownsRow B2 144 2 v2 ts.length (rowKind ts)) :
  Calls Tryz.prog 201 #[v1,v2] w fun e w'=>e=.returned (.bool c)∧∃ q,w'=w.drewN q:=by
 refine (l1Kinds_any v1 v2 xs ts B1 B2 w hx hl h1 h2).mono ?_
 rintro e w' ⟨d,rfl,hd,hq⟩
 refine ⟨ret_bool ?_,hq⟩
 rw [Bool.eq_iff_iff,hd,hc]
theorem exists_bool (P:Prop):∃ c:Bool,c=true↔P:=by
 by_cases h:P
 ·exact ⟨true,by simp [h]⟩
 ·exact ⟨false,by simp [h]⟩
theorem l1Frames_any (v1 v2:Value) (fs gs:List MFrame) (xs ys:List SFrame) (B1 B2:Nat) (w:World) (hx:fs.length≤1048576) (hl:gs.length≤1048576) (hf:∀ f∈fs,f.few) (hg:∀ f∈gs,f.few)
  (h1:FX w B1 v1 fs xs) (h2:FX w B2 v2 gs ys) :
  Calls Tryz.prog 159 #[v1,v2] w fun e w'=>∃ c:Bool,e=.returned (.bool c)∧(c=true↔fs=gs)∧∃ q,w'=w.drewN q:=by
 by_cases hn:fs.length=gs.length
 ·obtain ⟨ao1,c1,hv1⟩:=own_len h1.row
  obtain ⟨ao2,c2,hv2⟩:=own_len h2.row
  subst hv1 hv2
  have H1:=hid h1
  have H2:=hid h2
  have HN:=hid hn
  have HF:=hid hf
  have HG:=hid hg
  have hn':((fs.length:Int) != (gs.length:Int))=false:=by simp;omega
  clear h1 h2 hn hf hg
  go_enter Tryz.func159,Tryz.ntmps159
  go_wp2_with fail
  go_loopw [5] (fun i wr=>∃ k:Nat,k≤fs.length∧i=.int .i64 k∧Hid (fs.take k=gs.take k)∧Hid (∃ q,wr=w.drewN q)) (fun i _=>fs.length - (intOf i).toNat)
  case atStart=>exact ⟨0,by omega,rfl,rfl,0,rfl⟩
  case round=>
   obtain ⟨k,hk,rfl,HE,HQ⟩:=hrel
   by_cases hlt:k<fs.length
   ·have hlt2:k<gs.length:=by rw [← HN.out];exact hlt
    have hx1:k<xs.length:=by rw [H1.out.len];exact hlt
    have hx2:k<ys.length:=by rw [H2.out.len];exact hlt2
    obtain ⟨g1,hg1⟩:=own_some H1.out.row (by omega)
    obtain ⟨g2,hg2⟩:=own_some H2.out.row (by omega)
    subst hg1 hg2
    obtain ⟨q0,hq0⟩:=HQ.out
    obtain ⟨a1,a2,a3⟩:=ownFrame_at (w:=wr) (by rw [hq0];exact own_drewN H1.out.row q0) H1.out.len hx1
    obtain ⟨b1,b2,b3⟩:=ownFrame_at (w:=wr) (by rw [hq0];exact own_drewN H2.out.row q0) H2.out.len hx2
    have E1:=H1.out.each k hlt hx1
    have E2:=H2.out.each k hlt2 hx2
    have W1:=HF.out fs[k] (List.getElem_mem _)
    have W2:=HG.out gs[k] (List.getElem_mem _)
    have T1:=hid (List.take_succ_eq_append_getElem hlt)
    have T2:=hid (List.take_succ_eq_append_getElem hlt2)
    have HEq:=hid (show fs=gs→fs[k]=gs[k] from fun e=>by subst e;rfl)
    obtain ⟨r1,r2,r3,hr⟩:∃ a b c,xs[k]=⟨a,b,c⟩:=⟨_,_,_,rfl⟩
    obtain ⟨s1,s2,s3,hs⟩:∃ a b c,ys[k]=⟨a,b,c⟩:=⟨_,_,_,rfl⟩
    obtain ⟨f,hfk⟩:∃ f,fs[k]=f:=⟨_,rfl⟩
    obtain ⟨g,hgk⟩:∃ f,gs[k]=f:=⟨_,rfl⟩
    rw [hr,hfk] at E1
    rw [hs,hgk] at E2
    rw [hr] at a1 a2 a3
    rw [hs] at b1 b2 b3
    rw [hfk] at W1 T1 HEq
    rw [hgk] at W2 T2 HEq
    obtain ⟨o1,k1,hv1⟩:=own_len E1.l
    obtain ⟨o2,k2,hv2⟩:=own_len E1.s
    obtain ⟨o3,k3,hv3⟩:=own_len E2.l
    obtain ⟨o4,k4,hv4⟩:=own_len E2.s
    have hA1:r1=f.at_:=E1.at_
    have hA2:s1=g.at_:=E2.at_
    simp only at hv1 hv2 hv3 hv4 a1 a2 a3 b1 b2 b3
    subst hv1 hv2 hv3 hv4
    obtain ⟨cl,hcl⟩:=exists_bool (f.locals=g.locals)
    obtain ⟨cs,hcs⟩:=exists_bool (f.stack=g.stack)
    have hKl:=(show ∀ n,Calls Tryz.prog 201 #[.slice o1 f.locals.length k1,.slice o3 g.locals.length k3] (wr.drewN n) fun e w'=>e=.returned (.bool cl)∧∃ q,w'=wr.drewN q from fun n=>by
     refine (l1Kinds_is _ _ f.locals g.locals B1 B2 _ cl hcl W1.1 W2.1 (by rw [hq0];exact own_drewN (own_drewN E1.l q0) n) (by rw [hq0];exact own_drewN (own_drewN E2.l q0) n)).mono ?_
     rintro e w' ⟨rfl,q,rfl⟩
     exact ⟨rfl,_,World.drewN_drewN _ _ _⟩)
    have hKs:=(show ∀ n,Calls Tryz.prog 201 #[.slice o2 f.stack.length k2,.slice o4 g.stack.length k4] (wr.drewN n) fun e w'=>e=.returned (.bool cs)∧∃ q,w'=wr.drewN q from fun n=>by
     refine (l1Kinds_is _ _ f.stack g.stack B1 B2 _ cs hcs W1.2 W2.2 (by rw [hq0];exact own_drewN (own_drewN E1.s q0) n) (by rw [hq0];exact own_drewN (own_drewN E2.s q0) n)).mono ?_
     rintro e w' ⟨rfl,q,rfl⟩
     exact ⟨rfl,_,World.drewN_drewN _ _ _⟩)
    have HCL:=hid hcl
    have HCS:=hid hcs
    have HA:=hid (show (f=g↔r1=s1∧f.locals=g.locals∧f.stack=g.stack) from by
     rw [hA1,hA2]
     constructor
     ·rintro rfl;exact ⟨rfl,rfl,rfl⟩
     ·rintro ⟨h1,h2,h3⟩
      cases f;cases g
      simp_all)
    clear hq0 E1 E2 W1 W2 hr hs hfk hgk hA1 hA2 hcl hcs
    by_cases hat:r1=s1
    ·subst hat
     cases cl with
     | false=>
      have HNe:=hid (show ¬fs=gs from fun e=>by have:=(HA.out.1 (HEq.out e)).2.1;simp at HCL;exact HCL.out this)
      clear hKs
      go_wp2_with fail
      go_quiet ((go_at_call_of 201 (Value.slice o1 f.locals.length k1);exact hKl _))
      go_wp2_with fail
      go_ret
      exact ⟨false,rfl,⟨fun h=>by simp at h,fun h=>absurd h HNe.out⟩,drew_more HQ.out _⟩
     | true=>
      cases cs with
      | false=>
       have HNe:=hid (show ¬fs=gs from fun e=>by have:=(HA.out.1 (HEq.out e)).2.2;simp at HCS;exact HCS.out this)
       go_wp2_with fail
       go_quiet (first|(go_at_call_of 201 (Value.slice o1 f.locals.length k1);exact hKl _)|(go_at_call_of 201 (Value.slice o2 f.stack.length k2);exact hKs _))
       go_wp2_with fail
       go_ret
       exact ⟨false,rfl,⟨fun h=>by simp at h,fun h=>absurd h HNe.out⟩,drew_more HQ.out _⟩
      | true=>
       have HE2:=hid (show fs.take (k+1)=gs.take (k+1) from by rw [T1.out,T2.out,HE.out,HA.out.2 ⟨rfl,HCL.out.1 rfl,HCS.out.1 rfl⟩])
       go_wp2_with fail
       go_quiet (first|(go_at_call_of 201 (Value.slice o1 f.locals.length k1);exact hKl _)|(go_at_call_of 201 (Value.slice o2 f.stack.length k2);exact hKs _))
       go_wp2_with fail
       go_roundw
       case rel=>exact ⟨k+1,by omega,by go_num,HE2,drew_more HQ.out _⟩
       case measure=>simp [intOf];omega
    ·have HNe:=hid (show ¬fs=gs from fun e=>hat (HA.out.1 (HEq.out e)).1)
     have hat':(r1 != s1)=true:=by simpa using hat
     clear hKl hKs hat
     go_wp2_with fail
     go_quiet (fail)
     go_wp2_with fail
     go_ret
     exact ⟨false,rfl,⟨fun h=>by simp at h,fun h=>absurd h HNe.out⟩,drew_more HQ.out _⟩
   ·have HF2:=hid (show fs=gs from by
     have:=HE.out
     rw [List.take_of_length_le (by omega),List.take_of_length_le (by rw [← HN.out];omega)] at this
     exact this)
    go_wp2_with fail
    go_ret
    exact ⟨true,rfl,⟨fun _=>HF2.out,fun _=>rfl⟩,HQ.out⟩
 ·obtain ⟨ao1,c1,hv1⟩:=own_len h1.row
  obtain ⟨ao2,c2,hv2⟩:=own_len h2.row
  subst hv1 hv2
  have HF:=hid (show ¬fs=gs from fun e=>hn (by rw [e]))
  have hn':((fs.length:Int) != (gs.length:Int))=true:=by simp;omega
  clear h1 h2 hn
  go_enter Tryz.func159,Tryz.ntmps159
  go_wp2_with fail
  go_ret
  exact ⟨false,rfl,⟨fun h=>by simp at h,fun h=>absurd h HF.out⟩,0,rfl⟩
end Go.Proofs.YtecbcdfkedocbaaGreatDoor
