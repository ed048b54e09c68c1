/- Gathered: PutKinds PutEntry PutMethod. -/
import Derived.Test.YtecbcdfkedocbaaGreatDoorH01
import Derived.Laws.IdiomStrings
import Derived.Deep.RegionHeld
import Derived.Test.YtecbcdfkedocbaaGreatDoorH02
namespace Go.Proofs.YtecbcdfkedocbaaGreatDoor
open Go.RowKit Fm
set_option maxHeartbeats 1000000
set_option maxRecDepth 20000
set_option linter.unusedVariables false
theorem conv_b (W:World) (cs:List UInt8) (vs:Array Value) (n:Nat) (hn:n=cs.length) (hv:vs.toList=cs.map fun c=>Value.int .u8 (c.toNat:Int)) :
  (convert 146 9 (.slice (some ⟨W.heap.size,0,none⟩) n n)).run Tryz.prog (W.alloc (.cells vs 5))=.ok (.string (bytesOf cs)) (W.alloc (.cells vs 5)):=by
 subst hn
 refine run_convert_bytes_back (P:=Tryz.prog) _ 146 9 5 ⟨W.heap.size,0,none⟩ cs.length cs Tryz.underlying146 Tryz.underlying5 Tryz.underlying9 ?_
 intro j hj
 exact cells_new W vs 5 j _ (by rw [hv];simp [hj])
def Pt (t:ByteArray) (n:Nat) (P:Prop) (l:List UInt8):Prop:=t.size≤n∧(P→t=bytesOf l)
theorem Pt.app {t t':ByteArray} {n n':Nat} {P P':Prop} {l l':List UInt8} (h:Pt t n P l) (h':Pt t' n' P' l'):Pt (t++t') (n+n') (P∧P') (l++l'):=by
 refine ⟨by rw [ByteArray.size_append];have:=h.1;have:=h'.1;omega,fun hp=>?_⟩
 rw [h.2 hp.1,h'.2 hp.2,bytes_app]
theorem Pt.mono {t:ByteArray} {n n':Nat} {P P':Prop} {l l':List UInt8} (h:Pt t n P l) (hn:n≤n') (hp:P'→P) (hl:l=l'):Pt t n' P' l':=⟨Nat.le_trans h.1 hn,fun q=>by rw [← hl];exact h.2 (hp q)⟩
theorem Pt.of (l:List UInt8):Pt (bytesOf l) l.length True l:=⟨by rw [bytes_size];exact Nat.le_refl _,fun _=>rfl⟩
theorem put1_any (n:Int) (w:World) :
  Calls Tryz.prog 108 #[.int .i64 n] w fun e w'=>e=.returned (.string (bytesOf (one n)))∧Below w.heap.size w w':=by
 have hc:=fun W=>conv_b W [bt n] #[.int .u8 (n % 256)] 1 rfl (by simp [bt_toNat])
 go_enter Tryz.func108,Tryz.ntmps108
 go_wp2
 go_ret
 exact ⟨rfl,(Below.refl _ _).alloc (Nat.le_refl _) _⟩
theorem put2_any (n:Int) (w:World) :
  Calls Tryz.prog 110 #[.int .i64 n] w fun e w'=>∃ t,e=.returned (.string t)∧Pt t 2 (in2 n) (two n)∧Below w.heap.size w w':=by
 have hc:=fun W=>conv_b W [bt (wrap64 (n.tdiv 256)),bt (n.tmod 256)] #[.int .u8 (wrap64 (n.tdiv 256) % 256),.int .u8 (n.tmod 256 % 256)] 2 rfl (by simp [bt_toNat])
 go_enter Tryz.func110,Tryz.ntmps110
 go_wp2
 go_ret
 refine ⟨_,rfl,⟨by rw [bytes_size];simp,fun h=>?_⟩,(Below.refl _ _).alloc (Nat.le_refl _) _⟩
 unfold in2 at h
 rw [Int.tdiv_eq_ediv_of_nonneg (by omega),Int.tmod_eq_emod_of_nonneg (by omega)]
 unfold two
 rw [show wrap64 (n / 256)=n / 256 by unfold wrap64;omega]
 have:bt (n % 256)=bt n:=by unfold bt;rw [Int.emod_emod_of_dvd _ (by omega)]
 rw [this]
theorem kind_at {w:World} {B g cap:Nat} {ts:List MKind} (h:w.ownsRow B 144 2 (.slice (some ⟨g,0,none⟩) ts.length cap) ts.length (rowKind ts)) {k:Nat} (hk:k<ts.length) {x y:Int} (hx:ts[k]=⟨x,y⟩):w.cell? ⟨g,k*2,none⟩=some (.int .i64 x)∧w.cell? ⟨g,k*2+1,none⟩=some (.int .i64 y):=by
 obtain ⟨h1,h2⟩:=ownKind_at h hk
 rw [hx] at h1 h2
 exact ⟨h1,h2⟩
theorem putKinds_any (v:Value) (ts:List MKind) (B:Nat) (w:World) (hl:ts.length≤1048576) (h:w.ownsRow B 144 2 v ts.length (rowKind ts)) :
  Calls Tryz.prog 153 #[v] w fun e w'=>∃ t,e=.returned (.string t)∧Pt t (1+3*ts.length) (fineKs ts) (putKs ts)∧Below w.heap.size w w':=by
 obtain ⟨ao,cap,hv⟩:=own_len h
 subst hv
 have HO:=hid h
 clear h
 go_enter Tryz.func153,Tryz.ntmps153
 go_wp2_with fail
 refine (put1_any _ _).mono ?_
 rintro e w1 ⟨rfl,hb1⟩
 go_wp2_with fail
 go_loopw [3,4] (fun sv i wr=>∃ (k:Nat) (t:ByteArray),k≤ts.length∧i=.int .i64 k∧sv=.string t∧t.size≤1+3*k∧Hid (Pt t (1+3*k) (∀ x∈ts.take k,fineK x) (one ts.length++(ts.take k).flatMap putK))∧Below w.heap.size w wr) (fun _ i _=>ts.length - (intOf i).toNat)
 case atStart=>exact ⟨0,_,by omega,rfl,rfl,by rw [bytes_size];simp [one],(Pt.of (one ts.length)).mono (by simp [one]) (fun _=>trivial) (by simp),hb1⟩
 case round=>
  obtain ⟨k,t,hk,rfl,rfl,hts,hP,hbel⟩:=hrel
  by_cases hlt:k<ts.length
  ·obtain ⟨g,hg⟩:=own_some HO.out (by omega)
   subst hg
   obtain ⟨x,y,hxy⟩:∃ x y,ts[k]=⟨x,y⟩:=⟨_,_,rfl⟩
   obtain ⟨ca,cb⟩:=kind_at (own_below HO.out hbel) hlt hxy
   have HX:=hid hxy
   have HK:=hid (List.take_succ_eq_append_getElem hlt)
   clear hb1 hxy
   go_wp2_with fail
   refine (put1_any _ _).mono ?_
   rintro e w2 ⟨rfl,hb2⟩
   have hbel2:=hbel.trans (hb2.mono hbel.size)
   obtain ⟨ca2,cb2⟩:=kind_at (own_below HO.out hbel2) hlt HX.out
   have P2:=hid (hP.out.app (Pt.of (one x)))
   have hs2:(bytesOf (one x)).size≤1:=by rw [bytes_size];simp [one]
   clear hbel hb2 ca cb
   by_cases h3:x=3
   ·subst h3
    go_wp2_with fail
    refine (put2_any _ _).mono ?_
    rintro e w3 ⟨u,rfl,pu,hb3⟩
    have hbel3:=hbel2.trans (hb3.mono hbel2.size)
    have hu:=pu.1
    have P3:=hid ((P2.out.app pu).mono (n':=1+3*(k+1)) (P':=∀ x∈ts.take (k+1),fineK x) (l':=one ts.length++(ts.take (k+1)).flatMap putK) (by simp [one];omega) (fun hq=>by
     rw [HK.out,HX.out] at hq
     exact ⟨⟨fun q hm=>hq q (by simp [hm]),trivial⟩,by have:=hq ⟨3,y⟩ (by simp);simpa [fineK] using this.2⟩) (by
     rw [HK.out,HX.out]
     simp [putK]))
    clear P2 hP pu hb3
    go_wp2_with fail 
    go_roundw
    case rel=>exact ⟨k+1,_,by omega,by go_num,rfl,P3.out.1,P3,hbel3⟩
    case measure=>simp [intOf];omega
   ·have h3':(x==3)=false:=by simpa using h3
    have P3:=hid (P2.out.mono (n':=1+3*(k+1)) (P':=∀ x∈ts.take (k+1),fineK x) (l':=one ts.length++(ts.take (k+1)).flatMap putK) (by simp [one];omega) (fun hq=>by
     rw [HK.out,HX.out] at hq
     exact ⟨fun q hm=>hq q (by simp [hm]),trivial⟩) (by
     rw [HK.out,HX.out]
     simp [putK,h3]))
    clear P2 hP h3
    go_wp2_with fail
    go_roundw
    case rel=>exact ⟨k+1,_,by omega,by go_num,rfl,P3.out.1,P3,hbel2⟩
    case measure=>simp [intOf];omega
  ·have hke:k=ts.length:=by omega
   have HF:=hid (hP.out.mono (n':=1+3*ts.length) (P':=fineKs ts) (l':=putKs ts) (by omega) (fun hq x hm=>hq.2 x (List.mem_of_mem_take hm)) (by rw [hke,List.take_length];rfl))
   clear hP
   go_wp2_with fail
   go_ret
   exact ⟨t,rfl,HF.out,hbel⟩
set_option maxHeartbeats 4000000
theorem Pt.whole (x:ByteArray):Pt x x.size True x.data.toList:=⟨Nat.le_refl _,fun _=>(bytes_data x).symm⟩
theorem putEntry_any (t:C4) (w:World) (hs:t.text.size≤1048576) :
  Calls Tryz.prog 109 #[.agg #[.int .i64 t.kind,.string t.text,.int .i64 t.a,.int .i64 t.b]] w fun e w'=>∃ u,e=.returned (.string u)∧Pt u (5+t.text.size) (fineE t) (putE t)∧Below w.heap.size w w':=by
 obtain ⟨k,x,a,b⟩:=t
 have hs:x.size≤1048576:=hs
 have K0:=Lk.new w #[.int .i64 k,.string x,.int .i64 a,.int .i64 b] 40
 have KD:=(show Lk (w.alloc (.cells #[.int .i64 k,.string x,.int .i64 a,.int .i64 b] 40)).drew w.heap.size #[.int .i64 k,.string x,.int .i64 a,.int .i64 b] 40 from K0)
 have hb0:=(show Below w.heap.size w (w.alloc (.cells #[.int .i64 k,.string x,.int .i64 a,.int .i64 b] 40)).drew from ((Below.refl _ _).alloc (Nat.le_refl _) _).drew)
 obtain ⟨c0,c1,c2,c3,_⟩:=KD.c4
 have hs1:∀ n:Int,(bytesOf (one n)).size≤1:=fun n=>by rw [bytes_size];simp [one]
 have hp1:=fun n=>Pt.of (one n)
 have HP1:=hid hp1
 clear hp1 K0
 by_cases h1:k=1
 ·subst h1
  have hq1:=hs1 1
  have hq2:=hs1 x.size
  clear hs1
  go_enter Tryz.func109,Tryz.ntmps109
  go_wp2_with fail
  go_region_held (fun w'=>w'.cell? ⟨w.heap.size,0,none⟩=some (.int .i64 1)∧w'.cell? ⟨w.heap.size,1,none⟩=some (.string x)) (refine ⟨?_, ?_⟩<;>assumption) (first
   | (go_at_call 108;refine (put1_any _ _).mono ?_;rintro e w9 ⟨rfl,hb9⟩;have hk9:=Lk.keep (by assumption) hb9;have hb9':=Below.trans (by assumption) (Below.mono hb9 (Below.size (by assumption)));obtain ⟨d0,d1,d2,d3,_⟩:=hk9.c4))
  go_wp2_with fail
  go_ret
  refine ⟨_,rfl,((HP1.out 1).app (HP1.out x.size)).app (Pt.whole x) |>.mono (by simp [one]) (fun _=>⟨⟨trivial,trivial⟩,trivial⟩) (by simp [putE]),hb9'⟩
 ·have e1:(k==1)=false:=by simpa using h1
  by_cases h2:k=2
  ·subst h2
   have hq1:=hs1 2
   clear hs1
   go_enter Tryz.func109,Tryz.ntmps109
   go_wp2_with fail
   go_region_held (fun w'=>w'.cell? ⟨w.heap.size,0,none⟩=some (.int .i64 2)∧w'.cell? ⟨w.heap.size,2,none⟩=some (.int .i64 a)) (refine ⟨?_, ?_⟩<;>assumption) (first
   | (go_at_call 108;refine (put1_any _ _).mono ?_;rintro e w9 ⟨rfl,hb9⟩;have hk9:=Lk.keep (by assumption) hb9;have hb9':=Below.trans (by assumption) (Below.mono hb9 (Below.size (by assumption)));obtain ⟨d0,d1,d2,d3,_⟩:=hk9.c4)
   | (go_at_call 110;refine (put2_any _ _).mono ?_;rintro e w9 ⟨u9,rfl,pu9,hb9⟩;have hu9:=pu9.1;have hk9:=Lk.keep (by assumption) hb9;have hb9':=Below.trans (by assumption) (Below.mono hb9 (Below.size (by assumption)));obtain ⟨d0,d1,d2,d3,_⟩:=hk9.c4))
   go_wp2_with fail
   go_ret
   refine ⟨_,rfl,((HP1.out 2).app pu9).mono (by simp [one];omega) (fun hf=>⟨trivial,by have:=hf.2;simp [fineE2] at this;exact this.2.1⟩) (by simp [putE]),hb9'⟩
  ·have e2:(k==2)=false:=by simpa using h2
   have hq1:=hs1 k
   have HN1:=hid h1
   have HN2:=hid h2
   clear hs1 h1 h2
   go_enter Tryz.func109,Tryz.ntmps109
   go_wp2_with fail
   go_region_held (fun w'=>w'.cell? ⟨w.heap.size,0,none⟩=some (.int .i64 k)∧w'.cell? ⟨w.heap.size,2,none⟩=some (.int .i64 a)∧w'.cell? ⟨w.heap.size,3,none⟩=some (.int .i64 b)) (refine ⟨?_, ?_, ?_⟩<;>assumption) (first
   | (go_at_call 108;refine (put1_any _ _).mono ?_;rintro e w9 ⟨rfl,hb9⟩;have hk9:=Lk.keep (by assumption) hb9;have hb9':=Below.trans (by assumption) (Below.mono hb9 (Below.size (by assumption)));obtain ⟨d0,d1,d2,d3,_⟩:=hk9.c4)
   | (go_at_call 110;refine (put2_any _ _).mono ?_;rintro e w9 ⟨u9,rfl,pu9,hb9⟩;have hu9:=pu9.1;have hk9:=Lk.keep (by assumption) hb9;have hb9':=Below.trans (by assumption) (Below.mono hb9 (Below.size (by assumption)));obtain ⟨d0,d1,d2,d3,_⟩:=hk9.c4))
   all_goals
    go_wp2_with fail
    go_ret
    refine ⟨_,rfl,(((HP1.out k).app (P':=in2 a) (n':=2) (l':=two a) (by assumption)).app pu9).mono (by simp [one]) (fun hf=>?_) (by simp [putE,HN1.out,HN2.out]),hb9'⟩
    have:=hf.2
    simp [fineE2,HN1.out,HN2.out] at this
    exact ⟨⟨trivial,this.2.2.1⟩,this.2.2.2⟩
set_option maxHeartbeats 8000000
structure Acc (t:ByteArray) (n:Nat) (P:Prop) (l:List UInt8):Prop where
 pt:Pt t n P l
 few:n≤1000000000000000
theorem Acc.next {t u:ByteArray} {n k:Nat} {P Q:Prop} {l r:List UInt8} (h:Acc t n P l) (p:Pt u k Q r) (hk:n+k≤1000000000000000):Acc (t++u) (n+k) (P∧Q) (l++r):=⟨h.pt.app p,hk⟩
theorem Acc.cat {t u:ByteArray} {n k:Nat} {P Q:Prop} {l r:List UInt8} (h:Acc t n P l) (p:Pt u k Q r) (hk:n+k≤1000000000000000):¬(9223372036854775807<t.size+u.size):=by
 have:=h.pt.1
 have:=p.1
 omega
theorem Acc.to {t:ByteArray} {n n':Nat} {P P':Prop} {l l':List UInt8} (h:Acc t n P l) (hn:n≤n') (hf:n'≤1000000000000000) (hp:P'→P) (hl:l=l'):Acc t n' P' l':=⟨h.pt.mono hn hp hl,hf⟩
structure PB (w:World) (cs:Array Value) (T:TypeId) (W:World):Prop where
 b:Below (w.alloc (.cells cs T)).heap.size (w.alloc (.cells cs T)) W
theorem PB.start (w:World) (cs:Array Value) (T:TypeId):PB w cs T (w.alloc (.cells cs T)):=⟨Below.refl _ _⟩
theorem PB.keep {w:World} {cs:Array Value} {T:TypeId} {W W':World} (h:PB w cs T W) (hb:Below W.heap.size W W'):PB w cs T W':=⟨h.b.trans (hb.mono h.b.size)⟩
theorem PB.lk {w:World} {cs:Array Value} {T:TypeId} {W:World} (h:PB w cs T W):Lk W w.heap.size cs T:=(Lk.new w cs T).keep h.b
theorem PB.old {w:World} {cs:Array Value} {T:TypeId} {W:World} (h:PB w cs T W):Below w.heap.size w W:=((Below.refl _ _).alloc (Nat.le_refl _) _).trans (h.b.mono (by simp))
theorem PB.drew {w:World} {cs:Array Value} {T:TypeId} {W:World} (h:PB w cs T W):PB w cs T W.drew:=⟨h.b.drew⟩
theorem Pt.mono2 {t:ByteArray} {n n':Nat} {P P':Prop} {l l':List UInt8} (h:Pt t n P l) (hn:n≤n') (hp:P'→P) (hl:P'→l=l'):Pt t n' P' l':=⟨Nat.le_trans h.1 hn,fun q=>by rw [← hl q];exact h.2 (hp q)⟩
theorem put1x_any (n:Int) (w:World) :
  Calls Tryz.prog 108 #[.int .i64 n] w fun e w'=>∃ u,e=.returned (.string u)∧Pt u 1 True (one n)∧Below w.heap.size w w':=by
 refine (put1_any n w).mono ?_
 rintro e w' ⟨rfl,hb⟩
 exact ⟨_,rfl,(Pt.of (one n)).mono (by simp [one]) (fun _=>trivial) rfl,hb⟩
theorem abs_code {x:Int} (h:in1 x):(wrap64 ((x.tmod 16).tdiv 8)==1)=decide (absF x):=by
 unfold in1 at h
 rw [Int.tmod_eq_emod_of_nonneg (by omega),Int.tdiv_eq_ediv_of_nonneg (by omega),show wrap64 (x % 16 / 8)=x % 16 / 8 by unfold wrap64;omega,Bool.eq_iff_iff,beq_iff_eq,decide_eq_true_iff]
 exact Iff.rfl
theorem trap_at {w:World} {B g cap:Nat} {ts:List MTrap} (h:w.ownsRow B 140 4 (.slice (some ⟨g,0,none⟩) ts.length cap) ts.length (rowTrap ts)) {k:Nat} (hk:k<ts.length) {a b c d:Int} (hx:ts[k]=⟨a,b,c,d⟩):w.cell? ⟨g,k*4,none⟩=some (.int .i64 a)∧w.cell? ⟨g,k*4+1,none⟩=some (.int .i64 b)∧w.cell? ⟨g,k*4+2,none⟩=some (.int .i64 c)∧w.cell? ⟨g,k*4+3,none⟩=some (.int .i64 d):=by
 obtain ⟨h1,h2,h3,h4⟩:=ownTrap_at h hk
 rw [hx] at h1 h2 h3 h4
 exact ⟨h1,h2,h3,h4⟩
theorem putMethod_any (m:MMethod) (vt vf:Value) (B:Nat) (w:World) (hm:m.few) (h:MethodW w B vt vf m) :
  Calls Tryz.prog 111 #[.agg #[.int .i64 m.flags,.int .i64 m.name,.int .i64 m.desc,.int .i64 m.deep,.int .i64 m.locals,.string m.code,vt,vf]] w fun e w'=>∃ u,e=.returned (.string u)∧Pt u 100000000000000 (fineM m) (putM m)∧Below w.heap.size w w':=by
 obtain ⟨x,y,z,d,l,cd,ts,fs⟩:=m
 obtain ⟨xs,hxs⟩:=FX.of h.f
 have ht:=h.t
 obtain ⟨o1,k1,hv1⟩:=own_len ht
 obtain ⟨o2,k2,hv2⟩:=own_len hxs.row
 simp only at ht hxs hv1 hv2
 subst hv1 hv2
 obtain ⟨f1,f2,f3,f4⟩:=hm
 simp only at f1 f2 f3 f4
 have HT:=hid ht
 have HX:=hid hxs
 have HF4:=hid f4
 clear h ht hxs f4
 have P0:=(PB.start w (arrM x y z d l cd (.slice o1 ts.length k1) (.slice o2 fs.length k2)) 75)
 go_enter Tryz.func111,Tryz.ntmps111
 go_upto_region 1 with fail
 go_cut [3] (fun sv wc=>∃ t,sv=.string t∧Hid (Acc t 5 (in2 y∧in2 z) (one x++(two y++two z)))∧PB w (arrM x y z d l cd (.slice o1 ts.length k1) (.slice o2 fs.length k2)) 75 wc)
 case first=>
  have PD:=P0.drew
  obtain ⟨⟨c0,c1,c2,_⟩,_⟩:=PD.lk.c8
  have A0:=(show Acc ⟨#[]⟩ 0 True [] from ⟨⟨Nat.le_refl _,fun _=>rfl⟩,by omega⟩)
  go_region_held (fun w'=>w'.cell? ⟨w.heap.size,0,none⟩=some (.int .i64 x)∧w'.cell? ⟨w.heap.size,1,none⟩=some (.int .i64 y)∧w'.cell? ⟨w.heap.size,2,none⟩=some (.int .i64 z)) (refine ⟨?_, ?_, ?_⟩<;>assumption) (first
   | (go_at_call 108;refine (put1_any _ _).mono ?_;rintro e w9 ⟨rfl,hb9⟩;have PB9:=PB.keep (by assumption) hb9;obtain ⟨⟨d0,d1,d2,_⟩,_⟩:=PB9.lk.c8;have ac9:=(show Acc (bytesOf (one x)) 1 True (one x) from ⟨(Pt.of (one x)).mono (by simp [one]) (fun _=>trivial) rfl,by omega⟩))
   | (go_at_call 110;refine (put2_any _ _).mono ?_;rintro e w9 ⟨u9,rfl,pu9,hb9⟩;have PB9:=PB.keep (by assumption) hb9;obtain ⟨⟨d0,d1,d2,_⟩,_⟩:=PB9.lk.c8;have hc9:=Acc.cat (by assumption) pu9 (by omega);(try simp only [ByteArray.size_append] at hc9);have ac9:=Acc.next (by assumption) pu9 (by omega)))
  go_wp2_with fail
  go_meet
  case rel=>exact ⟨_,rfl,ac9.to (by omega) (by omega) (fun h=>⟨⟨trivial,h.1⟩,h.2⟩) (by simp),PB9⟩
 case rest=>
  obtain ⟨t,rfl,A1,P1⟩:=hcut
  clear P0
  obtain ⟨⟨c0,c1,c2,c3,c4,c5,c6,c7⟩,_⟩:=P1.lk.c8
  obtain ⟨q,hq⟩:∃ q,(wrap64 ((x.tmod 16).tdiv 8)==1)=q:=⟨_,rfl⟩
  have HQ:=hid hq
  cases q with
  | true=>
   have HF:=hid (A1.out.pt.mono2 (n':=100000000000000) (P':=fineM ⟨x,y,z,d,l,cd,ts,fs⟩) (l':=putM ⟨x,y,z,d,l,cd,ts,fs⟩) (by omega) (fun hf=>⟨hf.2.1,hf.2.2.1⟩) (fun hf=>by
    have ha:absF x:=by have:=abs_code hf.1;rw [HQ.out] at this;simpa using this.symm
    simp [putM,ha]))
   have HO:=hid P1.old
   clear A1
   go_wp2_with fail
   go_ret
   exact ⟨t,rfl,HF.out,HO.out⟩
  | false=>
   have HA:=hid (show in1 x→¬absF x from fun h=>by have:=abs_code h;rw [HQ.out] at this;simpa using this.symm)
   clear HQ
   go_upto_region 4 with fail
   go_cut [3] (fun sv wc=>∃ t,sv=.string t∧Hid (Acc t (15+cd.size) (in2 y∧in2 z∧in2 cd.size) (one x++(two y++two z)++(one d++(one l++(two cd.size++cd.data.toList)))++one ts.length))∧PB w (arrM x y z d l cd (.slice o1 ts.length k1) (.slice o2 fs.length k2)) 75 wc)
   case first=>
    have PD:=P1.drew
    have A0:=A1.out
    clear c0 c1 c2 c3 c4 c5 c6 c7 P1
    obtain ⟨⟨c0,c1,c2,c3,c4,c5,c6,c7⟩,_⟩:=PD.lk.c8
    go_region_held (fun w'=>w'.cell? ⟨w.heap.size,3,none⟩=some (.int .i64 d)∧w'.cell? ⟨w.heap.size,4,none⟩=some (.int .i64 l)∧w'.cell? ⟨w.heap.size,5,none⟩=some (.string cd)∧w'.cell? ⟨w.heap.size,6,none⟩=some (.slice o1 ts.length k1)) (refine ⟨?_, ?_, ?_, ?_⟩<;>assumption) (first
     | (go_at_call 108;refine (put1x_any _ _).mono ?_;rintro e w9 ⟨u9,rfl,pu9,hb9⟩;have PB9:=PB.keep (by assumption) hb9;obtain ⟨⟨_,_,_,d3,d4,d5,d6,_⟩,_⟩:=PB9.lk.c8;have hc9:=Acc.cat (by assumption) pu9 (by omega);(try simp only [ByteArray.size_append] at hc9);have ac9:=Acc.next (by assumption) pu9 (by omega))
     | (go_at_call 110;refine (put2_any _ _).mono ?_;rintro e w9 ⟨u9,rfl,pu9,hb9⟩;have PB9:=PB.keep (by assumption) hb9;obtain ⟨⟨_,_,_,d3,d4,d5,d6,_⟩,_⟩:=PB9.lk.c8;have hc9:=Acc.cat (by assumption) pu9 (by omega);(try simp only [ByteArray.size_append] at hc9);have ac8:=Acc.next (by assumption) pu9 (by omega);have hd9:=Acc.cat ac8 (Pt.whole cd) (by omega);(try simp only [ByteArray.size_append] at hd9);have ac9:=Acc.next ac8 (Pt.whole cd) (by omega)))
    go_wp2_with fail
    go_meet
    case rel=>exact ⟨_,rfl,ac9.to (by omega) (by omega) (fun h=>⟨⟨⟨⟨⟨⟨h.1,h.2.1⟩,trivial⟩,trivial⟩,h.2.2⟩,trivial⟩,trivial⟩) (by simp),PB9⟩
   case rest=>
    obtain ⟨t2,rfl,A2,P2⟩:=hcut
    clear A1 P1 c0 c1 c2 c3 c4 c5 c6 c7
    go_wp2_with fail
    go_loopw [3,4,5] (fun sv i _ wr=>∃ (k:Nat) (t:ByteArray),k≤ts.length∧i=.int .i64 k∧sv=.string t∧Hid (Acc t (15+cd.size+8*k) (in2 y∧in2 z∧in2 cd.size∧∀ x∈ts.take k,fineT x) (one x++(two y++two z)++(one d++(one l++(two cd.size++cd.data.toList)))++one ts.length++(ts.take k).flatMap putT))∧PB w (arrM x y z d l cd (.slice o1 ts.length k1) (.slice o2 fs.length k2)) 75 wr) (fun _ i _ _=>ts.length - (intOf i).toNat)
    case atStart=>exact ⟨0,t2,by omega,rfl,rfl,A2.out.to (by omega) (by omega) (fun h=>⟨h.1,h.2.1,h.2.2.1⟩) (by simp),P2⟩
    case round=>
     obtain ⟨k,t3,hk,rfl,rfl,A3,P3⟩:=hrel
     obtain ⟨⟨c0,c1,c2,c3,c4,c5,c6,c7⟩,_⟩:=P3.lk.c8
     clear A2 P2
     by_cases hlt:k<ts.length
     ·obtain ⟨g,hg⟩:=own_some HT.out (by omega)
      subst hg
      obtain ⟨a1,a2,a3,a4,ha⟩:∃ a b c d,ts[k]=⟨a,b,c,d⟩:=⟨_,_,_,_,rfl⟩
      obtain ⟨e1,e2,e3,e4⟩:=trap_at (own_below HT.out P3.old) hlt ha
      have HK:=hid (List.take_succ_eq_append_getElem hlt)
      have HA2:=hid ha
      have PD:=(P3.keep ((Below.refl _ _).alloc (Nat.le_refl _) (.cells #[.int .i64 a1,.int .i64 a2,.int .i64 a3,.int .i64 a4] 140))).drew
      have KD:=(show Lk (wr.alloc (.cells #[.int .i64 a1,.int .i64 a2,.int .i64 a3,.int .i64 a4] 140)).drew wr.heap.size #[.int .i64 a1,.int .i64 a2,.int .i64 a3,.int .i64 a4] 140 from Lk.new _ _ _)
      obtain ⟨s1,s2,s3,s4,_⟩:=KD.c4
      have A0:=A3.out
      clear ha HX HF4
      go_wp2_with fail
      go_region_held (fun w'=>w'.cell? ⟨wr.heap.size,0,none⟩=some (.int .i64 a1)∧w'.cell? ⟨wr.heap.size,1,none⟩=some (.int .i64 a2)∧w'.cell? ⟨wr.heap.size,2,none⟩=some (.int .i64 a3)∧w'.cell? ⟨wr.heap.size,3,none⟩=some (.int .i64 a4)) (refine ⟨?_, ?_, ?_, ?_⟩<;>assumption) (first
       | (go_at_call 110;refine (put2_any _ _).mono ?_;rintro e w9 ⟨u9,rfl,pu9,hb9⟩;have PB9:=PB.keep (by assumption) hb9;have KB9:=Lk.keep (C:=wr.heap.size) (by assumption) hb9;obtain ⟨d1,d2,d3,d4,_⟩:=KB9.c4;have hc9:=Acc.cat (by assumption) pu9 (by omega);(try simp only [ByteArray.size_append] at hc9);have ac9:=Acc.next (by assumption) pu9 (by omega)))
      have A4:=hid (ac9.to (n':=15+cd.size+8*(k+1)) (P':=in2 y∧in2 z∧in2 cd.size∧∀ x∈ts.take (k+1),fineT x) (l':=one x++(two y++two z)++(one d++(one l++(two cd.size++cd.data.toList)))++one ts.length++(ts.take (k+1)).flatMap putT) (by omega) (by omega) (fun h=>by
       rw [HK.out,HA2.out] at h
       have hf:=h.2.2.2 ⟨a1,a2,a3,a4⟩ (by simp)
       exact ⟨⟨⟨⟨⟨h.1,h.2.1,h.2.2.1,fun x hx=>h.2.2.2 x (by simp [hx])⟩,hf.1⟩,hf.2.1⟩,hf.2.2.1⟩,hf.2.2.2⟩) (by
       rw [HK.out,HA2.out]
       simp [putT]))
      have P4:=hid PB9
      clear ac9 A3 A0 pu9 hc9 PB9 KB9 PD KD
      go_wp2_with fail
      go_roundw
      case rel=>exact ⟨k+1,_,by omega,by go_num,rfl,A4,P4.out⟩
      case measure=>simp [intOf];omega
     ·have hke:k=ts.length:=by omega
      have A4:=hid (A3.out.to (n':=15+cd.size+8*ts.length) (P':=in2 y∧in2 z∧in2 cd.size∧∀ x∈ts,fineT x) (l':=one x++(two y++two z)++(one d++(one l++(two cd.size++cd.data.toList)))++putL putT ts) (by omega) (by omega) (fun h=>⟨h.1,h.2.1,h.2.2.1,fun x hx=>h.2.2.2 x (List.mem_of_mem_take hx)⟩) (by rw [hke,List.take_length];simp [putL]))
      clear A3
      go_wp2_with fail
      refine (put1x_any _ _).mono ?_
      rintro e w5 ⟨u5,rfl,pu5,hb5⟩
      have P5:=P3.keep hb5
      have hc5:=A4.out.cat pu5 (by omega)
      have A5:=hid (A4.out.next pu5 (by omega))
      have hs5:=A5.out.pt.1
      clear c0 c1 c2 c3 c4 c5 c6 c7 P3 pu5 hb5
      go_wp2_with fail
      go_loopw [3,6] (fun sv i wr=>∃ (k:Nat) (t:ByteArray),k≤fs.length∧i=.int .i64 k∧sv=.string t∧Hid (Acc t (16+cd.size+8*ts.length+6300000*k) (in2 y∧in2 z∧in2 cd.size∧(∀ x∈ts,fineT x)∧∀ x∈fs.take k,fineF x) (one x++(two y++two z)++(one d++(one l++(two cd.size++cd.data.toList)))++putL putT ts++one fs.length++(fs.take k).flatMap putF))∧PB w (arrM x y z d l cd (.slice o1 ts.length k1) (.slice o2 fs.length k2)) 75 wr) (fun _ i _=>fs.length - (intOf i).toNat)
      case atStart=>exact ⟨0,_,by omega,rfl,rfl,A5.out.to (by omega) (by omega) (fun h=>⟨⟨h.1,h.2.1,h.2.2.1,h.2.2.2.1⟩,trivial⟩) (by simp),P5⟩
      case round=>
       obtain ⟨k,t6,hk,rfl,rfl,A6,P6⟩:=hrel
       obtain ⟨⟨c0,c1,c2,c3,c4,c5,c6,c7⟩,_⟩:=P6.lk.c8
       clear A5 P5 A4 hc5 hs5
       by_cases hlt:k<fs.length
       ·obtain ⟨g,hg⟩:=own_some HX.out.row (by omega)
        subst hg
        have hxl:k<xs.length:=by rw [HX.out.len];exact hlt
        obtain ⟨b1,b2,b3,hb⟩:∃ a b c,xs[k]=⟨a,b,c⟩:=⟨_,_,_,rfl⟩
        obtain ⟨g1,g2,g3,hgf⟩:∃ a b c,fs[k]=⟨a,b,c⟩:=⟨_,_,_,rfl⟩
        have hfe:=HX.out.each k hlt hxl
        have hfw:=HF4.out fs[k] (List.getElem_mem _)
        rw [hb,hgf] at hfe
        rw [hgf] at hfw
        have hat:b1=g1:=hfe.at_
        subst hat
        obtain ⟨q1,r1,hv1⟩:=own_len hfe.l
        obtain ⟨q2,r2,hv2⟩:=own_len hfe.s
        simp only at hv1 hv2
        subst hv1 hv2
        obtain ⟨e1,e2,e3⟩:=ownFrame_at (own_below HX.out.row P6.old) HX.out.len hxl
        rw [hb] at e1 e2 e3
        simp only at e1 e2 e3
        have HL:=hid hfe.l
        have HS:=hid hfe.s
        have hw1:g2.length≤1048576:=hfw.1
        have hw2:g3.length≤1048576:=hfw.2
        have HK:=hid (List.take_succ_eq_append_getElem hlt)
        have HA2:=hid hgf
        have PD:=P6.drew
        have A0:=A6.out
        have HKL:=(show ∀ W,PB w (arrM x y z d l cd (.slice o1 ts.length k1) (.slice (some ⟨g,0,none⟩) fs.length k2)) 75 W→Calls Tryz.prog 153 #[.slice q1 g2.length r1] W fun e w'=>∃ t,e=.returned (.string t)∧Pt t (1+3*g2.length) (fineKs g2) (putKs g2)∧Below W.heap.size W w' from fun W hW=>putKinds_any _ g2 B W hw1 (own_below HL.out hW.old))
        have HKS:=(show ∀ W,PB w (arrM x y z d l cd (.slice o1 ts.length k1) (.slice (some ⟨g,0,none⟩) fs.length k2)) 75 W→Calls Tryz.prog 153 #[.slice q2 g3.length r2] W fun e w'=>∃ t,e=.returned (.string t)∧Pt t (1+3*g3.length) (fineKs g3) (putKs g3)∧Below W.heap.size W w' from fun W hW=>putKinds_any _ g3 B W hw2 (own_below HS.out hW.old))
        have hge:∀ W,PB w (arrM x y z d l cd (.slice o1 ts.length k1) (.slice (some ⟨g,0,none⟩) fs.length k2)) 75 W→W.cell? ⟨w.heap.size,7,none⟩=some (.slice (some ⟨g,0,none⟩) fs.length k2)∧W.cell? ⟨g,k*3,none⟩=some (.int .i64 b1)∧W.cell? ⟨g,k*3+1,none⟩=some (.slice q1 g2.length r1)∧W.cell? ⟨g,k*3+2,none⟩=some (.slice q2 g3.length r2):=fun W hW=>by
         obtain ⟨⟨_,_,_,_,_,_,_,m7⟩,_⟩:=hW.lk.c8
         obtain ⟨n1,n2,n3⟩:=ownFrame_at (own_below HX.out.row hW.old) HX.out.len hxl
         rw [hb] at n1 n2 n3
         exact ⟨m7,n1,n2,n3⟩
        have HGE:=hid hge
        obtain ⟨s1,s2,s3,s4⟩:=HGE.out _ PD
        clear hfe hfw hb hgf HL HS hge
        go_wp2_with fail
        go_region_held (fun w'=>w'.cell? ⟨w.heap.size,7,none⟩=some (.slice (some ⟨g,0,none⟩) fs.length k2)∧w'.cell? ⟨g,k*3,none⟩=some (.int .i64 b1)∧w'.cell? ⟨g,k*3+1,none⟩=some (.slice q1 g2.length r1)∧w'.cell? ⟨g,k*3+2,none⟩=some (.slice q2 g3.length r2)) (refine ⟨?_, ?_, ?_, ?_⟩<;>assumption) (first
         | (go_at_call 110;refine (put2_any _ _).mono ?_;rintro e w9 ⟨u9,rfl,pu9,hb9⟩;have PB9:=PB.keep (by assumption) hb9;obtain ⟨d1,d2,d3,d4⟩:=HGE.out _ PB9;have hc9:=Acc.cat (by assumption) pu9 (by omega);(try simp only [ByteArray.size_append] at hc9);have ac9:=Acc.next (by assumption) pu9 (by omega))
         | (go_at_call_of 153 (Value.slice q1 g2.length r1);refine (HKL _ (by assumption)).mono ?_;rintro e w9 ⟨u9,rfl,pu9,hb9⟩;have PB9:=PB.keep (by assumption) hb9;obtain ⟨d1,d2,d3,d4⟩:=HGE.out _ PB9;have hc9:=Acc.cat (by assumption) pu9 (by omega);(try simp only [ByteArray.size_append] at hc9);have ac9:=Acc.next (by assumption) pu9 (by omega))
         | (go_at_call_of 153 (Value.slice q2 g3.length r2);refine (HKS _ (by assumption)).mono ?_;rintro e w9 ⟨u9,rfl,pu9,hb9⟩;have PB9:=PB.keep (by assumption) hb9;obtain ⟨d1,d2,d3,d4⟩:=HGE.out _ PB9;have hc9:=Acc.cat (by assumption) pu9 (by omega);(try simp only [ByteArray.size_append] at hc9);have ac9:=Acc.next (by assumption) pu9 (by omega))) 
        have A7:=hid (ac9.to (n':=16+cd.size+8*ts.length+6300000*(k+1)) (P':=in2 y∧in2 z∧in2 cd.size∧(∀ x∈ts,fineT x)∧∀ x∈fs.take (k+1),fineF x) (l':=one x++(two y++two z)++(one d++(one l++(two cd.size++cd.data.toList)))++putL putT ts++one fs.length++(fs.take (k+1)).flatMap putF) (by omega) (by omega) (fun h=>by
         rw [HK.out,HA2.out] at h
         have hf:=h.2.2.2.2 ⟨b1,g2,g3⟩ (by simp)
         exact ⟨⟨⟨⟨h.1,h.2.1,h.2.2.1,h.2.2.2.1,fun x hx=>h.2.2.2.2 x (by simp [hx])⟩,hf.1⟩,hf.2.1⟩,hf.2.2⟩) (by
         rw [HK.out,HA2.out]
         simp [putF]))
        have P7:=hid PB9
        clear ac9 A6 A0 pu9 hc9 PB9 PD
        go_wp2_with fail
        go_roundw
        case rel=>exact ⟨k+1,_,by omega,by go_num,rfl,A7,P7.out⟩
        case measure=>simp [intOf];omega
       ·have hke:k=fs.length:=by omega
        have HF:=hid (A6.out.pt.mono2 (n':=100000000000000) (P':=fineM ⟨x,y,z,d,l,cd,ts,fs⟩) (l':=putM ⟨x,y,z,d,l,cd,ts,fs⟩) (by omega) (fun hf=>by
         have hb:=hf.2.2.2
         unfold fineM2 at hb
         rw [if_neg (HA.out hf.1)] at hb
         have hcd:(cd.size:Int)≤120:=hb.2.2.1
         exact ⟨hf.2.1,hf.2.2.1,by unfold in2;omega,hb.2.2.2.1.2,fun x hx=>hb.2.2.2.2.2 x (List.mem_of_mem_take hx)⟩) (fun hf=>by
         rw [hke,List.take_length]
         have hna:=HA.out hf.1
         simp [putM,hna,putBody,putCode,putL]))
        have HO:=hid P6.old
        clear A6 P6
        go_wp2_with fail
        go_ret
        exact ⟨t6,rfl,HF.out,HO.out⟩
end Go.Proofs.YtecbcdfkedocbaaGreatDoor
