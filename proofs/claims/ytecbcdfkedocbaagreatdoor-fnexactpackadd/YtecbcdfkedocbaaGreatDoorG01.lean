/- Gathered: Base SkipRun ConstTo ConstEq RowInt RowField RowKind ShFrame RowFrame RowFrames EqFrames RowTrap ShMethod. -/
import Derived.Test.YtecbcdfkedocbaaGreatDoorRows
import Derived.WalkKit
import Derived.Below
import Derived.WalkSpells
import Derived.WalkLawsBesides
import Derived.Handy
import Derived.Lib.SmallJoins
import Derived.Lib.IndexBytes
import Derived.BigQuiet
import Derived.Deep.RegionWith
import Derived.OrdersHeld
import Derived.KernelRfl
import Derived.Laws.MakeOwn
namespace Go.Proofs.YtecbcdfkedocbaaGreatDoor
open Go.RowKit
theorem hid {p:Prop} (h:p):Hid p:=h
theorem ret_bool {a b:Bool} (h:a=b):Ending.returned (.bool a)=.returned (.bool b):=by rw [h]
theorem ret_i64 {a b:Int} (h:a=b):Ending.returned (.int .i64 a)=.returned (.int .i64 b):=by rw [h]
theorem ret_str {a b:ByteArray} (h:a=b):Ending.returned (.string a)=.returned (.string b):=by rw [h]
theorem u8_eq {c:UInt8} {n:Nat} (hn:n<256):c=UInt8.ofNat n↔(c.toNat:Int)=n:=by
 rw [← UInt8.toNat_inj]
 have:(UInt8.ofNat n).toNat=n:=by simp;omega
 rw [this]
 omega
theorem byteOf (s:ByteArray) (k:Nat) (h:k<s.size):s.data.toList.getD k 0=s[k]:=by
 rw [List.getD_eq_getElem?_getD,List.getElem?_eq_getElem (by simpa using h)];rfl
theorem lenOf (s:ByteArray):s.data.toList.length=s.size:=by simp
theorem own_len {w:World} {base:Nat} {e:TypeId} {size:Nat} {v:Value} {n:Nat} {xs:List Value} (h:w.ownsRow base e size v n xs):∃ ao cap,v=.slice ao n cap:=by
 rcases Joins.ownsRow_forms h with ⟨hv,rfl⟩|⟨g,cap,hv⟩
 ·exact ⟨none,0,hv⟩
 ·exact ⟨some ⟨g,0,none⟩,cap,hv⟩
theorem own_some {w:World} {B:Nat} {e:TypeId} {size:Nat} {ao:Option Addr} {n c:Nat} {xs:List Value} (h:w.ownsRow B e size (.slice ao n c) n xs) (hn:0<n):∃ g,ao=some ⟨g,0,none⟩:=by
 obtain ⟨g,cap,hv⟩:=Joins.ownsRow_form h hn
 simp at hv
 exact ⟨g,hv.1⟩
theorem own_below {w w':World} {base:Nat} {e:TypeId} {size:Nat} {v:Value} {n:Nat} {xs:List Value} (h:w.ownsRow base e size v n xs) (hb:Below w.heap.size w w'):w'.ownsRow base e size v n xs:=
 h.kept ⟨hb.os,hb.tape,hb.output,hb.size,fun k hk _=>hb.block k hk⟩ (row:=none) (by cases v.ownBlock<;>simp)
theorem own_drewN {w:World} {base:Nat} {e:TypeId} {size:Nat} {v:Value} {n:Nat} {xs:List Value} (h:w.ownsRow base e size v n xs) (k:Nat):(w.drewN k).ownsRow base e size v n xs:=
 own_below h (below_drewN (Below.refl _ _) k)
theorem own_has {w:World} {B:Nat} {e:TypeId} {size g cap n:Nat} {xs:List Value} (h:w.ownsRow B e size (.slice (some ⟨g,0,none⟩) n cap) n xs) {k:Nat} (hk:k<n*size) :
  ∃ u,w.cell? ⟨g,k,none⟩=some u:=by
 rw [h.cellAt k hk]
 have:=h.1
 exact ⟨xs[k]'(by omega),by simp⟩
theorem drew_more {w wr:World} (h:∃ q,wr=w.drewN q) (n:Nat):∃ q,wr.drewN n=w.drewN q:=by
 obtain ⟨q,rfl⟩:=h
 exact ⟨q+n,by simp⟩
theorem below_grown {B b:Nat} {w w1 w2:World} (h:Below B w w1) (hg:w1.grownBy w2 (some b)) (hB:B≤w1.heap.size) (hb:B≤b):Below B w w2:=
 h.grown hg hB (fun k hk=>by cases hk;exact hb)
theorem grown_set {w:World} {b o:Nat} {u:Value}:w.grownBy (w.setCell ⟨b,o,none⟩ u) (some b):=
 ⟨rfl,rfl,rfl,by simp [World.setCell],fun k _ hne=>Below.heap_setCell _ _ _ _ (by intro e;exact hne (by rw [e]))⟩
theorem own_next {B:Nat} {e:TypeId} {size:Nat} {w wr w1 w2:World} {o:Obj} {v v':Value} {n:Nat} {xs ys:List Value} (hown:wr.ownsRow B e size v n xs) (hb1:Below wr.heap.size wr w1) (hbel:Below B w wr) (hB:B≤wr.heap.size)
  (hown':w2.ownsRow B e size v' (n+1) (xs++ys)) (hgrow:(w1.alloc o).grownBy w2 v.ownBlock):w2.ownsRow B e size v' (n+1) (xs++ys)∧Below B w w2:=by
 refine ⟨hown', ?_⟩
 have hs:=hb1.size
 exact ((hbel.trans (hb1.mono hB)).alloc (by omega) o).grown hgrow (by simp;omega) (fun k hk=>(hown.lt k hk).1)
theorem addr_add (g j:Nat):(⟨g,0,none⟩:Addr).add j=⟨g,j,none⟩:=by unfold Addr.add;split<;>simp_all
theorem cells_new (w:World) (cs:Array Value) (t:TypeId) (j:Nat) (u:Value) (h:cs.toList[j]? = some u):(w.alloc (.cells cs t)).cell? ((⟨w.heap.size,0,none⟩:Addr).add j)=some u:=by
 rw [addr_add,cell_of_row _ _ _ cs t (0,0) (heap_alloc_new w _)]
 simpa using h
def bytesOf (l:List UInt8):ByteArray:=⟨l.toArray⟩
theorem bytes_app (a b:List UInt8):bytesOf a++bytesOf b=bytesOf (a++b):=by
 apply ByteArray.ext
 simp [bytesOf]
theorem bytes_size (a:List UInt8):(bytesOf a).size=a.length:=by simp [bytesOf,ByteArray.size]
theorem bytes_data (s:ByteArray):bytesOf s.data.toList=s:=by
 apply ByteArray.ext
 simp [bytesOf]
set_option linter.unusedVariables false
def skipA (a:Act):List (Nat × Nat)→Act
 | []=>a
 | (_,d) :: r=>skipA (a.put (some d) undef) r
def skipL (l:Array Bool):List (Nat × Nat)→Array Bool
 | []=>l
 | (i,_) :: r=>skipL (l.setIfInBounds i true) r
def skipB (ops:Array Oper) (l:Array Bool) (a:Act):List (Nat × Nat)→Bool
 | []=>true
 | (i,d) :: r=>(match ops[i]? with
   | some o=>(o.dst==some d) && !(Region.wanted o (yielded ops a.tmps))
   | none=>false) && Region.free .any ops l i && (Region.ready .any ops l).contains i && skipB ops (l.setIfInBounds i true) (a.put (some d) undef) r
theorem wpAnyH_skip {P:Program} {ops:Array Oper} {Q:Exit→Act→World→Prop} {S:World→Prop} (hs:Region.noSelect ops=true) (hQ:∀ d c a w,Q (.panic c) (a.put (some d) undef) w→Q (.panic c) a w) {w:World} (hS:S w) {fuel:Nat} :
  ∀ (is:List (Nat × Nat)) {listed:Array Bool} {a:Act},skipB ops listed a is=true→wpAnyH P .any ops Q S fuel (skipL listed is) (skipA a is) w→wpAnyH P .any ops Q S (fuel+is.length) listed a w
 | [],listed,a,_,h=>h
 | (i,d) :: r,listed,a,hb,h=>by
  simp only [skipB,Bool.and_eq_true] at hb
  obtain ⟨⟨⟨h1,h2⟩,h3⟩,h4⟩:=hb
  cases ho:ops[i]? with
  | none=>rw [ho] at h1;cases h1
  | some o=>
   rw [ho] at h1
   simp only [Bool.and_eq_true] at h1
   obtain ⟨hd,hw⟩:=h1
   have hd':o.dst=some d:=by simpa using hd
   have hw':Region.wanted o (yielded ops a.tmps)=false:=by simpa using hw
   refine wpAnyH_take (i:=i) (oi:=o) (v:=undef) ho hs h2 h3 (fun c a w hh=>?_) (Or.inr ⟨hw',rfl⟩) hS ?_
   ·rw [hd'] at hh
    exact hQ d c a w hh
   ·rw [hd']
    exact wpAnyH_skip hs hQ hS r h4 h
theorem tkH {P:Program} {ops:Array Oper} {Q:Exit→Act→World→Prop} {md:Region.Mode} {S:World→Prop} (i:Nat) (oi:Oper) (v:Value) {fuel:Nat} {listed:Array Bool} {a:Act} {w:World} (hy:∀ w,S w→(execOp a.eval oi).run P w=.ok (.value v) w)
  (h:wpAnyH P md ops Q S fuel (listed.setIfInBounds i true) (a.put oi.dst v) w) (hi:ops[i]? = some oi:=by rfl) (hs:Region.noSelect ops=true:=by kernel_rfl) (hf:Region.free md ops listed i=true:=by kernel_rfl) (hr:(Region.ready md ops listed).contains i=true:=by kernel_rfl)
  (hQ:∀ c a w,Q (.panic c) (a.put oi.dst v) w→Q (.panic c) a w:=by exact fun _ _ _ h=>h) (hw:Region.wanted oi (yielded ops a.tmps)=true:=by rfl) (hS:S w:=by assumption):wpAnyH P md ops Q S (fuel+1) listed a w:=
 wpAnyH_take hi hs hf hr hQ (Or.inl ⟨hw,hy⟩) hS h
theorem s_p (a:Act) (d:Tmp) (v:Value):a.put (some d) v={ a with tmps:=a.tmps.setIfInBounds d v }:=rfl
theorem s_a {α:Type} (l:List α) (i:Nat) (a:α):l.toArray.setIfInBounds i a=(l.set i a).toArray:=List.setIfInBounds_toArray ..
theorem s_z {α:Type} (x a:α) (l:List α):(x :: l).set 0 a=a :: l:=rfl
theorem s_s {α:Type} (x a:α) (n:Nat) (l:List α):(x :: l).set (n+1) a=x :: l.set n a:=rfl
theorem tkw {P:Program} {ops:Array Oper} {Q:Exit→Act→World→Prop} {md:Region.Mode} {S:World→Prop} (i:Nat) (oi:Oper) {v:Value} {fuel:Nat} {listed l':Array Bool} {a a':Act} {w:World} (h:wpAnyH P md ops Q S fuel l' a' w)
  (hy:∀ w,S w→(execOp a.eval oi).run P w=.ok (.value v) w:=by intro w hSw;(try dsimp only at hSw);go_simp;with_reducible rfl)
  (ha:a.put oi.dst v=a':=by (try simp only [s_p,s_a,s_z,s_s]);rfl) (hl:listed.setIfInBounds i true=l':=by (try simp only [s_a,s_z,s_s]);rfl)
  (hi:ops[i]? = some oi:=by rfl) (hs:Region.noSelect ops=true:=by kernel_rfl) (hf:Region.free md ops listed i=true:=by kernel_rfl) (hr:(Region.ready md ops listed).contains i=true:=by kernel_rfl)
  (hQ:∀ c a w,Q (.panic c) (a.put oi.dst v) w→Q (.panic c) a w:=by exact fun _ _ _ h=>h) (hw:Region.wanted oi (yielded ops a.tmps)=true:=by rfl) (hS:S w:=by assumption):wpAnyH P md ops Q S (fuel+1) listed a w:=by
 subst ha hl
 exact tkH i oi v hy h hi hs hf hr hQ hw hS
set_option maxHeartbeats 400000
structure C4 where
 kind:Int
 text:ByteArray
 a:Int
 b:Int
def cells4 (t:C4):List Value:=[.int .i64 t.kind,.string t.text,.int .i64 t.a,.int .i64 t.b]
def cellsC (ts:List C4):List Value:=ts.flatMap cells4
theorem cellsC_len (ts:List C4):(cellsC ts).length=ts.length*4:=by
 induction ts with
 | nil=>rfl
 | cons t ts ih=>simp only [cellsC,List.flatMap_cons,List.length_append] at *;simp [cells4,ih];omega
theorem cellsC_at (ts:List C4) (k:Nat) (hk:k<ts.length):cellsC ts=cellsC (ts.take k)++(cells4 ts[k]++cellsC (ts.drop (k+1))):=by
 have ht:ts=ts.take k++ts[k] :: ts.drop (k+1):=by rw [← List.drop_eq_getElem_cons hk,List.take_append_drop]
 exact (congrArg (List.flatMap cells4) ht).trans (by rw [List.flatMap_append,List.flatMap_cons];rfl)
theorem infoConst:(Tryz.prog.info? 40).map (fun i=>(i.zero,i.size,i.bytes))=some (some (.agg #[.int .i64 0,.string ⟨#[]⟩,.int .i64 0,.int .i64 0]),4,40):=by kernel_rfl
theorem cells4_at {w:World} {B g cap:Nat} {ts:List C4} (h:w.ownsRow B 40 4 (.slice (some ⟨g,0,none⟩) ts.length cap) ts.length (cellsC ts)) {k:Nat} (hk:k<ts.length) :
  w.cell? ⟨g,k*4,none⟩=some (.int .i64 ts[k].kind)∧w.cell? ⟨g,k*4+1,none⟩=some (.string ts[k].text)∧w.cell? ⟨g,k*4+2,none⟩=some (.int .i64 ts[k].a)∧w.cell? ⟨g,k*4+3,none⟩=some (.int .i64 ts[k].b):=by
 have hx:∀ j,j<4→(cellsC ts)[k*4+j]? = (cells4 ts[k])[j]?:=by
  intro j hj
  rw [cellsC_at ts k hk,List.getElem?_append_right (by rw [cellsC_len,List.length_take];omega),cellsC_len,List.length_take,show k*4+j - min k ts.length*4=j by omega,List.getElem?_append_left (by simp [cells4];omega)]
 refine ⟨?_, ?_, ?_, ?_⟩
 ·rw [h.cellAt _ (by omega)];exact hx 0 (by omega)
 ·rw [h.cellAt _ (by omega)];exact hx 1 (by omega)
 ·rw [h.cellAt _ (by omega)];exact hx 2 (by omega)
 ·rw [h.cellAt _ (by omega)];exact hx 3 (by omega)
theorem toConst_any (t:C4) (w:World) :
  Calls Tryz.prog 8 #[.agg #[.int .i64 t.kind,.string t.text,.int .i64 t.a,.int .i64 t.b]] w fun e w'=>e=.returned (.agg #[.int .i64 t.kind,.string t.text,.int .i64 t.a,.int .i64 t.b])∧Below w.heap.size w w':=by
 go_enter Tryz.func8,Tryz.ntmps8
 go_wp2
 refine bodyPost_ret (v:=.agg #[.int .i64 t.kind,.string t.text,.int .i64 t.a,.int .i64 t.b]) (by simp [results,Tryz.results8,go_sem]) rfl ⟨rfl, ?_⟩
 go_grown
def ArgC (w:World) (ao:Option Addr) (len:Nat) (ts:List C4):Prop:=
 ts.length=len∧(∀ t∈ts,t.text.size≤maxLen)∧(len=0∨∃ b off,ao=some ⟨b,off,none⟩∧b<w.heap.size∧∀ k (h:k<ts.length),w.cell? ⟨b,off+k*4,none⟩=some (.int .i64 ts[k].kind)∧w.cell? ⟨b,off+k*4+1,none⟩=some (.string ts[k].text)∧w.cell? ⟨b,off+k*4+2,none⟩=some (.int .i64 ts[k].a)∧w.cell? ⟨b,off+k*4+3,none⟩=some (.int .i64 ts[k].b))
theorem ArgC.keep {w w':World} {ao:Option Addr} {len:Nat} {ts:List C4} (h:ArgC w ao len ts) (hb:Below w.heap.size w w'):ArgC w' ao len ts:=by
 obtain ⟨h1,hs,h2⟩:=h
 refine ⟨h1,hs,h2.imp id ?_⟩
 rintro ⟨b,off,rfl,hlt,hc⟩
 refine ⟨b,off,rfl,Nat.lt_of_lt_of_le hlt hb.size,fun k hk=>?_⟩
 obtain ⟨c1,c2,c3,c4⟩:=hc k hk
 exact ⟨(hb.cell (p:=⟨b,off+k*4,none⟩) hlt).trans c1,(hb.cell (p:=⟨b,off+k*4+1,none⟩) hlt).trans c2,(hb.cell (p:=⟨b,off+k*4+2,none⟩) hlt).trans c3,(hb.cell (p:=⟨b,off+k*4+3,none⟩) hlt).trans c4⟩
def zero4:C4:=⟨0,⟨#[]⟩,0,0⟩
def zerosC (n:Nat):List C4:=List.replicate n zero4
theorem zerosC_cells (n:Nat):(madeCells (Value.agg #[.int .i64 0,.string ⟨#[]⟩,.int .i64 0,.int .i64 0]).cells (n*4)).toList=cellsC (zerosC n):=by
 have hz:(Value.agg #[.int .i64 0,.string ⟨#[]⟩,.int .i64 0,.int .i64 0]).cells=#[.int .i64 0,.string ⟨#[]⟩,.int .i64 0,.int .i64 0]:=rfl
 apply List.ext_getElem
 ·simp [madeCells,cellsC_len,zerosC]
 ·intro i h1 h2
  have hi:i<n*4:=by simpa [cellsC_len,zerosC] using h2
  have hget:(cellsC (zerosC n))[i]? = (cells4 zero4)[i % 4]?:=by
   have hk:i / 4<(zerosC n).length:=by simp [zerosC];omega
   rw [cellsC_at _ (i / 4) hk,List.getElem?_append_right (by rw [cellsC_len,List.length_take];omega),cellsC_len,List.length_take,show i - min (i / 4) (zerosC n).length*4=i % 4 by omega,List.getElem?_append_left (by simp [cells4];omega)]
   simp [zerosC]
  rw [List.getElem?_eq_getElem h2] at hget
  have h3:i % 4<4:=Nat.mod_lt _ (by decide)
  have hl:(madeCells (Value.agg #[.int .i64 0,.string ⟨#[]⟩,.int .i64 0,.int .i64 0]).cells (n*4)).toList[i]=(#[.int .i64 0,.string ⟨#[]⟩,.int .i64 0,.int .i64 0]:Array Value)[i % 4]!:=by
   simp only [madeCells,hz]
   simp only [Array.toList_map,Array.toList_range,List.getElem_map,List.getElem_range]
   rfl
  rw [hl]
  generalize i % 4=r at h3 hget
  match r,h3 with
  | 0,_=>exact (Option.some.inj hget).symm
  | 1,_=>exact (Option.some.inj hget).symm
  | 2,_=>exact (Option.some.inj hget).symm
  | 3,_=>exact (Option.some.inj hget).symm
theorem set4 (us:List C4) (k:Nat) (t:C4) (h:k<us.length) :
  ((((cellsC us).set (k*4) (.int .i64 t.kind)).set (k*4+1) (.string t.text)).set (k*4+2) (.int .i64 t.a)).set (k*4+3) (.int .i64 t.b)=cellsC (us.set k t):=by
 have e2:us.set k t=us.take k++t :: us.drop (k+1):=by rw [List.set_eq_take_append_cons_drop,if_pos h]
 have hl:(cellsC (us.take k)).length=k*4:=by rw [cellsC_len,List.length_take];omega
 have e1:cellsC us=cellsC (us.take k)++(.int .i64 us[k].kind :: .string us[k].text :: .int .i64 us[k].a :: .int .i64 us[k].b :: cellsC (us.drop (k+1))):=cellsC_at us k h
 rw [e2,e1,List.set_append_right _ _ (by omega),hl,Nat.sub_self,List.set_cons_zero,List.set_append_right _ _ (by omega),hl,show k*4+1 - k*4=1 by omega,List.set_cons_succ,List.set_cons_zero,
  List.set_append_right _ _ (by omega),hl,show k*4+2 - k*4=2 by omega,List.set_cons_succ,List.set_cons_succ,List.set_cons_zero,
  List.set_append_right _ _ (by omega),hl,show k*4+3 - k*4=3 by omega,List.set_cons_succ,List.set_cons_succ,List.set_cons_succ,List.set_cons_zero]
 unfold cellsC
 rw [List.flatMap_append,List.flatMap_cons];rfl
theorem toC_next {W:World} {B g len k:Nat} {us:List C4} {t:C4} (h:W.ownsRow B 40 4 (.slice (some ⟨g,0,none⟩) len len) len (cellsC us)) (hu:us.length=len) (hk:k<len) :
  ((((W.setCell ⟨g,k*4,none⟩ (.int .i64 t.kind)).setCell ⟨g,k*4+1,none⟩ (.string t.text)).setCell ⟨g,k*4+2,none⟩ (.int .i64 t.a)).setCell ⟨g,k*4+3,none⟩ (.int .i64 t.b)).ownsRow B 40 4 (.slice (some ⟨g,0,none⟩) len len) len (cellsC (us.set k t)):=by
 have:=((((((h.stored (k*4) (.int .i64 t.kind)).1.stored (k*4+1) (.string t.text)).1).stored (k*4+2) (.int .i64 t.a)).1).stored (k*4+3) (.int .i64 t.b)).1
 rw [set4 us k t (by omega)] at this
 exact this
theorem toC_take {us ts:List C4} {k:Nat} {t:C4} (h:us.take k=ts.take k) {hk:k<ts.length} (ht:ts[k]=t) (hu:k<us.length):(us.set k t).take (k+1)=ts.take (k+1):=by
 rw [List.take_succ_eq_append_getElem hk,List.take_succ_eq_append_getElem (by simpa using hu),List.getElem_set_self,ht,← h]
 congr 1
 rw [List.take_set_of_le (Nat.le_refl _)]
theorem toConstS_any (ao:Option Addr) (len cap:Nat) (ts:List C4) (w:World) (hl:len≤1048576) (hA:ArgC w ao len ts) :
  Calls Tryz.prog 20 #[.slice ao len cap] w fun e w'=>∃ v,e=.returned v∧w'.ownsRow w.heap.size 40 4 v ts.length (cellsC ts)∧Below w.heap.size w w':=by
 obtain ⟨hlen,_,hcs⟩:=hA
 obtain ⟨i0,hi,hz0,hz1,hz2⟩:=info_parts infoConst
 obtain ⟨M,hM⟩:∃ M,M=madeCells (Value.agg #[.int .i64 0,.string ⟨#[]⟩,.int .i64 0,.int .i64 0]).cells (len*4):=⟨_,rfl⟩
 have hmk:∀ W:World,(Instr.makeSlice 32 (.int .i64 (len:Int)) (.int .i64 (len:Int))).run Tryz.prog W=.ok (.slice (some ⟨W.heap.size,0,none⟩) len len) (W.alloc (.cells M 40)):=fun W=>by
  have h:=run_make (P:=Tryz.prog) W 32 40 i0 _ Tryz.underlying32 hi hz0 .i64 .i64 (len:Int) (len:Int) (by omega) (by omega) (by rw [hz2];omega) (by omega)
  rw [hz1] at h
  rw [hM]
  simpa using h
 have HO:Hid ((w.alloc (.cells M 40)).ownsRow w.heap.size 40 4 (.slice (some ⟨w.heap.size,0,none⟩) len len) len (cellsC (zerosC len))):=by
  have hz:=zerosC_cells len
  rw [← hM] at hz
  have:=World.ownsRow_lit (base:=w.heap.size) (e:=40) (size:=4) w M len (Nat.le_refl _) (by unfold maxLen;omega) (by rw [← Array.length_toList,hz,cellsC_len];simp [zerosC])
  rw [hz] at this
  exact this
 clear hM
 go_enter Tryz.func20,Tryz.ntmps20
 go_wp2
 go_loopw [4] (fun i wr=>∃ (k:Nat) (us:List C4),k≤len∧i=.int .i64 k∧us.length=len∧Hid (us.take k=ts.take k)∧Hid (wr.ownsRow w.heap.size 40 4 (.slice (some ⟨w.heap.size,0,none⟩) len len) len (cellsC us))∧Below w.heap.size w wr) (fun i _=>len - (intOf i).toNat)
 case atStart=>exact ⟨0,zerosC len,by omega,rfl,by simp [zerosC],rfl,HO,(Below.refl _ _).alloc (Nat.le_refl _) _⟩
 case round=>
  obtain ⟨k,us,hk,rfl,hus,HE,HW,hbel⟩:=hrel
  by_cases hlt:k<len
  ·rcases hcs with h0|⟨b,off,rfl,hbw,hc⟩
   ·omega
   ·obtain ⟨c1,c2,c3,c4⟩:=hc k (by omega)
    have hne:¬b=w.heap.size:=by omega
    have d1:=(hbel.cell (p:=⟨b,off+k*4,none⟩) hbw).trans c1
    have d2:=(hbel.cell (p:=⟨b,off+k*4+1,none⟩) hbw).trans c2
    have d3:=(hbel.cell (p:=⟨b,off+k*4+2,none⟩) hbw).trans c3
    have d4:=(hbel.cell (p:=⟨b,off+k*4+3,none⟩) hbw).trans c4
    obtain ⟨t,ht⟩:∃ t,ts[k]'(by omega)=t:=⟨_,rfl⟩
    rw [ht] at d1 d2 d3 d4
    have HX:Hid (ts[k]'(by omega)=t):=ht
    clear ht c1 c2 c3 c4 hc
    have hI:=fun w=>toConst_any t w
    go_wp2_with (go_at_call 8;refine (hI _).mono ?_;rintro e w1 ⟨rfl,hb1⟩;have ho1:=own_below HW.out hb1;have f1:=ho1.frozenAt (k*4);have f2:=ho1.frozenAt (k*4+1);have f3:=ho1.frozenAt (k*4+2);have f4:=ho1.frozenAt (k*4+3);obtain ⟨p1,q1⟩:=own_has ho1 (k:=k*4) (by omega);obtain ⟨p2,q2⟩:=own_has ho1 (k:=k*4+1) (by omega);obtain ⟨p3,q3⟩:=own_has ho1 (k:=k*4+2) (by omega);obtain ⟨p4,q4⟩:=own_has ho1 (k:=k*4+3) (by omega);clear ho1)
    go_roundw
    case rel=>exact ⟨k+1,us.set k t,by omega,by go_num,by simpa using hus,toC_take HE.out HX.out (by omega),toC_next (own_below HW.out hb1) hus hlt,((((hbel.trans (hb1.mono hbel.size)).setCell (Nat.le_refl _) _).setCell (Nat.le_refl _) _).setCell (Nat.le_refl _) _).setCell (Nat.le_refl _) _⟩
    case measure=>simp [intOf];omega
  ·have hk':k=len:=by omega
   subst hk'
   have HF:Hid (wr.ownsRow w.heap.size 40 4 (.slice (some ⟨w.heap.size,0,none⟩) k k) ts.length (cellsC ts)):=by
    have e:us=ts:=by
     have:=HE.out
     rwa [List.take_of_length_le (by omega),List.take_of_length_le (by omega)] at this
    have:=HW.out
    rw [e] at this
    rw [hlen];exact this
   clear HE HW
   go_wp2
   go_ret
   exact ⟨_,rfl,HF.out,hbel⟩
theorem szConst_any (t:C4) (n:Int) (w:World) (hn:0≤n) (hn2:n≤1048576) (hs:t.text.size≤maxLen) :
  Calls Tryz.prog 5 #[.agg #[.int .i64 t.kind,.string t.text,.int .i64 t.a,.int .i64 t.b],.int .i64 n] w fun e w'=>e=.returned (.int .i64 (if (t.text.size:Int)≤n then n - t.text.size else -1))∧Below w.heap.size w w':=by
 unfold maxLen at hs
 by_cases h:(t.text.size:Int)≤n
 ·rw [if_pos h]
  go_enter Tryz.func5,Tryz.ntmps5
  go_wp2
  go_ret
  exact ⟨rfl,by go_grown⟩
 ·rw [if_neg h]
  go_enter Tryz.func5,Tryz.ntmps5
  go_wp2
  go_ret
  exact ⟨rfl,by go_grown⟩
theorem szConstS_any (ao:Option Addr) (len cap:Nat) (ts:List C4) (w:World) (hl:len≤maxLen) (hA:ArgC w ao len ts) :
  Calls Tryz.prog 13 #[.slice ao len cap,.int .i64 1048576] w fun e w'=>∃ n,e=.returned (.int .i64 n)∧(n<0∨((0≤n∧n≤1048576)∧len≤1048576∧∀ t∈ts,t.text.size≤1048576))∧Below w.heap.size w w':=by
 unfold maxLen at hl
 by_cases h:len≤1048576
 ·obtain ⟨hlen,HS0,hcs⟩:=hA
  have HS:Hid (∀ t∈ts,t.text.size≤maxLen):=HS0
  clear HS0
  go_enter Tryz.func13,Tryz.ntmps13
  go_wp2
  go_loopw [1,5] (fun l i wr=>∃ (n:Int) (k:Nat),k≤len∧i=.int .i64 k∧l=.int .i64 n∧0≤n∧n≤1048576∧Hid (∀ t∈ts.take k,t.text.size≤1048576)∧Below w.heap.size w wr) (fun _ i _=>len - (intOf i).toNat)
  case atStart=>exact ⟨1048576 - len,0,by omega,rfl,by first|rfl|go_num,by omega,by omega,fun t ht=>by simp at ht,Below.refl _ _⟩
  case round=>
   obtain ⟨n,k,hk,rfl,rfl,hn,hn2,HE,hbel⟩:=hrel
   by_cases hlt:k<len
   ·rcases hcs with h0|⟨b,off,rfl,hbw,hc⟩
    ·omega
    ·obtain ⟨c1,c2,c3,c4⟩:=hc k (by omega)
     have d1:=(hbel.cell (p:=⟨b,off+k*4,none⟩) hbw).trans c1
     have d2:=(hbel.cell (p:=⟨b,off+k*4+1,none⟩) hbw).trans c2
     have d3:=(hbel.cell (p:=⟨b,off+k*4+2,none⟩) hbw).trans c3
     have d4:=(hbel.cell (p:=⟨b,off+k*4+3,none⟩) hbw).trans c4
     have hsz:=HS.out (ts[k]'(by omega)) (List.getElem_mem _)
     obtain ⟨t,ht⟩:∃ t,ts[k]'(by omega)=t:=⟨_,rfl⟩
     rw [ht] at d1 d2 d3 d4 hsz
     have HX:Hid (ts[k]'(by omega)=t):=ht
     clear ht c1 c2 c3 c4 hc
     have hI:=fun w=>szConst_any t n w hn hn2 hsz
     by_cases hle:(t.text.size:Int)≤n
     ·simp only [hle,if_true] at hI
      have HN:Hid (∀ x∈ts.take (k+1),x.text.size≤1048576):=by
       intro x hx
       rw [List.take_succ_eq_append_getElem (by omega)] at hx
       rcases List.mem_append.mp hx with hx|hx
       ·exact HE.out x hx
       ·simp at hx;rw [hx,HX.out];omega
      go_wp2_with (go_at_call 5;refine (hI _).mono ?_;rintro e w1 ⟨rfl,hb1⟩)
      go_roundw
      case rel=>exact ⟨_,k+1,by omega,by go_num,rfl,by omega,by omega,HN.out,hbel.trans (hb1.mono hbel.size)⟩
      case measure=>simp [intOf];omega
     ·simp only [hle,if_false] at hI
      go_wp2_with (go_at_call 5;refine (hI _).mono ?_;rintro e w1 ⟨rfl,hb1⟩)
      go_ret
      exact ⟨_,rfl,.inl (by omega),hbel.trans (hb1.mono hbel.size)⟩
   ·go_wp2
    go_ret
    refine ⟨_,rfl,.inr ⟨⟨hn,hn2⟩,h, ?_⟩,hbel⟩
    have:=HE.out
    rwa [List.take_of_length_le (by omega)] at this
 ·clear hA
  go_enter Tryz.func13,Tryz.ntmps13
  go_wp2
  go_ret
  exact ⟨_,rfl,.inl (by omega),Below.refl _ _⟩
theorem eqConst_same (t:C4) (w:World) :
  Calls Tryz.prog 60 #[.agg #[.int .i64 t.kind,.string t.text,.int .i64 t.a,.int .i64 t.b],.agg #[.int .i64 t.kind,.string t.text,.int .i64 t.a,.int .i64 t.b]] w fun e w'=>e=.returned (.bool true)∧Below w.heap.size w w':=by
 go_enter Tryz.func60,Tryz.ntmps60
 go_wp2
 go_ret
 exact ⟨rfl,((Below.refl _ _).alloc (Nat.le_refl _) _).alloc (by simp) _⟩
theorem eqConstS_same (v1 v2:Value) (ts:List C4) (B1 B2:Nat) (w:World) (hl:ts.length≤1048576)
  (h1:w.ownsRow B1 40 4 v1 ts.length (cellsC ts)) (h2:w.ownsRow B2 40 4 v2 ts.length (cellsC ts)) :
  Calls Tryz.prog 30 #[v1,v2] w fun e w'=>e=.returned (.bool true)∧Below w.heap.size w w':=by
 by_cases hz:ts.length=0
 ·obtain ⟨ao1,c1,rfl⟩:=own_len h1
  obtain ⟨ao2,c2,rfl⟩:=own_len h2
  rw [hz]
  clear h1 h2 hl hz
  go_enter Tryz.func30,Tryz.ntmps30
  go_wp2
  refine wp_loop_rounds 1 ?_
  rw [rounds_succ]
  go_wp2
  go_ret
  exact ⟨rfl,Below.refl _ _⟩
 ·obtain ⟨g1,c1,rfl⟩:=Joins.ownsRow_form h1 (by omega)
  obtain ⟨g2,c2,rfl⟩:=Joins.ownsRow_form h2 (by omega)
  have H1:Hid (w.ownsRow B1 40 4 (.slice (some ⟨g1,0,none⟩) ts.length c1) ts.length (cellsC ts)):=h1
  have H2:Hid (w.ownsRow B2 40 4 (.slice (some ⟨g2,0,none⟩) ts.length c2) ts.length (cellsC ts)):=h2
  have hg1:=(h1.lt g1 rfl).2
  have hg2:=(h2.lt g2 rfl).2
  clear h1 h2
  go_enter Tryz.func30,Tryz.ntmps30
  go_wp2
  go_loopw [5] (fun i wr=>∃ (k:Nat),k≤ts.length∧i=.int .i64 k∧Below w.heap.size w wr) (fun i _=>ts.length - (intOf i).toNat)
  case atStart=>exact ⟨0,by omega,rfl,Below.refl _ _⟩
  case round=>
   obtain ⟨k,hk,rfl,hb⟩:=hrel
   by_cases hlt:k<ts.length
   ·obtain ⟨t,hc11,hc12,hc13,hc14,hc21,hc22,hc23,hc24⟩:∃ t:C4,wr.cell? ⟨g1,k*4,none⟩=some (.int .i64 t.kind)∧wr.cell? ⟨g1,k*4+1,none⟩=some (.string t.text)∧wr.cell? ⟨g1,k*4+2,none⟩=some (.int .i64 t.a)∧wr.cell? ⟨g1,k*4+3,none⟩=some (.int .i64 t.b)∧wr.cell? ⟨g2,k*4,none⟩=some (.int .i64 t.kind)∧wr.cell? ⟨g2,k*4+1,none⟩=some (.string t.text)∧wr.cell? ⟨g2,k*4+2,none⟩=some (.int .i64 t.a)∧wr.cell? ⟨g2,k*4+3,none⟩=some (.int .i64 t.b):=by
     obtain ⟨a1,a2,a3,a4⟩:=cells4_at (own_below H1.out hb) hlt
     obtain ⟨b1,b2,b3,b4⟩:=cells4_at (own_below H2.out hb) hlt
     exact ⟨_,a1,a2,a3,a4,b1,b2,b3,b4⟩
    have hE:=fun w=>eqConst_same t w
    go_wp2
    go_region_with (go_at_call 60;refine (hE _).mono ?_;rintro e w1 ⟨rfl,hb1⟩)
    all_goals go_wp2
    all_goals
     have hb2:Below w.heap.size w w1:=(below_drewN hb 1).trans (hb1.mono (by have:=hb.size;simpa using this))
     clear hb1
     go_roundw
     case rel=>exact ⟨k+1,by omega,by go_num,hb2⟩
     case measure=>simp [intOf];omega
   ·go_wp2
    go_ret
    exact ⟨rfl,hb⟩
def rowI (ts:List Int):List Value:=ts.map (Value.int .i64)
theorem infoInt:(Tryz.prog.info? 3).map (fun i=>(i.zero,i.size,i.bytes))=some (some (.int .i64 0),1,8):=by kernel_rfl
theorem ownI_at {w:World} {B g cap m:Nat} {ts:List Int} (h:w.ownsRow B 3 1 (.slice (some ⟨g,0,none⟩) m cap) m (rowI ts)) (hm:ts.length=m) {k:Nat} (hk:k<ts.length):w.cell? ⟨g,k,none⟩=some (.int .i64 ts[k]):=by
 rw [h.cellAt _ (by omega)]
 simp [rowI,hk]
def ArgI (w:World) (ao:Option Addr) (len:Nat) (ts:List Int):Prop:=
 ts.length=len∧(len=0∨∃ b off,ao=some ⟨b,off,none⟩∧b<w.heap.size∧∀ k (h:k<ts.length),w.cell? ⟨b,off+k,none⟩=some (.int .i64 ts[k]))
theorem ArgI.keep {w w':World} {ao:Option Addr} {len:Nat} {ts:List Int} (h:ArgI w ao len ts) (hb:Below w.heap.size w w'):ArgI w' ao len ts:=by
 obtain ⟨h1,h2⟩:=h
 refine ⟨h1,h2.imp id ?_⟩
 rintro ⟨b,off,rfl,hlt,hc⟩
 exact ⟨b,off,rfl,Nat.lt_of_lt_of_le hlt hb.size,fun k hk=>(hb.cell (p:=⟨b,off+k,none⟩) hlt).trans (hc k hk)⟩
theorem zerosI_cells (n:Nat):(madeCells (Value.int .i64 0).cells n).toList=rowI (List.replicate n 0):=by
 have hz:(Value.int .i64 0).cells=#[.int .i64 0]:=rfl
 apply List.ext_getElem
 ·simp [madeCells,rowI]
 ·intro i h1 h2
  simp only [madeCells,hz]
  simp only [Array.toList_map,Array.toList_range,List.getElem_map,List.getElem_range,rowI,List.getElem_replicate]
  have:i % (#[Value.int .i64 0]:Array Value).size=0:=Nat.mod_one i
  rw [this];rfl
theorem nextI {W:World} {B g len k:Nat} {us:List Int} {t:Int} (h:W.ownsRow B 3 1 (.slice (some ⟨g,0,none⟩) len len) len (rowI us)) :
  (W.setCell ⟨g,k,none⟩ (.int .i64 t)).ownsRow B 3 1 (.slice (some ⟨g,0,none⟩) len len) len (rowI (us.set k t)):=by
 have:=(h.stored k (.int .i64 t)).1
 unfold rowI at *
 rwa [← List.map_set] at this
theorem takeI {us ts:List Int} {k:Nat} {t:Int} (h:us.take k=ts.take k) {hk:k<ts.length} (ht:ts[k]=t) (hu:k<us.length):(us.set k t).take (k+1)=ts.take (k+1):=by
 rw [List.take_succ_eq_append_getElem hk,List.take_succ_eq_append_getElem (by simpa using hu),List.getElem_set_self,ht,← h]
 congr 1
 rw [List.take_set_of_le (Nat.le_refl _)]
theorem toIntS_any (ao:Option Addr) (len cap:Nat) (ts:List Int) (w:World) (hl:len≤1048576) (hA:ArgI w ao len ts) :
  Calls Tryz.prog 21 #[.slice ao len cap] w fun e w'=>∃ v,e=.returned v∧w'.ownsRow w.heap.size 3 1 v ts.length (rowI ts)∧Below w.heap.size w w':=by
 obtain ⟨hlen,hcs⟩:=hA
 obtain ⟨i0,hi,hz0,hz1,hz2⟩:=info_parts infoInt
 obtain ⟨M,hM⟩:∃ M,M=madeCells (Value.int .i64 0).cells len:=⟨_,rfl⟩
 have hmk:∀ W:World,(Instr.makeSlice 23 (.int .i64 (len:Int)) (.int .i64 (len:Int))).run Tryz.prog W=.ok (.slice (some ⟨W.heap.size,0,none⟩) len len) (W.alloc (.cells M 3)):=fun W=>by
  have h:=run_make (P:=Tryz.prog) W 23 3 i0 _ Tryz.underlying23 hi hz0 .i64 .i64 (len:Int) (len:Int) (by omega) (by omega) (by rw [hz2];omega) (by omega)
  rw [hz1] at h
  rw [hM]
  simpa using h
 have HO:Hid ((w.alloc (.cells M 3)).ownsRow w.heap.size 3 1 (.slice (some ⟨w.heap.size,0,none⟩) len len) len (rowI (List.replicate len 0))):=by
  have hz:=zerosI_cells len
  rw [← hM] at hz
  have:=World.ownsRow_lit (base:=w.heap.size) (e:=3) (size:=1) w M len (Nat.le_refl _) (by unfold maxLen;omega) (by rw [← Array.length_toList,hz];simp [rowI])
  rw [hz] at this
  exact this
 clear hM
 go_enter Tryz.func21,Tryz.ntmps21
 go_wp2
 go_loopw [4] (fun i wr=>∃ (k:Nat) (us:List Int),k≤len∧i=.int .i64 k∧us.length=len∧Hid (us.take k=ts.take k)∧Hid (wr.ownsRow w.heap.size 3 1 (.slice (some ⟨w.heap.size,0,none⟩) len len) len (rowI us))∧Below w.heap.size w wr) (fun i _=>len - (intOf i).toNat)
 case atStart=>exact ⟨0,List.replicate len 0,by omega,rfl,by simp,rfl,HO,(Below.refl _ _).alloc (Nat.le_refl _) _⟩
 case round=>
  obtain ⟨k,us,hk,rfl,hus,HE,HW,hbel⟩:=hrel
  by_cases hlt:k<len
  ·rcases hcs with h0|⟨b,off,rfl,hbw,hc⟩
   ·omega
   ·have hne:¬b=w.heap.size:=by omega
    have d0:=(hbel.cell (p:=⟨b,off+k,none⟩) hbw).trans (hc k (by omega))
    obtain ⟨t,ht⟩:∃ t,ts[k]'(by omega)=t:=⟨_,rfl⟩
    rw [ht] at d0
    have HX:Hid (ts[k]'(by omega)=t):=ht
    clear ht hc
    have f0:=HW.out.frozenAt k
    obtain ⟨p0,q0⟩:=own_has HW.out (k:=k) (by omega)
    go_wp2
    go_roundw
    case rel=>exact ⟨k+1,us.set k t,by omega,by go_num,by simpa using hus,takeI HE.out HX.out (by omega),nextI HW.out,hbel.setCell (Nat.le_refl _) _⟩
    case measure=>simp [intOf];omega
  ·have hk':k=len:=by omega
   subst hk'
   have HF:Hid (wr.ownsRow w.heap.size 3 1 (.slice (some ⟨w.heap.size,0,none⟩) k k) ts.length (rowI ts)):=by
    have e:us=ts:=by
     have:=HE.out
     rwa [List.take_of_length_le (by omega),List.take_of_length_le (by omega)] at this
    have:=HW.out
    rw [e] at this
    rw [hlen];exact this
   clear HE HW
   go_wp2
   go_ret
   exact ⟨_,rfl,HF.out,hbel⟩
theorem szIntS_any (ao:Option Addr) (len cap:Nat) (n:Int) (w:World) (hl:len≤9223372036854775807) (hn:0≤n) (hn2:n≤1048576) :
  Calls Tryz.prog 14 #[.slice ao len cap,.int .i64 n] w fun e w'=>e=.returned (.int .i64 (if (len:Int)≤n then n - (len:Int) else -1))∧w'=w:=by
 by_cases h:(len:Int)≤n
 ·rw [if_pos h]
  go_enter Tryz.func14,Tryz.ntmps14
  go_wp2
  go_ret
  exact ⟨rfl,rfl⟩
 ·rw [if_neg h]
  go_enter Tryz.func14,Tryz.ntmps14
  go_wp2
  go_ret
  exact ⟨rfl,rfl⟩
theorem eqIntS_same (v1 v2:Value) (ts:List Int) (B1 B2:Nat) (w:World) (hl:ts.length≤1048576)
  (h1:w.ownsRow B1 3 1 v1 ts.length (rowI ts)) (h2:w.ownsRow B2 3 1 v2 ts.length (rowI ts)) :
  Calls Tryz.prog 31 #[v1,v2] w fun e w'=>e=.returned (.bool true)∧Below w.heap.size w w':=by
 by_cases hz:ts.length=0
 ·obtain ⟨ao1,c1,rfl⟩:=own_len h1
  obtain ⟨ao2,c2,rfl⟩:=own_len h2
  rw [hz]
  clear h1 h2 hl hz
  go_enter Tryz.func31,Tryz.ntmps31
  go_wp2
  refine wp_loop_rounds 1 ?_
  rw [rounds_succ]
  go_wp2
  go_ret
  exact ⟨rfl,Below.refl _ _⟩
 ·obtain ⟨g1,c1,rfl⟩:=Joins.ownsRow_form h1 (by omega)
  obtain ⟨g2,c2,rfl⟩:=Joins.ownsRow_form h2 (by omega)
  have H1:Hid (∀ k (hk:k<ts.length),w.cell? ⟨g1,k,none⟩=some (.int .i64 ts[k])):=fun k hk=>ownI_at h1 rfl hk
  have H2:Hid (∀ k (hk:k<ts.length),w.cell? ⟨g2,k,none⟩=some (.int .i64 ts[k])):=fun k hk=>ownI_at h2 rfl hk
  clear h1 h2
  go_enter Tryz.func31,Tryz.ntmps31
  go_wp2
  go_loopw [5] (fun i wr=>∃ (k q:Nat),k≤ts.length∧i=.int .i64 k∧wr=w.drewN q) (fun i _=>ts.length - (intOf i).toNat)
  case atStart=>exact ⟨0,0,by omega,rfl,rfl⟩
  case round=>
   obtain ⟨k,q,hk,rfl,rfl⟩:=hrel
   by_cases hlt:k<ts.length
   ·obtain ⟨x,hc1,hc2⟩:∃ x,w.cell? ⟨g1,k,none⟩=some (.int .i64 x)∧w.cell? ⟨g2,k,none⟩=some (.int .i64 x):=⟨_,H1.out k hlt,H2.out k hlt⟩
    go_wp2
    go_quiet (fail)
    go_wp2
    go_roundw
    case rel=>exact ⟨k+1,_,by omega,by go_num,rfl⟩
    case measure=>simp [intOf];omega
   ·go_wp2
    go_ret
    exact ⟨rfl,below_drewN (Below.refl _ _) _⟩
structure MField where
 flags:Int
 name:Int
 typ:Int
def cellsField (t:MField):List Value:=[.int .i64 t.flags,.int .i64 t.name,.int .i64 t.typ]
def rowField (ts:List MField):List Value:=ts.flatMap cellsField
theorem rowField_len (ts:List MField):(rowField ts).length=ts.length*3:=by
 induction ts with
 | nil=>rfl
 | cons t ts ih=>simp only [rowField,List.flatMap_cons,List.length_append] at *;simp [cellsField,ih];omega
theorem rowField_at (ts:List MField) (k:Nat) (hk:k<ts.length):rowField ts=rowField (ts.take k)++(cellsField ts[k]++rowField (ts.drop (k+1))):=by
 have ht:ts=ts.take k++ts[k] :: ts.drop (k+1):=by rw [← List.drop_eq_getElem_cons hk,List.take_append_drop]
 exact (congrArg (List.flatMap cellsField) ht).trans (by rw [List.flatMap_append,List.flatMap_cons];rfl)
theorem infoField:(Tryz.prog.info? 79).map (fun i=>(i.zero,i.size,i.bytes))=some (some (.agg #[.int .i64 0,.int .i64 0,.int .i64 0]),3,24):=by kernel_rfl
theorem ownField_at {w:World} {B g cap:Nat} {ts:List MField} (h:w.ownsRow B 79 3 (.slice (some ⟨g,0,none⟩) ts.length cap) ts.length (rowField ts)) {k:Nat} (hk:k<ts.length) :
  w.cell? ⟨g,k*3,none⟩=some (.int .i64 ts[k].flags)∧w.cell? ⟨g,k*3+1,none⟩=some (.int .i64 ts[k].name)∧w.cell? ⟨g,k*3+2,none⟩=some (.int .i64 ts[k].typ):=by
 have hx:∀ j,j<3→(rowField ts)[k*3+j]? = (cellsField ts[k])[j]?:=by
  intro j hj
  rw [rowField_at ts k hk,List.getElem?_append_right (by rw [rowField_len,List.length_take];omega),rowField_len,List.length_take,show k*3+j - min k ts.length*3=j by omega,List.getElem?_append_left (by simp [cellsField];omega)]
 refine ⟨?_, ?_, ?_⟩
 ·rw [h.cellAt _ (by omega)];exact hx 0 (by omega)
 ·rw [h.cellAt _ (by omega)];exact hx 1 (by omega)
 ·rw [h.cellAt _ (by omega)];exact hx 2 (by omega)
theorem toField_any (t:MField) (w:World) :
  Calls Tryz.prog 47 #[.agg #[.int .i64 t.flags,.int .i64 t.name,.int .i64 t.typ]] w fun e w'=>e=.returned (.agg #[.int .i64 t.flags,.int .i64 t.name,.int .i64 t.typ])∧Below w.heap.size w w':=by
 go_enter Tryz.func47,Tryz.ntmps47
 go_wp2
 refine bodyPost_ret (v:=.agg #[.int .i64 t.flags,.int .i64 t.name,.int .i64 t.typ]) (by simp [results,Tryz.results47,go_sem]) rfl ⟨rfl, ?_⟩
 go_grown
def ArgField (w:World) (ao:Option Addr) (len:Nat) (ts:List MField):Prop:=
 ts.length=len∧(len=0∨∃ b off,ao=some ⟨b,off,none⟩∧b<w.heap.size∧∀ k (h:k<ts.length),w.cell? ⟨b,off+k*3,none⟩=some (.int .i64 ts[k].flags)∧w.cell? ⟨b,off+k*3+1,none⟩=some (.int .i64 ts[k].name)∧w.cell? ⟨b,off+k*3+2,none⟩=some (.int .i64 ts[k].typ))
theorem ArgField.keep {w w':World} {ao:Option Addr} {len:Nat} {ts:List MField} (h:ArgField w ao len ts) (hb:Below w.heap.size w w'):ArgField w' ao len ts:=by
 obtain ⟨h1,h2⟩:=h
 refine ⟨h1,h2.imp id ?_⟩
 rintro ⟨b,off,rfl,hlt,hc⟩
 refine ⟨b,off,rfl,Nat.lt_of_lt_of_le hlt hb.size,fun k hk=>?_⟩
 obtain ⟨c0,c1,c2⟩:=hc k hk
 exact ⟨(hb.cell (p:=⟨b,off+k*3,none⟩) hlt).trans c0,(hb.cell (p:=⟨b,off+k*3+1,none⟩) hlt).trans c1,(hb.cell (p:=⟨b,off+k*3+2,none⟩) hlt).trans c2⟩
def zerosField (n:Nat):List MField:=List.replicate n ⟨0,0,0⟩
theorem zerosField_cells (n:Nat):(madeCells (Value.agg #[.int .i64 0,.int .i64 0,.int .i64 0]).cells (n*3)).toList=rowField (zerosField n):=by
 have hz:(Value.agg #[.int .i64 0,.int .i64 0,.int .i64 0]).cells=#[.int .i64 0,.int .i64 0,.int .i64 0]:=rfl
 apply List.ext_getElem
 ·simp [madeCells,rowField_len,zerosField]
 ·intro i h1 h2
  have hi:i<n*3:=by simpa [rowField_len,zerosField] using h2
  have hget:(rowField (zerosField n))[i]? = (cellsField ⟨0,0,0⟩)[i % 3]?:=by
   have hk:i / 3<(zerosField n).length:=by simp [zerosField];omega
   rw [rowField_at _ (i / 3) hk,List.getElem?_append_right (by rw [rowField_len,List.length_take];omega),rowField_len,List.length_take,show i - min (i / 3) (zerosField n).length*3=i % 3 by omega,List.getElem?_append_left (by simp [cellsField];omega)]
   simp [zerosField]
  rw [List.getElem?_eq_getElem h2] at hget
  have h3:i % 3<3:=Nat.mod_lt _ (by decide)
  have hl:(madeCells (Value.agg #[.int .i64 0,.int .i64 0,.int .i64 0]).cells (n*3)).toList[i]=(#[.int .i64 0,.int .i64 0,.int .i64 0]:Array Value)[i % 3]!:=by
   simp only [madeCells,hz]
   simp only [Array.toList_map,Array.toList_range,List.getElem_map,List.getElem_range]
   rfl
  rw [hl]
  generalize i % 3=r at h3 hget
  match r,h3 with
  | 0,_=>exact (Option.some.inj hget).symm
  | 1,_=>exact (Option.some.inj hget).symm
  | 2,_=>exact (Option.some.inj hget).symm
theorem setField (us:List MField) (k:Nat) (t:MField) (h:k<us.length) :
  (((rowField us).set (k*3) (.int .i64 t.flags)).set (k*3+1) (.int .i64 t.name)).set (k*3+2) (.int .i64 t.typ)=rowField (us.set k t):=by
 have e2:us.set k t=us.take k++t :: us.drop (k+1):=by rw [List.set_eq_take_append_cons_drop,if_pos h]
 have hl:(rowField (us.take k)).length=k*3:=by rw [rowField_len,List.length_take];omega
 have e1:rowField us=rowField (us.take k)++(.int .i64 us[k].flags :: .int .i64 us[k].name :: .int .i64 us[k].typ :: rowField (us.drop (k+1))):=rowField_at us k h
 rw [e2,e1,List.set_append_right _ _ (by omega),hl,Nat.sub_self,List.set_cons_zero,List.set_append_right _ _ (by omega),hl,show k*3+1 - k*3=1 by omega,List.set_cons_succ,List.set_cons_zero,List.set_append_right _ _ (by omega),hl,show k*3+2 - k*3=2 by omega,List.set_cons_succ,List.set_cons_succ,List.set_cons_zero]
 unfold rowField
 rw [List.flatMap_append,List.flatMap_cons];rfl
theorem toField_next {W:World} {B g len k:Nat} {us:List MField} {t:MField} (h:W.ownsRow B 79 3 (.slice (some ⟨g,0,none⟩) len len) len (rowField us)) (hu:us.length=len) (hk:k<len) :
  (((W.setCell ⟨g,k*3,none⟩ (.int .i64 t.flags)).setCell ⟨g,k*3+1,none⟩ (.int .i64 t.name)).setCell ⟨g,k*3+2,none⟩ (.int .i64 t.typ)).ownsRow B 79 3 (.slice (some ⟨g,0,none⟩) len len) len (rowField (us.set k t)):=by
 have:=(((h.stored (k*3) (.int .i64 t.flags)).1.stored (k*3+1) (.int .i64 t.name)).1.stored (k*3+2) (.int .i64 t.typ)).1
 rw [setField us k t (by omega)] at this
 exact this
theorem toField_take {us ts:List MField} {k:Nat} {t:MField} (h:us.take k=ts.take k) {hk:k<ts.length} (ht:ts[k]=t) (hu:k<us.length):(us.set k t).take (k+1)=ts.take (k+1):=by
 rw [List.take_succ_eq_append_getElem hk,List.take_succ_eq_append_getElem (by simpa using hu),List.getElem_set_self,ht,← h]
 congr 1
 rw [List.take_set_of_le (Nat.le_refl _)]
theorem toFieldS_any (ao:Option Addr) (len cap:Nat) (ts:List MField) (w:World) (hl:len≤1048576) (hA:ArgField w ao len ts) :
  Calls Tryz.prog 22 #[.slice ao len cap] w fun e w'=>∃ v,e=.returned v∧w'.ownsRow w.heap.size 79 3 v ts.length (rowField ts)∧Below w.heap.size w w':=by
 obtain ⟨hlen,hcs⟩:=hA
 obtain ⟨i0,hi,hz0,hz1,hz2⟩:=info_parts infoField
 obtain ⟨M,hM⟩:∃ M,M=madeCells (Value.agg #[.int .i64 0,.int .i64 0,.int .i64 0]).cells (len*3):=⟨_,rfl⟩
 have hmk:∀ W:World,(Instr.makeSlice 33 (.int .i64 (len:Int)) (.int .i64 (len:Int))).run Tryz.prog W=.ok (.slice (some ⟨W.heap.size,0,none⟩) len len) (W.alloc (.cells M 79)):=fun W=>by
  have h:=run_make (P:=Tryz.prog) W 33 79 i0 _ Tryz.underlying33 hi hz0 .i64 .i64 (len:Int) (len:Int) (by omega) (by omega) (by rw [hz2];omega) (by omega)
  rw [hz1] at h
  rw [hM]
  simpa using h
 have HO:Hid ((w.alloc (.cells M 79)).ownsRow w.heap.size 79 3 (.slice (some ⟨w.heap.size,0,none⟩) len len) len (rowField (zerosField len))):=by
  have hz:=zerosField_cells len
  rw [← hM] at hz
  have:=World.ownsRow_lit (base:=w.heap.size) (e:=79) (size:=3) w M len (Nat.le_refl _) (by unfold maxLen;omega) (by rw [← Array.length_toList,hz,rowField_len];simp [zerosField])
  rw [hz] at this
  exact this
 clear hM
 go_enter Tryz.func22,Tryz.ntmps22
 go_wp2
 go_loopw [4] (fun i wr=>∃ (k:Nat) (us:List MField),k≤len∧i=.int .i64 k∧us.length=len∧Hid (us.take k=ts.take k)∧Hid (wr.ownsRow w.heap.size 79 3 (.slice (some ⟨w.heap.size,0,none⟩) len len) len (rowField us))∧Below w.heap.size w wr) (fun i _=>len - (intOf i).toNat)
 case atStart=>exact ⟨0,zerosField len,by omega,rfl,by simp [zerosField],rfl,HO,(Below.refl _ _).alloc (Nat.le_refl _) _⟩
 case round=>
  obtain ⟨k,us,hk,rfl,hus,HE,HW,hbel⟩:=hrel
  by_cases hlt:k<len
  ·rcases hcs with h0|⟨b,off,rfl,hbw,hc⟩
   ·omega
   ·obtain ⟨c0,c1,c2⟩:=hc k (by omega)
    have hne:¬b=w.heap.size:=by omega
    have d0:=(hbel.cell (p:=⟨b,off+k*3,none⟩) hbw).trans c0
    have d1:=(hbel.cell (p:=⟨b,off+k*3+1,none⟩) hbw).trans c1
    have d2:=(hbel.cell (p:=⟨b,off+k*3+2,none⟩) hbw).trans c2
    obtain ⟨t,ht⟩:∃ t,ts[k]'(by omega)=t:=⟨_,rfl⟩
    rw [ht] at d0 d1 d2
    have HX:Hid (ts[k]'(by omega)=t):=ht
    clear ht c0 c1 c2 hc
    have hI:=fun w=>toField_any t w
    go_wp2_with (go_at_call 47;refine (hI _).mono ?_;rintro e w1 ⟨rfl,hb1⟩;have ho1:=own_below HW.out hb1;have f0:=ho1.frozenAt (k*3);have f1:=ho1.frozenAt (k*3+1);have f2:=ho1.frozenAt (k*3+2);obtain ⟨p0,q0⟩:=own_has ho1 (k:=k*3) (by omega);obtain ⟨p1,q1⟩:=own_has ho1 (k:=k*3+1) (by omega);obtain ⟨p2,q2⟩:=own_has ho1 (k:=k*3+2) (by omega);clear ho1)
    go_roundw
    case rel=>exact ⟨k+1,us.set k t,by omega,by go_num,by simpa using hus,toField_take HE.out HX.out (by omega),toField_next (own_below HW.out hb1) hus hlt,((((hbel.trans (hb1.mono hbel.size)).setCell (Nat.le_refl _) _).setCell (Nat.le_refl _) _).setCell (Nat.le_refl _) _)⟩
    case measure=>simp [intOf];omega
  ·have hk':k=len:=by omega
   subst hk'
   have HF:Hid (wr.ownsRow w.heap.size 79 3 (.slice (some ⟨w.heap.size,0,none⟩) k k) ts.length (rowField ts)):=by
    have e:us=ts:=by
     have:=HE.out
     rwa [List.take_of_length_le (by omega),List.take_of_length_le (by omega)] at this
    have:=HW.out
    rw [e] at this
    rw [hlen];exact this
   clear HE HW
   go_wp2
   go_ret
   exact ⟨_,rfl,HF.out,hbel⟩
theorem szFieldS_any (ao:Option Addr) (len cap:Nat) (n:Int) (w:World) (hl:len≤9223372036854775807) (hn:0≤n) (hn2:n≤1048576) :
  Calls Tryz.prog 15 #[.slice ao len cap,.int .i64 n] w fun e w'=>e=.returned (.int .i64 (if (len:Int)≤n then n - (len:Int) else -1))∧w'=w:=by
 by_cases h:(len:Int)≤n
 ·rw [if_pos h]
  go_enter Tryz.func15,Tryz.ntmps15
  go_wp2
  go_ret
  exact ⟨rfl,rfl⟩
 ·rw [if_neg h]
  go_enter Tryz.func15,Tryz.ntmps15
  go_wp2
  go_ret
  exact ⟨rfl,rfl⟩
theorem eqField_same (t:MField) (w:World) :
  Calls Tryz.prog 61 #[.agg #[.int .i64 t.flags,.int .i64 t.name,.int .i64 t.typ],.agg #[.int .i64 t.flags,.int .i64 t.name,.int .i64 t.typ]] w fun e w'=>e=.returned (.bool true)∧Below w.heap.size w w':=by
 go_enter Tryz.func61,Tryz.ntmps61
 go_wp2
 go_ret
 exact ⟨rfl,((Below.refl _ _).alloc (Nat.le_refl _) _).alloc (by simp) _⟩
theorem eqFieldS_same (v1 v2:Value) (ts:List MField) (B1 B2:Nat) (w:World) (hl:ts.length≤1048576)
  (h1:w.ownsRow B1 79 3 v1 ts.length (rowField ts)) (h2:w.ownsRow B2 79 3 v2 ts.length (rowField ts)) :
  Calls Tryz.prog 32 #[v1,v2] w fun e w'=>e=.returned (.bool true)∧Below w.heap.size w w':=by
 by_cases hz:ts.length=0
 ·obtain ⟨ao1,c1,rfl⟩:=own_len h1
  obtain ⟨ao2,c2,rfl⟩:=own_len h2
  rw [hz]
  clear h1 h2 hl hz
  go_enter Tryz.func32,Tryz.ntmps32
  go_wp2
  refine wp_loop_rounds 1 ?_
  rw [rounds_succ]
  go_wp2
  go_ret
  exact ⟨rfl,Below.refl _ _⟩
 ·obtain ⟨g1,c1,rfl⟩:=Joins.ownsRow_form h1 (by omega)
  obtain ⟨g2,c2,rfl⟩:=Joins.ownsRow_form h2 (by omega)
  have H1:Hid (w.ownsRow B1 79 3 (.slice (some ⟨g1,0,none⟩) ts.length c1) ts.length (rowField ts)):=h1
  have H2:Hid (w.ownsRow B2 79 3 (.slice (some ⟨g2,0,none⟩) ts.length c2) ts.length (rowField ts)):=h2
  have hg1:=(h1.lt g1 rfl).2
  have hg2:=(h2.lt g2 rfl).2
  clear h1 h2
  go_enter Tryz.func32,Tryz.ntmps32
  go_wp2
  go_loopw [5] (fun i wr=>∃ (k:Nat),k≤ts.length∧i=.int .i64 k∧Below w.heap.size w wr) (fun i _=>ts.length - (intOf i).toNat)
  case atStart=>exact ⟨0,by omega,rfl,Below.refl _ _⟩
  case round=>
   obtain ⟨k,hk,rfl,hb⟩:=hrel
   by_cases hlt:k<ts.length
   ·obtain ⟨t,x0,x1,x2,y0,y1,y2⟩:∃ t:MField,wr.cell? ⟨g1,k*3,none⟩=some (.int .i64 t.flags)∧wr.cell? ⟨g1,k*3+1,none⟩=some (.int .i64 t.name)∧wr.cell? ⟨g1,k*3+2,none⟩=some (.int .i64 t.typ)∧wr.cell? ⟨g2,k*3,none⟩=some (.int .i64 t.flags)∧wr.cell? ⟨g2,k*3+1,none⟩=some (.int .i64 t.name)∧wr.cell? ⟨g2,k*3+2,none⟩=some (.int .i64 t.typ):=by
     obtain ⟨a0,a1,a2⟩:=ownField_at (own_below H1.out hb) hlt
     obtain ⟨b0,b1,b2⟩:=ownField_at (own_below H2.out hb) hlt
     exact ⟨_,a0,a1,a2,b0,b1,b2⟩
    have hE:=fun w=>eqField_same t w
    go_wp2
    go_region_with (go_at_call 61;refine (hE _).mono ?_;rintro e w1 ⟨rfl,hb1⟩)
    all_goals go_wp2
    all_goals
     have hb2:Below w.heap.size w w1:=(below_drewN hb 1).trans (hb1.mono (by have:=hb.size;simpa using this))
     clear hb1
     go_roundw
     case rel=>exact ⟨k+1,by omega,by go_num,hb2⟩
     case measure=>simp [intOf];omega
   ·go_wp2
    go_ret
    exact ⟨rfl,hb⟩
structure MKind where
 tag:Int
 cls:Int
def cellsKind (t:MKind):List Value:=[.int .i64 t.tag,.int .i64 t.cls]
def rowKind (ts:List MKind):List Value:=ts.flatMap cellsKind
theorem rowKind_len (ts:List MKind):(rowKind ts).length=ts.length*2:=by
 induction ts with
 | nil=>rfl
 | cons t ts ih=>simp only [rowKind,List.flatMap_cons,List.length_append] at *;simp [cellsKind,ih];omega
theorem rowKind_at (ts:List MKind) (k:Nat) (hk:k<ts.length):rowKind ts=rowKind (ts.take k)++(cellsKind ts[k]++rowKind (ts.drop (k+1))):=by
 have ht:ts=ts.take k++ts[k] :: ts.drop (k+1):=by rw [← List.drop_eq_getElem_cons hk,List.take_append_drop]
 exact (congrArg (List.flatMap cellsKind) ht).trans (by rw [List.flatMap_append,List.flatMap_cons];rfl)
theorem infoKind:(Tryz.prog.info? 144).map (fun i=>(i.zero,i.size,i.bytes))=some (some (.agg #[.int .i64 0,.int .i64 0]),2,16):=by kernel_rfl
theorem ownKind_at {w:World} {B g cap:Nat} {ts:List MKind} (h:w.ownsRow B 144 2 (.slice (some ⟨g,0,none⟩) ts.length cap) ts.length (rowKind ts)) {k:Nat} (hk:k<ts.length) :
  w.cell? ⟨g,k*2,none⟩=some (.int .i64 ts[k].tag)∧w.cell? ⟨g,k*2+1,none⟩=some (.int .i64 ts[k].cls):=by
 have hx:∀ j,j<2→(rowKind ts)[k*2+j]? = (cellsKind ts[k])[j]?:=by
  intro j hj
  rw [rowKind_at ts k hk,List.getElem?_append_right (by rw [rowKind_len,List.length_take];omega),rowKind_len,List.length_take,show k*2+j - min k ts.length*2=j by omega,List.getElem?_append_left (by simp [cellsKind];omega)]
 refine ⟨?_, ?_⟩
 ·rw [h.cellAt _ (by omega)];exact hx 0 (by omega)
 ·rw [h.cellAt _ (by omega)];exact hx 1 (by omega)
theorem toKind_any (t:MKind) (w:World) :
  Calls Tryz.prog 202 #[.agg #[.int .i64 t.tag,.int .i64 t.cls]] w fun e w'=>e=.returned (.agg #[.int .i64 t.tag,.int .i64 t.cls])∧Below w.heap.size w w':=by
 go_enter Tryz.func202,Tryz.ntmps202
 go_wp2
 refine bodyPost_ret (v:=.agg #[.int .i64 t.tag,.int .i64 t.cls]) (by simp [results,Tryz.results202,go_sem]) rfl ⟨rfl, ?_⟩
 go_grown
def ArgKind (w:World) (ao:Option Addr) (len:Nat) (ts:List MKind):Prop:=
 ts.length=len∧(len=0∨∃ b off,ao=some ⟨b,off,none⟩∧b<w.heap.size∧∀ k (h:k<ts.length),w.cell? ⟨b,off+k*2,none⟩=some (.int .i64 ts[k].tag)∧w.cell? ⟨b,off+k*2+1,none⟩=some (.int .i64 ts[k].cls))
theorem ArgKind.keep {w w':World} {ao:Option Addr} {len:Nat} {ts:List MKind} (h:ArgKind w ao len ts) (hb:Below w.heap.size w w'):ArgKind w' ao len ts:=by
 obtain ⟨h1,h2⟩:=h
 refine ⟨h1,h2.imp id ?_⟩
 rintro ⟨b,off,rfl,hlt,hc⟩
 refine ⟨b,off,rfl,Nat.lt_of_lt_of_le hlt hb.size,fun k hk=>?_⟩
 obtain ⟨c0,c1⟩:=hc k hk
 exact ⟨(hb.cell (p:=⟨b,off+k*2,none⟩) hlt).trans c0,(hb.cell (p:=⟨b,off+k*2+1,none⟩) hlt).trans c1⟩
def zerosKind (n:Nat):List MKind:=List.replicate n ⟨0,0⟩
theorem zerosKind_cells (n:Nat):(madeCells (Value.agg #[.int .i64 0,.int .i64 0]).cells (n*2)).toList=rowKind (zerosKind n):=by
 have hz:(Value.agg #[.int .i64 0,.int .i64 0]).cells=#[.int .i64 0,.int .i64 0]:=rfl
 apply List.ext_getElem
 ·simp [madeCells,rowKind_len,zerosKind]
 ·intro i h1 h2
  have hi:i<n*2:=by simpa [rowKind_len,zerosKind] using h2
  have hget:(rowKind (zerosKind n))[i]? = (cellsKind ⟨0,0⟩)[i % 2]?:=by
   have hk:i / 2<(zerosKind n).length:=by simp [zerosKind];omega
   rw [rowKind_at _ (i / 2) hk,List.getElem?_append_right (by rw [rowKind_len,List.length_take];omega),rowKind_len,List.length_take,show i - min (i / 2) (zerosKind n).length*2=i % 2 by omega,List.getElem?_append_left (by simp [cellsKind];omega)]
   simp [zerosKind]
  rw [List.getElem?_eq_getElem h2] at hget
  have h3:i % 2<2:=Nat.mod_lt _ (by decide)
  have hl:(madeCells (Value.agg #[.int .i64 0,.int .i64 0]).cells (n*2)).toList[i]=(#[.int .i64 0,.int .i64 0]:Array Value)[i % 2]!:=by
   simp only [madeCells,hz]
   simp only [Array.toList_map,Array.toList_range,List.getElem_map,List.getElem_range]
   rfl
  rw [hl]
  generalize i % 2=r at h3 hget
  match r,h3 with
  | 0,_=>exact (Option.some.inj hget).symm
  | 1,_=>exact (Option.some.inj hget).symm
theorem setKind (us:List MKind) (k:Nat) (t:MKind) (h:k<us.length) :
  ((rowKind us).set (k*2) (.int .i64 t.tag)).set (k*2+1) (.int .i64 t.cls)=rowKind (us.set k t):=by
 have e2:us.set k t=us.take k++t :: us.drop (k+1):=by rw [List.set_eq_take_append_cons_drop,if_pos h]
 have hl:(rowKind (us.take k)).length=k*2:=by rw [rowKind_len,List.length_take];omega
 have e1:rowKind us=rowKind (us.take k)++(.int .i64 us[k].tag :: .int .i64 us[k].cls :: rowKind (us.drop (k+1))):=rowKind_at us k h
 rw [e2,e1,List.set_append_right _ _ (by omega),hl,Nat.sub_self,List.set_cons_zero,List.set_append_right _ _ (by omega),hl,show k*2+1 - k*2=1 by omega,List.set_cons_succ,List.set_cons_zero]
 unfold rowKind
 rw [List.flatMap_append,List.flatMap_cons];rfl
theorem toKind_next {W:World} {B g len k:Nat} {us:List MKind} {t:MKind} (h:W.ownsRow B 144 2 (.slice (some ⟨g,0,none⟩) len len) len (rowKind us)) (hu:us.length=len) (hk:k<len) :
  ((W.setCell ⟨g,k*2,none⟩ (.int .i64 t.tag)).setCell ⟨g,k*2+1,none⟩ (.int .i64 t.cls)).ownsRow B 144 2 (.slice (some ⟨g,0,none⟩) len len) len (rowKind (us.set k t)):=by
 have:=((h.stored (k*2) (.int .i64 t.tag)).1.stored (k*2+1) (.int .i64 t.cls)).1
 rw [setKind us k t (by omega)] at this
 exact this
theorem toKind_take {us ts:List MKind} {k:Nat} {t:MKind} (h:us.take k=ts.take k) {hk:k<ts.length} (ht:ts[k]=t) (hu:k<us.length):(us.set k t).take (k+1)=ts.take (k+1):=by
 rw [List.take_succ_eq_append_getElem hk,List.take_succ_eq_append_getElem (by simpa using hu),List.getElem_set_self,ht,← h]
 congr 1
 rw [List.take_set_of_le (Nat.le_refl _)]
theorem toKindS_any (ao:Option Addr) (len cap:Nat) (ts:List MKind) (w:World) (hl:len≤1048576) (hA:ArgKind w ao len ts) :
  Calls Tryz.prog 165 #[.slice ao len cap] w fun e w'=>∃ v,e=.returned v∧w'.ownsRow w.heap.size 144 2 v ts.length (rowKind ts)∧Below w.heap.size w w':=by
 obtain ⟨hlen,hcs⟩:=hA
 obtain ⟨i0,hi,hz0,hz1,hz2⟩:=info_parts infoKind
 obtain ⟨M,hM⟩:∃ M,M=madeCells (Value.agg #[.int .i64 0,.int .i64 0]).cells (len*2):=⟨_,rfl⟩
 have hmk:∀ W:World,(Instr.makeSlice 112 (.int .i64 (len:Int)) (.int .i64 (len:Int))).run Tryz.prog W=.ok (.slice (some ⟨W.heap.size,0,none⟩) len len) (W.alloc (.cells M 144)):=fun W=>by
  have h:=run_make (P:=Tryz.prog) W 112 144 i0 _ Tryz.underlying112 hi hz0 .i64 .i64 (len:Int) (len:Int) (by omega) (by omega) (by rw [hz2];omega) (by omega)
  rw [hz1] at h
  rw [hM]
  simpa using h
 have HO:Hid ((w.alloc (.cells M 144)).ownsRow w.heap.size 144 2 (.slice (some ⟨w.heap.size,0,none⟩) len len) len (rowKind (zerosKind len))):=by
  have hz:=zerosKind_cells len
  rw [← hM] at hz
  have:=World.ownsRow_lit (base:=w.heap.size) (e:=144) (size:=2) w M len (Nat.le_refl _) (by unfold maxLen;omega) (by rw [← Array.length_toList,hz,rowKind_len];simp [zerosKind])
  rw [hz] at this
  exact this
 clear hM
 go_enter Tryz.func165,Tryz.ntmps165
 go_wp2
 go_loopw [4] (fun i wr=>∃ (k:Nat) (us:List MKind),k≤len∧i=.int .i64 k∧us.length=len∧Hid (us.take k=ts.take k)∧Hid (wr.ownsRow w.heap.size 144 2 (.slice (some ⟨w.heap.size,0,none⟩) len len) len (rowKind us))∧Below w.heap.size w wr) (fun i _=>len - (intOf i).toNat)
 case atStart=>exact ⟨0,zerosKind len,by omega,rfl,by simp [zerosKind],rfl,HO,(Below.refl _ _).alloc (Nat.le_refl _) _⟩
 case round=>
  obtain ⟨k,us,hk,rfl,hus,HE,HW,hbel⟩:=hrel
  by_cases hlt:k<len
  ·rcases hcs with h0|⟨b,off,rfl,hbw,hc⟩
   ·omega
   ·obtain ⟨c0,c1⟩:=hc k (by omega)
    have hne:¬b=w.heap.size:=by omega
    have d0:=(hbel.cell (p:=⟨b,off+k*2,none⟩) hbw).trans c0
    have d1:=(hbel.cell (p:=⟨b,off+k*2+1,none⟩) hbw).trans c1
    obtain ⟨t,ht⟩:∃ t,ts[k]'(by omega)=t:=⟨_,rfl⟩
    rw [ht] at d0 d1
    have HX:Hid (ts[k]'(by omega)=t):=ht
    clear ht c0 c1 hc
    have hI:=fun w=>toKind_any t w
    go_wp2_with (go_at_call 202;refine (hI _).mono ?_;rintro e w1 ⟨rfl,hb1⟩;have ho1:=own_below HW.out hb1;have f0:=ho1.frozenAt (k*2);have f1:=ho1.frozenAt (k*2+1);obtain ⟨p0,q0⟩:=own_has ho1 (k:=k*2) (by omega);obtain ⟨p1,q1⟩:=own_has ho1 (k:=k*2+1) (by omega);clear ho1)
    go_roundw
    case rel=>exact ⟨k+1,us.set k t,by omega,by go_num,by simpa using hus,toKind_take HE.out HX.out (by omega),toKind_next (own_below HW.out hb1) hus hlt,(((hbel.trans (hb1.mono hbel.size)).setCell (Nat.le_refl _) _).setCell (Nat.le_refl _) _)⟩
    case measure=>simp [intOf];omega
  ·have hk':k=len:=by omega
   subst hk'
   have HF:Hid (wr.ownsRow w.heap.size 144 2 (.slice (some ⟨w.heap.size,0,none⟩) k k) ts.length (rowKind ts)):=by
    have e:us=ts:=by
     have:=HE.out
     rwa [List.take_of_length_le (by omega),List.take_of_length_le (by omega)] at this
    have:=HW.out
    rw [e] at this
    rw [hlen];exact this
   clear HE HW
   go_wp2
   go_ret
   exact ⟨_,rfl,HF.out,hbel⟩
theorem szKindS_any (ao:Option Addr) (len cap:Nat) (n:Int) (w:World) (hl:len≤9223372036854775807) (hn:0≤n) (hn2:n≤1048576) :
  Calls Tryz.prog 152 #[.slice ao len cap,.int .i64 n] w fun e w'=>e=.returned (.int .i64 (if (len:Int)≤n then n - (len:Int) else -1))∧w'=w:=by
 by_cases h:(len:Int)≤n
 ·rw [if_pos h]
  go_enter Tryz.func152,Tryz.ntmps152
  go_wp2
  go_ret
  exact ⟨rfl,rfl⟩
 ·rw [if_neg h]
  go_enter Tryz.func152,Tryz.ntmps152
  go_wp2
  go_ret
  exact ⟨rfl,rfl⟩
theorem eqKind_same (t:MKind) (w:World) :
  Calls Tryz.prog 232 #[.agg #[.int .i64 t.tag,.int .i64 t.cls],.agg #[.int .i64 t.tag,.int .i64 t.cls]] w fun e w'=>e=.returned (.bool true)∧Below w.heap.size w w':=by
 go_enter Tryz.func232,Tryz.ntmps232
 go_wp2
 go_ret
 exact ⟨rfl,((Below.refl _ _).alloc (Nat.le_refl _) _).alloc (by simp) _⟩
theorem eqKindS_same (v1 v2:Value) (ts:List MKind) (B1 B2:Nat) (w:World) (hl:ts.length≤1048576)
  (h1:w.ownsRow B1 144 2 v1 ts.length (rowKind ts)) (h2:w.ownsRow B2 144 2 v2 ts.length (rowKind ts)) :
  Calls Tryz.prog 198 #[v1,v2] w fun e w'=>e=.returned (.bool true)∧Below w.heap.size w w':=by
 by_cases hz:ts.length=0
 ·obtain ⟨ao1,c1,rfl⟩:=own_len h1
  obtain ⟨ao2,c2,rfl⟩:=own_len h2
  rw [hz]
  clear h1 h2 hl hz
  go_enter Tryz.func198,Tryz.ntmps198
  go_wp2
  refine wp_loop_rounds 1 ?_
  rw [rounds_succ]
  go_wp2
  go_ret
  exact ⟨rfl,Below.refl _ _⟩
 ·obtain ⟨g1,c1,rfl⟩:=Joins.ownsRow_form h1 (by omega)
  obtain ⟨g2,c2,rfl⟩:=Joins.ownsRow_form h2 (by omega)
  have H1:Hid (w.ownsRow B1 144 2 (.slice (some ⟨g1,0,none⟩) ts.length c1) ts.length (rowKind ts)):=h1
  have H2:Hid (w.ownsRow B2 144 2 (.slice (some ⟨g2,0,none⟩) ts.length c2) ts.length (rowKind ts)):=h2
  have hg1:=(h1.lt g1 rfl).2
  have hg2:=(h2.lt g2 rfl).2
  clear h1 h2
  go_enter Tryz.func198,Tryz.ntmps198
  go_wp2
  go_loopw [5] (fun i wr=>∃ (k:Nat),k≤ts.length∧i=.int .i64 k∧Below w.heap.size w wr) (fun i _=>ts.length - (intOf i).toNat)
  case atStart=>exact ⟨0,by omega,rfl,Below.refl _ _⟩
  case round=>
   obtain ⟨k,hk,rfl,hb⟩:=hrel
   by_cases hlt:k<ts.length
   ·obtain ⟨t,x0,x1,y0,y1⟩:∃ t:MKind,wr.cell? ⟨g1,k*2,none⟩=some (.int .i64 t.tag)∧wr.cell? ⟨g1,k*2+1,none⟩=some (.int .i64 t.cls)∧wr.cell? ⟨g2,k*2,none⟩=some (.int .i64 t.tag)∧wr.cell? ⟨g2,k*2+1,none⟩=some (.int .i64 t.cls):=by
     obtain ⟨a0,a1⟩:=ownKind_at (own_below H1.out hb) hlt
     obtain ⟨b0,b1⟩:=ownKind_at (own_below H2.out hb) hlt
     exact ⟨_,a0,a1,b0,b1⟩
    have hE:=fun w=>eqKind_same t w
    go_wp2
    go_region_with (go_at_call 232;refine (hE _).mono ?_;rintro e w1 ⟨rfl,hb1⟩)
    all_goals go_wp2
    all_goals
     have hb2:Below w.heap.size w w1:=(below_drewN hb 1).trans (hb1.mono (by have:=hb.size;simpa using this))
     clear hb1
     go_roundw
     case rel=>exact ⟨k+1,by omega,by go_num,hb2⟩
     case measure=>simp [intOf];omega
   ·go_wp2
    go_ret
    exact ⟨rfl,hb⟩
structure SFrame where
 at_:Int
 l:Value
 s:Value
def cellsFrame (t:SFrame):List Value:=[.int .i64 t.at_,t.l,t.s]
def rowFrame (ts:List SFrame):List Value:=ts.flatMap cellsFrame
theorem rowFrame_len (ts:List SFrame):(rowFrame ts).length=ts.length*3:=by
 induction ts with
 | nil=>rfl
 | cons t ts ih=>simp only [rowFrame,List.flatMap_cons,List.length_append] at *;simp [cellsFrame,ih];omega
theorem rowFrame_at (ts:List SFrame) (k:Nat) (hk:k<ts.length):rowFrame ts=rowFrame (ts.take k)++(cellsFrame ts[k]++rowFrame (ts.drop (k+1))):=by
 have ht:ts=ts.take k++ts[k] :: ts.drop (k+1):=by rw [← List.drop_eq_getElem_cons hk,List.take_append_drop]
 exact (congrArg (List.flatMap cellsFrame) ht).trans (by rw [List.flatMap_append,List.flatMap_cons];rfl)
theorem infoFrame:(Tryz.prog.info? 114).map (fun i=>(i.zero,i.size,i.bytes))=some (some (.agg #[.int .i64 0,.slice none 0 0,.slice none 0 0]),3,56):=by kernel_rfl
theorem ownFrame_at {w:World} {B g cap m:Nat} {ts:List SFrame} (h:w.ownsRow B 114 3 (.slice (some ⟨g,0,none⟩) m cap) m (rowFrame ts)) (hm:ts.length=m) {k:Nat} (hk:k<ts.length) :
  w.cell? ⟨g,k*3,none⟩=some (.int .i64 ts[k].at_)∧w.cell? ⟨g,k*3+1,none⟩=some (ts[k].l)∧w.cell? ⟨g,k*3+2,none⟩=some (ts[k].s):=by
 have hx:∀ j,j<3→(rowFrame ts)[k*3+j]? = (cellsFrame ts[k])[j]?:=by
  intro j hj
  rw [rowFrame_at ts k hk,List.getElem?_append_right (by rw [rowFrame_len,List.length_take];omega),rowFrame_len,List.length_take,show k*3+j - min k ts.length*3=j by omega,List.getElem?_append_left (by simp [cellsFrame];omega)]
 refine ⟨?_, ?_, ?_⟩
 ·rw [h.cellAt _ (by omega)];exact hx 0 (by omega)
 ·rw [h.cellAt _ (by omega)];exact hx 1 (by omega)
 ·rw [h.cellAt _ (by omega)];exact hx 2 (by omega)
def zerosFrame (n:Nat):List SFrame:=List.replicate n ⟨0,.slice none 0 0,.slice none 0 0⟩
theorem zerosFrame_cells (n:Nat):(madeCells (Value.agg #[.int .i64 0,.slice none 0 0,.slice none 0 0]).cells (n*3)).toList=rowFrame (zerosFrame n):=by
 have hz:(Value.agg #[.int .i64 0,.slice none 0 0,.slice none 0 0]).cells=#[.int .i64 0,.slice none 0 0,.slice none 0 0]:=rfl
 apply List.ext_getElem
 ·simp [madeCells,rowFrame_len,zerosFrame]
 ·intro i h1 h2
  have hi:i<n*3:=by simpa [rowFrame_len,zerosFrame] using h2
  have hget:(rowFrame (zerosFrame n))[i]? = (cellsFrame ⟨0,.slice none 0 0,.slice none 0 0⟩)[i % 3]?:=by
   have hk:i / 3<(zerosFrame n).length:=by simp [zerosFrame];omega
   rw [rowFrame_at _ (i / 3) hk,List.getElem?_append_right (by rw [rowFrame_len,List.length_take];omega),rowFrame_len,List.length_take,show i - min (i / 3) (zerosFrame n).length*3=i % 3 by omega,List.getElem?_append_left (by simp [cellsFrame];omega)]
   simp [zerosFrame]
  rw [List.getElem?_eq_getElem h2] at hget
  have h3:i % 3<3:=Nat.mod_lt _ (by decide)
  have hl:(madeCells (Value.agg #[.int .i64 0,.slice none 0 0,.slice none 0 0]).cells (n*3)).toList[i]=(#[.int .i64 0,.slice none 0 0,.slice none 0 0]:Array Value)[i % 3]!:=by
   simp only [madeCells,hz]
   simp only [Array.toList_map,Array.toList_range,List.getElem_map,List.getElem_range]
   rfl
  rw [hl]
  generalize i % 3=r at h3 hget
  match r,h3 with
  | 0,_=>exact (Option.some.inj hget).symm
  | 1,_=>exact (Option.some.inj hget).symm
  | 2,_=>exact (Option.some.inj hget).symm
theorem setFrame (us:List SFrame) (k:Nat) (t:SFrame) (h:k<us.length) :
  (((rowFrame us).set (k*3) (.int .i64 t.at_)).set (k*3+1) (t.l)).set (k*3+2) (t.s)=rowFrame (us.set k t):=by
 have e2:us.set k t=us.take k++t :: us.drop (k+1):=by rw [List.set_eq_take_append_cons_drop,if_pos h]
 have hl:(rowFrame (us.take k)).length=k*3:=by rw [rowFrame_len,List.length_take];omega
 have e1:rowFrame us=rowFrame (us.take k)++(.int .i64 us[k].at_ :: us[k].l :: us[k].s :: rowFrame (us.drop (k+1))):=rowFrame_at us k h
 rw [e2,e1,List.set_append_right _ _ (by omega),hl,Nat.sub_self,List.set_cons_zero,List.set_append_right _ _ (by omega),hl,show k*3+1 - k*3=1 by omega,List.set_cons_succ,List.set_cons_zero,List.set_append_right _ _ (by omega),hl,show k*3+2 - k*3=2 by omega,List.set_cons_succ,List.set_cons_succ,List.set_cons_zero]
 unfold rowFrame
 rw [List.flatMap_append,List.flatMap_cons];rfl
theorem nextFrame {W:World} {B g len k:Nat} {us:List SFrame} {t:SFrame} (h:W.ownsRow B 114 3 (.slice (some ⟨g,0,none⟩) len len) len (rowFrame us)) (hu:us.length=len) (hk:k<len) :
  (((W.setCell ⟨g,k*3,none⟩ (.int .i64 t.at_)).setCell ⟨g,k*3+1,none⟩ (t.l)).setCell ⟨g,k*3+2,none⟩ (t.s)).ownsRow B 114 3 (.slice (some ⟨g,0,none⟩) len len) len (rowFrame (us.set k t)):=by
 have:=(((h.stored (k*3) (.int .i64 t.at_)).1.stored (k*3+1) (t.l)).1.stored (k*3+2) (t.s)).1
 rw [setFrame us k t (by omega)] at this
 exact this
structure MFrame where
 at_:Int
 locals:List MKind
 stack:List MKind
structure FrameW (w:World) (B:Nat) (x:SFrame) (f:MFrame):Prop where
 at_:x.at_=f.at_
 l:w.ownsRow B 144 2 x.l f.locals.length (rowKind f.locals)
 s:w.ownsRow B 144 2 x.s f.stack.length (rowKind f.stack)
theorem FrameW.keep {w w':World} {B:Nat} {x:SFrame} {f:MFrame} (h:FrameW w B x f) (hb:Below w.heap.size w w'):FrameW w' B x f:=
 ⟨h.at_,own_below h.l hb,own_below h.s hb⟩
theorem FrameW.mono {w:World} {B B':Nat} {x:SFrame} {f:MFrame} (h:FrameW w B x f) (hb:B'≤B):FrameW w B' x f:=
 ⟨h.at_,Joins.ownsRow_le h.l hb,Joins.ownsRow_le h.s hb⟩
structure ArgF (w:World) (x:SFrame) (f:MFrame):Prop where
 at_:x.at_=f.at_
 l:∃ ao len cap,x.l=.slice ao len cap∧ArgKind w ao len f.locals
 s:∃ ao len cap,x.s=.slice ao len cap∧ArgKind w ao len f.stack
 ml:f.locals.length≤maxLen
 ms:f.stack.length≤maxLen
theorem ArgF.keep {w w':World} {x:SFrame} {f:MFrame} (h:ArgF w x f) (hb:Below w.heap.size w w'):ArgF w' x f:=by
 obtain ⟨h1,⟨a,b,c,h2,h3⟩,⟨a',b',c',h4,h5⟩,m1,m2⟩:=h
 exact ⟨h1,⟨a,b,c,h2,h3.keep hb⟩,⟨a',b',c',h4,h5.keep hb⟩,m1,m2⟩
def ArgFS (w:World) (ao:Option Addr) (len:Nat) (fs:List MFrame):Prop:=
 fs.length=len∧(len=0∨∃ b off,ao=some ⟨b,off,none⟩∧b<w.heap.size∧∀ k (h:k<fs.length),∃ x:SFrame,w.cell? ⟨b,off+k*3,none⟩=some (.int .i64 x.at_)∧w.cell? ⟨b,off+k*3+1,none⟩=some x.l∧w.cell? ⟨b,off+k*3+2,none⟩=some x.s∧ArgF w x fs[k])
theorem ArgFS.keep {w w':World} {ao:Option Addr} {len:Nat} {fs:List MFrame} (h:ArgFS w ao len fs) (hb:Below w.heap.size w w'):ArgFS w' ao len fs:=by
 obtain ⟨h1,h2⟩:=h
 refine ⟨h1,h2.imp id ?_⟩
 rintro ⟨b,off,rfl,hlt,hc⟩
 refine ⟨b,off,rfl,Nat.lt_of_lt_of_le hlt hb.size,fun k hk=>?_⟩
 obtain ⟨x,c0,c1,c2,hx⟩:=hc k hk
 exact ⟨x,(hb.cell (p:=⟨b,off+k*3,none⟩) hlt).trans c0,(hb.cell (p:=⟨b,off+k*3+1,none⟩) hlt).trans c1,(hb.cell (p:=⟨b,off+k*3+2,none⟩) hlt).trans c2,hx.keep hb⟩
def MFrame.few (f:MFrame):Prop:=f.locals.length≤1048576∧f.stack.length≤1048576
theorem szFrame_any (x:SFrame) (f:MFrame) (n:Int) (w:World) (hn:0≤n) (hn2:n≤1048576) (hA:ArgF w x f) :
  Calls Tryz.prog 107 #[.agg #[.int .i64 x.at_,x.l,x.s],.int .i64 n] w fun e w'=>∃ m,e=.returned (.int .i64 m)∧(m<0∨(0≤m∧m≤n∧f.few))∧Below w.heap.size w w':=by
 obtain ⟨h1,⟨a,b,c,h2,h3⟩,⟨a',b',c',h4,h5⟩,hm,hm2⟩:=hA
 obtain ⟨xa,xl,xs⟩:=x
 simp only at h1 h2 h4
 subst h2 h4
 unfold maxLen at hm hm2
 have e1:=h3.1
 have e2:=h5.1
 have hK1:=fun w=>szKindS_any a b c n w (by omega) hn hn2
 unfold MFrame.few
 rw [e1,e2]
 clear h3 h5
 by_cases hb:(b:Int)≤n
 ·simp only [hb,if_true] at hK1
  have hK2:=fun w=>szKindS_any a' b' c' (n - b) w (by omega) (by omega) (by omega)
  by_cases hb':(b':Int)≤n - b
  ·simp only [hb',if_true] at hK2
   go_enter Tryz.func107,Tryz.ntmps107
   go_wp2_with fail
   refine (hK1 _).mono ?_
   rintro e w1 ⟨rfl,hw⟩;replace hw:=hw.symm;subst hw
   go_wp2_with fail
   refine (hK2 _).mono ?_
   rintro e w1 ⟨rfl,hw⟩;replace hw:=hw.symm;subst hw
   go_wp2
   go_ret
   exact ⟨_,rfl,.inr ⟨by omega,by omega,by omega,by omega⟩,by go_grown⟩
  ·simp only [hb',if_false] at hK2
   go_enter Tryz.func107,Tryz.ntmps107
   go_wp2_with fail
   refine (hK1 _).mono ?_
   rintro e w1 ⟨rfl,hw⟩;replace hw:=hw.symm;subst hw
   go_wp2_with fail
   refine (hK2 _).mono ?_
   rintro e w1 ⟨rfl,hw⟩;replace hw:=hw.symm;subst hw
   go_wp2
   go_ret
   exact ⟨_,rfl,.inl (by omega),by go_grown⟩
 ·simp only [hb,if_false] at hK1
  go_enter Tryz.func107,Tryz.ntmps107
  go_wp2_with fail
  refine (hK1 _).mono ?_
  rintro e w1 ⟨rfl,hw⟩;replace hw:=hw.symm;subst hw
  go_wp2
  go_ret
  exact ⟨_,rfl,.inl (by omega),by go_grown⟩
theorem toFrame_any (x:SFrame) (f:MFrame) (w:World) (hA:ArgF w x f) (hf:f.few) :
  Calls Tryz.prog 127 #[.agg #[.int .i64 x.at_,x.l,x.s]] w fun e w'=>∃ y:SFrame,e=.returned (.agg #[.int .i64 y.at_,y.l,y.s])∧FrameW w' w.heap.size y f∧Below w.heap.size w w':=by
 obtain ⟨h1,⟨a,b,c,h2,h3⟩,⟨a',b',c',h4,h5⟩,hm,hm2⟩:=hA
 obtain ⟨xa,xl,xs⟩:=x
 simp only at h1 h2 h4
 subst h2 h4
 obtain ⟨f1,f2⟩:=hf
 have e1:=h3.1
 have e2:=h5.1
 have HA1:Hid (ArgKind w a b f.locals):=h3
 have HA2:Hid (ArgKind w a' b' f.stack):=h5
 have hK1:=fun W hW=>toKindS_any a b c f.locals W (by omega) hW
 have hK2:=fun W hW=>toKindS_any a' b' c' f.stack W (by omega) hW
 clear h3 h5
 go_enter Tryz.func127,Tryz.ntmps127
 go_wp2_with fail
 refine (hK1 _ (HA1.out.keep (by go_grown))).mono ?_
 rintro e w1 ⟨v1,rfl,ho1,hb1⟩
 have z1:w.heap.size+1+1+1≤w1.heap.size:=by have:=hb1.size;simpa using this
 have p0:w1.cell? ⟨w.heap.size,2,none⟩=some (Value.slice a' b' c'):=(hb1.cell (p:=⟨w.heap.size,2,none⟩) (by simp;omega)).trans (by go_cell)
 have r0:w1.cell? ⟨w.heap.size+1,0,none⟩=some (.int .i64 0):=(hb1.cell (p:=⟨w.heap.size+1,0,none⟩) (by simp)).trans (by go_cell)
 have s0:w1.frozen? ⟨w.heap.size+1,0,none⟩=false:=(hb1.frozen (p:=⟨w.heap.size+1,0,none⟩) (by simp)).trans (by go_cell)
 have r1:w1.cell? ⟨w.heap.size+1,1,none⟩=some (Value.slice none 0 0):=(hb1.cell (p:=⟨w.heap.size+1,1,none⟩) (by simp)).trans (by go_cell)
 have s1:w1.frozen? ⟨w.heap.size+1,1,none⟩=false:=(hb1.frozen (p:=⟨w.heap.size+1,1,none⟩) (by simp)).trans (by go_cell)
 have r2:w1.cell? ⟨w.heap.size+1,2,none⟩=some (Value.slice none 0 0):=(hb1.cell (p:=⟨w.heap.size+1,2,none⟩) (by simp)).trans (by go_cell)
 have s2:w1.frozen? ⟨w.heap.size+1,2,none⟩=false:=(hb1.frozen (p:=⟨w.heap.size+1,2,none⟩) (by simp)).trans (by go_cell)
 have m0:w1.cell? ⟨w.heap.size+1+1,0,none⟩=some (.int .i64 f.at_):=(hb1.cell (p:=⟨w.heap.size+1+1,0,none⟩) (by simp)).trans (by go_cell)
 have n0:w1.frozen? ⟨w.heap.size+1+1,0,none⟩=false:=(hb1.frozen (p:=⟨w.heap.size+1+1,0,none⟩) (by simp)).trans (by go_cell)
 have m1:w1.cell? ⟨w.heap.size+1+1,1,none⟩=some (Value.slice none 0 0):=(hb1.cell (p:=⟨w.heap.size+1+1,1,none⟩) (by simp)).trans (by go_cell)
 have n1:w1.frozen? ⟨w.heap.size+1+1,1,none⟩=false:=(hb1.frozen (p:=⟨w.heap.size+1+1,1,none⟩) (by simp)).trans (by go_cell)
 have m2:w1.cell? ⟨w.heap.size+1+1,2,none⟩=some (Value.slice none 0 0):=(hb1.cell (p:=⟨w.heap.size+1+1,2,none⟩) (by simp)).trans (by go_cell)
 have n2:w1.frozen? ⟨w.heap.size+1+1,2,none⟩=false:=(hb1.frozen (p:=⟨w.heap.size+1+1,2,none⟩) (by simp)).trans (by go_cell)
 obtain ⟨a1,k1,rfl⟩:=own_len ho1
 have HO1:Hid (w1.ownsRow (w.heap.size+1+1+1) 144 2 (.slice a1 f.locals.length k1) f.locals.length (rowKind f.locals)):=by unfold Hid;simpa using ho1
 have HB1:Hid (Below w.heap.size w w1):=(by go_grown:Below w.heap.size w _).trans (hb1.mono (by simp;omega))
 clear ho1 hb1
 go_wp2_with fail
 refine (hK2 _ (HA2.out.keep (HB1.out.setCell (by simp;omega) _))).mono ?_
 rintro e w2 ⟨v2,rfl,ho2,hb2⟩
 have z2:w1.heap.size≤w2.heap.size:=by have:=hb2.size;simpa using this
 have r0':w2.cell? ⟨w.heap.size+1,0,none⟩=some (.int .i64 0):=(hb2.cell (p:=⟨w.heap.size+1,0,none⟩) (by simp;omega)).trans (by go_cell)
 have s0':w2.frozen? ⟨w.heap.size+1,0,none⟩=false:=(hb2.frozen (p:=⟨w.heap.size+1,0,none⟩) (by simp;omega)).trans (by go_cell)
 have r1':w2.cell? ⟨w.heap.size+1,1,none⟩=some (Value.slice none 0 0):=(hb2.cell (p:=⟨w.heap.size+1,1,none⟩) (by simp;omega)).trans (by go_cell)
 have s1':w2.frozen? ⟨w.heap.size+1,1,none⟩=false:=(hb2.frozen (p:=⟨w.heap.size+1,1,none⟩) (by simp;omega)).trans (by go_cell)
 have r2':w2.cell? ⟨w.heap.size+1,2,none⟩=some (Value.slice none 0 0):=(hb2.cell (p:=⟨w.heap.size+1,2,none⟩) (by simp;omega)).trans (by go_cell)
 have s2':w2.frozen? ⟨w.heap.size+1,2,none⟩=false:=(hb2.frozen (p:=⟨w.heap.size+1,2,none⟩) (by simp;omega)).trans (by go_cell)
 have m0':w2.cell? ⟨w.heap.size+1+1,0,none⟩=some (.int .i64 f.at_):=(hb2.cell (p:=⟨w.heap.size+1+1,0,none⟩) (by simp;omega)).trans (by go_cell)
 have n0':w2.frozen? ⟨w.heap.size+1+1,0,none⟩=false:=(hb2.frozen (p:=⟨w.heap.size+1+1,0,none⟩) (by simp;omega)).trans (by go_cell)
 have m1':w2.cell? ⟨w.heap.size+1+1,1,none⟩=some (Value.slice a1 f.locals.length k1):=(hb2.cell (p:=⟨w.heap.size+1+1,1,none⟩) (by simp;omega)).trans (by go_cell)
 have n1':w2.frozen? ⟨w.heap.size+1+1,1,none⟩=false:=(hb2.frozen (p:=⟨w.heap.size+1+1,1,none⟩) (by simp;omega)).trans (by go_cell)
 have m2':w2.cell? ⟨w.heap.size+1+1,2,none⟩=some (Value.slice none 0 0):=(hb2.cell (p:=⟨w.heap.size+1+1,2,none⟩) (by simp;omega)).trans (by go_cell)
 have n2':w2.frozen? ⟨w.heap.size+1+1,2,none⟩=false:=(hb2.frozen (p:=⟨w.heap.size+1+1,2,none⟩) (by simp;omega)).trans (by go_cell)
 obtain ⟨a2,k2,rfl⟩:=own_len ho2
 have HO2:Hid (w2.ownsRow (w.heap.size+1+1+1) 144 2 (.slice a2 f.stack.length k2) f.stack.length (rowKind f.stack)):=Joins.ownsRow_le ho2 (by simpa using z1)
 have HO1':Hid (w2.ownsRow (w.heap.size+1+1+1) 144 2 (.slice a1 f.locals.length k1) f.locals.length (rowKind f.locals)):=own_below (ownsRow_setCell_below HO1.out (by simp) _) hb2
 have HB2:Hid (Below w.heap.size w w2):=(HB1.out.setCell (by simp;omega) _).trans (hb2.mono (by simp;omega))
 clear ho2 hb2 HO1 HB1 hK1 hK2 HA1 HA2 p0 r0 r1 r2 s0 s1 s2 m0 m1 m2 n0 n1 n2
 go_wp2
 have g1:w2.ownsRow (w.heap.size+1+1+1) 144 2 (.slice a1 b k1) f.locals.length (rowKind f.locals):=by
  have:=HO1'.out
  rwa [show (Value.slice a1 f.locals.length k1)=.slice a1 b k1 by rw [e1]] at this
 have g2:w2.ownsRow (w.heap.size+1+1+1) 144 2 (.slice a2 b' k2) f.stack.length (rowKind f.stack):=by
  have:=HO2.out
  rwa [show (Value.slice a2 f.stack.length k2)=.slice a2 b' k2 by rw [e2]] at this
 refine bodyPost_ret (v:=.agg #[.int .i64 f.at_,.slice a1 b k1,.slice a2 b' k2]) (by simp [results,Tryz.results127,go_sem, *]) rfl ⟨⟨f.at_,.slice a1 b k1,.slice a2 b' k2⟩,rfl,⟨rfl, ?_, ?_⟩, ?_⟩
 ·exact Joins.ownsRow_le (ownsRow_setCell_below (ownsRow_setCell_below (ownsRow_setCell_below (ownsRow_setCell_below g1 (by simp) _) (by simp) _) (by simp) _) (by simp) _) (by omega)
 ·exact Joins.ownsRow_le (ownsRow_setCell_below (ownsRow_setCell_below (ownsRow_setCell_below (ownsRow_setCell_below g2 (by simp) _) (by simp) _) (by simp) _) (by simp) _) (by omega)
 ·exact (((HB2.out.setCell (by simp;omega) _).setCell (by simp) _).setCell (by simp) _).setCell (by simp) _
set_option maxHeartbeats 800000
theorem szFrameS_any (ao:Option Addr) (len cap:Nat) (fs:List MFrame) (n0:Int) (w:World) (hl:len≤maxLen) (hn0:0≤n0) (hn1:n0≤1048576) (hA:ArgFS w ao len fs) :
  Calls Tryz.prog 69 #[.slice ao len cap,.int .i64 n0] w fun e w'=>∃ n,e=.returned (.int .i64 n)∧(n<0∨(0≤n∧n≤n0∧len≤1048576∧∀ f∈fs,f.few))∧Below w.heap.size w w':=by
 unfold maxLen at hl
 by_cases h:(len:Int)≤n0
 ·obtain ⟨hlen,hcs⟩:=hA
  go_enter Tryz.func69,Tryz.ntmps69
  go_wp2
  go_loopw [1,5] (fun l i wr=>∃ (n:Int) (k:Nat),k≤len∧i=.int .i64 k∧l=.int .i64 n∧0≤n∧n≤n0∧Hid (∀ f∈fs.take k,f.few)∧Below w.heap.size w wr) (fun _ i _=>len - (intOf i).toNat)
  case atStart=>exact ⟨n0 - len,0,by omega,rfl,by first|rfl|go_num,by omega,by omega,fun t ht=>by simp at ht,Below.refl _ _⟩
  case round=>
   obtain ⟨n,k,hk,rfl,rfl,hn,hn2,HE,hbel⟩:=hrel
   by_cases hlt:k<len
   ·rcases hcs with h0|⟨b,off,rfl,hbw,hc⟩
    ·omega
    ·obtain ⟨x,c0,c1,c2,hx⟩:=hc k (by omega)
     have d0:=(hbel.cell (p:=⟨b,off+k*3,none⟩) hbw).trans c0
     have d1:=(hbel.cell (p:=⟨b,off+k*3+1,none⟩) hbw).trans c1
     have d2:=(hbel.cell (p:=⟨b,off+k*3+2,none⟩) hbw).trans c2
     have hI:=szFrame_any x fs[k] n wr hn (by omega) (hx.keep hbel)
     obtain ⟨hat,⟨a,l1,q1,e1,hk1⟩,⟨a',l2,q2,e2,hk2⟩,hm1,hm2⟩:=hx
     rw [e1] at d1 hI
     rw [e2] at d2 hI
     have HX:Hid (∀ m,(0≤m∧m≤n∧fs[k].few)→∀ f∈fs.take (k+1),f.few):=by
      intro m hm f hf
      rw [List.take_succ_eq_append_getElem (by omega)] at hf
      rcases List.mem_append.mp hf with hf|hf
      ·exact HE.out f hf
      ·simp at hf;rw [hf];exact hm.2.2
     clear c0 c1 c2 hc e1 e2 hat hk1 hk2 hm1 hm2
     go_wp2_with fail
     refine hI.mono ?_
     rintro e w1 ⟨m,rfl,hm,hb1⟩
     ·by_cases hneg:m<0
      ·go_wp2
       go_ret
       exact ⟨_,rfl,.inl (by omega),hbel.trans (hb1.mono hbel.size)⟩
      ·have hm':0≤m∧m≤n∧fs[k].few:=by
        rcases hm with hm|hm
        ·exact absurd hm hneg
        ·exact hm
       have HN:=HX.out m hm'
       have HN':Hid (∀ f∈fs.take (k+1),f.few):=HN
       have m1:=hm'.1
       have m2:=hm'.2.1
       clear HN hm hm'
       go_wp2
       go_roundw
       case rel=>exact ⟨m,k+1,by omega,by go_num,rfl,by omega,by omega,HN'.out,hbel.trans (hb1.mono hbel.size)⟩
       case measure=>simp [intOf];omega
   ·go_wp2
    go_ret
    refine ⟨_,rfl,.inr ⟨hn,hn2,by omega, ?_⟩,hbel⟩
    have:=HE.out
    rwa [List.take_of_length_le (by omega)] at this
 ·clear hA
  go_enter Tryz.func69,Tryz.ntmps69
  go_wp2
  go_ret
  exact ⟨_,rfl,.inl (by omega),Below.refl _ _⟩
theorem FrameW.set {w:World} {B:Nat} {x:SFrame} {f:MFrame} (h:FrameW w B x f) {a:Addr} (ha:a.block<B) (u:Value):FrameW (w.setCell a u) B x f:=
 ⟨h.at_,ownsRow_setCell_below h.l ha u,ownsRow_setCell_below h.s ha u⟩
def FramesW (w:World) (B:Nat) (v:Value) (fs:List MFrame):Prop:=
 ∃ xs:List SFrame,xs.length=fs.length∧w.ownsRow B 114 3 v fs.length (rowFrame xs)∧∀ k (h:k<fs.length) (h':k<xs.length),FrameW w B xs[k] fs[k]
theorem FramesW.keep {w w':World} {B:Nat} {v:Value} {fs:List MFrame} (h:FramesW w B v fs) (hb:Below w.heap.size w w'):FramesW w' B v fs:=by
 obtain ⟨xs,h1,h2,h3⟩:=h
 exact ⟨xs,h1,own_below h2 hb,fun k hk hk'=>(h3 k hk hk').keep hb⟩
theorem FramesW.mono {w:World} {B B':Nat} {v:Value} {fs:List MFrame} (h:FramesW w B v fs) (hb:B'≤B):FramesW w B' v fs:=by
 obtain ⟨xs,h1,h2,h3⟩:=h
 exact ⟨xs,h1,Joins.ownsRow_le h2 hb,fun k hk hk'=>(h3 k hk hk').mono hb⟩
theorem toFrameS_any (ao:Option Addr) (len cap:Nat) (fs:List MFrame) (w:World) (hl:len≤1048576) (hA:ArgFS w ao len fs) (hf:∀ f∈fs,f.few) :
  Calls Tryz.prog 87 #[.slice ao len cap] w fun e w'=>∃ v,e=.returned v∧FramesW w' w.heap.size v fs∧Below w.heap.size w w':=by
 obtain ⟨hlen,hcs⟩:=hA
 obtain ⟨i0,hi,hz0,hz1,hz2⟩:=info_parts infoFrame
 obtain ⟨M,hM⟩:∃ M,M=madeCells (Value.agg #[.int .i64 0,.slice none 0 0,.slice none 0 0]).cells (len*3):=⟨_,rfl⟩
 have hmk:∀ W:World,(Instr.makeSlice 73 (.int .i64 (len:Int)) (.int .i64 (len:Int))).run Tryz.prog W=.ok (.slice (some ⟨W.heap.size,0,none⟩) len len) (W.alloc (.cells M 114)):=fun W=>by
  have h:=run_make (P:=Tryz.prog) W 73 114 i0 _ Tryz.underlying73 hi hz0 .i64 .i64 (len:Int) (len:Int) (by omega) (by omega) (by rw [hz2];omega) (by omega)
  rw [hz1] at h
  rw [hM]
  simpa using h
 have HO:Hid ((w.alloc (.cells M 114)).ownsRow w.heap.size 114 3 (.slice (some ⟨w.heap.size,0,none⟩) len len) len (rowFrame (zerosFrame len))):=by
  have hz:=zerosFrame_cells len
  rw [← hM] at hz
  have:=World.ownsRow_lit (base:=w.heap.size) (e:=114) (size:=3) w M len (Nat.le_refl _) (by unfold maxLen;omega) (by rw [← Array.length_toList,hz,rowFrame_len];simp [zerosFrame])
  rw [hz] at this
  exact this
 have HF:Hid (∀ f∈fs,f.few):=hf
 clear hM hf
 go_enter Tryz.func87,Tryz.ntmps87
 go_wp2
 go_loopw [4] (fun i wr=>∃ (k:Nat) (us:List SFrame),k≤len∧i=.int .i64 k∧us.length=len∧w.heap.size+1≤wr.heap.size∧Hid (∀ j (h:j<fs.length) (h':j<us.length),j<k→FrameW wr (w.heap.size+1) us[j] fs[j])∧Hid (wr.ownsRow w.heap.size 114 3 (.slice (some ⟨w.heap.size,0,none⟩) len len) len (rowFrame us))∧Below w.heap.size w wr) (fun i _=>len - (intOf i).toNat)
 case atStart=>exact ⟨0,zerosFrame len,by omega,rfl,by simp [zerosFrame],by simp,fun j _ _ h=>by omega,HO,(Below.refl _ _).alloc (Nat.le_refl _) _⟩
 case round=>
  obtain ⟨k,us,hk,rfl,hus,hsz,HE,HW,hbel⟩:=hrel
  by_cases hlt:k<len
  ·rcases hcs with h0|⟨b,off,rfl,hbw,hc⟩
   ·omega
   ·obtain ⟨x,c0,c1,c2,hx⟩:=hc k (by omega)
    have hne:¬b=w.heap.size:=by omega
    have d0:=(hbel.cell (p:=⟨b,off+k*3,none⟩) hbw).trans c0
    have d1:=(hbel.cell (p:=⟨b,off+k*3+1,none⟩) hbw).trans c1
    have d2:=(hbel.cell (p:=⟨b,off+k*3+2,none⟩) hbw).trans c2
    have hI:=toFrame_any x fs[k] wr (hx.keep hbel) (HF.out _ (List.getElem_mem _))
    obtain ⟨hat,⟨a,l1,q1,e1,hk1⟩,⟨a',l2,q2,e2,hk2⟩,hm1,hm2⟩:=hx
    rw [e1] at d1 hI
    rw [e2] at d2 hI
    clear c0 c1 c2 hc e1 e2 hat hk1 hk2 hm1 hm2
    go_wp2_with fail
    refine hI.mono ?_
    rintro e w1 ⟨y,rfl,hy,hb1⟩
    have ho1:=own_below HW.out hb1
    have f0:=ho1.frozenAt (k*3);have f1:=ho1.frozenAt (k*3+1);have f2:=ho1.frozenAt (k*3+2)
    obtain ⟨p0,q0'⟩:=own_has ho1 (k:=k*3) (by omega)
    obtain ⟨p1,q1'⟩:=own_has ho1 (k:=k*3+1) (by omega)
    obtain ⟨p2,q2'⟩:=own_has ho1 (k:=k*3+2) (by omega)
    have hs1:=hb1.size
    have HN:=nextFrame (t:=y) ho1 hus hlt
    have HNH:Hid _:=HN
    clear HN
    have HE':Hid (∀ j (h:j<fs.length) (h':j<(us.set k y).length),j<k+1→FrameW (((w1.setCell ⟨w.heap.size,k*3,none⟩ (.int .i64 y.at_)).setCell ⟨w.heap.size,k*3+1,none⟩ y.l).setCell ⟨w.heap.size,k*3+2,none⟩ y.s) (w.heap.size+1) (us.set k y)[j] fs[j]):=by
     intro j h h' hj
     have hfw:FrameW w1 (w.heap.size+1) (us.set k y)[j] fs[j]:=by
      by_cases hjk:j=k
      ·subst hjk
       rw [List.getElem_set_self]
       exact hy.mono hsz
      ·rw [List.getElem_set_ne (by omega)]
       exact (HE.out j h (by simpa using h') (by omega)).keep hb1
     exact ((hfw.set (by simp) _).set (by simp) _).set (by simp) _
    have hbw1:=hbel.trans (hb1.mono hbel.size)
    obtain ⟨ya,yl,ys⟩:=y
    obtain ⟨a1,k1,e1⟩:=own_len hy.l
    obtain ⟨a2,k2,e2⟩:=own_len hy.s
    simp only at e1 e2
    subst e1 e2
    clear hy ho1 hb1 HE HW hI
    go_wp2
    go_roundw
    case rel=>exact ⟨k+1,_,by omega,by go_num,by simpa using hus,by simp;omega,HE',HNH.out,((hbw1.setCell (Nat.le_refl _) _).setCell (Nat.le_refl _) _).setCell (Nat.le_refl _) _⟩
    case measure=>simp [intOf];omega
  ·have hk':k=len:=by omega
   subst hk'
   have HR:Hid (FramesW wr w.heap.size (.slice (some ⟨w.heap.size,0,none⟩) k k) fs):=by
    refine ⟨us,by omega,by rw [hlen];exact HW.out,fun j h h'=>(HE.out j h h' (by omega)).mono (by omega)⟩
   clear HE HW
   go_wp2
   go_ret
   exact ⟨_,rfl,HR.out,hbel⟩
theorem eqFrame_same (x y:SFrame) (f:MFrame) (B1 B2:Nat) (w:World) (hf:f.few) (hx:FrameW w B1 x f) (hy:FrameW w B2 y f) :
  Calls Tryz.prog 151 #[.agg #[.int .i64 x.at_,x.l,x.s],.agg #[.int .i64 y.at_,y.l,y.s]] w fun e w'=>e=.returned (.bool true)∧Below w.heap.size w w':=by
 obtain ⟨f1,f2⟩:=hf
 have hat:=hx.at_.trans hy.at_.symm
 have HX:=(show Hid (FrameW w B1 x f) from hx)
 have HY:=(show Hid (FrameW w B2 y f) from hy)
 obtain ⟨a1,k1,e1⟩:=own_len hx.l
 obtain ⟨a2,k2,e2⟩:=own_len hx.s
 obtain ⟨a3,k3,e3⟩:=own_len hy.l
 obtain ⟨a4,k4,e4⟩:=own_len hy.s
 obtain ⟨xa,xl,xs⟩:=x
 obtain ⟨ya,yl,ys⟩:=y
 simp only at e1 e2 e3 e4 hat
 subst e1 e2 e3 e4 hat
 clear hx hy
 go_enter Tryz.func151,Tryz.ntmps151
 go_wp2_with fail
 refine (eqKindS_same _ _ f.locals B1 B2 _ f1 (own_below HX.out.l (by go_grown)) (own_below HY.out.l (by go_grown))).mono ?_
 rintro e w1 ⟨rfl,hb1⟩
 have z1:w.heap.size+1+1≤w1.heap.size:=by have:=hb1.size;simpa using this
 have p0:w1.cell? ⟨w.heap.size,2,none⟩=some (.slice a2 f.stack.length k2):=(hb1.cell (p:=⟨w.heap.size,2,none⟩) (by simp;omega)).trans (by go_cell)
 have p1:w1.cell? ⟨w.heap.size+1,2,none⟩=some (.slice a4 f.stack.length k4):=(hb1.cell (p:=⟨w.heap.size+1,2,none⟩) (by simp)).trans (by go_cell)
 have hbw:Below w.heap.size w w1:=(by go_grown:Below w.heap.size w _).trans (hb1.mono (by simp;omega))
 clear hb1
 go_wp2_with fail
 refine (eqKindS_same _ _ f.stack B1 B2 w1 f2 (own_below HX.out.s hbw) (own_below HY.out.s hbw)).mono ?_
 rintro e w2 ⟨rfl,hb2⟩
 go_wp2
 go_ret
 exact ⟨rfl,hbw.trans (hb2.mono hbw.size)⟩
theorem eqFrameS_same (v1 v2:Value) (fs:List MFrame) (B1 B2:Nat) (w:World) (hl:fs.length≤1048576) (hf:∀ f∈fs,f.few) (h1:FramesW w B1 v1 fs) (h2:FramesW w B2 v2 fs) :
  Calls Tryz.prog 104 #[v1,v2] w fun e w'=>e=.returned (.bool true)∧Below w.heap.size w w':=by
 obtain ⟨xs,l1,o1,r1⟩:=h1
 obtain ⟨ys,l2,o2,r2⟩:=h2
 by_cases hz:fs.length=0
 ·obtain ⟨ao1,c1,rfl⟩:=own_len o1
  obtain ⟨ao2,c2,rfl⟩:=own_len o2
  rw [hz]
  clear o1 o2 hl hz r1 r2 l1 l2 hf
  go_enter Tryz.func104,Tryz.ntmps104
  go_wp2
  refine wp_loop_rounds 1 ?_
  rw [rounds_succ]
  go_wp2
  go_ret
  exact ⟨rfl,Below.refl _ _⟩
 ·obtain ⟨g1,c1,rfl⟩:=Joins.ownsRow_form o1 (by omega)
  obtain ⟨g2,c2,rfl⟩:=Joins.ownsRow_form o2 (by omega)
  have H1:=(show Hid (w.ownsRow B1 114 3 (.slice (some ⟨g1,0,none⟩) fs.length c1) fs.length (rowFrame xs)) from o1)
  have H2:=(show Hid (w.ownsRow B2 114 3 (.slice (some ⟨g2,0,none⟩) fs.length c2) fs.length (rowFrame ys)) from o2)
  have R1:=(show Hid (∀ k (h:k<fs.length) (h':k<xs.length),FrameW w B1 xs[k] fs[k]) from r1)
  have R2:=(show Hid (∀ k (h:k<fs.length) (h':k<ys.length),FrameW w B2 ys[k] fs[k]) from r2)
  have HF:=(show Hid (∀ f∈fs,f.few) from hf)
  have hg1:=(o1.lt g1 rfl).2
  have hg2:=(o2.lt g2 rfl).2
  clear o1 o2 r1 r2 hf
  go_enter Tryz.func104,Tryz.ntmps104
  go_wp2
  go_loopw [5] (fun i wr=>∃ (k:Nat),k≤fs.length∧i=.int .i64 k∧Below w.heap.size w wr) (fun i _=>fs.length - (intOf i).toNat)
  case atStart=>exact ⟨0,by omega,rfl,Below.refl _ _⟩
  case round=>
   obtain ⟨k,hk,rfl,hb⟩:=hrel
   by_cases hlt:k<fs.length
   ·obtain ⟨x0,x1,x2⟩:=ownFrame_at (own_below H1.out hb) l1 (k:=k) (by omega)
    obtain ⟨y0,y1,y2⟩:=ownFrame_at (own_below H2.out hb) l2 (k:=k) (by omega)
    have rx:=(R1.out k hlt (by omega)).keep hb
    have ry:=(R2.out k hlt (by omega)).keep hb
    generalize xs[k]'(by omega)=x at x0 x1 x2 rx
    generalize ys[k]'(by omega)=y at y0 y1 y2 ry
    have hE:=eqFrame_same x y fs[k] B1 B2 (wr.drewN 1) (HF.out _ (List.getElem_mem _)) (rx.keep (below_drewN (Below.refl _ _) 1)) (ry.keep (below_drewN (Below.refl _ _) 1))
    obtain ⟨a1,k1,e1⟩:=own_len rx.l
    obtain ⟨a2,k2,e2⟩:=own_len rx.s
    obtain ⟨a3,k3,e3⟩:=own_len ry.l
    obtain ⟨a4,k4,e4⟩:=own_len ry.s
    generalize fs[k].locals.length=n1 at e1 e3
    generalize fs[k].stack.length=n2 at e2 e4
    clear rx ry
    obtain ⟨xa,xl,xs'⟩:=x
    obtain ⟨ya,yl,ys'⟩:=y
    simp only at e1 e2 e3 e4 x0 x1 x2 y0 y1 y2 hE
    subst e1 e2 e3 e4
    go_wp2
    go_region_with (go_at_call 151;refine hE.mono ?_;rintro e w1 ⟨rfl,hb1⟩)
    all_goals go_wp2
    all_goals
     have hb2:Below w.heap.size w w1:=(below_drewN hb 1).trans (hb1.mono (by have:=hb.size;simpa using this))
     clear hb1
     go_roundw
     case rel=>exact ⟨k+1,by omega,by go_num,hb2⟩
     case measure=>simp [intOf];omega
   ·go_wp2
    go_ret
    exact ⟨rfl,hb⟩
set_option maxHeartbeats 400000
structure MTrap where
 from_:Int
 to_:Int
 at_:Int
 cls:Int
def cellsTrap (t:MTrap):List Value:=[.int .i64 t.from_,.int .i64 t.to_,.int .i64 t.at_,.int .i64 t.cls]
def rowTrap (ts:List MTrap):List Value:=ts.flatMap cellsTrap
theorem rowTrap_len (ts:List MTrap):(rowTrap ts).length=ts.length*4:=by
 induction ts with
 | nil=>rfl
 | cons t ts ih=>simp only [rowTrap,List.flatMap_cons,List.length_append] at *;simp [cellsTrap,ih];omega
theorem rowTrap_at (ts:List MTrap) (k:Nat) (hk:k<ts.length):rowTrap ts=rowTrap (ts.take k)++(cellsTrap ts[k]++rowTrap (ts.drop (k+1))):=by
 have ht:ts=ts.take k++ts[k] :: ts.drop (k+1):=by rw [← List.drop_eq_getElem_cons hk,List.take_append_drop]
 exact (congrArg (List.flatMap cellsTrap) ht).trans (by rw [List.flatMap_append,List.flatMap_cons];rfl)
theorem infoTrap:(Tryz.prog.info? 140).map (fun i=>(i.zero,i.size,i.bytes))=some (some (.agg #[.int .i64 0,.int .i64 0,.int .i64 0,.int .i64 0]),4,32):=by kernel_rfl
theorem ownTrap_at {w:World} {B g cap:Nat} {ts:List MTrap} (h:w.ownsRow B 140 4 (.slice (some ⟨g,0,none⟩) ts.length cap) ts.length (rowTrap ts)) {k:Nat} (hk:k<ts.length) :
  w.cell? ⟨g,k*4,none⟩=some (.int .i64 ts[k].from_)∧w.cell? ⟨g,k*4+1,none⟩=some (.int .i64 ts[k].to_)∧w.cell? ⟨g,k*4+2,none⟩=some (.int .i64 ts[k].at_)∧w.cell? ⟨g,k*4+3,none⟩=some (.int .i64 ts[k].cls):=by
 have hx:∀ j,j<4→(rowTrap ts)[k*4+j]? = (cellsTrap ts[k])[j]?:=by
  intro j hj
  rw [rowTrap_at ts k hk,List.getElem?_append_right (by rw [rowTrap_len,List.length_take];omega),rowTrap_len,List.length_take,show k*4+j - min k ts.length*4=j by omega,List.getElem?_append_left (by simp [cellsTrap];omega)]
 refine ⟨?_, ?_, ?_, ?_⟩
 ·rw [h.cellAt _ (by omega)];exact hx 0 (by omega)
 ·rw [h.cellAt _ (by omega)];exact hx 1 (by omega)
 ·rw [h.cellAt _ (by omega)];exact hx 2 (by omega)
 ·rw [h.cellAt _ (by omega)];exact hx 3 (by omega)
theorem toTrap_any (t:MTrap) (w:World) :
  Calls Tryz.prog 126 #[.agg #[.int .i64 t.from_,.int .i64 t.to_,.int .i64 t.at_,.int .i64 t.cls]] w fun e w'=>e=.returned (.agg #[.int .i64 t.from_,.int .i64 t.to_,.int .i64 t.at_,.int .i64 t.cls])∧Below w.heap.size w w':=by
 go_enter Tryz.func126,Tryz.ntmps126
 go_wp2
 refine bodyPost_ret (v:=.agg #[.int .i64 t.from_,.int .i64 t.to_,.int .i64 t.at_,.int .i64 t.cls]) (by simp [results,Tryz.results126,go_sem]) rfl ⟨rfl, ?_⟩
 go_grown
def ArgTrap (w:World) (ao:Option Addr) (len:Nat) (ts:List MTrap):Prop:=
 ts.length=len∧(len=0∨∃ b off,ao=some ⟨b,off,none⟩∧b<w.heap.size∧∀ k (h:k<ts.length),w.cell? ⟨b,off+k*4,none⟩=some (.int .i64 ts[k].from_)∧w.cell? ⟨b,off+k*4+1,none⟩=some (.int .i64 ts[k].to_)∧w.cell? ⟨b,off+k*4+2,none⟩=some (.int .i64 ts[k].at_)∧w.cell? ⟨b,off+k*4+3,none⟩=some (.int .i64 ts[k].cls))
theorem ArgTrap.keep {w w':World} {ao:Option Addr} {len:Nat} {ts:List MTrap} (h:ArgTrap w ao len ts) (hb:Below w.heap.size w w'):ArgTrap w' ao len ts:=by
 obtain ⟨h1,h2⟩:=h
 refine ⟨h1,h2.imp id ?_⟩
 rintro ⟨b,off,rfl,hlt,hc⟩
 refine ⟨b,off,rfl,Nat.lt_of_lt_of_le hlt hb.size,fun k hk=>?_⟩
 obtain ⟨c0,c1,c2,c3⟩:=hc k hk
 exact ⟨(hb.cell (p:=⟨b,off+k*4,none⟩) hlt).trans c0,(hb.cell (p:=⟨b,off+k*4+1,none⟩) hlt).trans c1,(hb.cell (p:=⟨b,off+k*4+2,none⟩) hlt).trans c2,(hb.cell (p:=⟨b,off+k*4+3,none⟩) hlt).trans c3⟩
def zerosTrap (n:Nat):List MTrap:=List.replicate n ⟨0,0,0,0⟩
theorem zerosTrap_cells (n:Nat):(madeCells (Value.agg #[.int .i64 0,.int .i64 0,.int .i64 0,.int .i64 0]).cells (n*4)).toList=rowTrap (zerosTrap n):=by
 have hz:(Value.agg #[.int .i64 0,.int .i64 0,.int .i64 0,.int .i64 0]).cells=#[.int .i64 0,.int .i64 0,.int .i64 0,.int .i64 0]:=rfl
 apply List.ext_getElem
 ·simp [madeCells,rowTrap_len,zerosTrap]
 ·intro i h1 h2
  have hi:i<n*4:=by simpa [rowTrap_len,zerosTrap] using h2
  have hget:(rowTrap (zerosTrap n))[i]? = (cellsTrap ⟨0,0,0,0⟩)[i % 4]?:=by
   have hk:i / 4<(zerosTrap n).length:=by simp [zerosTrap];omega
   rw [rowTrap_at _ (i / 4) hk,List.getElem?_append_right (by rw [rowTrap_len,List.length_take];omega),rowTrap_len,List.length_take,show i - min (i / 4) (zerosTrap n).length*4=i % 4 by omega,List.getElem?_append_left (by simp [cellsTrap];omega)]
   simp [zerosTrap]
  rw [List.getElem?_eq_getElem h2] at hget
  have h3:i % 4<4:=Nat.mod_lt _ (by decide)
  have hl:(madeCells (Value.agg #[.int .i64 0,.int .i64 0,.int .i64 0,.int .i64 0]).cells (n*4)).toList[i]=(#[.int .i64 0,.int .i64 0,.int .i64 0,.int .i64 0]:Array Value)[i % 4]!:=by
   simp only [madeCells,hz]
   simp only [Array.toList_map,Array.toList_range,List.getElem_map,List.getElem_range]
   rfl
  rw [hl]
  generalize i % 4=r at h3 hget
  match r,h3 with
  | 0,_=>exact (Option.some.inj hget).symm
  | 1,_=>exact (Option.some.inj hget).symm
  | 2,_=>exact (Option.some.inj hget).symm
  | 3,_=>exact (Option.some.inj hget).symm
theorem setTrap (us:List MTrap) (k:Nat) (t:MTrap) (h:k<us.length) :
  ((((rowTrap us).set (k*4) (.int .i64 t.from_)).set (k*4+1) (.int .i64 t.to_)).set (k*4+2) (.int .i64 t.at_)).set (k*4+3) (.int .i64 t.cls)=rowTrap (us.set k t):=by
 have e2:us.set k t=us.take k++t :: us.drop (k+1):=by rw [List.set_eq_take_append_cons_drop,if_pos h]
 have hl:(rowTrap (us.take k)).length=k*4:=by rw [rowTrap_len,List.length_take];omega
 have e1:rowTrap us=rowTrap (us.take k)++(.int .i64 us[k].from_ :: .int .i64 us[k].to_ :: .int .i64 us[k].at_ :: .int .i64 us[k].cls :: rowTrap (us.drop (k+1))):=rowTrap_at us k h
 rw [e2,e1,List.set_append_right _ _ (by omega),hl,Nat.sub_self,List.set_cons_zero,List.set_append_right _ _ (by omega),hl,show k*4+1 - k*4=1 by omega,List.set_cons_succ,List.set_cons_zero,List.set_append_right _ _ (by omega),hl,show k*4+2 - k*4=2 by omega,List.set_cons_succ,List.set_cons_succ,List.set_cons_zero,List.set_append_right _ _ (by omega),hl,show k*4+3 - k*4=3 by omega,List.set_cons_succ,List.set_cons_succ,List.set_cons_succ,List.set_cons_zero]
 unfold rowTrap
 rw [List.flatMap_append,List.flatMap_cons];rfl
theorem toTrap_next {W:World} {B g len k:Nat} {us:List MTrap} {t:MTrap} (h:W.ownsRow B 140 4 (.slice (some ⟨g,0,none⟩) len len) len (rowTrap us)) (hu:us.length=len) (hk:k<len) :
  ((((W.setCell ⟨g,k*4,none⟩ (.int .i64 t.from_)).setCell ⟨g,k*4+1,none⟩ (.int .i64 t.to_)).setCell ⟨g,k*4+2,none⟩ (.int .i64 t.at_)).setCell ⟨g,k*4+3,none⟩ (.int .i64 t.cls)).ownsRow B 140 4 (.slice (some ⟨g,0,none⟩) len len) len (rowTrap (us.set k t)):=by
 have:=((((h.stored (k*4) (.int .i64 t.from_)).1.stored (k*4+1) (.int .i64 t.to_)).1.stored (k*4+2) (.int .i64 t.at_)).1.stored (k*4+3) (.int .i64 t.cls)).1
 rw [setTrap us k t (by omega)] at this
 exact this
theorem toTrap_take {us ts:List MTrap} {k:Nat} {t:MTrap} (h:us.take k=ts.take k) {hk:k<ts.length} (ht:ts[k]=t) (hu:k<us.length):(us.set k t).take (k+1)=ts.take (k+1):=by
 rw [List.take_succ_eq_append_getElem hk,List.take_succ_eq_append_getElem (by simpa using hu),List.getElem_set_self,ht,← h]
 congr 1
 rw [List.take_set_of_le (Nat.le_refl _)]
theorem toTrapS_any (ao:Option Addr) (len cap:Nat) (ts:List MTrap) (w:World) (hl:len≤1048576) (hA:ArgTrap w ao len ts) :
  Calls Tryz.prog 86 #[.slice ao len cap] w fun e w'=>∃ v,e=.returned v∧w'.ownsRow w.heap.size 140 4 v ts.length (rowTrap ts)∧Below w.heap.size w w':=by
 obtain ⟨hlen,hcs⟩:=hA
 obtain ⟨i0,hi,hz0,hz1,hz2⟩:=info_parts infoTrap
 obtain ⟨M,hM⟩:∃ M,M=madeCells (Value.agg #[.int .i64 0,.int .i64 0,.int .i64 0,.int .i64 0]).cells (len*4):=⟨_,rfl⟩
 have hmk:∀ W:World,(Instr.makeSlice 72 (.int .i64 (len:Int)) (.int .i64 (len:Int))).run Tryz.prog W=.ok (.slice (some ⟨W.heap.size,0,none⟩) len len) (W.alloc (.cells M 140)):=fun W=>by
  have h:=run_make (P:=Tryz.prog) W 72 140 i0 _ Tryz.underlying72 hi hz0 .i64 .i64 (len:Int) (len:Int) (by omega) (by omega) (by rw [hz2];omega) (by omega)
  rw [hz1] at h
  rw [hM]
  simpa using h
 have HO:Hid ((w.alloc (.cells M 140)).ownsRow w.heap.size 140 4 (.slice (some ⟨w.heap.size,0,none⟩) len len) len (rowTrap (zerosTrap len))):=by
  have hz:=zerosTrap_cells len
  rw [← hM] at hz
  have:=World.ownsRow_lit (base:=w.heap.size) (e:=140) (size:=4) w M len (Nat.le_refl _) (by unfold maxLen;omega) (by rw [← Array.length_toList,hz,rowTrap_len];simp [zerosTrap])
  rw [hz] at this
  exact this
 clear hM
 go_enter Tryz.func86,Tryz.ntmps86
 go_wp2
 go_loopw [4] (fun i wr=>∃ (k:Nat) (us:List MTrap),k≤len∧i=.int .i64 k∧us.length=len∧Hid (us.take k=ts.take k)∧Hid (wr.ownsRow w.heap.size 140 4 (.slice (some ⟨w.heap.size,0,none⟩) len len) len (rowTrap us))∧Below w.heap.size w wr) (fun i _=>len - (intOf i).toNat)
 case atStart=>exact ⟨0,zerosTrap len,by omega,rfl,by simp [zerosTrap],rfl,HO,(Below.refl _ _).alloc (Nat.le_refl _) _⟩
 case round=>
  obtain ⟨k,us,hk,rfl,hus,HE,HW,hbel⟩:=hrel
  by_cases hlt:k<len
  ·rcases hcs with h0|⟨b,off,rfl,hbw,hc⟩
   ·omega
   ·obtain ⟨c0,c1,c2,c3⟩:=hc k (by omega)
    have hne:¬b=w.heap.size:=by omega
    have d0:=(hbel.cell (p:=⟨b,off+k*4,none⟩) hbw).trans c0
    have d1:=(hbel.cell (p:=⟨b,off+k*4+1,none⟩) hbw).trans c1
    have d2:=(hbel.cell (p:=⟨b,off+k*4+2,none⟩) hbw).trans c2
    have d3:=(hbel.cell (p:=⟨b,off+k*4+3,none⟩) hbw).trans c3
    obtain ⟨t,ht⟩:∃ t,ts[k]'(by omega)=t:=⟨_,rfl⟩
    rw [ht] at d0 d1 d2 d3
    have HX:Hid (ts[k]'(by omega)=t):=ht
    clear ht c0 c1 c2 c3 hc
    have hI:=fun w=>toTrap_any t w
    go_wp2_with (go_at_call 126;refine (hI _).mono ?_;rintro e w1 ⟨rfl,hb1⟩;have ho1:=own_below HW.out hb1;have f0:=ho1.frozenAt (k*4);have f1:=ho1.frozenAt (k*4+1);have f2:=ho1.frozenAt (k*4+2);have f3:=ho1.frozenAt (k*4+3);obtain ⟨p0,q0⟩:=own_has ho1 (k:=k*4) (by omega);obtain ⟨p1,q1⟩:=own_has ho1 (k:=k*4+1) (by omega);obtain ⟨p2,q2⟩:=own_has ho1 (k:=k*4+2) (by omega);obtain ⟨p3,q3⟩:=own_has ho1 (k:=k*4+3) (by omega);clear ho1)
    go_roundw
    case rel=>exact ⟨k+1,us.set k t,by omega,by go_num,by simpa using hus,toTrap_take HE.out HX.out (by omega),toTrap_next (own_below HW.out hb1) hus hlt,(((((hbel.trans (hb1.mono hbel.size)).setCell (Nat.le_refl _) _).setCell (Nat.le_refl _) _).setCell (Nat.le_refl _) _).setCell (Nat.le_refl _) _)⟩
    case measure=>simp [intOf];omega
  ·have hk':k=len:=by omega
   subst hk'
   have HF:Hid (wr.ownsRow w.heap.size 140 4 (.slice (some ⟨w.heap.size,0,none⟩) k k) ts.length (rowTrap ts)):=by
    have e:us=ts:=by
     have:=HE.out
     rwa [List.take_of_length_le (by omega),List.take_of_length_le (by omega)] at this
    have:=HW.out
    rw [e] at this
    rw [hlen];exact this
   clear HE HW
   go_wp2
   go_ret
   exact ⟨_,rfl,HF.out,hbel⟩
theorem szTrapS_any (ao:Option Addr) (len cap:Nat) (n:Int) (w:World) (hl:len≤9223372036854775807) (hn:0≤n) (hn2:n≤1048576) :
  Calls Tryz.prog 68 #[.slice ao len cap,.int .i64 n] w fun e w'=>e=.returned (.int .i64 (if (len:Int)≤n then n - (len:Int) else -1))∧w'=w:=by
 by_cases h:(len:Int)≤n
 ·rw [if_pos h]
  go_enter Tryz.func68,Tryz.ntmps68
  go_wp2
  go_ret
  exact ⟨rfl,rfl⟩
 ·rw [if_neg h]
  go_enter Tryz.func68,Tryz.ntmps68
  go_wp2
  go_ret
  exact ⟨rfl,rfl⟩
theorem eqTrap_same (t:MTrap) (w:World) :
  Calls Tryz.prog 150 #[.agg #[.int .i64 t.from_,.int .i64 t.to_,.int .i64 t.at_,.int .i64 t.cls],.agg #[.int .i64 t.from_,.int .i64 t.to_,.int .i64 t.at_,.int .i64 t.cls]] w fun e w'=>e=.returned (.bool true)∧Below w.heap.size w w':=by
 go_enter Tryz.func150,Tryz.ntmps150
 go_wp2
 go_ret
 exact ⟨rfl,((Below.refl _ _).alloc (Nat.le_refl _) _).alloc (by simp) _⟩
theorem eqTrapS_same (v1 v2:Value) (ts:List MTrap) (B1 B2:Nat) (w:World) (hl:ts.length≤1048576)
  (h1:w.ownsRow B1 140 4 v1 ts.length (rowTrap ts)) (h2:w.ownsRow B2 140 4 v2 ts.length (rowTrap ts)) :
  Calls Tryz.prog 103 #[v1,v2] w fun e w'=>e=.returned (.bool true)∧Below w.heap.size w w':=by
 by_cases hz:ts.length=0
 ·obtain ⟨ao1,c1,rfl⟩:=own_len h1
  obtain ⟨ao2,c2,rfl⟩:=own_len h2
  rw [hz]
  clear h1 h2 hl hz
  go_enter Tryz.func103,Tryz.ntmps103
  go_wp2
  refine wp_loop_rounds 1 ?_
  rw [rounds_succ]
  go_wp2
  go_ret
  exact ⟨rfl,Below.refl _ _⟩
 ·obtain ⟨g1,c1,rfl⟩:=Joins.ownsRow_form h1 (by omega)
  obtain ⟨g2,c2,rfl⟩:=Joins.ownsRow_form h2 (by omega)
  have H1:Hid (w.ownsRow B1 140 4 (.slice (some ⟨g1,0,none⟩) ts.length c1) ts.length (rowTrap ts)):=h1
  have H2:Hid (w.ownsRow B2 140 4 (.slice (some ⟨g2,0,none⟩) ts.length c2) ts.length (rowTrap ts)):=h2
  have hg1:=(h1.lt g1 rfl).2
  have hg2:=(h2.lt g2 rfl).2
  clear h1 h2
  go_enter Tryz.func103,Tryz.ntmps103
  go_wp2
  go_loopw [5] (fun i wr=>∃ (k:Nat),k≤ts.length∧i=.int .i64 k∧Below w.heap.size w wr) (fun i _=>ts.length - (intOf i).toNat)
  case atStart=>exact ⟨0,by omega,rfl,Below.refl _ _⟩
  case round=>
   obtain ⟨k,hk,rfl,hb⟩:=hrel
   by_cases hlt:k<ts.length
   ·obtain ⟨t,x0,x1,x2,x3,y0,y1,y2,y3⟩:∃ t:MTrap,wr.cell? ⟨g1,k*4,none⟩=some (.int .i64 t.from_)∧wr.cell? ⟨g1,k*4+1,none⟩=some (.int .i64 t.to_)∧wr.cell? ⟨g1,k*4+2,none⟩=some (.int .i64 t.at_)∧wr.cell? ⟨g1,k*4+3,none⟩=some (.int .i64 t.cls)∧wr.cell? ⟨g2,k*4,none⟩=some (.int .i64 t.from_)∧wr.cell? ⟨g2,k*4+1,none⟩=some (.int .i64 t.to_)∧wr.cell? ⟨g2,k*4+2,none⟩=some (.int .i64 t.at_)∧wr.cell? ⟨g2,k*4+3,none⟩=some (.int .i64 t.cls):=by
     obtain ⟨a0,a1,a2,a3⟩:=ownTrap_at (own_below H1.out hb) hlt
     obtain ⟨b0,b1,b2,b3⟩:=ownTrap_at (own_below H2.out hb) hlt
     exact ⟨_,a0,a1,a2,a3,b0,b1,b2,b3⟩
    have hE:=fun w=>eqTrap_same t w
    go_wp2
    go_region_with (go_at_call 150;refine (hE _).mono ?_;rintro e w1 ⟨rfl,hb1⟩)
    all_goals go_wp2
    all_goals
     have hb2:Below w.heap.size w w1:=(below_drewN hb 1).trans (hb1.mono (by have:=hb.size;simpa using this))
     clear hb1
     go_roundw
     case rel=>exact ⟨k+1,by omega,by go_num,hb2⟩
     case measure=>simp [intOf];omega
   ·go_wp2
    go_ret
    exact ⟨rfl,hb⟩
structure SMethod where
 flags:Int
 name:Int
 desc:Int
 deep:Int
 locals:Int
 code:ByteArray
 traps:Value
 frames:Value
def cellsMethod (t:SMethod):List Value:=[.int .i64 t.flags,.int .i64 t.name,.int .i64 t.desc,.int .i64 t.deep,.int .i64 t.locals,.string t.code,t.traps,t.frames]
def rowMethod (ts:List SMethod):List Value:=ts.flatMap cellsMethod
theorem rowMethod_len (ts:List SMethod):(rowMethod ts).length=ts.length*8:=by
 induction ts with
 | nil=>rfl
 | cons t ts ih=>simp only [rowMethod,List.flatMap_cons,List.length_append] at *;simp [cellsMethod,ih];omega
theorem rowMethod_at (ts:List SMethod) (k:Nat) (hk:k<ts.length):rowMethod ts=rowMethod (ts.take k)++(cellsMethod ts[k]++rowMethod (ts.drop (k+1))):=by
 have ht:ts=ts.take k++ts[k] :: ts.drop (k+1):=by rw [← List.drop_eq_getElem_cons hk,List.take_append_drop]
 exact (congrArg (List.flatMap cellsMethod) ht).trans (by rw [List.flatMap_append,List.flatMap_cons];rfl)
theorem infoMethod:(Tryz.prog.info? 75).map (fun i=>(i.zero,i.size,i.bytes))=some (some (.agg #[.int .i64 0,.int .i64 0,.int .i64 0,.int .i64 0,.int .i64 0,.string ⟨#[]⟩,.slice none 0 0,.slice none 0 0]),8,104):=by kernel_rfl
theorem ownMethod_at {w:World} {B g cap m:Nat} {ts:List SMethod} (h:w.ownsRow B 75 8 (.slice (some ⟨g,0,none⟩) m cap) m (rowMethod ts)) (hm:ts.length=m) {k:Nat} (hk:k<ts.length) :
  w.cell? ⟨g,k*8,none⟩=some (.int .i64 ts[k].flags)∧w.cell? ⟨g,k*8+1,none⟩=some (.int .i64 ts[k].name)∧w.cell? ⟨g,k*8+2,none⟩=some (.int .i64 ts[k].desc)∧w.cell? ⟨g,k*8+3,none⟩=some (.int .i64 ts[k].deep)∧w.cell? ⟨g,k*8+4,none⟩=some (.int .i64 ts[k].locals)∧w.cell? ⟨g,k*8+5,none⟩=some (.string ts[k].code)∧w.cell? ⟨g,k*8+6,none⟩=some (ts[k].traps)∧w.cell? ⟨g,k*8+7,none⟩=some (ts[k].frames):=by
 have hx:∀ j,j<8→(rowMethod ts)[k*8+j]? = (cellsMethod ts[k])[j]?:=by
  intro j hj
  rw [rowMethod_at ts k hk,List.getElem?_append_right (by rw [rowMethod_len,List.length_take];omega),rowMethod_len,List.length_take,show k*8+j - min k ts.length*8=j by omega,List.getElem?_append_left (by simp [cellsMethod];omega)]
 refine ⟨?_, ?_, ?_, ?_, ?_, ?_, ?_, ?_⟩
 ·rw [h.cellAt _ (by omega)];exact hx 0 (by omega)
 ·rw [h.cellAt _ (by omega)];exact hx 1 (by omega)
 ·rw [h.cellAt _ (by omega)];exact hx 2 (by omega)
 ·rw [h.cellAt _ (by omega)];exact hx 3 (by omega)
 ·rw [h.cellAt _ (by omega)];exact hx 4 (by omega)
 ·rw [h.cellAt _ (by omega)];exact hx 5 (by omega)
 ·rw [h.cellAt _ (by omega)];exact hx 6 (by omega)
 ·rw [h.cellAt _ (by omega)];exact hx 7 (by omega)
def zerosMethod (n:Nat):List SMethod:=List.replicate n ⟨0,0,0,0,0,⟨#[]⟩,.slice none 0 0,.slice none 0 0⟩
theorem zerosMethod_cells (n:Nat):(madeCells (Value.agg #[.int .i64 0,.int .i64 0,.int .i64 0,.int .i64 0,.int .i64 0,.string ⟨#[]⟩,.slice none 0 0,.slice none 0 0]).cells (n*8)).toList=rowMethod (zerosMethod n):=by
 have hz:(Value.agg #[.int .i64 0,.int .i64 0,.int .i64 0,.int .i64 0,.int .i64 0,.string ⟨#[]⟩,.slice none 0 0,.slice none 0 0]).cells=#[.int .i64 0,.int .i64 0,.int .i64 0,.int .i64 0,.int .i64 0,.string ⟨#[]⟩,.slice none 0 0,.slice none 0 0]:=rfl
 apply List.ext_getElem
 ·simp [madeCells,rowMethod_len,zerosMethod]
 ·intro i h1 h2
  have hi:i<n*8:=by simpa [rowMethod_len,zerosMethod] using h2
  have hget:(rowMethod (zerosMethod n))[i]? = (cellsMethod ⟨0,0,0,0,0,⟨#[]⟩,.slice none 0 0,.slice none 0 0⟩)[i % 8]?:=by
   have hk:i / 8<(zerosMethod n).length:=by simp [zerosMethod];omega
   rw [rowMethod_at _ (i / 8) hk,List.getElem?_append_right (by rw [rowMethod_len,List.length_take];omega),rowMethod_len,List.length_take,show i - min (i / 8) (zerosMethod n).length*8=i % 8 by omega,List.getElem?_append_left (by simp [cellsMethod];omega)]
   simp [zerosMethod]
  rw [List.getElem?_eq_getElem h2] at hget
  have h3:i % 8<8:=Nat.mod_lt _ (by decide)
  have hl:(madeCells (Value.agg #[.int .i64 0,.int .i64 0,.int .i64 0,.int .i64 0,.int .i64 0,.string ⟨#[]⟩,.slice none 0 0,.slice none 0 0]).cells (n*8)).toList[i]=(#[.int .i64 0,.int .i64 0,.int .i64 0,.int .i64 0,.int .i64 0,.string ⟨#[]⟩,.slice none 0 0,.slice none 0 0]:Array Value)[i % 8]!:=by
   simp only [madeCells,hz]
   simp only [Array.toList_map,Array.toList_range,List.getElem_map,List.getElem_range]
   rfl
  rw [hl]
  generalize i % 8=r at h3 hget
  match r,h3 with
  | 0,_=>exact (Option.some.inj hget).symm
  | 1,_=>exact (Option.some.inj hget).symm
  | 2,_=>exact (Option.some.inj hget).symm
  | 3,_=>exact (Option.some.inj hget).symm
  | 4,_=>exact (Option.some.inj hget).symm
  | 5,_=>exact (Option.some.inj hget).symm
  | 6,_=>exact (Option.some.inj hget).symm
  | 7,_=>exact (Option.some.inj hget).symm
theorem setMethod (us:List SMethod) (k:Nat) (t:SMethod) (h:k<us.length) :
  ((((((((rowMethod us).set (k*8) (.int .i64 t.flags)).set (k*8+1) (.int .i64 t.name)).set (k*8+2) (.int .i64 t.desc)).set (k*8+3) (.int .i64 t.deep)).set (k*8+4) (.int .i64 t.locals)).set (k*8+5) (.string t.code)).set (k*8+6) (t.traps)).set (k*8+7) (t.frames)=rowMethod (us.set k t):=by
 have e2:us.set k t=us.take k++t :: us.drop (k+1):=by rw [List.set_eq_take_append_cons_drop,if_pos h]
 have hl:(rowMethod (us.take k)).length=k*8:=by rw [rowMethod_len,List.length_take];omega
 have e1:rowMethod us=rowMethod (us.take k)++(.int .i64 us[k].flags :: .int .i64 us[k].name :: .int .i64 us[k].desc :: .int .i64 us[k].deep :: .int .i64 us[k].locals :: .string us[k].code :: us[k].traps :: us[k].frames :: rowMethod (us.drop (k+1))):=rowMethod_at us k h
 rw [e2,e1,List.set_append_right _ _ (by omega),hl,Nat.sub_self,List.set_cons_zero,List.set_append_right _ _ (by omega),hl,show k*8+1 - k*8=1 by omega,List.set_cons_succ,List.set_cons_zero,List.set_append_right _ _ (by omega),hl,show k*8+2 - k*8=2 by omega,List.set_cons_succ,List.set_cons_succ,List.set_cons_zero,List.set_append_right _ _ (by omega),hl,show k*8+3 - k*8=3 by omega,List.set_cons_succ,List.set_cons_succ,List.set_cons_succ,List.set_cons_zero,List.set_append_right _ _ (by omega),hl,show k*8+4 - k*8=4 by omega,List.set_cons_succ,List.set_cons_succ,List.set_cons_succ,List.set_cons_succ,List.set_cons_zero,List.set_append_right _ _ (by omega),hl,show k*8+5 - k*8=5 by omega,List.set_cons_succ,List.set_cons_succ,List.set_cons_succ,List.set_cons_succ,List.set_cons_succ,List.set_cons_zero,List.set_append_right _ _ (by omega),hl,show k*8+6 - k*8=6 by omega,List.set_cons_succ,List.set_cons_succ,List.set_cons_succ,List.set_cons_succ,List.set_cons_succ,List.set_cons_succ,List.set_cons_zero,List.set_append_right _ _ (by omega),hl,show k*8+7 - k*8=7 by omega,List.set_cons_succ,List.set_cons_succ,List.set_cons_succ,List.set_cons_succ,List.set_cons_succ,List.set_cons_succ,List.set_cons_succ,List.set_cons_zero]
 unfold rowMethod
 rw [List.flatMap_append,List.flatMap_cons];rfl
theorem nextMethod {W:World} {B g len k:Nat} {us:List SMethod} {t:SMethod} (h:W.ownsRow B 75 8 (.slice (some ⟨g,0,none⟩) len len) len (rowMethod us)) (hu:us.length=len) (hk:k<len) :
  ((((((((W.setCell ⟨g,k*8,none⟩ (.int .i64 t.flags)).setCell ⟨g,k*8+1,none⟩ (.int .i64 t.name)).setCell ⟨g,k*8+2,none⟩ (.int .i64 t.desc)).setCell ⟨g,k*8+3,none⟩ (.int .i64 t.deep)).setCell ⟨g,k*8+4,none⟩ (.int .i64 t.locals)).setCell ⟨g,k*8+5,none⟩ (.string t.code)).setCell ⟨g,k*8+6,none⟩ (t.traps)).setCell ⟨g,k*8+7,none⟩ (t.frames)).ownsRow B 75 8 (.slice (some ⟨g,0,none⟩) len len) len (rowMethod (us.set k t)):=by
 have:=((((((((h.stored (k*8) (.int .i64 t.flags)).1.stored (k*8+1) (.int .i64 t.name)).1.stored (k*8+2) (.int .i64 t.desc)).1.stored (k*8+3) (.int .i64 t.deep)).1.stored (k*8+4) (.int .i64 t.locals)).1.stored (k*8+5) (.string t.code)).1.stored (k*8+6) (t.traps)).1.stored (k*8+7) (t.frames)).1
 rw [setMethod us k t (by omega)] at this
 exact this
end Go.Proofs.YtecbcdfkedocbaaGreatDoor
