/- Gathered: FileMath RdBase RdEntry. -/
import Derived.Test.YtecbcdfkedocbaaGreatDoorG02
import Derived.Test.YtecbcdfkedocbaaGreatDoorG03
namespace Go.Proofs.YtecbcdfkedocbaaGreatDoor
namespace Fm
set_option linter.unusedVariables false
def bt (n:Int):UInt8:=UInt8.ofNat (n % 256).toNat
theorem bt_toNat (n:Int):((bt n).toNat:Int)=n % 256:=by
 unfold bt
 have h0:0≤n % 256:=Int.emod_nonneg _ (by omega)
 have h1:n % 256<256:=Int.emod_lt_of_pos _ (by omega)
 simp
 omega
theorem bt_of (b:UInt8):bt (b.toNat:Int)=b:=by
 apply UInt8.toNat_inj.1
 have:=bt_toNat (b.toNat:Int)
 have hb:=b.toNat_lt
 omega
abbrev Ps (α:Type):=List UInt8→Option (α × List UInt8)
def pbind {α γ:Type} (p:Ps α) (q:α→Ps γ):Ps γ:=fun s=>(p s).bind fun x=>q x.1 x.2
def ppure {α:Type} (x:α):Ps α:=fun s=>some (x,s)
def pfail {α:Type}:Ps α:=fun _=>none
structure Codec {α:Type} (p:Ps α) (put:α→List UInt8) (fine:α→Prop):Prop where
 back:∀ x r,fine x→p (put x++r)=some (x,r)
 only:∀ s x r,p s=some (x,r)→fine x∧s=put x++r
theorem Codec.bind {α γ:Type} {p:Ps α} {q:α→Ps γ} {put1:α→List UInt8} {put2:γ→List UInt8} {fine1:α→Prop} {fine2:γ→Prop} {fine:γ→Prop} {put:γ→List UInt8} (key:γ→α)
  (hp:Codec p put1 fine1) (hq:∀ a,fine1 a→Codec (q a) put2 (fun x=>key x=a∧fine2 x)) (hf:∀ x,fine x↔fine1 (key x)∧fine2 x) (hput:∀ x,fine x→put x=put1 (key x)++put2 x):Codec (pbind p q) put fine:=by
 constructor
 ·intro x r hx
  obtain ⟨h1,h2⟩:=(hf x).1 hx
  unfold pbind
  rw [hput x hx,List.append_assoc,hp.back _ _ h1]
  exact (hq _ h1).back x r ⟨rfl,h2⟩
 ·intro s x r h
  unfold pbind at h
  obtain ⟨⟨a,r1⟩,h1,h2⟩:=Option.bind_eq_some_iff.1 h
  obtain ⟨f1,e1⟩:=hp.only _ _ _ h1
  obtain ⟨⟨k,f2⟩,e2⟩:=(hq a f1).only _ _ _ h2
  subst k
  have hx:fine x:=(hf x).2 ⟨f1,f2⟩
  simp only at e2
  exact ⟨hx,by rw [e1,e2,hput x hx,List.append_assoc]⟩
theorem Codec.pure {α:Type} {x:α} {put:α→List UInt8} {fine:α→Prop} (hf:∀ y,fine y↔y=x) (hput:put x=[]):Codec (ppure x) put fine:=by
 constructor
 ·intro y r hy
  rw [(hf y).1 hy,hput];rfl
 ·intro s y r h
  unfold ppure at h
  cases h
  exact ⟨(hf _).2 rfl,by rw [hput];rfl⟩
theorem Codec.fail {α:Type} {put:α→List UInt8} {fine:α→Prop} (hf:∀ y,¬fine y):Codec (pfail) put fine:=
 ⟨fun y r hy=>absurd hy (hf y),fun s y r h=>by cases h⟩
def in1 (n:Int):Prop:=0≤n∧n<256
def in2 (n:Int):Prop:=0≤n∧n<65536
instance (n:Int):Decidable (in1 n):=inferInstanceAs (Decidable (_∧_))
instance (n:Int):Decidable (in2 n):=inferInstanceAs (Decidable (_∧_))
def one (n:Int):List UInt8:=[bt n]
def two (n:Int):List UInt8:=[bt (n / 256),bt n]
def rOne:Ps Int
 | []=>none
 | b :: r=>some (b.toNat,r)
def rTwo:Ps Int:=pbind rOne fun a=>pbind rOne fun b=>ppure (a*256+b)
theorem rTwo_cons (a b:UInt8) (r:List UInt8):rTwo (a :: b :: r)=some ((a.toNat:Int)*256+b.toNat,r):=rfl
theorem codecOne:Codec rOne one in1:=by
 constructor
 ·intro x r hx
  have:=bt_toNat x
  unfold in1 at hx
  simp only [one,List.cons_append,List.nil_append,rOne]
  rw [show ((bt x).toNat:Int)=x by omega]
 ·intro s x r h
  cases s with
  | nil=>cases h
  | cons b s=>
   simp only [rOne,Option.some.injEq,Prod.mk.injEq] at h
   obtain ⟨rfl,rfl⟩:=h
   have hb:=b.toNat_lt
   refine ⟨by unfold in1;omega, ?_⟩
   simp [one,bt_of]
theorem codecTwo:Codec rTwo two in2:=by
 constructor
 ·intro x r hx
  have h1:=bt_toNat x
  have h2:=bt_toNat (x / 256)
  unfold in2 at hx
  simp only [two,List.cons_append,List.nil_append,rTwo_cons]
  rw [show ((bt (x / 256)).toNat:Int)*256+(bt x).toNat=x by omega]
 ·intro s x r h
  match s with
  | []=>cases h
  | [a]=>cases h
  | a :: b :: s=>
   simp only [rTwo_cons,Option.some.injEq,Prod.mk.injEq] at h
   obtain ⟨rfl,rfl⟩:=h
   have ha:=a.toNat_lt
   have hb:=b.toNat_lt
   refine ⟨by unfold in2;omega, ?_⟩
   have e1:((a.toNat:Int)*256+b.toNat) / 256=a.toNat:=by omega
   have e2:bt ((a.toNat:Int)*256+b.toNat)=b:=by
    apply UInt8.toNat_inj.1
    have:=bt_toNat ((a.toNat:Int)*256+b.toNat)
    omega
   simp [two,e1,e2,bt_of]
def rText (n:Int):Ps ByteArray:=fun s=>if n≤s.length then some (⟨(s.take n.toNat).toArray⟩,s.drop n.toNat) else none
theorem codecText (n:Int) (hn:0≤n):Codec (rText n) (fun b=>b.data.toList) (fun b=>(b.size:Int)=n):=by
 constructor
 ·intro x r hx
  have hs:x.data.toList.length=x.size:=by simp
  unfold rText
  rw [if_pos (by rw [List.length_append];omega)]
  have e1:(x.data.toList++r).take n.toNat=x.data.toList:=List.take_left' (by omega)
  have e2:(x.data.toList++r).drop n.toNat=r:=List.drop_left' (by omega)
  rw [e1,e2]
 ·intro s x r h
  unfold rText at h
  split at h
  ·rename_i hl
   simp only [Option.some.injEq,Prod.mk.injEq] at h
   obtain ⟨rfl,rfl⟩:=h
   refine ⟨?_,by simp⟩
   simp [ByteArray.size];omega
  ·cases h
def rMany {α:Type} (p:Ps α):Nat→Ps (List α)
 | 0=>ppure []
 | n+1=>pbind (rMany p n) fun xs=>pbind p fun x=>ppure (xs++[x])
theorem codecMany {α:Type} {p:Ps α} {put:α→List UInt8} {fine:α→Prop} (h:Codec p put fine):∀ n,Codec (rMany p n) (fun xs=>xs.flatMap put) (fun xs=>xs.length=n∧∀ x∈xs,fine x)
 | 0=>Codec.pure (fun y=>by
   constructor
   ·rintro ⟨h1,_⟩;exact List.eq_nil_of_length_eq_zero h1
   ·rintro rfl;simp) rfl
 | n+1=>by
  have ih:=codecMany h n
  constructor
  ·intro xs r ⟨hl,hx⟩
   have hne:xs≠[]:=by intro e;subst e;simp at hl
   obtain ⟨ys,y,rfl⟩:∃ ys y,xs=ys++[y]:=⟨_,_,(List.dropLast_concat_getLast hne).symm⟩
   have hyl:ys.length=n:=by simpa using hl
   simp only [rMany,pbind]
   rw [List.flatMap_append,List.append_assoc,ih.back ys _ ⟨hyl,fun x hx'=>hx x (by simp [hx'])⟩]
   simp only [Option.bind_some,List.flatMap_cons,List.flatMap_nil,List.append_nil]
   rw [h.back y r (hx y (by simp))]
   rfl
  ·intro s xs r hs
   simp only [rMany,pbind] at hs
   obtain ⟨⟨ys,r1⟩,h1,h2⟩:=Option.bind_eq_some_iff.1 hs
   obtain ⟨⟨y,r2⟩,h3,h4⟩:=Option.bind_eq_some_iff.1 h2
   simp only [ppure,Option.some.injEq,Prod.mk.injEq] at h4
   obtain ⟨rfl,rfl⟩:=h4
   obtain ⟨⟨f1,f2⟩,e1⟩:=ih.only _ _ _ h1
   obtain ⟨f3,e2⟩:=h.only _ _ _ h3
   simp only at e2 f3
   refine ⟨⟨by simp [f1],fun x hx=>?_⟩, ?_⟩
   ·rcases List.mem_append.1 hx with hx|hx
    ·exact f2 x hx
    ·simp at hx;subst hx;exact f3
   ·rw [e1,e2];simp
theorem rMany_none {α:Type} {p:Ps α} {s:List UInt8} {k:Nat} (h:rMany p k s=none):∀ n,k≤n→rMany p n s=none:=by
 intro n hn
 induction n with
 | zero=>rw [show k=0 by omega] at h;exact h
 | succ n ih=>
  by_cases e:k=n+1
  ·rw [← e];exact h
  ·simp only [rMany,pbind];rw [ih (by omega)];rfl
def rCount (most:Int):Ps Int:=pbind rOne fun n=>if n≤most then ppure n else pfail
def rList {α:Type} (most:Int) (p:Ps α):Ps (List α):=pbind (rCount most) fun n=>rMany p n.toNat
def putL {α:Type} (put:α→List UInt8) (xs:List α):List UInt8:=one xs.length++xs.flatMap put
def fineL {α:Type} (most:Int) (fine:α→Prop) (xs:List α):Prop:=(xs.length:Int)≤most∧∀ x∈xs,fine x
theorem codecCount (most:Int):Codec (rCount most) one (fun n=>in1 n∧n≤most):=by
 refine Codec.bind (put2:=fun _=>[]) (fine2:=fun n=>n≤most) (fun n=>n) codecOne ?_ (fun x=>Iff.rfl) (fun x _=>by simp)
 intro a ha
 by_cases h:a≤most
 ·rw [if_pos h]
  exact Codec.pure (fun y=>by constructor<;>(intro h;try subst h)<;>simp_all) rfl
 ·rw [if_neg h]
  exact Codec.fail (fun y=>by rintro ⟨rfl,h2⟩;exact h h2)
theorem codecList {α:Type} {p:Ps α} {put:α→List UInt8} {fine:α→Prop} (most:Int) (hm:most<256) (h:Codec p put fine):Codec (rList most p) (putL put) (fineL most fine):=by
 refine Codec.bind (put2:=fun xs=>xs.flatMap put) (fine2:=fun xs=>∀ x∈xs,fine x) (fun xs=>(xs.length:Int)) (codecCount most) ?_ (fun x=>?_) (fun x _=>rfl)
 ·intro n hn
  have hc:=codecMany h n.toNat
  constructor
  ·rintro xs r ⟨h1,h2⟩
   exact hc.back xs r ⟨by omega,h2⟩
  ·intro s xs r hs
   obtain ⟨⟨h1,h2⟩,h3⟩:=hc.only _ _ _ hs
   exact ⟨⟨by unfold in1 at hn;omega,h2⟩,h3⟩
 ·unfold fineL in1
  constructor
  ·rintro ⟨h1,h2⟩;exact ⟨⟨by omega,by omega⟩,h2⟩
  ·rintro ⟨h1,h2⟩;exact ⟨by omega,h2⟩
def rKind:Ps MKind:=pbind rOne fun t=>if t≤3 then (if t=3 then pbind rTwo fun c=>ppure ⟨t,c⟩ else ppure ⟨t,0⟩) else pfail
def putK (k:MKind):List UInt8:=one k.tag++(if k.tag=3 then two k.cls else [])
def fineK (k:MKind):Prop:=(0≤k.tag∧k.tag≤3)∧(if k.tag=3 then in2 k.cls else k.cls=0)
theorem codecKind:Codec rKind putK fineK:=by
 refine Codec.bind (put2:=fun k=>if k.tag=3 then two k.cls else []) (fine2:=fun k=>k.tag≤3∧(if k.tag=3 then in2 k.cls else k.cls=0)) MKind.tag codecOne ?_ (fun x=>?_) (fun x _=>rfl)
 ·intro t ht
  by_cases h3:t≤3
  ·rw [if_pos h3]
   by_cases h:t=3
   ·rw [if_pos h]
    refine Codec.bind (put2:=fun _=>[]) (fine2:=fun k=>k.tag=t) MKind.cls codecTwo ?_ (fun x=>?_) (fun x hx=>?_)
    ·intro c _
     exact Codec.pure (fun y=>by cases y;simp;constructor<;>(rintro ⟨h1,h2⟩;exact ⟨h2,h1⟩)) rfl
    ·constructor
     ·rintro ⟨h1,h2,h4⟩;rw [if_pos (h1.trans h)] at h4;exact ⟨h4,h1⟩
     ·rintro ⟨h1,h2⟩;refine ⟨h2,by omega, ?_⟩;rw [if_pos (h2.trans h)];exact h1
    ·rw [if_pos (hx.1.trans h)];simp
   ·rw [if_neg h]
    refine Codec.pure (fun y=>?_) (by simp [h])
    cases y with
    | mk a b=>
     simp only [MKind.mk.injEq]
     constructor
     ·rintro ⟨h1,h2,h4⟩;subst h1;rw [if_neg h] at h4;exact ⟨rfl,h4⟩
     ·rintro ⟨h1,h2⟩;subst h1;rw [if_neg h];exact ⟨rfl,h3,h2⟩
  ·rw [if_neg h3]
   exact Codec.fail (fun y=>by rintro ⟨h1,h2,_⟩;omega)
 ·unfold fineK in1
  constructor
  ·rintro ⟨⟨h1,h2⟩,h4⟩;exact ⟨⟨h1,by omega⟩,h2,h4⟩
  ·rintro ⟨⟨h1,_⟩,h2,h4⟩;exact ⟨⟨h1,h2⟩,h4⟩
def rKinds:Ps (List MKind):=rList 8 rKind
def putKs:List MKind→List UInt8:=putL putK
def fineKs:List MKind→Prop:=fineL 8 fineK
theorem codecKinds:Codec rKinds putKs fineKs:=codecList 8 (by omega) codecKind
def rFrame:Ps MFrame:=pbind rTwo fun a=>pbind rKinds fun l=>pbind rKinds fun s=>ppure ⟨a,l,s⟩
def putF (f:MFrame):List UInt8:=two f.at_++(putKs f.locals++putKs f.stack)
def fineF (f:MFrame):Prop:=in2 f.at_∧fineKs f.locals∧fineKs f.stack
theorem codecFrame:Codec rFrame putF fineF:=by
 refine Codec.bind (put2:=fun f=>putKs f.locals++putKs f.stack) (fine2:=fun f=>fineKs f.locals∧fineKs f.stack) MFrame.at_ codecTwo (fun a _=>?_) (fun x=>Iff.rfl) (fun x _=>rfl)
 refine Codec.bind (put2:=fun f=>putKs f.stack) (fine2:=fun f=>f.at_=a∧fineKs f.stack) MFrame.locals codecKinds (fun l _=>?_) (fun x=>by constructor<;>(rintro ⟨h1,h2,h3⟩;exact ⟨h2,h1,h3⟩)) (fun x _=>rfl)
 refine Codec.bind (put2:=fun f=>[]) (fine2:=fun f=>f.at_=a∧f.locals=l) MFrame.stack codecKinds (fun s _=>?_) (fun x=>by constructor<;>(rintro ⟨h1,h2,h3⟩;first|exact ⟨h3,h2,h1⟩|exact ⟨h3,h2,h1⟩)) (fun x _=>by simp)
 exact Codec.pure (fun y=>by cases y;simp;constructor<;>(rintro ⟨h1,h2,h3⟩;first|exact ⟨h2,h3,h1⟩|exact ⟨h3,h1,h2⟩)) rfl
def rTrap:Ps MTrap:=pbind rTwo fun a=>pbind rTwo fun b=>pbind rTwo fun c=>pbind rTwo fun d=>ppure ⟨a,b,c,d⟩
def putT (t:MTrap):List UInt8:=two t.from_++(two t.to_++(two t.at_++two t.cls))
def fineT (t:MTrap):Prop:=in2 t.from_∧in2 t.to_∧in2 t.at_∧in2 t.cls
theorem codecTrap:Codec rTrap putT fineT:=by
 refine Codec.bind (put2:=fun t=>two t.to_++(two t.at_++two t.cls)) (fine2:=fun t=>in2 t.to_∧in2 t.at_∧in2 t.cls) MTrap.from_ codecTwo (fun a _=>?_) (fun x=>Iff.rfl) (fun x _=>rfl)
 refine Codec.bind (put2:=fun t=>two t.at_++two t.cls) (fine2:=fun t=>t.from_=a∧in2 t.at_∧in2 t.cls) MTrap.to_ codecTwo (fun b _=>?_) (fun x=>by constructor<;>(rintro ⟨h1,h2,h3⟩;exact ⟨h2,h1,h3⟩)) (fun x _=>rfl)
 refine Codec.bind (put2:=fun t=>two t.cls) (fine2:=fun t=>t.from_=a∧t.to_=b∧in2 t.cls) MTrap.at_ codecTwo (fun c _=>?_) (fun x=>by constructor<;>(rintro ⟨h1,h2,h3,h4⟩;first|exact ⟨h3,h2,h1,h4⟩|exact ⟨h3,h2,h1,h4⟩)) (fun x _=>rfl)
 refine Codec.bind (put2:=fun t=>[]) (fine2:=fun t=>t.from_=a∧t.to_=b∧t.at_=c) MTrap.cls codecTwo (fun d _=>?_) (fun x=>by constructor<;>(rintro ⟨h1,h2,h3,h4⟩;first|exact ⟨h4,h2,h3,h1⟩|exact ⟨h4,h2,h3,h1⟩)) (fun x _=>by simp)
 exact Codec.pure (fun y=>by cases y;simp;constructor<;>(rintro ⟨h1,h2,h3,h4⟩;first|exact ⟨h2,h3,h4,h1⟩|exact ⟨h4,h1,h2,h3⟩)) rfl
def rField:Ps MField:=pbind rOne fun a=>pbind rTwo fun b=>pbind rTwo fun c=>ppure ⟨a,b,c⟩
def putFd (t:MField):List UInt8:=one t.flags++(two t.name++two t.typ)
def fineFd (t:MField):Prop:=in1 t.flags∧in2 t.name∧in2 t.typ
theorem codecField:Codec rField putFd fineFd:=by
 refine Codec.bind (put2:=fun t=>two t.name++two t.typ) (fine2:=fun t=>in2 t.name∧in2 t.typ) MField.flags codecOne (fun a _=>?_) (fun x=>Iff.rfl) (fun x _=>rfl)
 refine Codec.bind (put2:=fun t=>two t.typ) (fine2:=fun t=>t.flags=a∧in2 t.typ) MField.name codecTwo (fun b _=>?_) (fun x=>by constructor<;>(rintro ⟨h1,h2,h3⟩;exact ⟨h2,h1,h3⟩)) (fun x _=>rfl)
 refine Codec.bind (put2:=fun t=>[]) (fine2:=fun t=>t.flags=a∧t.name=b) MField.typ codecTwo (fun c _=>?_) (fun x=>by constructor<;>(rintro ⟨h1,h2,h3⟩;exact ⟨h3,h2,h1⟩)) (fun x _=>by simp)
 exact Codec.pure (fun y=>by cases y;simp;constructor<;>(rintro ⟨h1,h2,h3⟩;first|exact ⟨h2,h3,h1⟩|exact ⟨h3,h1,h2⟩)) rfl
def empty:ByteArray:=⟨#[]⟩
def rEntry:Ps C4:=pbind rOne fun k=>
 if k=1 then pbind rOne (fun n=>pbind (rText n) fun t=>ppure ⟨k,t,0,0⟩)
 else if k=2 then pbind rTwo fun a=>ppure ⟨k,empty,a,0⟩
 else if 3≤k∧k≤6 then pbind rTwo fun a=>pbind rTwo fun b=>ppure ⟨k,empty,a,b⟩
 else pfail
def putE (c:C4):List UInt8:=one c.kind++(if c.kind=1 then one c.text.size++c.text.data.toList else if c.kind=2 then two c.a else two c.a++two c.b)
def fineE2 (c:C4):Prop:=
 if c.kind=1 then in1 c.text.size∧c.a=0∧c.b=0 else if c.kind=2 then c.text=empty∧in2 c.a∧c.b=0 else if 3≤c.kind∧c.kind≤6 then c.text=empty∧in2 c.a∧in2 c.b else False
def fineE (c:C4):Prop:=in1 c.kind∧fineE2 c
theorem codecEntry:Codec rEntry putE fineE:=by
 refine Codec.bind (put2:=fun c=>(if c.kind=1 then one c.text.size++c.text.data.toList else if c.kind=2 then two c.a else two c.a++two c.b)) (fine2:=fineE2) C4.kind codecOne (fun k _=>?_) (fun x=>Iff.rfl) (fun x _=>rfl)
 by_cases h1:k=1
 ·rw [if_pos h1]
  refine Codec.bind (put2:=fun c=>c.text.data.toList) (fine2:=fun c=>c.kind=k∧c.a=0∧c.b=0) (fun c=>(c.text.size:Int)) codecOne (fun n hn=>?_) (fun x=>?_) (fun x hx=>?_)
  ·refine Codec.bind (put2:=fun _=>[]) (fine2:=fun c=>c.kind=k∧c.a=0∧c.b=0) C4.text (codecText n hn.1) (fun t _=>?_) (fun x=>Iff.rfl) (fun x _=>by simp)
   exact Codec.pure (fun y=>by cases y;simp;constructor<;>(rintro ⟨h1,h2,h3,h4⟩;first|exact ⟨h2,h1,h3,h4⟩|exact ⟨h2,h1,h3,h4⟩)) rfl
  ·unfold fineE2
   constructor
   ·rintro ⟨a,b⟩;rw [if_pos (a.trans h1)] at b;exact ⟨b.1,a,b.2⟩
   ·rintro ⟨a,b,c⟩;rw [if_pos (b.trans h1)];exact ⟨b,a,c⟩
  ·rw [if_pos (hx.1.trans h1)]
 ·rw [if_neg h1]
  by_cases h2:k=2
  ·rw [if_pos h2]
   refine Codec.bind (put2:=fun _=>[]) (fine2:=fun c=>c.kind=k∧c.text=empty∧c.b=0) C4.a codecTwo (fun a _=>?_) (fun x=>?_) (fun x hx=>?_)
   ·exact Codec.pure (fun y=>by cases y;simp;constructor<;>(rintro ⟨h1,h2,h3,h4⟩;first|exact ⟨h2,h3,h1,h4⟩|exact ⟨h3,h1,h2,h4⟩)) rfl
   ·unfold fineE2
    constructor
    ·rintro ⟨a,b⟩;rw [if_neg (by omega),if_pos (a.trans h2)] at b;exact ⟨b.2.1,a,b.1,b.2.2⟩
    ·rintro ⟨a,b,c,d⟩;rw [if_neg (by omega),if_pos (b.trans h2)];exact ⟨b,c,a,d⟩
   ·rw [if_neg (by have:=hx.1;omega),if_pos (hx.1.trans h2)];simp
  ·rw [if_neg h2]
   by_cases h3:3≤k∧k≤6
   ·rw [if_pos h3]
    refine Codec.bind (put2:=fun c=>two c.b) (fine2:=fun c=>c.kind=k∧c.text=empty∧in2 c.b) C4.a codecTwo (fun a _=>?_) (fun x=>?_) (fun x hx=>?_)
    ·refine Codec.bind (put2:=fun _=>[]) (fine2:=fun c=>c.kind=k∧c.text=empty∧c.a=a) C4.b codecTwo (fun b _=>?_) (fun x=>?_) (fun x _=>by simp)
     ·exact Codec.pure (fun y=>by cases y;simp;constructor<;>(rintro ⟨h1,h2,h3,h4⟩;first|exact ⟨h2,h3,h4,h1⟩|exact ⟨h4,h1,h2,h3⟩)) rfl
     ·constructor
      ·rintro ⟨a,b,c,d⟩;exact ⟨d,b,c,a⟩
      ·rintro ⟨a,b,c,d⟩;exact ⟨d,b,c,a⟩
    ·unfold fineE2
     constructor
     ·rintro ⟨a,b⟩;rw [if_neg (by omega),if_neg (by omega),if_pos (by omega)] at b;exact ⟨b.2.1,a,b.1,b.2.2⟩
     ·rintro ⟨a,b,c,d⟩;rw [if_neg (by omega),if_neg (by omega),if_pos (by omega)];exact ⟨b,c,a,d⟩
    ·rw [if_neg (by have:=hx.1;omega),if_neg (by have:=hx.1;omega)]
   ·rw [if_neg h3]
    refine Codec.fail (fun y=>?_)
    rintro ⟨a,b⟩
    unfold fineE2 at b
    rw [if_neg (by omega),if_neg (by omega),if_neg (by omega)] at b
    exact b
def absF (n:Int):Prop:=n % 16 / 8=1
instance (n:Int):Decidable (absF n):=inferInstanceAs (Decidable (_=_))
def rCode:Ps ByteArray:=pbind rTwo fun n=>if n≤120 then rText n else pfail
def putCode (b:ByteArray):List UInt8:=two b.size++b.data.toList
def fineCode (b:ByteArray):Prop:=(b.size:Int)≤120
theorem codecCode:Codec rCode putCode fineCode:=by
 refine Codec.bind (put2:=fun b=>b.data.toList) (fine2:=fineCode) (fun b=>(b.size:Int)) codecTwo (fun n hn=>?_) (fun x=>?_) (fun x _=>rfl)
 ·by_cases h:n≤120
  ·rw [if_pos h]
   have hc:=codecText n hn.1
   exact ⟨fun x r hx=>hc.back x r hx.1,fun s x r hs=>by obtain ⟨a,b⟩:=hc.only s x r hs;exact ⟨⟨a,by unfold fineCode;omega⟩,b⟩⟩
  ·rw [if_neg h]
   exact Codec.fail (fun y=>by rintro ⟨h1,h2⟩;unfold fineCode at h2;omega)
 ·unfold fineCode in2
  constructor
  ·intro h;exact ⟨by omega,h⟩
  ·exact fun h=>h.2
def rBody (a b c:Int):Ps MMethod:=pbind rOne fun d=>pbind rOne fun l=>pbind rCode fun code=>pbind (rList 3 rTrap) fun ts=>pbind (rList 8 rFrame) fun fs=>ppure ⟨a,b,c,d,l,code,ts,fs⟩
def putBody (m:MMethod):List UInt8:=one m.deep++(one m.locals++(putCode m.code++(putL putT m.traps++putL putF m.frames)))
def fineBody (m:MMethod):Prop:=in1 m.deep∧in1 m.locals∧fineCode m.code∧fineL 3 fineT m.traps∧fineL 8 fineF m.frames
set_option maxHeartbeats 1000000 in
theorem codecBody (a b c:Int):Codec (rBody a b c) putBody (fun m=>(m.flags=a∧m.name=b∧m.desc=c)∧fineBody m):=by
 refine Codec.bind (put2:=fun m=>one m.locals++(putCode m.code++(putL putT m.traps++putL putF m.frames))) (fine2:=fun m=>(m.flags=a∧m.name=b∧m.desc=c)∧in1 m.locals∧fineCode m.code∧fineL 3 fineT m.traps∧fineL 8 fineF m.frames) MMethod.deep codecOne (fun d _=>?_) (fun x=>by unfold fineBody;constructor<;>(rintro ⟨h1,h2,h3⟩;exact ⟨h2,h1,h3⟩)) (fun x _=>rfl)
 refine Codec.bind (put2:=fun m=>putCode m.code++(putL putT m.traps++putL putF m.frames)) (fine2:=fun m=>(m.flags=a∧m.name=b∧m.desc=c)∧m.deep=d∧fineCode m.code∧fineL 3 fineT m.traps∧fineL 8 fineF m.frames) MMethod.locals codecOne (fun l _=>?_) (fun x=>by constructor<;>(rintro ⟨h1,h2,h3,h4⟩;exact ⟨h3,h2,h1,h4⟩)) (fun x _=>rfl)
 refine Codec.bind (put2:=fun m=>putL putT m.traps++putL putF m.frames) (fine2:=fun m=>(m.flags=a∧m.name=b∧m.desc=c)∧(m.deep=d∧m.locals=l)∧fineL 3 fineT m.traps∧fineL 8 fineF m.frames) MMethod.code codecCode (fun cd _=>?_) (fun x=>by
  constructor
  ·rintro ⟨h1,h2,h3,h4,h5⟩;exact ⟨h4,h2,⟨h3,h1⟩,h5⟩
  ·rintro ⟨h4,h2,⟨h3,h1⟩,h5⟩;exact ⟨h1,h2,h3,h4,h5⟩) (fun x _=>rfl)
 refine Codec.bind (put2:=fun m=>putL putF m.frames) (fine2:=fun m=>(m.flags=a∧m.name=b∧m.desc=c)∧(m.deep=d∧m.locals=l∧m.code=cd)∧fineL 8 fineF m.frames) MMethod.traps (codecList 3 (by omega) codecTrap) (fun ts _=>?_) (fun x=>by
  constructor
  ·rintro ⟨h1,h2,⟨h3,h4⟩,h5,h6⟩;exact ⟨h5,h2,⟨h3,h4,h1⟩,h6⟩
  ·rintro ⟨h5,h2,⟨h3,h4,h1⟩,h6⟩;exact ⟨h1,h2,⟨h3,h4⟩,h5,h6⟩) (fun x _=>rfl)
 refine Codec.bind (put2:=fun m=>[]) (fine2:=fun m=>(m.flags=a∧m.name=b∧m.desc=c)∧(m.deep=d∧m.locals=l∧m.code=cd∧m.traps=ts)) MMethod.frames (codecList 8 (by omega) codecFrame) (fun fs _=>?_) (fun x=>by
  constructor
  ·rintro ⟨h1,h2,⟨h3,h4,h5⟩,h6⟩;exact ⟨h6,h2,h3,h4,h5,h1⟩
  ·rintro ⟨h6,h2,h3,h4,h5,h1⟩;exact ⟨h1,h2,⟨h3,h4,h5⟩,h6⟩) (fun x _=>by simp)
 exact Codec.pure (fun y=>by
  cases y;simp
  constructor
  ·rintro ⟨h1,⟨h2,h3,h4⟩,h5,h6,h7,h8⟩;exact ⟨h2,h3,h4,h5,h6,h7,h8,h1⟩
  ·rintro ⟨h2,h3,h4,h5,h6,h7,h8,h1⟩;exact ⟨h1,⟨h2,h3,h4⟩,h5,h6,h7,h8⟩) rfl
def bare (m:MMethod):Prop:=m.deep=0∧m.locals=0∧m.code=empty∧m.traps=[]∧m.frames=[]
def rMethod:Ps MMethod:=pbind rOne fun a=>pbind rTwo fun b=>pbind rTwo fun c=>if absF a then ppure ⟨a,b,c,0,0,empty,[],[]⟩ else rBody a b c
def putM (m:MMethod):List UInt8:=one m.flags++(two m.name++(two m.desc++(if absF m.flags then [] else putBody m)))
def fineM2 (m:MMethod):Prop:=if absF m.flags then bare m else fineBody m
def fineM (m:MMethod):Prop:=in1 m.flags∧in2 m.name∧in2 m.desc∧fineM2 m
theorem codecMethod:Codec rMethod putM fineM:=by
 refine Codec.bind (put2:=fun m=>two m.name++(two m.desc++(if absF m.flags then [] else putBody m))) (fine2:=fun m=>in2 m.name∧in2 m.desc∧fineM2 m) MMethod.flags codecOne (fun a _=>?_) (fun x=>Iff.rfl) (fun x _=>rfl)
 refine Codec.bind (put2:=fun m=>two m.desc++(if absF m.flags then [] else putBody m)) (fine2:=fun m=>m.flags=a∧in2 m.desc∧fineM2 m) MMethod.name codecTwo (fun b _=>?_) (fun x=>by constructor<;>(rintro ⟨h1,h2,h3⟩;exact ⟨h2,h1,h3⟩)) (fun x _=>rfl)
 refine Codec.bind (put2:=fun m=>(if absF m.flags then [] else putBody m)) (fine2:=fun m=>(m.flags=a∧m.name=b)∧fineM2 m) MMethod.desc codecTwo (fun c _=>?_) (fun x=>by
  constructor
  ·rintro ⟨h1,h2,h3,h4⟩;exact ⟨h3,⟨h2,h1⟩,h4⟩
  ·rintro ⟨h3,⟨h2,h1⟩,h4⟩;exact ⟨h1,h2,h3,h4⟩) (fun x _=>rfl)
 by_cases h:absF a
 ·rw [if_pos h]
  refine Codec.pure (fun y=>?_) (by simp [h])
  cases y
  simp only [MMethod.mk.injEq,fineM2,bare]
  constructor
  ·rintro ⟨rfl,⟨rfl,rfl⟩,h2⟩;rw [if_pos h] at h2;exact ⟨rfl,rfl,rfl,h2⟩
  ·rintro ⟨rfl,rfl,rfl,h2⟩;rw [if_pos h];exact ⟨rfl,⟨rfl,rfl⟩,h2⟩
 ·rw [if_neg h]
  have hc:=codecBody a b c
  constructor
  ·rintro x r ⟨h1,⟨h2,h3⟩,h4⟩
   unfold fineM2 at h4
   rw [if_neg (by rw [h2];exact h)] at h4
   rw [if_neg (by rw [h2];exact h)]
   exact hc.back x r ⟨⟨h2,h3,h1⟩,h4⟩
  ·intro s x r hs
   obtain ⟨⟨⟨h1,h2,h3⟩,h4⟩,h5⟩:=hc.only _ _ _ hs
   refine ⟨⟨h3,⟨h1,h2⟩, ?_⟩, ?_⟩
   ·unfold fineM2;rw [if_neg (by rw [h1];exact h)];exact h4
   ·rw [if_neg (by rw [h1];exact h)];exact h5
def mark:List UInt8:=[83,84,79,87]
def rMark:Ps Unit:=pbind (rText 4) fun t=>if t=⟨mark.toArray⟩ then ppure () else pfail
theorem codecMark:Codec rMark (fun _=>mark) (fun _=>True):=by
 constructor
 ·intro x r _
  unfold rMark pbind rText
  rw [if_pos (by simp [mark];omega)]
  simp [mark,ppure]
 ·intro s x r h
  unfold rMark pbind at h
  obtain ⟨⟨t,r1⟩,h1,h2⟩:=Option.bind_eq_some_iff.1 h
  obtain ⟨_,e⟩:=(codecText 4 (by omega)).only _ _ _ h1
  simp only at h2
  split at h2
  ·rename_i ht
   simp only [ppure,Option.some.injEq,Prod.mk.injEq] at h2
   refine ⟨trivial, ?_⟩
   rw [e,← h2.2]
   rw [ht]
  ·cases h2
def rClass:Ps MClass:=pbind rMark fun _=>pbind (rList 60 rEntry) fun p=>pbind rOne fun f=>pbind rTwo fun n=>pbind rTwo fun s=>pbind (rList 3 rTwo) fun i=>pbind (rList 5 rField) fun d=>pbind (rList 6 rMethod) fun m=>ppure ⟨p,f,n,s,i,d,m⟩
def putC (c:MClass):List UInt8:=mark++(putL putE c.pool++(one c.flags++(two c.name++(two c.super++(putL two c.faces++(putL putFd c.fields++putL putM c.methods))))))
def fineC (c:MClass):Prop:=fineL 60 fineE c.pool∧in1 c.flags∧in2 c.name∧in2 c.super∧fineL 3 in2 c.faces∧fineL 5 fineFd c.fields∧fineL 6 fineM c.methods
theorem codecClass:Codec rClass putC fineC:=by
 refine Codec.bind (put2:=fun c=>putL putE c.pool++(one c.flags++(two c.name++(two c.super++(putL two c.faces++(putL putFd c.fields++putL putM c.methods)))))) (fine2:=fineC) (fun _=>()) codecMark (fun a _=>?_) (fun x=>by simp) (fun x _=>rfl)
 refine Codec.bind (put2:=fun c=>one c.flags++(two c.name++(two c.super++(putL two c.faces++(putL putFd c.fields++putL putM c.methods))))) (fine2:=fun c=>in1 c.flags∧in2 c.name∧in2 c.super∧fineL 3 in2 c.faces∧fineL 5 fineFd c.fields∧fineL 6 fineM c.methods) MClass.pool (codecList 60 (by omega) codecEntry) (fun p _=>?_) (fun x=>by simp [fineC]) (fun x _=>rfl)
 refine Codec.bind (put2:=fun c=>two c.name++(two c.super++(putL two c.faces++(putL putFd c.fields++putL putM c.methods)))) (fine2:=fun c=>c.pool=p∧in2 c.name∧in2 c.super∧fineL 3 in2 c.faces∧fineL 5 fineFd c.fields∧fineL 6 fineM c.methods) MClass.flags codecOne (fun f _=>?_) (fun x=>by constructor<;>(rintro ⟨h1,h2,h3⟩;exact ⟨h2,h1,h3⟩)) (fun x _=>rfl)
 refine Codec.bind (put2:=fun c=>two c.super++(putL two c.faces++(putL putFd c.fields++putL putM c.methods))) (fine2:=fun c=>(c.pool=p∧c.flags=f)∧in2 c.super∧fineL 3 in2 c.faces∧fineL 5 fineFd c.fields∧fineL 6 fineM c.methods) MClass.name codecTwo (fun n _=>?_) (fun x=>by
  constructor
  ·rintro ⟨h1,h2,h3,h4⟩;exact ⟨h3,⟨h2,h1⟩,h4⟩
  ·rintro ⟨h3,⟨h2,h1⟩,h4⟩;exact ⟨h1,h2,h3,h4⟩) (fun x _=>rfl)
 refine Codec.bind (put2:=fun c=>putL two c.faces++(putL putFd c.fields++putL putM c.methods)) (fine2:=fun c=>(c.pool=p∧c.flags=f∧c.name=n)∧fineL 3 in2 c.faces∧fineL 5 fineFd c.fields∧fineL 6 fineM c.methods) MClass.super codecTwo (fun s _=>?_) (fun x=>by
  constructor
  ·rintro ⟨h1,⟨h2,h3⟩,h4,h5⟩;exact ⟨h4,⟨h2,h3,h1⟩,h5⟩
  ·rintro ⟨h4,⟨h2,h3,h1⟩,h5⟩;exact ⟨h1,⟨h2,h3⟩,h4,h5⟩) (fun x _=>rfl)
 refine Codec.bind (put2:=fun c=>putL putFd c.fields++putL putM c.methods) (fine2:=fun c=>(c.pool=p∧c.flags=f∧c.name=n∧c.super=s)∧fineL 5 fineFd c.fields∧fineL 6 fineM c.methods) MClass.faces (codecList 3 (by omega) codecTwo) (fun i _=>?_) (fun x=>by
  constructor
  ·rintro ⟨h1,⟨h2,h3,h4⟩,h5,h6⟩;exact ⟨h5,⟨h2,h3,h4,h1⟩,h6⟩
  ·rintro ⟨h5,⟨h2,h3,h4,h1⟩,h6⟩;exact ⟨h1,⟨h2,h3,h4⟩,h5,h6⟩) (fun x _=>rfl)
 refine Codec.bind (put2:=fun c=>putL putM c.methods) (fine2:=fun c=>(c.pool=p∧c.flags=f∧c.name=n∧c.super=s∧c.faces=i)∧fineL 6 fineM c.methods) MClass.fields (codecList 5 (by omega) codecField) (fun d _=>?_) (fun x=>by
  constructor
  ·rintro ⟨h1,⟨h2,h3,h4,h5⟩,h6,h7⟩;exact ⟨h6,⟨h2,h3,h4,h5,h1⟩,h7⟩
  ·rintro ⟨h6,⟨h2,h3,h4,h5,h1⟩,h7⟩;exact ⟨h1,⟨h2,h3,h4,h5⟩,h6,h7⟩) (fun x _=>rfl)
 refine Codec.bind (put2:=fun _=>[]) (fine2:=fun c=>c.pool=p∧c.flags=f∧c.name=n∧c.super=s∧c.faces=i∧c.fields=d) MClass.methods (codecList 6 (by omega) codecMethod) (fun m _=>?_) (fun x=>by
  constructor
  ·rintro ⟨h1,⟨h2,h3,h4,h5,h6⟩,h7⟩;exact ⟨h7,h2,h3,h4,h5,h6,h1⟩
  ·rintro ⟨h7,h2,h3,h4,h5,h6,h1⟩;exact ⟨h1,⟨h2,h3,h4,h5,h6⟩,h7⟩) (fun x _=>by simp)
 exact Codec.pure (fun y=>by
  cases y;simp
  constructor
  ·rintro ⟨h1,h2,h3,h4,h5,h6,h7⟩;exact ⟨h2,h3,h4,h5,h6,h7,h1⟩
  ·rintro ⟨h2,h3,h4,h5,h6,h7,h1⟩;exact ⟨h1,h2,h3,h4,h5,h6,h7⟩) rfl
def getC (s:ByteArray):Option MClass:=if s.size≤900 then (match rClass s.data.toList with|some (c,[])=>some c|_=>none) else none
theorem getC_iff (s:ByteArray) (c:MClass):getC s=some c↔s.size≤900∧fineC c∧s.data.toList=putC c:=by
 unfold getC
 constructor
 ·intro h
  split at h
  ·rename_i hs
   split at h
   ·rename_i c' hr
    cases h
    obtain ⟨h1,h2⟩:=codecClass.only _ _ _ hr
    exact ⟨hs,h1,by simpa using h2⟩
   ·cases h
  ·cases h
 ·rintro ⟨h1,h2,h3⟩
  have:=codecClass.back c [] h2
  rw [List.append_nil] at this
  rw [if_pos h1,h3,this]
end Fm
open Go.RowKit Fm
set_option maxHeartbeats 1000000
set_option linter.unusedVariables false
def Rd {α:Type} (p:Ps α) (st:Option (List UInt8)) (x:α) (st':Option (List UInt8)):Prop:=
 match st with
 | none=>st'=none
 | some s=>match p s with|none=>st'=none|some y=>x=y.1∧st'=some y.2
theorem Rd.bad {α:Type} {p:Ps α} {x:α}:Rd p none x none:=rfl
theorem Rd.of_none {α:Type} {p:Ps α} {x:α} {st':Option (List UInt8)} (h:Rd p none x st'):st'=none:=h
theorem Rd.ok {α:Type} {p:Ps α} {s r:List UInt8} {x:α} (h:p s=some (x,r)):Rd p (some s) x (some r):=by
 unfold Rd;simp [h]
theorem Rd.no {α:Type} {p:Ps α} {s:List UInt8} {x:α} (h:p s=none):Rd p (some s) x none:=by
 unfold Rd;simp [h]
theorem Rd.bind {α γ:Type} {p:Ps α} {q:α→Ps γ} {st st1 st2:Option (List UInt8)} {a:α} {x:γ} (h1:Rd p st a st1) (h2:Rd (q a) st1 x st2):Rd (pbind p q) st x st2:=by
 cases st with
 | none=>
  have e:=h1.of_none
  subst e
  have e:=h2.of_none
  subst e
  exact Rd.bad
 | some s=>
  unfold Rd at h1
  unfold Rd pbind
  cases hp:p s with
  | none=>
   simp only [hp] at h1
   subst h1
   have e:=h2.of_none
   subst e
   simp [hp]
  | some y=>
   simp only [hp] at h1
   obtain ⟨rfl,rfl⟩:=h1
   simpa [Rd,hp] using h2
theorem Rd.pure {α:Type} {x:α} {st:Option (List UInt8)}:Rd (ppure x) st x st:=by
 cases st with
 | none=>rfl
 | some s=>exact ⟨rfl,rfl⟩
theorem Rd.fail {α:Type} {x:α} {st:Option (List UInt8)}:Rd pfail st x none:=by
 cases st with
 | none=>rfl
 | some s=>rfl
theorem Rd.any {α:Type} {p:Ps α} {st:Option (List UInt8)} {x y:α} (h:Rd p st x none):Rd p st y none:=by
 cases st with
 | none=>exact h
 | some s=>
  cases hp:p s with
  | none=>exact Rd.no hp
  | some z=>simp [Rd,hp] at h
theorem Rd.many_none {α:Type} {p:Ps α} {st:Option (List UInt8)} {xs ys:List α} {k n:Nat} (h:Rd (rMany p k) st xs none) (hk:k≤n):Rd (rMany p n) st ys none:=by
 cases st with
 | none=>rfl
 | some s=>
  cases hp:rMany p k s with
  | none=>exact Rd.no (rMany_none hp n hk)
  | some z=>simp [Rd,hp] at h
theorem Rd.got {α:Type} {p:Ps α} {st:Option (List UInt8)} {x:α} {r:List UInt8} (h:Rd p st x (some r)):∃ s,st=some s∧p s=some (x,r):=by
 cases st with
 | none=>exact absurd (Rd.of_none h) (by simp)
 | some s=>
  cases hp:p s with
  | none=>simp [Rd,hp] at h
  | some y=>
   simp [Rd,hp] at h
   obtain ⟨rfl,rfl⟩:=h
   exact ⟨s,rfl,hp⟩
def RdAt (w:World) (b:Nat) (s:ByteArray) (st:Option (List UInt8)):Prop:=
 ∃ a:Nat,a≤s.size∧w.heap[b]? = some (.cells #[.string s,.int .i64 a,.bool st.isNone] 160 (0,0))∧∀ r,st=some r→r=s.data.toList.drop a
theorem RdAt.lt {w:World} {b:Nat} {s:ByteArray} {st:Option (List UInt8)} (h:RdAt w b s st):b<w.heap.size:=by
 obtain ⟨a,_,h,_⟩:=h
 exact (Array.getElem?_eq_some_iff.1 h).1
theorem RdAt.keep {w w':World} {b:Nat} {s:ByteArray} {st:Option (List UInt8)} (h:RdAt w b s st) (hb:Below w.heap.size w w'):RdAt w' b s st:=by
 have hl:=h.lt
 obtain ⟨a,h1,h2,h3⟩:=h
 exact ⟨a,h1,(hb.block b hl).trans h2,h3⟩
theorem RdAt.cells {w:World} {b:Nat} {s:ByteArray} {st:Option (List UInt8)} (h:RdAt w b s st):∃ a:Nat,a≤s.size∧(∀ r,st=some r→r=s.data.toList.drop a) ∧
  w.cell? ⟨b,0,none⟩=some (.string s)∧w.cell? ⟨b,1,none⟩=some (.int .i64 a)∧w.cell? ⟨b,2,none⟩=some (.bool st.isNone)∧(∀ j,w.frozen? ⟨b,j,none⟩=false) ∧
  (RdAt (w.setCell ⟨b,2,none⟩ (.bool true)) b s none)∧(∀ (n:Nat) (r:List UInt8),a+n≤s.size→r=s.data.toList.drop (a+n)→st≠none→RdAt (w.setCell ⟨b,1,none⟩ (.int .i64 ((a:Int)+n))) b s (some r)):=by
 obtain ⟨a,h1,h2,h3⟩:=h
 refine ⟨a,h1,h3, ?_, ?_, ?_,fun j=>Lib.frozen_of_heap h2 j,⟨a,h1, ?_,fun r hr=>by cases hr⟩,fun n r hn hr hst=>⟨a+n,hn, ?_,fun r' hr'=>by cases hr';exact hr⟩⟩
 ·rw [Lib.cell_of_heap h2];rfl
 ·rw [Lib.cell_of_heap h2];rfl
 ·rw [Lib.cell_of_heap h2];rfl
 ·simp [World.setCell,Array.getElem?_modify,h2]
 ·cases st with
  | none=>exact absurd rfl hst
  | some r'=>simp [World.setCell,Array.getElem?_modify,h2]
theorem drop_cons {s:ByteArray} {a:Nat} {c:UInt8} {r:List UInt8} (h:c :: r=s.data.toList.drop a):∃ ha:a<s.size,s[a]=c∧r=s.data.toList.drop (a+1):=by
 have hl:a<s.data.toList.length:=by
  rcases Nat.lt_or_ge a s.data.toList.length with h'|h'
  ·exact h'
  ·rw [List.drop_eq_nil_of_le h'] at h;cases h
 rw [List.drop_eq_getElem_cons hl] at h
 injection h with h1 h2
 refine ⟨by simpa using hl, ?_,h2⟩
 rw [h1];rfl
theorem RdAt.setBad {w:World} {b:Nat} {s:ByteArray} {st:Option (List UInt8)} (h:RdAt w b s st):∀ W,Below w.heap.size w W→RdAt (W.setCell ⟨b,2,none⟩ (.bool true)) b s none∧w.grownBy (W.setCell ⟨b,2,none⟩ (.bool true)) (some b):=fun W hW=>by
 obtain ⟨_,_,_,_,_,_,_,h1,_⟩:=(h.keep hW).cells
 exact ⟨h1,grown_trans (below_grow hW) grown_set⟩
theorem RdAt.setAt {w:World} {b:Nat} {s:ByteArray} {r0:List UInt8} {a:Nat} (h:RdAt w b s (some r0)) (ha:w.cell? ⟨b,1,none⟩=some (.int .i64 a)) (n:Nat) (i:Int) (hi:i=(a:Int)+n) (r:List UInt8) (hn:a+n≤s.size) (hr:r=s.data.toList.drop (a+n)) :
  ∀ W,Below w.heap.size w W→RdAt (W.setCell ⟨b,1,none⟩ (.int .i64 i)) b s (some r)∧w.grownBy (W.setCell ⟨b,1,none⟩ (.int .i64 i)) (some b):=fun W hW=>by
 subst hi
 have hl:=h.lt
 obtain ⟨a',_,_,_,h1,_,_,_,h2⟩:=(h.keep hW).cells
 have e:a'=a:=by
  have:=(hb_cell hW hl).symm.trans h1
  rw [ha] at this
  simp at this
  omega
 subst e
 exact ⟨h2 n r hn hr (by simp),grown_trans (below_grow hW) grown_set⟩
theorem l1one_any (b:Nat) (s:ByteArray) (st:Option (List UInt8)) (w:World) (hs:s.size≤1000000000) (h:RdAt w b s st) :
  Calls Tryz.prog 156 #[.pointer (some ⟨b,0,none⟩)] w fun e w'=>∃ (x:Nat) (st':Option (List UInt8)),e=.returned (.int .i64 x)∧x<256∧RdAt w' b s st'∧w.grownBy w' (some b)∧Rd rOne st x st':=by
 obtain ⟨a,ha,hr,c0,c1,c2,fz,_,_⟩:=h.cells
 have f1:=fz 1
 have f2:=fz 2
 cases st with
 | none=>
  simp only [Option.isNone_none] at c2
  have HB:=hid h.setBad
  clear hr h fz
  go_enter Tryz.func156,Tryz.ntmps156
  go_wp2
  go_quiet (fail)
  go_wp2
  go_ret
  exact ⟨0,none,rfl,by omega,(HB.out _ (below_drewN (Below.refl _ _) _)).1,(HB.out _ (below_drewN (Below.refl _ _) _)).2,Rd.bad⟩
 | some r=>
  have hr':=hr r rfl
  simp only [Option.isNone_some] at c2
  cases r with
  | nil=>
   have hae:a=s.size:=by
    have:=congrArg List.length hr'
    simp at this
    omega
   subst hae
   have HB:=hid h.setBad
   clear hr h fz hr' ha
   go_enter Tryz.func156,Tryz.ntmps156
   go_wp2
   go_quiet (fail)
   go_wp2
   go_ret
   exact ⟨0,none,rfl,by omega,(HB.out _ (below_drewN (Below.refl _ _) _)).1,(HB.out _ (below_drewN (Below.refl _ _) _)).2,Rd.no rfl⟩
  | cons c r=>
   obtain ⟨hlt,hc,hr2⟩:=drop_cons hr'
   have HB:=hid (h.setAt c1 1 ((a:Int)+1) rfl r (by omega) hr2)
   have HC:=(show Hid (s[a]=c) from hc)
   have hb':=c.toNat_lt
   clear hr h fz hr' hr2 hc ha
   go_enter Tryz.func156,Tryz.ntmps156
   go_wp2
   go_quiet (fail)
   go_wp2
   go_quiet (fail)
   go_wp2
   go_ret
   have hW:=fun n=>HB.out _ (below_drewN (Below.refl _ _) n)
   refine ⟨c.toNat,some r,ret_i64 ?_,by omega,(hW _).1.keep (below_drewN (Below.refl _ _) _),grown_trans (hW _).2 (below_grow (below_drewN (Below.refl _ _) _)),Rd.ok rfl⟩
   rw [HC.out]
   unfold wrap64
   omega
theorem l1two_any (b:Nat) (s:ByteArray) (st:Option (List UInt8)) (w:World) (hs:s.size≤1000000000) (h:RdAt w b s st) :
  Calls Tryz.prog 157 #[.pointer (some ⟨b,0,none⟩)] w fun e w'=>∃ (x:Nat) (st':Option (List UInt8)),e=.returned (.int .i64 x)∧x<65536∧RdAt w' b s st'∧w.grownBy w' (some b)∧Rd rTwo st x st':=by
 have H1:=fun st w h=>l1one_any b s st w hs h
 have HH:=hid h
 clear h
 go_enter Tryz.func157,Tryz.ntmps157
 go_wp2_with fail
 refine (H1 _ _ HH.out).mono ?_
 rintro e w1 ⟨x,st1,rfl,hx,h1,g1,r1⟩
 go_wp2_with fail
 refine (H1 _ _ h1).mono ?_
 rintro e w2 ⟨y,st2,rfl,hy,h2,g2,r2⟩
 have HR:=hid (show Rd rTwo st ((x*256+y:Nat):Int) st2 from r1.bind (r2.bind (by
  rw [show (((x*256+y:Nat)):Int)=(x:Int)*256+y by omega];exact Rd.pure)))
 have HG:=hid (grown_trans g1 g2)
 have HA:=hid h2
 clear r1 r2 g1 g2 h1 h2 HH H1
 go_wp2
 go_ret
 exact ⟨x*256+y,st2,ret_i64 (by go_num),by omega,HA.out,HG.out,HR.out⟩
theorem drop_take {s:ByteArray} {a n:Nat} (hn:a+n≤s.size):(⟨((s.data.toList.drop a).take n).toArray⟩:ByteArray)=s.extract a (a+n):=by
 apply ByteArray.ext
 apply Array.ext'
 simp [ByteArray.data_extract,Array.toList_extract,List.extract_eq_take_drop]
theorem l1text_any (b:Nat) (s:ByteArray) (st:Option (List UInt8)) (n:Nat) (w:World) (hs:s.size≤1000000000) (hn:n≤1000000) (h:RdAt w b s st) :
  Calls Tryz.prog 154 #[.pointer (some ⟨b,0,none⟩),.int .i64 n] w fun e w'=>∃ (x:ByteArray) (st':Option (List UInt8)),e=.returned (.string x)∧x.size≤n∧RdAt w' b s st'∧w.grownBy w' (some b)∧Rd (rText n) st x st':=by
 obtain ⟨a,ha,hr,c0,c1,c2,fz,_,_⟩:=h.cells
 have f1:=fz 1
 have f2:=fz 2
 cases st with
 | none=>
  simp only [Option.isNone_none] at c2
  have HB:=hid h.setBad
  clear hr h fz
  go_enter Tryz.func154,Tryz.ntmps154
  go_wp2
  go_quiet (fail)
  go_wp2
  go_ret
  exact ⟨⟨#[]⟩,none,rfl,Nat.zero_le _,(HB.out _ (below_drewN (Below.refl _ _) _)).1,(HB.out _ (below_drewN (Below.refl _ _) _)).2,Rd.bad⟩
 | some r=>
  have hr':=hr r rfl
  simp only [Option.isNone_some] at c2
  by_cases hl:a+n≤s.size
  ·have HB:=hid (h.setAt c1 n ((a:Int)+n) rfl (s.data.toList.drop (a+n)) hl rfl)
   have HR:=hid (show Rd (rText n) (some r) (s.extract a (a+n)) (some (s.data.toList.drop (a+n))) from Rd.ok (by
    unfold rText
    subst hr'
    rw [if_pos (by simp;omega)]
    simp only [Int.toNat_natCast,List.drop_drop]
    rw [drop_take hl]))
   clear hr h fz hr'
   go_enter Tryz.func154,Tryz.ntmps154
   go_wp2
   go_quiet (fail)
   go_wp2
   go_quiet (fail)
   go_wp2
   go_ret
   have hW:=fun n=>HB.out _ (below_drewN (Below.refl _ _) n)
   exact ⟨s.extract a (a+n),_,rfl,by simp [ByteArray.size_extract];omega,(hW _).1.keep (below_drewN (Below.refl _ _) _),grown_trans (hW _).2 (below_grow (below_drewN (Below.refl _ _) _)),HR.out⟩
  ·have HB:=hid h.setBad
   have HR:=hid (show Rd (rText n) (some r) ⟨#[]⟩ none from Rd.no (by
    unfold rText
    subst hr'
    rw [if_neg (by simp;omega)]))
   clear hr h fz hr'
   go_enter Tryz.func154,Tryz.ntmps154
   go_wp2
   go_quiet (fail)
   go_wp2
   go_ret
   exact ⟨⟨#[]⟩,none,rfl,Nat.zero_le _,(HB.out _ (below_drewN (Below.refl _ _) _)).1,(HB.out _ (below_drewN (Below.refl _ _) _)).2,HR.out⟩
theorem app_grown {w w1 w2:World} {b:Nat} {o:Obj} {v:Value} (h:w.grownBy w1 (some b)) (hv:∀ k,v.ownBlock=some k→w.heap.size≤k) (hg:(w1.alloc o).grownBy w2 v.ownBlock):w.grownBy w2 (some b):=by
 refine ⟨hg.os.trans h.os,hg.tape.trans h.tape,hg.output.trans h.output,Nat.le_trans h.size (Nat.le_trans (by simp) hg.size),fun k hk hkb=>?_⟩
 rw [hg.block k (by have:=h.size;simp;omega) (fun e=>by have:=hv k e.symm;omega),Below.heap_alloc w1 o k (Nat.lt_of_lt_of_le hk h.size)]
 exact h.block k hk hkb
theorem RdAt.app {w1 w2:World} {b:Nat} {o:Obj} {v:Value} {s:ByteArray} {st:Option (List UInt8)} (h:RdAt w1 b s st) (hv:v.ownBlock≠some b) (hg:(w1.alloc o).grownBy w2 v.ownBlock):RdAt w2 b s st:=by
 have hl:=h.lt
 obtain ⟨a,h1,h2,h3⟩:=h
 refine ⟨a,h1, ?_,h3⟩
 rw [hg.block b (by simp;omega) (fun e=>hv e.symm),Below.heap_alloc w1 o b hl]
 exact h2
structure St (w:World) (b:Nat) (s:ByteArray) (st:Option (List UInt8)) (W:World):Prop where
 rd:RdAt W b s st
 grow:w.grownBy W (some b)
 old:b<w.heap.size
theorem St.start {w:World} {b:Nat} {s:ByteArray} {st:Option (List UInt8)} (h:RdAt w b s st):St w b s st w:=⟨h,grown_refl _ _,h.lt⟩
theorem St.call {w:World} {b:Nat} {s:ByteArray} {st st':Option (List UInt8)} {W W':World} (h:St w b s st W) (h1:RdAt W' b s st') (h2:W.grownBy W' (some b)):St w b s st' W':=⟨h1,grown_trans h.grow h2,h.old⟩
theorem St.keep {w:World} {b:Nat} {s:ByteArray} {st:Option (List UInt8)} {W W':World} (h:St w b s st W) (hb:Below W.heap.size W W'):St w b s st W':=h.call (h.rd.keep hb) (below_grow hb)
theorem St.alloc {w:World} {b:Nat} {s:ByteArray} {st:Option (List UInt8)} {W:World} (h:St w b s st W) (o:Obj):St w b s st (W.alloc o):=h.keep ((Below.refl _ _).alloc (Nat.le_refl _) _)
theorem St.set {w:World} {b:Nat} {s:ByteArray} {st:Option (List UInt8)} {W:World} (h:St w b s st W) {a:Addr} {u:Value} (ha:w.heap.size≤a.block):St w b s st (W.setCell a u):=by
 have ho:=h.old
 obtain ⟨q,h1,h2,h3⟩:=h.rd
 refine ⟨⟨q,h1, ?_,h3⟩,⟨h.grow.os,h.grow.tape,h.grow.output,by have:=h.grow.size;simp [World.setCell];omega,fun k hk hkb=>?_⟩,ho⟩
 ·rw [Below.heap_setCell _ _ _ _ (by omega)];exact h2
 ·rw [Below.heap_setCell _ _ _ _ (by omega)];exact h.grow.block k hk hkb
theorem St.bad {w:World} {b:Nat} {s:ByteArray} {st:Option (List UInt8)} {W:World} (h:St w b s st W):St w b s none (W.setCell ⟨b,2,none⟩ (.bool true)):=by
 obtain ⟨h1,h2⟩:=h.rd.setBad W (Below.refl _ _)
 exact h.call h1 h2
theorem St.fin {α:Type} {p:Ps α} {t:α} {w:World} {b:Nat} {s:ByteArray} {st st':Option (List UInt8)} {W:World} (h:St w b s st' W) (hr:Rd p st t st'):RdAt W b s st'∧w.grownBy W (some b)∧Rd p st t st':=⟨h.rd,h.grow,hr⟩
theorem St.size {w:World} {b:Nat} {s:ByteArray} {st:Option (List UInt8)} {W:World} (h:St w b s st W):w.heap.size≤W.heap.size:=h.grow.size
theorem St.app {w w1 w2:World} {b:Nat} {s:ByteArray} {st:Option (List UInt8)} {o:Obj} {v:Value} (h:St w b s st w1) (hv:∀ k,v.ownBlock=some k→w.heap.size≤k) (hg:(w1.alloc o).grownBy w2 v.ownBlock):St w b s st w2:=
 ⟨h.rd.app (fun e=>by have:=hv _ e;have:=h.old;omega) hg,app_grown h.grow hv hg,h.old⟩
theorem l1entry_any (b:Nat) (s:ByteArray) (st:Option (List UInt8)) (w:World) (hs:s.size≤1000000000) (h:RdAt w b s st) :
  Calls Tryz.prog 199 #[.pointer (some ⟨b,0,none⟩)] w fun e w'=>∃ (t:C4) (st':Option (List UInt8)),e=.returned (.agg #[.int .i64 t.kind,.string t.text,.int .i64 t.a,.int .i64 t.b])∧t.text.size≤255∧RdAt w' b s st'∧w.grownBy w' (some b)∧Rd rEntry st t st':=by
 have H1:=fun st w h=>l1one_any b s st w hs h
 have H2:=fun st w h=>l1two_any b s st w hs h
 have H3:=fun st n w hn h=>l1text_any b s st n w hs hn h
 have S0:=St.start h
 have K0:=Lk.new w #[.int .i64 0,.string ⟨#[]⟩,.int .i64 0,.int .i64 0] 40
 have HB:=h.lt
 clear h
 go_enter Tryz.func199,Tryz.ntmps199
 go_wp2_with fail
 refine (H1 _ _ (S0.alloc _).rd).mono ?_
 rintro e w1 ⟨k,st1,rfl,hk,h1,g1,r1⟩
 have S1:=(S0.alloc _).call h1 g1
 have K1:=K0.call g1 (by omega)
 have HZ:=K1.lt
 have R1:=hid r1
 clear h1 g1 r1 S0 K0
 by_cases k1:k=1
 ·subst k1
  go_wp2_with fail
  refine (H1 _ _ (S1.alloc _).rd).mono ?_
  rintro e w2 ⟨n,st2,rfl,hn,h2,g2,r2⟩
  have S2:=(S1.alloc _).call h2 g2
  have K2:=(K1.alloc _).call g2 (by omega)
  have C2:=(Lk.new w1 _ _).call g2 (by omega)
  go_wp2_with fail
  refine (H3 _ _ _ (by omega) S2.rd).mono ?_
  rintro e w3 ⟨x,st3,rfl,hx,h3,g3,r3⟩
  have HS:=hid (S2.call h3 g3)
  have K3:=K2.call g3 (by omega)
  have C3:=C2.call g3 (by omega)
  obtain ⟨p0,p1,p2,p3,y0,y1,y2,y3⟩:=K3.c4
  obtain ⟨q0,q1,q2,q3,z0,z1,z2,z3⟩:=C3.c4
  have hne:w1.heap.size≠w.heap.size:=by omega
  have HR:=hid (show Rd rEntry st ⟨1,x,0,0⟩ st3 from by
   refine R1.out.bind ?_
   rw [if_pos (by simp)]
   refine r2.bind ?_
   refine r3.bind ?_
   exact Rd.pure)
  clear S1 S2 R1 h2 g2 r2 h3 g3 r3 H1 H2 H3 K1 K2 K3 C2 C3
  go_wp2
  refine bodyPost_ret (v:=.agg #[.int .i64 1,.string x,.int .i64 0,.int .i64 0]) (by simp [results,Tryz.results199,go_sem,p0,p1,p2,p3]) rfl ?_
  refine ⟨⟨1,x,0,0⟩,st3,rfl,(by show x.size≤255;omega),St.fin ?_ HR.out⟩
  repeat' (first|refine St.set ?_ (by dsimp only;omega)|exact HS.out)
 ·by_cases k2:k=2
  ·subst k2
   go_wp2_with fail
   refine (H2 _ _ (S1.alloc _).rd).mono ?_
   rintro e w2 ⟨x,st2,rfl,hx,h2,g2,r2⟩
   have S2:=(S1.alloc _).call h2 g2
   have K2:=(K1.alloc _).call g2 (by omega)
   have C2:=(Lk.new w1 _ _).call g2 (by omega)
   have HS:=hid S2
   obtain ⟨p0,p1,p2,p3,y0,y1,y2,y3⟩:=K2.c4
   obtain ⟨q0,q1,q2,q3,z0,z1,z2,z3⟩:=C2.c4
   have hne:w1.heap.size≠w.heap.size:=by omega
   have HR:=hid (show Rd rEntry st ⟨2,empty,x,0⟩ st2 from by
    refine R1.out.bind ?_
    rw [if_neg (by simp),if_pos (by simp)]
    refine r2.bind ?_
    exact Rd.pure)
   clear S1 S2 R1 h2 g2 r2 H1 H2 H3 K1 K2 C2
   go_wp2
   refine bodyPost_ret (v:=.agg #[.int .i64 2,.string empty,.int .i64 x,.int .i64 0]) (by simp [results,Tryz.results199,go_sem,empty,p0,p1,p2,p3]) rfl ?_
   refine ⟨⟨2,empty,x,0⟩,st2,rfl,Nat.zero_le _,St.fin ?_ HR.out⟩
   repeat' (first|refine St.set ?_ (by dsimp only;omega)|exact HS.out)
  ·by_cases k3:3≤k∧k≤6
   ·have HK:∀ w2 x st2 y st3,Rd rTwo st1 x st2→Rd rTwo st2 y st3→St w b s st3 w2→Hid (Rd rEntry st ⟨k,empty,x,y⟩ st3):=fun w2 x st2 y st3 r2 r3 _=>by
     refine R1.out.bind ?_
     rw [if_neg (by omega),if_neg (by omega),if_pos (by omega)]
     refine r2.bind ?_
     refine r3.bind ?_
     exact Rd.pure
    have k4:k=3∨k=4∨k=5∨k=6:=by omega
    clear k1 k2 k3 R1
    obtain ⟨Z,HZ2⟩:∃ Z:Int,Hid (Z=(k:Int)):=⟨_,rfl⟩
    rcases k4 with rfl|rfl|rfl|rfl
    all_goals
     go_wp2_with fail
     refine (H2 _ _ (S1.alloc _).rd).mono ?_
     rintro e w2 ⟨x,st2,rfl,hx,h2,g2,r2⟩
     have S2:=(S1.alloc _).call h2 g2
     have K2:=(K1.alloc _).call g2 (by omega)
     have C2:=(Lk.new w1 _ _).call g2 (by omega)
     obtain ⟨q0,q1,q2,q3,z0,z1,z2,z3⟩:=C2.c4
     have hne:w1.heap.size≠w.heap.size:=by omega
     have S3:=S2.set (a:=⟨w1.heap.size,2,none⟩) (u:=.int .i64 x) (by dsimp only;omega)
     go_wp2_with fail
     refine (H2 _ _ S3.rd).mono ?_
     rintro e w3 ⟨y,st3,rfl,hy,h3,g3,r3⟩
     have HS:=hid (S3.call h3 g3)
     have HR:=HK w3 _ _ _ _ r2 r3 HS.out
     have K3:=(K2.other (a:=⟨w1.heap.size,2,none⟩) (.int .i64 x) (by dsimp only;omega)).call g3 (by omega)
     have C3:=(C2.set 2 (.int .i64 x) rfl).call g3 (by omega)
     clear q0 q1 q2 q3 z0 z1 z2 z3
     obtain ⟨p0,p1,p2,p3,y0,y1,y2,y3⟩:=K3.c4
     obtain ⟨q0,q1,q2,q3,z0,z1,z2,z3⟩:=C3.c4
     clear S1 S2 S3 h2 g2 r2 h3 g3 r3 H1 H2 H3 K1 K2 C2 K3 C3 HK
     go_wp2
     refine bodyPost_ret (v:=.agg #[.int .i64 Z,.string empty,.int .i64 x,.int .i64 y]) (by simp [results,Tryz.results199,go_sem,empty,p0,p1,p2,p3,HZ2.out]) rfl ?_
     refine ⟨⟨Z,empty,x,y⟩,st3,rfl,Nat.zero_le _,St.fin ?_ (by rw [HZ2.out];exact HR.out)⟩
     repeat' (first|refine St.set ?_ (by dsimp only;omega)|exact HS.out)
   ·have HR:=hid (show Rd rEntry st ⟨k,empty,0,0⟩ none from by
     refine R1.out.bind ?_
     rw [if_neg (by omega),if_neg (by omega),if_neg (by omega)]
     exact Rd.fail)
    have e1:((k:Int)==1)=false:=by rw [beq_eq_false_iff_ne];omega
    have e2:((k:Int)==2)=false:=by rw [beq_eq_false_iff_ne];omega
    have e3:((k:Int)==3)=false:=by rw [beq_eq_false_iff_ne];omega
    have e4:((k:Int)==4)=false:=by rw [beq_eq_false_iff_ne];omega
    have e5:((k:Int)==5)=false:=by rw [beq_eq_false_iff_ne];omega
    have e6:((k:Int)==6)=false:=by rw [beq_eq_false_iff_ne];omega
    have HS:=hid S1
    obtain ⟨p0,p1,p2,p3,y0,y1,y2,y3⟩:=K1.c4
    obtain ⟨a,ha,hr,c0,c1,c2,fz,hu1,hu2⟩:=S1.rd.cells
    obtain ⟨_,_,_,_,_,d2,dz,_,_⟩:=(S1.alloc (.cells #[.int .i64 (k:Int),.string ⟨#[]⟩,.int .i64 0,.int .i64 0] 40)).rd.cells
    have f2:=fz 2
    have f3:=dz 2
    clear hu1 hu2 c0 c1 hr ha dz
    have hne:w1.heap.size≠w.heap.size:=by omega
    have hnb:¬b=w1.heap.size:=by omega
    have hnc:¬w.heap.size=b:=by omega
    have hnd:¬w.heap.size=w1.heap.size:=by omega
    have hnf:¬w1.heap.size=b:=by omega
    obtain ⟨t0,t1,t2,t3,x0,x1,x2,x3⟩:=((K1.alloc (.cells #[.int .i64 (k:Int),.string ⟨#[]⟩,.int .i64 0,.int .i64 0] 40)).other (a:=⟨b,2,none⟩) (.bool true) hnc).c4
    clear S1 R1 H1 H2 H3 K1 k1 k2 k3 fz
    go_wp2
    refine bodyPost_ret (v:=.agg #[.int .i64 k,.string empty,.int .i64 0,.int .i64 0]) (by simp [results,Tryz.results199,go_sem,empty,t0,t1,t2,t3]) rfl ?_
    refine ⟨⟨k,empty,0,0⟩,none,rfl,Nat.zero_le _,St.fin ?_ HR.out⟩
    repeat' (first|exact (HS.out.alloc _).bad|refine St.set ?_ (by dsimp only;omega))
end Go.Proofs.YtecbcdfkedocbaaGreatDoor
