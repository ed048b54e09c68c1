/- What a file says, as functions on classes: what is written, what can be written, what is read; each read back as it was written. Nothing of the program is named here. -/
import Derived.Test.YtnjfaikhiimdjaaRowClass
namespace Go.Proofs.Ytnjfaikhiimdjaa
namespace Fm
set_option linter.unusedVariables false

/-- a byte of a number -/
def bt (n : Int) : UInt8 := UInt8.ofNat (n % 256).toNat
theorem bt_toNat (n : Int) : ((bt n).toNat : Int) = n % 256 := by
  unfold bt
  have h0 : 0 ≤ n % 256 := Int.emod_nonneg _ (by omega)
  have h1 : n % 256 < 256 := Int.emod_lt_of_pos _ (by omega)
  simp
  omega
theorem bt_of (b : UInt8) : bt (b.toNat : Int) = b := by
  apply UInt8.toNat_inj.1
  have := bt_toNat (b.toNat : Int)
  have hb := b.toNat_lt
  omega

abbrev Ps (α : Type) := List UInt8 → Option (α × List UInt8)
def pbind {α γ : Type} (p : Ps α) (q : α → Ps γ) : Ps γ := fun s => (p s).bind fun x => q x.1 x.2
def ppure {α : Type} (x : α) : Ps α := fun s => some (x, s)
def pfail {α : Type} : Ps α := fun _ => none
/-- what is written is read back, and what is read was written -/
structure Codec {α : Type} (p : Ps α) (put : α → List UInt8) (fine : α → Prop) : Prop where
  back : ∀ x r, fine x → p (put x ++ r) = some (x, r)
  only : ∀ s x r, p s = some (x, r) → fine x ∧ s = put x ++ r

theorem Codec.bind {α γ : Type} {p : Ps α} {q : α → Ps γ} {put1 : α → List UInt8} {put2 : γ → List UInt8} {fine1 : α → Prop} {fine2 : γ → Prop} {fine : γ → Prop} {put : γ → List UInt8} (key : γ → α)
    (hp : Codec p put1 fine1) (hq : ∀ a, fine1 a → Codec (q a) put2 (fun x => key x = a ∧ fine2 x)) (hf : ∀ x, fine x ↔ fine1 (key x) ∧ fine2 x) (hput : ∀ x, fine x → put x = put1 (key x) ++ put2 x) : Codec (pbind p q) put fine := by
  constructor
  · intro x r hx
    obtain ⟨h1, h2⟩ := (hf x).1 hx
    unfold pbind
    rw [hput x hx, List.append_assoc, hp.back _ _ h1]
    exact (hq _ h1).back x r ⟨rfl, h2⟩
  · intro s x r h
    unfold pbind at h
    obtain ⟨⟨a, r1⟩, h1, h2⟩ := Option.bind_eq_some_iff.1 h
    obtain ⟨f1, e1⟩ := hp.only _ _ _ h1
    obtain ⟨⟨k, f2⟩, e2⟩ := (hq a f1).only _ _ _ h2
    subst k
    have hx : fine x := (hf x).2 ⟨f1, f2⟩
    simp only at e2
    exact ⟨hx, by rw [e1, e2, hput x hx, List.append_assoc]⟩
theorem Codec.pure {α : Type} {x : α} {put : α → List UInt8} {fine : α → Prop} (hf : ∀ y, fine y ↔ y = x) (hput : put x = []) : Codec (ppure x) put fine := by
  constructor
  · intro y r hy
    rw [(hf y).1 hy, hput]; rfl
  · intro s y r h
    unfold ppure at h
    cases h
    exact ⟨(hf _).2 rfl, by rw [hput]; rfl⟩
theorem Codec.fail {α : Type} {put : α → List UInt8} {fine : α → Prop} (hf : ∀ y, ¬ fine y) : Codec (pfail) put fine :=
  ⟨fun y r hy => absurd hy (hf y), fun s y r h => by cases h⟩

def in1 (n : Int) : Prop := 0 ≤ n ∧ n < 256
def in2 (n : Int) : Prop := 0 ≤ n ∧ n < 65536
instance (n : Int) : Decidable (in1 n) := inferInstanceAs (Decidable (_ ∧ _))
instance (n : Int) : Decidable (in2 n) := inferInstanceAs (Decidable (_ ∧ _))
def one (n : Int) : List UInt8 := [bt n]
def two (n : Int) : List UInt8 := [bt (n / 256), bt n]
def rOne : Ps Int
  | [] => none
  | b :: r => some (b.toNat, r)
def rTwo : Ps Int := pbind rOne fun a => pbind rOne fun b => ppure (a * 256 + b)
theorem rTwo_cons (a b : UInt8) (r : List UInt8) : rTwo (a :: b :: r) = some ((a.toNat : Int) * 256 + b.toNat, r) := rfl
theorem codecOne : Codec rOne one in1 := by
  constructor
  · intro x r hx
    have := bt_toNat x
    unfold in1 at hx
    simp only [one, List.cons_append, List.nil_append, rOne]
    rw [show ((bt x).toNat : Int) = x by omega]
  · intro s x r h
    cases s with
    | nil => cases h
    | cons b s =>
      simp only [rOne, Option.some.injEq, Prod.mk.injEq] at h
      obtain ⟨rfl, rfl⟩ := h
      have hb := b.toNat_lt
      refine ⟨by unfold in1; omega, ?_⟩
      simp [one, bt_of]
theorem codecTwo : Codec rTwo two in2 := by
  constructor
  · intro x r hx
    have h1 := bt_toNat x
    have h2 := bt_toNat (x / 256)
    unfold in2 at hx
    simp only [two, List.cons_append, List.nil_append, rTwo_cons]
    rw [show ((bt (x / 256)).toNat : Int) * 256 + (bt x).toNat = x by omega]
  · intro s x r h
    match s with
    | [] => cases h
    | [a] => cases h
    | a :: b :: s =>
      simp only [rTwo_cons, Option.some.injEq, Prod.mk.injEq] at h
      obtain ⟨rfl, rfl⟩ := h
      have ha := a.toNat_lt
      have hb := b.toNat_lt
      refine ⟨by unfold in2; omega, ?_⟩
      have e1 : ((a.toNat : Int) * 256 + b.toNat) / 256 = a.toNat := by omega
      have e2 : bt ((a.toNat : Int) * 256 + b.toNat) = b := by
        apply UInt8.toNat_inj.1
        have := bt_toNat ((a.toNat : Int) * 256 + b.toNat)
        omega
      simp [two, e1, e2, bt_of]
def rText (n : Int) : Ps ByteArray := fun s => if n ≤ s.length then some (⟨(s.take n.toNat).toArray⟩, s.drop n.toNat) else none
theorem codecText (n : Int) (hn : 0 ≤ n) : Codec (rText n) (fun b => b.data.toList) (fun b => (b.size : Int) = n) := by
  constructor
  · intro x r hx
    have hs : x.data.toList.length = x.size := by simp
    unfold rText
    rw [if_pos (by rw [List.length_append]; omega)]
    have e1 : (x.data.toList ++ r).take n.toNat = x.data.toList := List.take_left' (by omega)
    have e2 : (x.data.toList ++ r).drop n.toNat = r := List.drop_left' (by omega)
    rw [e1, e2]
  · intro s x r h
    unfold rText at h
    split at h
    · rename_i hl
      simp only [Option.some.injEq, Prod.mk.injEq] at h
      obtain ⟨rfl, rfl⟩ := h
      refine ⟨?_, by simp⟩
      simp [ByteArray.size]; omega
    · cases h

def rMany {α : Type} (p : Ps α) : Nat → Ps (List α)
  | 0 => ppure []
  | n + 1 => pbind (rMany p n) fun xs => pbind p fun x => ppure (xs ++ [x])
theorem codecMany {α : Type} {p : Ps α} {put : α → List UInt8} {fine : α → Prop} (h : Codec p put fine) : ∀ n, Codec (rMany p n) (fun xs => xs.flatMap put) (fun xs => xs.length = n ∧ ∀ x ∈ xs, fine x)
  | 0 => Codec.pure (fun y => by
      constructor
      · rintro ⟨h1, _⟩; exact List.eq_nil_of_length_eq_zero h1
      · rintro rfl; simp) rfl
  | n + 1 => by
    have ih := codecMany h n
    constructor
    · intro xs r ⟨hl, hx⟩
      have hne : xs ≠ [] := by intro e; subst e; simp at hl
      obtain ⟨ys, y, rfl⟩ : ∃ ys y, xs = ys ++ [y] := ⟨_, _, (List.dropLast_concat_getLast hne).symm⟩
      have hyl : ys.length = n := by simpa using hl
      simp only [rMany, pbind]
      rw [List.flatMap_append, List.append_assoc, ih.back ys _ ⟨hyl, fun x hx' => hx x (by simp [hx'])⟩]
      simp only [Option.bind_some, List.flatMap_cons, List.flatMap_nil, List.append_nil]
      rw [h.back y r (hx y (by simp))]
      rfl
    · intro s xs r hs
      simp only [rMany, pbind] at hs
      obtain ⟨⟨ys, r1⟩, h1, h2⟩ := Option.bind_eq_some_iff.1 hs
      obtain ⟨⟨y, r2⟩, h3, h4⟩ := Option.bind_eq_some_iff.1 h2
      simp only [ppure, Option.some.injEq, Prod.mk.injEq] at h4
      obtain ⟨rfl, rfl⟩ := h4
      obtain ⟨⟨f1, f2⟩, e1⟩ := ih.only _ _ _ h1
      obtain ⟨f3, e2⟩ := h.only _ _ _ h3
      simp only at e2 f3
      refine ⟨⟨by simp [f1], fun x hx => ?_⟩, ?_⟩
      · rcases List.mem_append.1 hx with hx | hx
        · exact f2 x hx
        · simp at hx; subst hx; exact f3
      · rw [e1, e2]; simp
theorem rMany_none {α : Type} {p : Ps α} {s : List UInt8} {k : Nat} (h : rMany p k s = none) : ∀ n, k ≤ n → rMany p n s = none := by
  intro n hn
  induction n with
  | zero => rw [show k = 0 by omega] at h; exact h
  | succ n ih =>
    by_cases e : k = n + 1
    · rw [← e]; exact h
    · simp only [rMany, pbind]; rw [ih (by omega)]; rfl

/-- a count, and so many -/
def rCount (most : Int) : Ps Int := pbind rOne fun n => if n ≤ most then ppure n else pfail
def rList {α : Type} (most : Int) (p : Ps α) : Ps (List α) := pbind (rCount most) fun n => rMany p n.toNat
def putL {α : Type} (put : α → List UInt8) (xs : List α) : List UInt8 := one xs.length ++ xs.flatMap put
def fineL {α : Type} (most : Int) (fine : α → Prop) (xs : List α) : Prop := (xs.length : Int) ≤ most ∧ ∀ x ∈ xs, fine x
theorem codecCount (most : Int) : Codec (rCount most) one (fun n => in1 n ∧ n ≤ most) := by
  refine Codec.bind (put2 := fun _ => []) (fine2 := fun n => n ≤ most) (fun n => n) codecOne ?_ (fun x => Iff.rfl) (fun x _ => by simp)
  intro a ha
  by_cases h : a ≤ most
  · rw [if_pos h]
    exact Codec.pure (fun y => by constructor <;> (intro h; try subst h) <;> simp_all) rfl
  · rw [if_neg h]
    exact Codec.fail (fun y => by rintro ⟨rfl, h2⟩; exact h h2)
theorem codecList {α : Type} {p : Ps α} {put : α → List UInt8} {fine : α → Prop} (most : Int) (hm : most < 256) (h : Codec p put fine) : Codec (rList most p) (putL put) (fineL most fine) := by
  refine Codec.bind (put2 := fun xs => xs.flatMap put) (fine2 := fun xs => ∀ x ∈ xs, fine x) (fun xs => (xs.length : Int)) (codecCount most) ?_ (fun x => ?_) (fun x _ => rfl)
  · intro n hn
    have hc := codecMany h n.toNat
    constructor
    · rintro xs r ⟨h1, h2⟩
      exact hc.back xs r ⟨by omega, h2⟩
    · intro s xs r hs
      obtain ⟨⟨h1, h2⟩, h3⟩ := hc.only _ _ _ hs
      exact ⟨⟨by unfold in1 at hn; omega, h2⟩, h3⟩
  · unfold fineL in1
    constructor
    · rintro ⟨h1, h2⟩; exact ⟨⟨by omega, by omega⟩, h2⟩
    · rintro ⟨h1, h2⟩; exact ⟨by omega, h2⟩

/- kinds -/
def rKind : Ps MKind := pbind rOne fun t => if t ≤ 3 then (if t = 3 then pbind rTwo fun c => ppure ⟨t, c⟩ else ppure ⟨t, 0⟩) else pfail
def putK (k : MKind) : List UInt8 := one k.tag ++ (if k.tag = 3 then two k.cls else [])
def fineK (k : MKind) : Prop := (0 ≤ k.tag ∧ k.tag ≤ 3) ∧ (if k.tag = 3 then in2 k.cls else k.cls = 0)
theorem codecKind : Codec rKind putK fineK := by
  refine Codec.bind (put2 := fun k => if k.tag = 3 then two k.cls else []) (fine2 := fun k => k.tag ≤ 3 ∧ (if k.tag = 3 then in2 k.cls else k.cls = 0)) MKind.tag codecOne ?_ (fun x => ?_) (fun x _ => rfl)
  · intro t ht
    by_cases h3 : t ≤ 3
    · rw [if_pos h3]
      by_cases h : t = 3
      · rw [if_pos h]
        refine Codec.bind (put2 := fun _ => []) (fine2 := fun k => k.tag = t) MKind.cls codecTwo ?_ (fun x => ?_) (fun x hx => ?_)
        · intro c _
          exact Codec.pure (fun y => by cases y; simp; constructor <;> (rintro ⟨h1, h2⟩; exact ⟨h2, h1⟩)) rfl
        · constructor
          · rintro ⟨h1, h2, h4⟩; rw [if_pos (h1.trans h)] at h4; exact ⟨h4, h1⟩
          · rintro ⟨h1, h2⟩; refine ⟨h2, by omega, ?_⟩; rw [if_pos (h2.trans h)]; exact h1
        · rw [if_pos (hx.1.trans h)]; simp
      · rw [if_neg h]
        refine Codec.pure (fun y => ?_) (by simp [h])
        cases y with
        | mk a b =>
          simp only [MKind.mk.injEq]
          constructor
          · rintro ⟨h1, h2, h4⟩; subst h1; rw [if_neg h] at h4; exact ⟨rfl, h4⟩
          · rintro ⟨h1, h2⟩; subst h1; rw [if_neg h]; exact ⟨rfl, h3, h2⟩
    · rw [if_neg h3]
      exact Codec.fail (fun y => by rintro ⟨h1, h2, _⟩; omega)
  · unfold fineK in1
    constructor
    · rintro ⟨⟨h1, h2⟩, h4⟩; exact ⟨⟨h1, by omega⟩, h2, h4⟩
    · rintro ⟨⟨h1, _⟩, h2, h4⟩; exact ⟨⟨h1, h2⟩, h4⟩
def rKinds : Ps (List MKind) := rList 8 rKind
def putKs : List MKind → List UInt8 := putL putK
def fineKs : List MKind → Prop := fineL 8 fineK
theorem codecKinds : Codec rKinds putKs fineKs := codecList 8 (by omega) codecKind

def rFrame : Ps MFrame := pbind rTwo fun a => pbind rKinds fun l => pbind rKinds fun s => ppure ⟨a, l, s⟩
def putF (f : MFrame) : List UInt8 := two f.at_ ++ (putKs f.locals ++ putKs f.stack)
def fineF (f : MFrame) : Prop := in2 f.at_ ∧ fineKs f.locals ∧ fineKs f.stack
theorem codecFrame : Codec rFrame putF fineF := by
  refine Codec.bind (put2 := fun f => putKs f.locals ++ putKs f.stack) (fine2 := fun f => fineKs f.locals ∧ fineKs f.stack) MFrame.at_ codecTwo (fun a _ => ?_) (fun x => Iff.rfl) (fun x _ => rfl)
  refine Codec.bind (put2 := fun f => putKs f.stack) (fine2 := fun f => f.at_ = a ∧ fineKs f.stack) MFrame.locals codecKinds (fun l _ => ?_) (fun x => by constructor <;> (rintro ⟨h1, h2, h3⟩; exact ⟨h2, h1, h3⟩)) (fun x _ => rfl)
  refine Codec.bind (put2 := fun f => []) (fine2 := fun f => f.at_ = a ∧ f.locals = l) MFrame.stack codecKinds (fun s _ => ?_) (fun x => by constructor <;> (rintro ⟨h1, h2, h3⟩; first | exact ⟨h3, h2, h1⟩ | exact ⟨h3, h2, h1⟩)) (fun x _ => by simp)
  exact Codec.pure (fun y => by cases y; simp; constructor <;> (rintro ⟨h1, h2, h3⟩; first | exact ⟨h2, h3, h1⟩ | exact ⟨h3, h1, h2⟩)) rfl

def rTrap : Ps MTrap := pbind rTwo fun a => pbind rTwo fun b => pbind rTwo fun c => pbind rTwo fun d => ppure ⟨a, b, c, d⟩
def putT (t : MTrap) : List UInt8 := two t.from_ ++ (two t.to_ ++ (two t.at_ ++ two t.cls))
def fineT (t : MTrap) : Prop := in2 t.from_ ∧ in2 t.to_ ∧ in2 t.at_ ∧ in2 t.cls
theorem codecTrap : Codec rTrap putT fineT := by
  refine Codec.bind (put2 := fun t => two t.to_ ++ (two t.at_ ++ two t.cls)) (fine2 := fun t => in2 t.to_ ∧ in2 t.at_ ∧ in2 t.cls) MTrap.from_ codecTwo (fun a _ => ?_) (fun x => Iff.rfl) (fun x _ => rfl)
  refine Codec.bind (put2 := fun t => two t.at_ ++ two t.cls) (fine2 := fun t => t.from_ = a ∧ in2 t.at_ ∧ in2 t.cls) MTrap.to_ codecTwo (fun b _ => ?_) (fun x => by constructor <;> (rintro ⟨h1, h2, h3⟩; exact ⟨h2, h1, h3⟩)) (fun x _ => rfl)
  refine Codec.bind (put2 := fun t => two t.cls) (fine2 := fun t => t.from_ = a ∧ t.to_ = b ∧ in2 t.cls) MTrap.at_ codecTwo (fun c _ => ?_) (fun x => by constructor <;> (rintro ⟨h1, h2, h3, h4⟩; first | exact ⟨h3, h2, h1, h4⟩ | exact ⟨h3, h2, h1, h4⟩)) (fun x _ => rfl)
  refine Codec.bind (put2 := fun t => []) (fine2 := fun t => t.from_ = a ∧ t.to_ = b ∧ t.at_ = c) MTrap.cls codecTwo (fun d _ => ?_) (fun x => by constructor <;> (rintro ⟨h1, h2, h3, h4⟩; first | exact ⟨h4, h2, h3, h1⟩ | exact ⟨h4, h2, h3, h1⟩)) (fun x _ => by simp)
  exact Codec.pure (fun y => by cases y; simp; constructor <;> (rintro ⟨h1, h2, h3, h4⟩; first | exact ⟨h2, h3, h4, h1⟩ | exact ⟨h4, h1, h2, h3⟩)) rfl

def rField : Ps MField := pbind rOne fun a => pbind rTwo fun b => pbind rTwo fun c => ppure ⟨a, b, c⟩
def putFd (t : MField) : List UInt8 := one t.flags ++ (two t.name ++ two t.typ)
def fineFd (t : MField) : Prop := in1 t.flags ∧ in2 t.name ∧ in2 t.typ
theorem codecField : Codec rField putFd fineFd := by
  refine Codec.bind (put2 := fun t => two t.name ++ two t.typ) (fine2 := fun t => in2 t.name ∧ in2 t.typ) MField.flags codecOne (fun a _ => ?_) (fun x => Iff.rfl) (fun x _ => rfl)
  refine Codec.bind (put2 := fun t => two t.typ) (fine2 := fun t => t.flags = a ∧ in2 t.typ) MField.name codecTwo (fun b _ => ?_) (fun x => by constructor <;> (rintro ⟨h1, h2, h3⟩; exact ⟨h2, h1, h3⟩)) (fun x _ => rfl)
  refine Codec.bind (put2 := fun t => []) (fine2 := fun t => t.flags = a ∧ t.name = b) MField.typ codecTwo (fun c _ => ?_) (fun x => by constructor <;> (rintro ⟨h1, h2, h3⟩; exact ⟨h3, h2, h1⟩)) (fun x _ => by simp)
  exact Codec.pure (fun y => by cases y; simp; constructor <;> (rintro ⟨h1, h2, h3⟩; first | exact ⟨h2, h3, h1⟩ | exact ⟨h3, h1, h2⟩)) rfl

def empty : ByteArray := ⟨#[]⟩
/- entries of a pool -/
def rEntry : Ps C4 := pbind rOne fun k =>
  if k = 1 then pbind rOne (fun n => pbind (rText n) fun t => ppure ⟨k, t, 0, 0⟩)
  else if k = 2 then pbind rTwo fun a => ppure ⟨k, empty, a, 0⟩
  else if 3 ≤ k ∧ k ≤ 6 then pbind rTwo fun a => pbind rTwo fun b => ppure ⟨k, empty, a, b⟩
  else pfail
def putE (c : C4) : List UInt8 := one c.kind ++ (if c.kind = 1 then one c.text.size ++ c.text.data.toList else if c.kind = 2 then two c.a else two c.a ++ two c.b)
def fineE2 (c : C4) : Prop :=
  if c.kind = 1 then in1 c.text.size ∧ c.a = 0 ∧ c.b = 0 else if c.kind = 2 then c.text = empty ∧ in2 c.a ∧ c.b = 0 else if 3 ≤ c.kind ∧ c.kind ≤ 6 then c.text = empty ∧ in2 c.a ∧ in2 c.b else False
def fineE (c : C4) : Prop := in1 c.kind ∧ fineE2 c
theorem codecEntry : Codec rEntry putE fineE := by
  refine Codec.bind (put2 := fun c => (if c.kind = 1 then one c.text.size ++ c.text.data.toList else if c.kind = 2 then two c.a else two c.a ++ two c.b)) (fine2 := fineE2) C4.kind codecOne (fun k _ => ?_) (fun x => Iff.rfl) (fun x _ => rfl)
  by_cases h1 : k = 1
  · rw [if_pos h1]
    refine Codec.bind (put2 := fun c => c.text.data.toList) (fine2 := fun c => c.kind = k ∧ c.a = 0 ∧ c.b = 0) (fun c => (c.text.size : Int)) codecOne (fun n hn => ?_) (fun x => ?_) (fun x hx => ?_)
    · refine Codec.bind (put2 := fun _ => []) (fine2 := fun c => c.kind = k ∧ c.a = 0 ∧ c.b = 0) C4.text (codecText n hn.1) (fun t _ => ?_) (fun x => Iff.rfl) (fun x _ => by simp)
      exact Codec.pure (fun y => by cases y; simp; constructor <;> (rintro ⟨h1, h2, h3, h4⟩; first | exact ⟨h2, h1, h3, h4⟩ | exact ⟨h2, h1, h3, h4⟩)) rfl
    · unfold fineE2
      constructor
      · rintro ⟨a, b⟩; rw [if_pos (a.trans h1)] at b; exact ⟨b.1, a, b.2⟩
      · rintro ⟨a, b, c⟩; rw [if_pos (b.trans h1)]; exact ⟨b, a, c⟩
    · rw [if_pos (hx.1.trans h1)]
  · rw [if_neg h1]
    by_cases h2 : k = 2
    · rw [if_pos h2]
      refine Codec.bind (put2 := fun _ => []) (fine2 := fun c => c.kind = k ∧ c.text = empty ∧ c.b = 0) C4.a codecTwo (fun a _ => ?_) (fun x => ?_) (fun x hx => ?_)
      · exact Codec.pure (fun y => by cases y; simp; constructor <;> (rintro ⟨h1, h2, h3, h4⟩; first | exact ⟨h2, h3, h1, h4⟩ | exact ⟨h3, h1, h2, h4⟩)) rfl
      · unfold fineE2
        constructor
        · rintro ⟨a, b⟩; rw [if_neg (by omega), if_pos (a.trans h2)] at b; exact ⟨b.2.1, a, b.1, b.2.2⟩
        · rintro ⟨a, b, c, d⟩; rw [if_neg (by omega), if_pos (b.trans h2)]; exact ⟨b, c, a, d⟩
      · rw [if_neg (by have := hx.1; omega), if_pos (hx.1.trans h2)]; simp
    · rw [if_neg h2]
      by_cases h3 : 3 ≤ k ∧ k ≤ 6
      · rw [if_pos h3]
        refine Codec.bind (put2 := fun c => two c.b) (fine2 := fun c => c.kind = k ∧ c.text = empty ∧ in2 c.b) C4.a codecTwo (fun a _ => ?_) (fun x => ?_) (fun x hx => ?_)
        · refine Codec.bind (put2 := fun _ => []) (fine2 := fun c => c.kind = k ∧ c.text = empty ∧ c.a = a) C4.b codecTwo (fun b _ => ?_) (fun x => ?_) (fun x _ => by simp)
          · exact Codec.pure (fun y => by cases y; simp; constructor <;> (rintro ⟨h1, h2, h3, h4⟩; first | exact ⟨h2, h3, h4, h1⟩ | exact ⟨h4, h1, h2, h3⟩)) rfl
          · constructor
            · rintro ⟨a, b, c, d⟩; exact ⟨d, b, c, a⟩
            · rintro ⟨a, b, c, d⟩; exact ⟨d, b, c, a⟩
        · unfold fineE2
          constructor
          · rintro ⟨a, b⟩; rw [if_neg (by omega), if_neg (by omega), if_pos (by omega)] at b; exact ⟨b.2.1, a, b.1, b.2.2⟩
          · rintro ⟨a, b, c, d⟩; rw [if_neg (by omega), if_neg (by omega), if_pos (by omega)]; exact ⟨b, c, a, d⟩
        · rw [if_neg (by have := hx.1; omega), if_neg (by have := hx.1; omega)]
      · rw [if_neg h3]
        refine Codec.fail (fun y => ?_)
        rintro ⟨a, b⟩
        unfold fineE2 at b
        rw [if_neg (by omega), if_neg (by omega), if_neg (by omega)] at b
        exact b

/- methods -/
def absF (n : Int) : Prop := n % 16 / 8 = 1
instance (n : Int) : Decidable (absF n) := inferInstanceAs (Decidable (_ = _))
def rCode : Ps ByteArray := pbind rTwo fun n => if n ≤ 120 then rText n else pfail
def putCode (b : ByteArray) : List UInt8 := two b.size ++ b.data.toList
def fineCode (b : ByteArray) : Prop := (b.size : Int) ≤ 120
theorem codecCode : Codec rCode putCode fineCode := by
  refine Codec.bind (put2 := fun b => b.data.toList) (fine2 := fineCode) (fun b => (b.size : Int)) codecTwo (fun n hn => ?_) (fun x => ?_) (fun x _ => rfl)
  · by_cases h : n ≤ 120
    · rw [if_pos h]
      have hc := codecText n hn.1
      exact ⟨fun x r hx => hc.back x r hx.1, fun s x r hs => by obtain ⟨a, b⟩ := hc.only s x r hs; exact ⟨⟨a, by unfold fineCode; omega⟩, b⟩⟩
    · rw [if_neg h]
      exact Codec.fail (fun y => by rintro ⟨h1, h2⟩; unfold fineCode at h2; omega)
  · unfold fineCode in2
    constructor
    · intro h; exact ⟨by omega, h⟩
    · exact fun h => h.2
def rBody (a b c : Int) : Ps MMethod := pbind rOne fun d => pbind rOne fun l => pbind rCode fun code => pbind (rList 3 rTrap) fun ts => pbind (rList 8 rFrame) fun fs => ppure ⟨a, b, c, d, l, code, ts, fs⟩
def putBody (m : MMethod) : List UInt8 := one m.deep ++ (one m.locals ++ (putCode m.code ++ (putL putT m.traps ++ putL putF m.frames)))
def fineBody (m : MMethod) : Prop := in1 m.deep ∧ in1 m.locals ∧ fineCode m.code ∧ fineL 3 fineT m.traps ∧ fineL 8 fineF m.frames
set_option maxHeartbeats 1000000 in
theorem codecBody (a b c : Int) : Codec (rBody a b c) putBody (fun m => (m.flags = a ∧ m.name = b ∧ m.desc = c) ∧ fineBody m) := by
  refine Codec.bind (put2 := fun m => one m.locals ++ (putCode m.code ++ (putL putT m.traps ++ putL putF m.frames))) (fine2 := fun m => (m.flags = a ∧ m.name = b ∧ m.desc = c) ∧ in1 m.locals ∧ fineCode m.code ∧ fineL 3 fineT m.traps ∧ fineL 8 fineF m.frames) MMethod.deep codecOne (fun d _ => ?_) (fun x => by unfold fineBody; constructor <;> (rintro ⟨h1, h2, h3⟩; exact ⟨h2, h1, h3⟩)) (fun x _ => rfl)
  refine Codec.bind (put2 := fun m => putCode m.code ++ (putL putT m.traps ++ putL putF m.frames)) (fine2 := fun m => (m.flags = a ∧ m.name = b ∧ m.desc = c) ∧ m.deep = d ∧ fineCode m.code ∧ fineL 3 fineT m.traps ∧ fineL 8 fineF m.frames) MMethod.locals codecOne (fun l _ => ?_) (fun x => by constructor <;> (rintro ⟨h1, h2, h3, h4⟩; exact ⟨h3, h2, h1, h4⟩)) (fun x _ => rfl)
  refine Codec.bind (put2 := fun m => putL putT m.traps ++ putL putF m.frames) (fine2 := fun m => (m.flags = a ∧ m.name = b ∧ m.desc = c) ∧ (m.deep = d ∧ m.locals = l) ∧ fineL 3 fineT m.traps ∧ fineL 8 fineF m.frames) MMethod.code codecCode (fun cd _ => ?_) (fun x => by
    constructor
    · rintro ⟨h1, h2, h3, h4, h5⟩; exact ⟨h4, h2, ⟨h3, h1⟩, h5⟩
    · rintro ⟨h4, h2, ⟨h3, h1⟩, h5⟩; exact ⟨h1, h2, h3, h4, h5⟩) (fun x _ => rfl)
  refine Codec.bind (put2 := fun m => putL putF m.frames) (fine2 := fun m => (m.flags = a ∧ m.name = b ∧ m.desc = c) ∧ (m.deep = d ∧ m.locals = l ∧ m.code = cd) ∧ fineL 8 fineF m.frames) MMethod.traps (codecList 3 (by omega) codecTrap) (fun ts _ => ?_) (fun x => by
    constructor
    · rintro ⟨h1, h2, ⟨h3, h4⟩, h5, h6⟩; exact ⟨h5, h2, ⟨h3, h4, h1⟩, h6⟩
    · rintro ⟨h5, h2, ⟨h3, h4, h1⟩, h6⟩; exact ⟨h1, h2, ⟨h3, h4⟩, h5, h6⟩) (fun x _ => rfl)
  refine Codec.bind (put2 := fun m => []) (fine2 := fun m => (m.flags = a ∧ m.name = b ∧ m.desc = c) ∧ (m.deep = d ∧ m.locals = l ∧ m.code = cd ∧ m.traps = ts)) MMethod.frames (codecList 8 (by omega) codecFrame) (fun fs _ => ?_) (fun x => by
    constructor
    · rintro ⟨h1, h2, ⟨h3, h4, h5⟩, h6⟩; exact ⟨h6, h2, h3, h4, h5, h1⟩
    · rintro ⟨h6, h2, h3, h4, h5, h1⟩; exact ⟨h1, h2, ⟨h3, h4, h5⟩, h6⟩) (fun x _ => by simp)
  exact Codec.pure (fun y => by
    cases y; simp
    constructor
    · rintro ⟨h1, ⟨h2, h3, h4⟩, h5, h6, h7, h8⟩; exact ⟨h2, h3, h4, h5, h6, h7, h8, h1⟩
    · rintro ⟨h2, h3, h4, h5, h6, h7, h8, h1⟩; exact ⟨h1, ⟨h2, h3, h4⟩, h5, h6, h7, h8⟩) rfl
def bare (m : MMethod) : Prop := m.deep = 0 ∧ m.locals = 0 ∧ m.code = empty ∧ m.traps = [] ∧ m.frames = []
def rMethod : Ps MMethod := pbind rOne fun a => pbind rTwo fun b => pbind rTwo fun c => if absF a then ppure ⟨a, b, c, 0, 0, empty, [], []⟩ else rBody a b c
def putM (m : MMethod) : List UInt8 := one m.flags ++ (two m.name ++ (two m.desc ++ (if absF m.flags then [] else putBody m)))
def fineM2 (m : MMethod) : Prop := if absF m.flags then bare m else fineBody m
def fineM (m : MMethod) : Prop := in1 m.flags ∧ in2 m.name ∧ in2 m.desc ∧ fineM2 m
theorem codecMethod : Codec rMethod putM fineM := by
  refine Codec.bind (put2 := fun m => two m.name ++ (two m.desc ++ (if absF m.flags then [] else putBody m))) (fine2 := fun m => in2 m.name ∧ in2 m.desc ∧ fineM2 m) MMethod.flags codecOne (fun a _ => ?_) (fun x => Iff.rfl) (fun x _ => rfl)
  refine Codec.bind (put2 := fun m => two m.desc ++ (if absF m.flags then [] else putBody m)) (fine2 := fun m => m.flags = a ∧ in2 m.desc ∧ fineM2 m) MMethod.name codecTwo (fun b _ => ?_) (fun x => by constructor <;> (rintro ⟨h1, h2, h3⟩; exact ⟨h2, h1, h3⟩)) (fun x _ => rfl)
  refine Codec.bind (put2 := fun m => (if absF m.flags then [] else putBody m)) (fine2 := fun m => (m.flags = a ∧ m.name = b) ∧ fineM2 m) MMethod.desc codecTwo (fun c _ => ?_) (fun x => by
    constructor
    · rintro ⟨h1, h2, h3, h4⟩; exact ⟨h3, ⟨h2, h1⟩, h4⟩
    · rintro ⟨h3, ⟨h2, h1⟩, h4⟩; exact ⟨h1, h2, h3, h4⟩) (fun x _ => rfl)
  by_cases h : absF a
  · rw [if_pos h]
    refine Codec.pure (fun y => ?_) (by simp [h])
    cases y
    simp only [MMethod.mk.injEq, fineM2, bare]
    constructor
    · rintro ⟨rfl, ⟨rfl, rfl⟩, h2⟩; rw [if_pos h] at h2; exact ⟨rfl, rfl, rfl, h2⟩
    · rintro ⟨rfl, rfl, rfl, h2⟩; rw [if_pos h]; exact ⟨rfl, ⟨rfl, rfl⟩, h2⟩
  · rw [if_neg h]
    have hc := codecBody a b c
    constructor
    · rintro x r ⟨h1, ⟨h2, h3⟩, h4⟩
      unfold fineM2 at h4
      rw [if_neg (by rw [h2]; exact h)] at h4
      rw [if_neg (by rw [h2]; exact h)]
      exact hc.back x r ⟨⟨h2, h3, h1⟩, h4⟩
    · intro s x r hs
      obtain ⟨⟨⟨h1, h2, h3⟩, h4⟩, h5⟩ := hc.only _ _ _ hs
      refine ⟨⟨h3, ⟨h1, h2⟩, ?_⟩, ?_⟩
      · unfold fineM2; rw [if_neg (by rw [h1]; exact h)]; exact h4
      · rw [if_neg (by rw [h1]; exact h)]; exact h5

/- classes -/
def mark : List UInt8 := [83, 84, 79, 87]
def rMark : Ps Unit := pbind (rText 4) fun t => if t = ⟨mark.toArray⟩ then ppure () else pfail
theorem codecMark : Codec rMark (fun _ => mark) (fun _ => True) := by
  constructor
  · intro x r _
    unfold rMark pbind rText
    rw [if_pos (by simp [mark]; omega)]
    simp [mark, ppure]
  · intro s x r h
    unfold rMark pbind at h
    obtain ⟨⟨t, r1⟩, h1, h2⟩ := Option.bind_eq_some_iff.1 h
    obtain ⟨_, e⟩ := (codecText 4 (by omega)).only _ _ _ h1
    simp only at h2
    split at h2
    · rename_i ht
      simp only [ppure, Option.some.injEq, Prod.mk.injEq] at h2
      refine ⟨trivial, ?_⟩
      rw [e, ← h2.2]
      rw [ht]
    · cases h2
def rClass : Ps MClass := pbind rMark fun _ => pbind (rList 60 rEntry) fun p => pbind rOne fun f => pbind rTwo fun n => pbind rTwo fun s => pbind (rList 3 rTwo) fun i => pbind (rList 5 rField) fun d => pbind (rList 6 rMethod) fun m => ppure ⟨p, f, n, s, i, d, m⟩
def putC (c : MClass) : List UInt8 := mark ++ (putL putE c.pool ++ (one c.flags ++ (two c.name ++ (two c.super ++ (putL two c.faces ++ (putL putFd c.fields ++ putL putM c.methods))))))
def fineC (c : MClass) : Prop := fineL 60 fineE c.pool ∧ in1 c.flags ∧ in2 c.name ∧ in2 c.super ∧ fineL 3 in2 c.faces ∧ fineL 5 fineFd c.fields ∧ fineL 6 fineM c.methods
theorem codecClass : Codec rClass putC fineC := by
  refine Codec.bind (put2 := fun c => putL putE c.pool ++ (one c.flags ++ (two c.name ++ (two c.super ++ (putL two c.faces ++ (putL putFd c.fields ++ putL putM c.methods)))))) (fine2 := fineC) (fun _ => ()) codecMark (fun a _ => ?_) (fun x => by simp) (fun x _ => rfl)
  refine Codec.bind (put2 := fun c => one c.flags ++ (two c.name ++ (two c.super ++ (putL two c.faces ++ (putL putFd c.fields ++ putL putM c.methods))))) (fine2 := fun c => in1 c.flags ∧ in2 c.name ∧ in2 c.super ∧ fineL 3 in2 c.faces ∧ fineL 5 fineFd c.fields ∧ fineL 6 fineM c.methods) MClass.pool (codecList 60 (by omega) codecEntry) (fun p _ => ?_) (fun x => by simp [fineC]) (fun x _ => rfl)
  refine Codec.bind (put2 := fun c => two c.name ++ (two c.super ++ (putL two c.faces ++ (putL putFd c.fields ++ putL putM c.methods)))) (fine2 := fun c => c.pool = p ∧ in2 c.name ∧ in2 c.super ∧ fineL 3 in2 c.faces ∧ fineL 5 fineFd c.fields ∧ fineL 6 fineM c.methods) MClass.flags codecOne (fun f _ => ?_) (fun x => by constructor <;> (rintro ⟨h1, h2, h3⟩; exact ⟨h2, h1, h3⟩)) (fun x _ => rfl)
  refine Codec.bind (put2 := fun c => two c.super ++ (putL two c.faces ++ (putL putFd c.fields ++ putL putM c.methods))) (fine2 := fun c => (c.pool = p ∧ c.flags = f) ∧ in2 c.super ∧ fineL 3 in2 c.faces ∧ fineL 5 fineFd c.fields ∧ fineL 6 fineM c.methods) MClass.name codecTwo (fun n _ => ?_) (fun x => by
    constructor
    · rintro ⟨h1, h2, h3, h4⟩; exact ⟨h3, ⟨h2, h1⟩, h4⟩
    · rintro ⟨h3, ⟨h2, h1⟩, h4⟩; exact ⟨h1, h2, h3, h4⟩) (fun x _ => rfl)
  refine Codec.bind (put2 := fun c => putL two c.faces ++ (putL putFd c.fields ++ putL putM c.methods)) (fine2 := fun c => (c.pool = p ∧ c.flags = f ∧ c.name = n) ∧ fineL 3 in2 c.faces ∧ fineL 5 fineFd c.fields ∧ fineL 6 fineM c.methods) MClass.super codecTwo (fun s _ => ?_) (fun x => by
    constructor
    · rintro ⟨h1, ⟨h2, h3⟩, h4, h5⟩; exact ⟨h4, ⟨h2, h3, h1⟩, h5⟩
    · rintro ⟨h4, ⟨h2, h3, h1⟩, h5⟩; exact ⟨h1, ⟨h2, h3⟩, h4, h5⟩) (fun x _ => rfl)
  refine Codec.bind (put2 := fun c => putL putFd c.fields ++ putL putM c.methods) (fine2 := fun c => (c.pool = p ∧ c.flags = f ∧ c.name = n ∧ c.super = s) ∧ fineL 5 fineFd c.fields ∧ fineL 6 fineM c.methods) MClass.faces (codecList 3 (by omega) codecTwo) (fun i _ => ?_) (fun x => by
    constructor
    · rintro ⟨h1, ⟨h2, h3, h4⟩, h5, h6⟩; exact ⟨h5, ⟨h2, h3, h4, h1⟩, h6⟩
    · rintro ⟨h5, ⟨h2, h3, h4, h1⟩, h6⟩; exact ⟨h1, ⟨h2, h3, h4⟩, h5, h6⟩) (fun x _ => rfl)
  refine Codec.bind (put2 := fun c => putL putM c.methods) (fine2 := fun c => (c.pool = p ∧ c.flags = f ∧ c.name = n ∧ c.super = s ∧ c.faces = i) ∧ fineL 6 fineM c.methods) MClass.fields (codecList 5 (by omega) codecField) (fun d _ => ?_) (fun x => by
    constructor
    · rintro ⟨h1, ⟨h2, h3, h4, h5⟩, h6, h7⟩; exact ⟨h6, ⟨h2, h3, h4, h5, h1⟩, h7⟩
    · rintro ⟨h6, ⟨h2, h3, h4, h5, h1⟩, h7⟩; exact ⟨h1, ⟨h2, h3, h4, h5⟩, h6, h7⟩) (fun x _ => rfl)
  refine Codec.bind (put2 := fun _ => []) (fine2 := fun c => c.pool = p ∧ c.flags = f ∧ c.name = n ∧ c.super = s ∧ c.faces = i ∧ c.fields = d) MClass.methods (codecList 6 (by omega) codecMethod) (fun m _ => ?_) (fun x => by
    constructor
    · rintro ⟨h1, ⟨h2, h3, h4, h5, h6⟩, h7⟩; exact ⟨h7, h2, h3, h4, h5, h6, h1⟩
    · rintro ⟨h7, h2, h3, h4, h5, h6, h1⟩; exact ⟨h1, ⟨h2, h3, h4, h5, h6⟩, h7⟩) (fun x _ => by simp)
  exact Codec.pure (fun y => by
    cases y; simp
    constructor
    · rintro ⟨h1, h2, h3, h4, h5, h6, h7⟩; exact ⟨h2, h3, h4, h5, h6, h7, h1⟩
    · rintro ⟨h2, h3, h4, h5, h6, h7, h1⟩; exact ⟨h1, h2, h3, h4, h5, h6, h7⟩) rfl

/-- what FileGet reads of a text -/
def getC (s : ByteArray) : Option MClass := if s.size ≤ 900 then (match rClass s.data.toList with | some (c, []) => some c | _ => none) else none
theorem getC_iff (s : ByteArray) (c : MClass) : getC s = some c ↔ s.size ≤ 900 ∧ fineC c ∧ s.data.toList = putC c := by
  unfold getC
  constructor
  · intro h
    split at h
    · rename_i hs
      split at h
      · rename_i c' hr
        cases h
        obtain ⟨h1, h2⟩ := codecClass.only _ _ _ hr
        exact ⟨hs, h1, by simpa using h2⟩
      · cases h
    · cases h
  · rintro ⟨h1, h2, h3⟩
    have := codecClass.back c [] h2
    rw [List.append_nil] at this
    rw [if_pos h1, h3, this]

end Fm
end Go.Proofs.Ytnjfaikhiimdjaa
