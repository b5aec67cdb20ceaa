/- Plain mathematics of payload: what is put, what is taken; over wire's plain texts. -/
import Derived.Test.YtngceccpebdgmaaGreatDoorPlHas
import Derived.Test.YtngceccpebdgmaaGreatDoorIter
import Derived.Test.YtngceccpebdgmaaGreatDoorNum
namespace Go.Proofs.YtngceccpebdgmaaGreatDoor

structure Rl where
  pre : ByteArray
  clu : ByteArray
structure Ad where
  host : ByteArray
  port : Nat
  wt : Nat
structure Pl where
  name : ByteArray
  port : Nat
  route : ByteArray
  rules : List Rl
  policy : Nat
  secret : ByteArray
  addrs : List Ad
  key : ByteArray

def nilB : ByteArray := ⟨#[]⟩
def Rl.zero : Rl := ⟨⟨#[]⟩, ⟨#[]⟩⟩
def Ad.zero : Ad := ⟨⟨#[]⟩, 0, 0⟩
def Pl.zero : Pl := ⟨⟨#[]⟩, 0, ⟨#[]⟩, [], 0, ⟨#[]⟩, [], ⟨#[]⟩⟩

def txtL (num : Int) (s : ByteArray) : List UInt8 := if s.size = 0 then [] else textL num s
def nmbL (num : Int) (n : Nat) : List UInt8 := if n = 0 then [] else numberL num n

/-- The part of a number: what is put. -/
def Rl.put (i : Nat) (r : Rl) : List UInt8 := match i with
  | 0 => txtL 1 r.pre
  | 1 => txtL 2 r.clu
  | _ => []
def Ad.put (i : Nat) (a : Ad) : List UInt8 := match i with
  | 0 => txtL 1 a.host
  | 1 => nmbL 2 a.port
  | 2 => nmbL 3 a.wt
  | _ => []
def Rl.all (r : Rl) : List UInt8 := [0, 1].flatMap (Rl.put · r)
def Ad.all (a : Ad) : List UInt8 := [0, 1, 2].flatMap (Ad.put · a)
def Pl.put (i : Nat) (p : Pl) : List UInt8 := match i with
  | 0 => txtL 1 p.name
  | 1 => nmbL 2 p.port
  | 2 => txtL 3 p.route
  | 3 => p.rules.flatMap fun r => textL 4 ⟨r.all.toArray⟩
  | 4 => nmbL 5 p.policy
  | 5 => txtL 6 p.secret
  | 6 => p.addrs.flatMap fun a => textL 7 ⟨a.all.toArray⟩
  | 7 => txtL 8 p.key
  | _ => []

/-- The kind of a part. -/
def plKind (i : Nat) : Nat := if i = 1 ∨ i = 4 then 0 else 2
def rlKind (_ : Nat) : Nat := 2
def adKind (i : Nat) : Nat := if i = 0 then 2 else 0

/-- The part of a number: what is taken. -/
def Rl.take (i : Nat) (r : Rl) (f : Fd) : Option Rl := match i with
  | 0 => some { r with pre := ⟨f.s.toArray⟩ }
  | 1 => some { r with clu := ⟨f.s.toArray⟩ }
  | _ => none
def Ad.take (i : Nat) (a : Ad) (f : Fd) : Option Ad := match i with
  | 0 => some { a with host := ⟨f.s.toArray⟩ }
  | 1 => some { a with port := f.n }
  | 2 => some { a with wt := f.n }
  | _ => none

/-- A field by the part of its number among some parts. -/
def oneOf {σ : Type} (kind : Nat → Nat) (step : Nat → σ → Fd → Option σ) : List Nat → σ → Fd → Option σ
  | [], s, _ => some s
  | i :: is, s, f => if i + 1 = f.num then (if kind i = f.kind then step i s f else none) else oneOf kind step is s f
def takes {σ : Type} (one : σ → Fd → Option σ) : List Fd → σ → Option σ
  | [], s => some s
  | f :: fs, s => match one s f with
    | none => none
    | some s' => takes one fs s'
def allOf {σ : Type} (one : σ → Fd → Option σ) (zero : σ) (l : List UInt8) : Option σ := match parse l with
  | none => none
  | some fs => takes one fs zero

def Rl.one (r : Rl) (f : Fd) : Option Rl := oneOf rlKind Rl.take [0, 1] r f
def Ad.one (a : Ad) (f : Fd) : Option Ad := oneOf adKind Ad.take [0, 1, 2] a f
def Rl.get (l : List UInt8) : Option Rl := allOf Rl.one Rl.zero l
def Ad.get (l : List UInt8) : Option Ad := allOf Ad.one Ad.zero l
def Pl.take (i : Nat) (p : Pl) (f : Fd) : Option Pl := match i with
  | 0 => some { p with name := ⟨f.s.toArray⟩ }
  | 1 => some { p with port := f.n }
  | 2 => some { p with route := ⟨f.s.toArray⟩ }
  | 3 => if p.rules.length = 64 then none else (Rl.get f.s).map fun r => { p with rules := p.rules ++ [r] }
  | 4 => some { p with policy := f.n }
  | 5 => some { p with secret := ⟨f.s.toArray⟩ }
  | 6 => if p.addrs.length = 64 then none else (Ad.get f.s).map fun a => { p with addrs := p.addrs ++ [a] }
  | 7 => some { p with key := ⟨f.s.toArray⟩ }
  | _ => none

/-- The parts that a type has, and those that it has not. -/
def hasI (k : Int) : List Nat :=
  if k = 1 then [0, 1, 2] else if k = 2 then [0, 3] else if k = 3 then [0, 4, 5] else if k = 4 then [0, 6] else if k = 5 then [0, 7] else []
def hasNotI (k : Int) : List Nat :=
  if k = 1 then [3, 4, 5, 6, 7] else if k = 2 then [1, 2, 4, 5, 6, 7] else if k = 3 then [1, 2, 3, 6, 7] else if k = 4 then [1, 2, 3, 4, 5, 7] else if k = 5 then [1, 2, 3, 4, 5, 6] else []
def Pl.puts (is : List Nat) (p : Pl) : List UInt8 := is.flatMap (Pl.put · p)
def Pl.putOf (k : Int) (p : Pl) : ByteArray × Bool :=
  if (hasOf k).2 = true ∧ p.rules.length ≤ 64 ∧ p.addrs.length ≤ 64 ∧ p.puts (hasNotI k) = [] then (⟨(p.puts (hasI k)).toArray⟩, true) else (⟨#[]⟩, false)
def Pl.one (is : List Nat) (p : Pl) (f : Fd) : Option Pl := oneOf plKind Pl.take is p f
def Pl.getOf (k : Int) (l : List UInt8) : Option Pl := if (hasOf k).2 = true then allOf (Pl.one (hasI k)) Pl.zero l else none

theorem puts_nil (p : Pl) : p.puts [] = [] := rfl
theorem puts_cons (i : Nat) (is : List Nat) (p : Pl) : p.puts (i :: is) = p.put i ++ p.puts is := rfl
end Go.Proofs.YtngceccpebdgmaaGreatDoor
