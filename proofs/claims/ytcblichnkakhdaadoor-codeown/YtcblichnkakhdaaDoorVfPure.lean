import Derived.Test.YtcblichnkakhdaaDoorRows
import Derived.WalkKit
namespace Go.Proofs.YtcblichnkakhdaaDoor.Vf

/-- an instruction -/
structure Ins where
  op : Int
  a : Int
  b : Int
  c : Int
  d : Int
def Ins.zero : Ins := ⟨0, 0, 0, 0, 0⟩
/-- a program -/
structure Pg where
  gh : List Bool
  vs : List (Int × Int × Int)
  ts : List Int
  on : List Int
  miss : Int
  cd : List Ins
def Pg.at (p : Pg) (k : Nat) : Ins := p.cd.getD k Ins.zero
/-- of what kinds the operands of an instruction are -/
def kdL : List (Int × Int × Int × Int) := [(0, 0, 0, 0), (5, 0, 0, 0), (6, 0, 0, 0), (2, 0, 0, 0), (1, 0, 0, 0), (1, 0, 0, 0), (0, 0, 0, 0), (0, 0, 0, 0), (1, 0, 0, 0), (3, 0, 0, 0), (1, 4, 3, 0), (0, 0, 0, 0), (0, 0, 0, 0), (0, 0, 0, 0), (0, 0, 0, 0), (0, 0, 0, 0), (0, 0, 0, 0), (0, 0, 0, 0), (0, 0, 0, 0), (0, 0, 0, 0), (0, 0, 0, 0), (0, 0, 0, 0), (8, 0, 0, 0), (8, 0, 0, 0), (7, 0, 0, 0), (8, 0, 0, 0), (8, 0, 0, 0), (8, 0, 0, 0), (2, 0, 0, 0), (3, 0, 0, 0), (1, 4, 3, 0), (1, 4, 0, 0), (1, 4, 0, 0), (0, 0, 0, 0), (1, 4, 0, 0), (1, 4, 0, 0), (0, 0, 0, 0), (0, 0, 0, 0), (1, 4, 1, 4), (1, 4, 1, 4), (1, 4, 0, 0), (1, 4, 0, 0)]
def kd4 (op : Nat) : Int × Int × Int × Int := kdL.getD op (0, 0, 0, 0)
/-- which numbers an operand of a kind may be -/
def loK (k : Int) : Int := if k = 5 then -1073741824 else 0
def hiK (p : Pg) (k : Int) : Int :=
  if k = 0 then 0 else if k = 1 then (p.gh.length : Int) - 1 else if k = 2 then (p.vs.length : Int) - 1 else if k = 3 then (p.ts.length : Int) - 1
  else if k = 4 then 1 else if k = 5 then 1073741824 else if k = 6 then 1 else if k = 7 then 4194304 else (p.cd.length : Int) - 1
def inK (p : Pg) (k n : Int) : Bool := decide (loK k ≤ n) && decide (n ≤ hiK p k)
/-- what Check says of an instruction -/
def insF (p : Pg) (x : Ins) : Nat :=
  if decide (0 ≤ x.op) && decide (x.op < 42) then
    (let k := kd4 x.op.toNat
     if inK p k.1 x.a && (inK p k.2.1 x.b && (inK p k.2.2.1 x.c && inK p k.2.2.2 x.d)) then 0 else 92)
  else 91
def varF (v : Int × Int × Int) : Bool := decide (-1073741824 ≤ v.2.1) && (decide (v.2.1 ≤ v.1) && (decide (v.1 ≤ v.2.2) && decide (v.2.2 ≤ 1073741824)))
def tagF (n : Int) : Bool := decide (1 ≤ n) && decide (n ≤ 255)
def tabF (p : Pg) : Bool := decide (p.gh.length ≤ 16) && (decide (p.vs.length ≤ 16) && (decide (p.ts.length ≤ 4) && (p.vs.all varF && p.ts.all tagF)))
def plcI (p : Pg) (n : Int) : Bool := decide (-1 ≤ n) && decide (n < (p.cd.length : Int))
def plcF (p : Pg) : Bool := decide (p.on.length = p.gh.length) && (decide (p.cd.length ≤ 262144) && (p.on.all (plcI p) && plcI p p.miss))
/-- the first error of a row -/
def firstE (f : Ins → Nat) : List Ins → Nat
  | [] => 0
  | x :: l => if f x = 0 then firstE f l else f x
/-- what Check tells -/
def chk (p : Pg) : Nat := if tabF p && plcF p then firstE (insF p) p.cd else 85

/-- what instructions do to the operands: how many are taken, of which kind (1 number, 2 truth, 3 either), what is given (0 nothing) -/
def efL : List (Nat × Nat × Nat) := [(0, 0, 0), (0, 0, 1), (0, 0, 2), (0, 0, 1), (0, 0, 1), (0, 0, 1), (0, 0, 1), (0, 0, 1), (0, 0, 2), (0, 0, 1), (0, 0, 1), (2, 1, 1), (2, 1, 1), (1, 1, 1), (1, 2, 2), (2, 1, 1), (2, 1, 1), (2, 1, 1), (2, 1, 1), (2, 3, 2), (2, 1, 2), (2, 1, 2), (0, 0, 0), (1, 2, 0), (0, 0, 0), (0, 0, 0), (1, 2, 0), (0, 0, 0), (1, 1, 0), (1, 1, 0), (1, 1, 0), (0, 0, 0), (0, 0, 0), (0, 0, 0), (0, 0, 0), (0, 0, 0), (0, 0, 0), (0, 0, 0), (0, 0, 0), (0, 0, 0), (0, 0, 0), (0, 0, 0)]
def ef (op : Nat) : Nat × Nat × Nat := efL.getD op (0, 0, 0)
/-- a standing: the operands' types (true: a bool), the top last; the hand (0 empty, 1 ghost, 2 held, 3 told); the innermost loop's ITurn -/
structure Sd where
  ty : List Bool
  hand : Nat
  turn : Int
def knd (b : Bool) : Nat := if b then 2 else 1
def blw (ty : List Bool) (n : Nat) : Bool := ty.getD (ty.length - 1 - n) false
def fitsB (ty : List Bool) (op : Nat) : Bool := decide ((ef op).1 ≤ ty.length) && (!(decide (op = 0) && decide (0 < ty.length)) && (decide ((ef op).2.2 = 0) || decide (ty.length - (ef op).1 < 256)))
def wantK (ty : List Bool) (op : Nat) : Nat := if (ef op).2.1 = 3 then knd (blw ty 0) else (ef op).2.1
def suitsB (ty : List Bool) (op : Nat) : Bool := (List.range (ef op).1).all fun n => decide (knd (blw ty n) = wantK ty op)
def behT (ty : List Bool) (op : Nat) : List Bool := ty.take (ty.length - (ef op).1) ++ (if (ef op).2.2 = 0 then [] else [decide ((ef op).2.2 = 2)])
def ghA (p : Pg) (n : Int) : Bool := p.gh.getD n.toNat false
/-- is the hand as an instruction asks? -/
def holdB (p : Pg) (h : Nat) (x : Ins) : Bool :=
  if (decide (1 ≤ x.op) && decide (x.op ≤ 21)) || (decide (28 ≤ x.op) && decide (x.op ≤ 30)) then true
  else if decide (x.op = 36) || (decide (x.op = 35) && !ghA p x.a) then decide (h = 2)
  else if decide (x.op = 37) || decide (x.op = 35) then decide (h = 1) || decide (h = 3)
  else decide (h = 0)
def bringB (p : Pg) (x : Ins) : Bool :=
  if decide (x.op = 32) || decide (x.op = 40) then !ghA p x.a
  else if x.op = 41 then ghA p x.a
  else if x.op = 38 then ghA p x.a == ghA p x.c
  else if x.op = 39 then !ghA p x.a && ghA p x.c
  else true
def isTurn (p : Pg) (n : Int) : Bool := decide (n < (p.cd.length : Int)) && decide ((p.at n.toNat).op = 25)
def goTo (p : Pg) (i : Nat) (n : Int) : Bool := decide ((i : Int) < n) && !isTurn p n
def evs (p : Pg) : List Int := p.on ++ [p.miss]
def tyAt (g : Nat → Option Sd) (n : Int) : List Bool := match g n.toNat with | some s => s.ty | none => []
def tnAt (g : Nat → Option Sd) (n : Int) : Int := match g n.toNat with | some s => s.turn | none => 0
def goB (p : Pg) (g : Nat → Option Sd) (i : Nat) (s : Sd) : Bool :=
  let x := p.at i
  if decide (x.op = 22) || decide (x.op = 23) then goTo p i x.a
  else if x.op = 24 then isTurn p ((i : Int) + 1)
  else if x.op = 25 then goTo p i x.a && (decide (0 < i) && (decide ((p.at (i - 1)).op = 24) && !(evs p).contains (i : Int)))
  else if x.op = 26 then goTo p i x.a && (!decide (s.turn = -1) && decide (x.a = (p.at s.turn.toNat).a))
  else if x.op = 27 then !decide (s.turn = -1) && (decide (x.a = s.turn) && decide (s.ty = tyAt g s.turn))
  else if x.op = 0 then decide (s.turn = -1)
  else true
/-- what is wrong with an instruction where it stands -/
def lookN (p : Pg) (g : Nat → Option Sd) (i : Nat) : Nat :=
  match g i with
  | none => 99
  | some s =>
    let x := p.at i
    if !holdB p s.hand x then 96
    else if !fitsB s.ty x.op.toNat then 93
    else if !suitsB s.ty x.op.toNat then 94
    else if !bringB p x then 92
    else if !goB p g i s then 95
    else 0
def handBeh (p : Pg) (h : Nat) (x : Ins) : Nat :=
  if x.op = 34 then (if ghA p x.a then 1 else 2) else if x.op = 36 then 3 else if decide (x.op = 35) || decide (x.op = 37) then 0 else h
def behS (p : Pg) (s : Sd) (x : Ins) : Sd := ⟨behT s.ty x.op.toNat, handBeh p s.hand x, s.turn⟩
/-- where an instruction goes on, and with which standings -/
def waysL (p : Pg) (g : Nat → Option Sd) (i : Nat) (s0 : Sd) : List (Int × Sd) :=
  let x := p.at i
  let s := behS p s0 x
  if decide (x.op = 0) || decide (x.op = 27) then []
  else if x.op = 22 then [(x.a, s)]
  else if x.op = 23 then [((i : Int) + 1, s), (x.a, s)]
  else if x.op = 25 then [((i : Int) + 1, { s with turn := (i : Int) }), (x.a, s)]
  else if x.op = 26 then [((i : Int) + 1, s), (x.a, { s with turn := tnAt g s.turn })]
  else [((i : Int) + 1, s)]
def upd (g : Nat → Option Sd) (k : Nat) (s : Sd) : Nat → Option Sd := fun j => if j = k then some s else g j
def sameS (a b : Sd) : Bool := decide (a.hand = b.hand) && (decide (a.turn = b.turn) && decide (a.ty = b.ty))
/-- the places at which it goes on get their standings -/
def giveW (n : Nat) : List (Int × Sd) → (Nat → Option Sd) → Except Nat (Nat → Option Sd)
  | [], g => .ok g
  | (k, s) :: l, g =>
    if k = (n : Int) then .error 98
    else match g k.toNat with
      | none => giveW n l (upd g k.toNat s)
      | some t => if sameS t s then giveW n l g else .error 94
/-- one place -/
def stepP (p : Pg) (g : Nat → Option Sd) (i : Nat) : Except Nat (Nat → Option Sd) :=
  if lookN p g i = 0 then
    match g i with
    | none => .ok g
    | some s => giveW p.cd.length (waysL p g i s) g
  else .error (lookN p g i)
/-- k places from place i on -/
def walkP (p : Pg) : Nat → Nat → (Nat → Option Sd) → Except (Nat × Nat) (Nat → Option Sd)
  | 0, _, g => .ok g
  | k + 1, i, g => match stepP p g i with
    | .error e => .error (e, i)
    | .ok g' => walkP p k (i + 1) g'
def freshS : Sd := ⟨[], 0, -1⟩
def put0 (g : Nat → Option Sd) (n : Int) : Nat → Option Sd := if n = -1 then g else upd g n.toNat freshS
def got0 (p : Pg) : Nat → Option Sd := (evs p).foldl put0 (fun _ => none)
/-- sums and products up to 1 << 62 -/
def sm (a b : Int) : Int := if 4611686018427387904 - b < a then 4611686018427387904 else a + b
def tm (a b : Int) : Int := if 0 < a ∧ 4611686018427387904 / a < b then 4611686018427387904 else a * b
def fuB (p : Pg) (f : Nat → Int) (i : Nat) : Int :=
  let x := p.at i
  if decide (x.op = 0) || decide (x.op = 27) then 0
  else if x.op = 22 then f x.a.toNat
  else if x.op = 23 then max (f (i + 1)) (f x.a.toNat)
  else if x.op = 24 then sm (tm x.a (sm 1 (f (i + 2)))) (sm 1 (f (p.at (i + 1)).a.toNat))
  else f (i + 1)
/-- the fuel of the last j places -/
def fuR (p : Pg) : Nat → Nat → Int
  | 0 => fun _ => 0
  | j + 1 => fun k => if k = p.cd.length - 1 - j then sm 1 (fuB p (fuR p j) (p.cd.length - 1 - j)) else fuR p j k
def fuel (p : Pg) : Nat → Int := fuR p p.cd.length
def cst (p : Pg) (n : Int) : Int := if n = -1 then 0 else fuel p n.toNat
/-- the first event whose fuel is too much -/
def costF (p : Pg) : List Int → Option Int
  | [] => none
  | n :: l => if 1152921504606846976 < cst p n then some n else costF p l
/-- what judge tells: a fault, or the standings and costs -/
def judge (p : Pg) : Except (Nat × Int) (Nat → Option Sd) :=
  if chk p = 0 then
    match walkP p p.cd.length 0 (got0 p) with
    | .error (e, i) => .error (e, (i : Int))
    | .ok g => match costF p (evs p) with
      | some n => .error (97, n)
      | none => .ok g
  else .error (chk p, 0)
end Go.Proofs.YtcblichnkakhdaaDoor.Vf
