/-
  A config as plain data, and what is wrong with it: pure functions. No condition.
-/
import Derived.Test.YtgehlcmancdgcacDoorProg
namespace Go.Proofs.YtgehlcmancdgcacDoor

/-- A gap; an entity; a config: plain data. -/
structure GapD where
  fr : Int
  to : Int
  mn : Int
  mx : Int
structure EntD where
  name : ByteArray
  tol : Int
  pts : List ByteArray
  cnt : Int
  mn : Int
  mx : Int
  gaps : List GapD
  edges : List (Int × Int)
  first : List Int
  last : List Int
structure CfgD where
  closed : Int
  opn : Int
  cycle : Int
  delay : Int
  ents : List EntD

def isLetter (b : UInt8) : Bool := decide (97 ≤ b.toNat) && decide (b.toNat ≤ 122)
def isDig (b : UInt8) : Bool := decide (48 ≤ b.toNat) && decide (b.toNat ≤ 57)
def nameByte (b : UInt8) : Bool := isLetter b || isDig b || decide (b.toNat = 45)
def isName (s : ByteArray) : Bool := decide (1 ≤ s.size) && decide (s.size ≤ 12) && isLetter (s.data.getD 0 0) && s.data.toList.all nameByte

/-- The first that is so, its number; 0: none. -/
def firstOf : List (Bool × Nat) → Nat
  | [] => 0
  | (b, c) :: t => if b then c else firstOf t

def within (n a b : Int) : Bool := decide (a ≤ n) && decide (n ≤ b)
def lacks (n : Nat) (x : Int) : Bool := decide (x < 0) || decide ((n : Int) ≤ x)
def rise (a b c d : Int) : Bool := decide (a ≤ b) && decide (b ≤ c) && decide (c ≤ d)
/-- One of them twice? -/
def twice {α : Type} [DecidableEq α] (l : List α) : Bool := (List.range l.length).any fun i => match l[i]? with
  | some x => (l.take i).any fun y => decide (x = y)
  | none => false

def nameErr (ahead : List ByteArray) (s : ByteArray) : Nat := if isName s then (if ahead.any (fun x => decide (x = s)) then 6 else 0) else 4
def sizeErr (e : EntD) : Nat := firstOf [(!within e.tol 0 20, 2), (decide (16 < e.pts.length), 2), (decide (8 < e.gaps.length), 2), (decide (64 < e.edges.length), 2), (decide (16 < e.first.length), 2), (decide (16 < e.last.length), 2)]
def partErr (e : EntD) : Nat := firstOf [
  (decide (e.cnt ≠ -1) && lacks e.pts.length e.cnt, 5),
  (e.gaps.any fun g => lacks e.pts.length g.fr || lacks e.pts.length g.to, 5),
  (e.edges.any fun d => lacks e.pts.length d.1 || lacks e.pts.length d.2, 5),
  (e.first.any fun x => lacks e.pts.length x, 5),
  (e.last.any fun x => lacks e.pts.length x, 5),
  (decide (e.cnt = -1) && (decide (e.mn ≠ 0) || decide (e.mx ≠ 0)), 3),
  (!rise 0 e.mn e.mx 999, 2),
  (e.gaps.any fun g => !rise 0 g.mn g.mx 1099511627776, 2),
  (twice e.edges, 6), (twice e.first, 6), (twice e.last, 6),
  (decide (0 < e.edges.length) && decide (e.first.length = 0), 3),
  (decide (e.edges.length = 0) && decide (0 < e.first.length + e.last.length), 3)]
def ptsErr : List ByteArray → List ByteArray → Nat
  | _, [] => 0
  | a, p :: t => if nameErr a p = 0 then ptsErr (a ++ [p]) t else nameErr a p
def entErr (ahead : List ByteArray) (e : EntD) : Nat :=
  if nameErr ahead e.name ≠ 0 then nameErr ahead e.name else if sizeErr e ≠ 0 then sizeErr e else if ptsErr [] e.pts ≠ 0 then ptsErr [] e.pts else partErr e
def wholeErr (c : CfgD) : Nat := firstOf [(!(within c.closed 0 1000 && within c.opn 1 1000), 2), (!within c.cycle 1 100, 2), (!within c.delay 0 20, 2), (decide (8 < c.ents.length), 2), (decide (c.opn < c.cycle), 3)]
/-- The first entity that is none: its error, and its place. -/
def entsErr : List ByteArray → Nat → List EntD → Nat × Int
  | _, _, [] => (0, -1)
  | a, i, e :: t => if entErr a e = 0 then entsErr (a ++ [e.name]) (i + 1) t else (entErr a e, (i : Int))
def cfgErr (c : CfgD) : Nat × Int := if wholeErr c = 0 then entsErr [] 0 c.ents else (wholeErr c, -1)
end Go.Proofs.YtgehlcmancdgcacDoor
