import Derived.Test.YtiiidmphmojlgaaGreatZOpMath
/- Commits as plain tuples: which may be. No Go. -/
namespace Cm
open Go
structure C where
  dot : Dt.Dot
  par : List Dt.Dot
  vv : List Dt.Dot
  time : Nat
  op : Om.O
deriving DecidableEq
def event (c : C) : Om.E := ⟨c.dot, c.time, c.op⟩
def notIn (own : Dt.Dot) (v : List Dt.Dot) (d : Dt.Dot) : Bool := decide (d = own) || !Dt.has v d
def behind (own : Dt.Dot) (v l : List Dt.Dot) : Bool := !(l.any (notIn own v))
def riseAt (l : List Dt.Dot) (i : Nat) : Bool := decide (i = 0) || Dt.less (l.getD (i - 1) ((0, 0), 0)) (l.getD i ((0, 0), 0))
def rising (l : List Dt.Dot) : Bool := Om.upTo (riseAt l) l.length
def mayHistory (c : C) : Bool := decide (c.vv = Dt.canon c.vv) && decide (Dt.get c.vv c.dot.1 = c.dot.2)
def mayParents (c : C) : Bool := decide (c.par.length ≤ 64) && rising c.par && behind c.dot c.vv c.par
def may (c : C) : Bool := Om.mayEvent (event c) && mayHistory c && mayParents c && behind c.dot c.vv c.op.dots
end Cm
