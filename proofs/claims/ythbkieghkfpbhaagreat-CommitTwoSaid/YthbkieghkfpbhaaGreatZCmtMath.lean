import Derived.Test.YthbkieghkfpbhaaGreatZOpMath
/- Commits as plain tuples: which may be. No Go. -/
namespace Cm
open Go
structure C where
  dot : Dt.Dot
  par : List Dt.Dot
  vv : List Dt.Dot
  time : Nat
  op : Om.O
deriving DecidableEq
def event (c : C) : Om.E := ⟨c.dot, c.time, c.op⟩
def notIn (own : Dt.Dot) (v : List Dt.Dot) (d : Dt.Dot) : Bool := decide (d = own) || !Dt.has v d
def behind (own : Dt.Dot) (v l : List Dt.Dot) : Bool := !(l.any (notIn own v))
def riseAt (l : List Dt.Dot) (i : Nat) : Bool := decide (i = 0) || Dt.less (l.getD (i - 1) ((0, 0), 0)) (l.getD i ((0, 0), 0))
def rising (l : List Dt.Dot) : Bool := Om.upTo (riseAt l) l.length
def mayHistory (c : C) : Bool := decide (c.vv = Dt.canon c.vv) && decide (Dt.get c.vv c.dot.1 = c.dot.2)
def mayParents (c : C) : Bool := decide (c.par.length ≤ 64) && rising c.par && behind c.dot c.vv c.par
def may (c : C) : Bool := Om.mayEvent (event c) && mayHistory c && mayParents c && behind c.dot c.vv c.op.dots
theorem may_parts {c : C} (h : may c = true) : Om.mayEvent (event c) = true ∧ Om.may c.op = true ∧ c.par.length ≤ 64 ∧ c.vv.length ≤ 64 ∧ c.vv = Dt.canon c.vv ∧ 1 ≤ c.time ∧ c.time ≤ 1099511627776 := by
 simp only [may, mayHistory, mayParents, Bool.and_eq_true, decide_eq_true_eq] at h
 obtain ⟨⟨⟨h1, h2, _⟩, ⟨h3, _⟩, _⟩, _⟩ := h
 have h4 := h1
 simp only [Om.mayEvent, event, Bool.and_eq_true] at h4
 refine ⟨h1, h4.2, h3, ?_, h2, of_decide_eq_true h4.1.1.2, of_decide_eq_true h4.1.2⟩
 rw [h2]; exact Dt.vec_length _
end Cm
