import Derived.Test.YtiiidmphmojlgaaGreatZOpMath
/- Plain mathematics of leaves: free of the program. -/
namespace Go.Lm
set_option linter.unusedSimpArgs false
set_option linter.unusedVariables false
abbrev It := Nat × Dt.Dot × ByteArray
def z : It := (0, ((0, 0), 0), ⟨#[]⟩)
def ahead (t : Nat) (d : Dt.Dot) (u : Nat) (o : Dt.Dot) : Bool := decide (t < u) || (decide (t = u) && Dt.less d o)
def aheadI (x y : It) : Bool := ahead x.1 x.2.1 y.1 y.2.1
structure L where
  kind : Nat
  n : Int
  time : Nat
  dot : Dt.Dot
  text : ByteArray
  items : List It
  tombs : List Dt.Dot
def zeroL : L := ⟨0, 0, 0, ((0, 0), 0), ⟨#[]⟩, [], []⟩
def new (k : Nat) : L := if 1 ≤ k ∧ k ≤ 4 then { zeroL with kind := k } else zeroL
def same (a b : L) : Bool := decide (a.kind = b.kind) && decide (a.n = b.n) && decide (a.time = b.time) && decide (a.dot = b.dot) && decide (a.text = b.text) && decide (a.items = b.items) && decide (a.tombs = b.tombs)
def mayI (lo hi : Nat) (x : It) : Bool := decide (lo ≤ x.1) && decide (x.1 ≤ hi) && Dt.may x.2.1 && decide (x.2.2.size ≤ 40)
def itemAt (lo hi : Nat) (l : List It) (i : Nat) : Bool := mayI lo hi (l.getD i z) && (decide (i = 0) || aheadI (l.getD (i - 1) z) (l.getD i z))
def mayItems (lo hi : Nat) (l : List It) : Bool := Om.upTo (itemAt lo hi l) l.length
def mayTombs (l : List Dt.Dot) : Bool := Om.upTo (Om.dropAt l) l.length
def hasI (l : List It) (d : Dt.Dot) : Bool := l.any fun x => decide (x.2.1 = d)
def hasD (l : List Dt.Dot) (d : Dt.Dot) : Bool := l.any fun x => decide (x = d)
def dots (l : List It) : List Dt.Dot := l.map fun x => x.2.1
def mayReg (l : L) : Bool := same l (new 2) || mayI 1 1099511627776 (l.time, l.dot, l.text)
def maySet (l : L) : Bool := mayItems 0 0 l.items && (mayTombs l.tombs && !(l.tombs.any fun d => hasI l.items d))
def mayLog (l : L) : Bool := mayItems 1 1099511627776 l.items && decide (dots l.items).Nodup
def may (l : L) : Bool :=
 if l.kind = 1 then same l { zeroL with kind := l.kind, n := l.n }
 else if l.kind = 2 then same l { zeroL with kind := l.kind, time := l.time, dot := l.dot, text := l.text } && mayReg l
 else if l.kind = 3 then same l { zeroL with kind := l.kind, items := l.items, tombs := l.tombs } && maySet l
 else if l.kind = 4 then same l { zeroL with kind := l.kind, items := l.items } && mayLog l
 else false
theorem hasD_iff {l : List Dt.Dot} {d : Dt.Dot} : hasD l d = true ↔ d ∈ l := by simp [hasD]
/-! ### where a dot's item stands -/
def idx (l : List It) (d : Dt.Dot) : Int := if hasI l d = true then (l.findIdx (fun x => decide (x.2.1 = d)) : Nat) else -1
/-! ### the document's leaf -/
def refAt (k : Nat) (l : List It) (tombs : List Dt.Dot) (i : Nat) : Bool :=
 let x := l.getD i z
 Dt.may x.2.1 && decide (x.2.2.size ≤ 40) && !(decide (k = 3) && decide (x.1 ≠ 0)) && !(decide (k = 4) && (decide (x.1 < 1) || decide (1099511627776 < x.1))) && decide (idx l x.2.1 = (i : Int)) && !hasD tombs x.2.1 && (decide (i = 0) || aheadI (l.getD (i - 1) z) x)
def headA (l : L) : Bool := decide (1 ≤ l.kind) && decide (l.kind ≤ 4) && (decide (l.kind = 1) || decide (l.n = 0)) && (decide (3 ≤ l.kind) || decide (l.items.length = 0)) && (decide (l.kind = 3) || decide (l.tombs.length = 0))
def headB (l : L) : Bool := if l.kind ≠ 2 ∨ l.time = 0 then decide (l.time = 0) && decide (l.dot = ((0, 0), 0)) && decide (l.text.size = 0) else decide (l.time ≤ 1099511627776) && Dt.may l.dot && decide (l.text.size ≤ 40)
def refMay (l : L) : Bool := headA l && headB l && Om.upTo (refAt l.kind l.items l.tombs) l.items.length && mayTombs l.tombs
/-! ### an event applied -/
def lay (l : List It) (x : It) : List It := l.takeWhile (fun y => aheadI y x) ++ x :: l.dropWhile (fun y => aheadI y x)
def bury (l : List Dt.Dot) (d : Dt.Dot) : List Dt.Dot := if hasD l d = true then l else l.takeWhile (fun y => Dt.less y d) ++ d :: l.dropWhile (fun y => Dt.less y d)
def add64 (a b : Int) : Int := IntKind.i64.wrap (a + b)
def applied (l : L) (e : Om.E) : L :=
 if e.op.kind = 1 then { l with n := add64 l.n e.op.n }
 else if e.op.kind = 2 then (if ahead l.time l.dot e.time e.dot = true then { l with time := e.time, dot := e.dot, text := e.op.text } else l)
 else if e.op.kind = 3 then (if hasI l.items e.dot = true ∨ hasD l.tombs e.dot = true then l else { l with items := lay l.items (0, e.dot, e.op.text) })
 else if e.op.kind = 4 then { l with items := l.items.filter (fun x => !hasD e.op.dots x.2.1), tombs := e.op.dots.foldl bury l.tombs }
 else (if hasI l.items e.dot = true then l else { l with items := lay l.items (e.time, e.dot, e.op.text) })
def apply (l : L) (e : Om.E) : L × Int := if may l = false ∨ Om.mayEvent e = false then (zeroL, 2) else if Om.type e.op.kind ≠ l.kind then (zeroL, 15) else (applied l e, 0)
/-! ### what stands side by side, once -/
def cstep (acc : List Dt.Dot) (d : Dt.Dot) : List Dt.Dot := if acc.getLast? = some d then acc else acc ++ [d]
def compact (l : List Dt.Dot) : List Dt.Dot := l.foldl cstep []
end Go.Lm
