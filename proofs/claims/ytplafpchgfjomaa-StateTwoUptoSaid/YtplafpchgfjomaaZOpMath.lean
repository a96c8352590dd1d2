import Derived.Test.YtplafpchgfjomaaZDotMath
import Derived.Test.YtplafpchgfjomaaZBytes
namespace Om
open Go
def nb (c : Nat) : Bool := (decide (97 ≤ c) && decide (c ≤ 122) || decide (65 ≤ c) && decide (c ≤ 90)) || decide (48 ≤ c) && decide (c ≤ 57)
def upTo (P : Nat → Bool) (k : Nat) : Bool := decide (∀ i < k, P i = true)
theorem upTo_zero (P : Nat → Bool) : upTo P 0 = true := by simp [upTo]
theorem upTo_iff {P : Nat → Bool} {k : Nat} : upTo P k = true ↔ ∀ i < k, P i = true := by simp [upTo]
theorem upTo_succ {P : Nat → Bool} {k : Nat} (h : upTo P k = true) (hk : P k = true) : upTo P (k + 1) = true := by
 rw [upTo_iff] at *
 intro i hi
 by_cases e : i = k
 ·rw [e]; exact hk
 ·exact h i (by omega)
theorem upTo_not {P : Nat → Bool} {k n : Nat} (hn : k < n) (hk : P k = false) : upTo P n = false := by
 rw [Bool.eq_false_iff]
 intro h
 rw [upTo_iff] at h
 have := h k hn
 rw [hk] at this; cases this
def nameAt (s : ByteArray) (i : Nat) : Bool := nb (s.data.getD i 0).toNat
def isName (s : ByteArray) : Bool := decide (1 ≤ s.size) && decide (s.size ≤ 12) && upTo (nameAt s) s.size
def pathAt (p : List ByteArray) (i : Nat) : Bool := isName (p.getD i ⟨#[]⟩)
def mayPath (p : List ByteArray) : Bool := decide (1 ≤ p.length) && decide (p.length ≤ 3) && upTo (pathAt p) p.length
def type (k : Nat) : Nat := if k = 1 then 1 else if k = 2 then 2 else if k = 3 then 3 else if k = 4 then 3 else if k = 5 then 4 else 0
def dropAt (l : List Dt.Dot) (i : Nat) : Bool := Dt.may (l.getD i ((0, 0), 0)) && (decide (i = 0) || Dt.less (l.getD (i - 1) ((0, 0), 0)) (l.getD i ((0, 0), 0)))
def mayDrops (l : List Dt.Dot) : Bool := decide (l.length ≤ 64) && upTo (dropAt l) l.length
structure O where
  kind : Nat
  path : List ByteArray
  n : Int
  text : ByteArray
  dots : List Dt.Dot
deriving DecidableEq
structure E where
  dot : Dt.Dot
  time : Nat
  op : O
deriving DecidableEq
def mayAdd (o : O) : Bool := decide (-1000000 ≤ o.n) && decide (o.n ≤ 1000000) && decide (o.text.size = 0) && decide (o.dots.length = 0)
def mayText (o : O) : Bool := decide (o.n = 0) && decide (o.text.size ≤ 40) && decide (o.dots.length = 0)
def mayDrop (o : O) : Bool := decide (o.n = 0) && decide (o.text.size ≤ 40) && mayDrops o.dots
def asked (o : O) : Bool := if o.kind = 1 then mayAdd o else if o.kind = 2 then mayText o else if o.kind = 3 then mayText o else if o.kind = 4 then mayDrop o else if o.kind = 5 then mayText o else false
def may (o : O) : Bool := mayPath o.path && asked o
def mayEvent (e : E) : Bool := Dt.may e.dot && decide (1 ≤ e.time) && decide (e.time ≤ 1099511627776) && may e.op
end Om
