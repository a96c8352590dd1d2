import Derived.Test.YtplafpchgfjomaaZLeafMath
/- Trees as lists of nodes: which may be. -/
namespace Go.Tm
inductive N where
  | mk (name : ByteArray) (leaves : List Lm.L) (under : List N) : N
def N.name : N → ByteArray | .mk a _ _ => a
def N.leaves : N → List Lm.L | .mk _ b _ => b
def N.under : N → List N | .mk _ _ c => c
@[simp] theorem N.name_mk (a : ByteArray) (b : List Lm.L) (c : List N) : (N.mk a b c).name = a := rfl
@[simp] theorem N.leaves_mk (a : ByteArray) (b : List Lm.L) (c : List N) : (N.mk a b c).leaves = b := rfl
@[simp] theorem N.under_mk (a : ByteArray) (b : List Lm.L) (c : List N) : (N.mk a b c).under = c := rfl
def leafAt (l : List Lm.L) (i : Nat) : Bool := (decide (i = 0) || decide ((l.getD (i - 1) Lm.zeroL).kind < (l.getD i Lm.zeroL).kind)) && Lm.may (l.getD i Lm.zeroL)
def mayLeaves (l : List Lm.L) : Bool := Om.upTo (leafAt l) l.length
def noN : N := .mk ⟨#[]⟩ [] []
def nodeAt (lt : ByteArray → ByteArray → Bool) (f : List N → Bool) (l : List N) (i : Nat) : Bool :=
 (decide (i = 0) || lt (l.getD (i - 1) noN).name (l.getD i noN).name) && (Om.isName (l.getD i noN).name && (!(l.getD i noN).leaves.isEmpty || !(l.getD i noN).under.isEmpty) && mayLeaves (l.getD i noN).leaves && f (l.getD i noN).under)
def may (lt : ByteArray → ByteArray → Bool) : Nat → List N → Bool
 | 0, l => l.isEmpty
 | m + 1, l => Om.upTo (nodeAt lt (may lt m) l) l.length
theorem leafAt_zero {l : List Lm.L} {d : Lm.L} (h : l[0]? = some d) : leafAt l 0 = Lm.may d := by simp [leafAt, List.getD, h]
theorem leafAt_succ {l : List Lm.L} {k : Nat} {d e : Lm.L} (hk : 0 < k) (h : l[k]? = some d) (h' : l[k - 1]? = some e) : leafAt l k = (decide (e.kind < d.kind) && Lm.may d) := by
 have : ¬ k = 0 := by omega
 simp [leafAt, List.getD, h, h', this]
def mayNode (f : List N → Bool) (d : N) : Bool := Om.isName d.name && (!d.leaves.isEmpty || !d.under.isEmpty) && mayLeaves d.leaves && f d.under
theorem nodeAt_zero {lt : ByteArray → ByteArray → Bool} {f : List N → Bool} {l : List N} {d : N} (h : l[0]? = some d) : nodeAt lt f l 0 = mayNode f d := by simp [nodeAt, mayNode, List.getD, h]
theorem nodeAt_succ {lt : ByteArray → ByteArray → Bool} {f : List N → Bool} {l : List N} {k : Nat} {d e : N} (hk : 0 < k) (h : l[k]? = some d) (h' : l[k - 1]? = some e) : nodeAt lt f l k = (lt e.name d.name && mayNode f d) := by
 have : ¬ k = 0 := by omega
 simp [nodeAt, mayNode, List.getD, h, h', this]
end Go.Tm
