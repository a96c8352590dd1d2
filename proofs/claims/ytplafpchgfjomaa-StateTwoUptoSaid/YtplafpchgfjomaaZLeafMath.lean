import Derived.Test.YtplafpchgfjomaaZOpMath
/- Plain mathematics of leaves: free of the program. -/
namespace Go.Lm
set_option linter.unusedSimpArgs false
set_option linter.unusedVariables false
abbrev It := Nat × Dt.Dot × ByteArray
def z : It := (0, ((0, 0), 0), ⟨#[]⟩)
def ahead (t : Nat) (d : Dt.Dot) (u : Nat) (o : Dt.Dot) : Bool := decide (t < u) || (decide (t = u) && Dt.less d o)
def aheadI (x y : It) : Bool := ahead x.1 x.2.1 y.1 y.2.1
structure L where
  kind : Nat
  n : Int
  time : Nat
  dot : Dt.Dot
  text : ByteArray
  items : List It
  tombs : List Dt.Dot
def zeroL : L := ⟨0, 0, 0, ((0, 0), 0), ⟨#[]⟩, [], []⟩
def new (k : Nat) : L := if 1 ≤ k ∧ k ≤ 4 then { zeroL with kind := k } else zeroL
def same (a b : L) : Bool := decide (a.kind = b.kind) && decide (a.n = b.n) && decide (a.time = b.time) && decide (a.dot = b.dot) && decide (a.text = b.text) && decide (a.items = b.items) && decide (a.tombs = b.tombs)
def mayI (lo hi : Nat) (x : It) : Bool := decide (lo ≤ x.1) && decide (x.1 ≤ hi) && Dt.may x.2.1 && decide (x.2.2.size ≤ 40)
def itemAt (lo hi : Nat) (l : List It) (i : Nat) : Bool := mayI lo hi (l.getD i z) && (decide (i = 0) || aheadI (l.getD (i - 1) z) (l.getD i z))
def mayItems (lo hi : Nat) (l : List It) : Bool := Om.upTo (itemAt lo hi l) l.length
def mayTombs (l : List Dt.Dot) : Bool := Om.upTo (Om.dropAt l) l.length
def hasI (l : List It) (d : Dt.Dot) : Bool := l.any fun x => decide (x.2.1 = d)
def hasD (l : List Dt.Dot) (d : Dt.Dot) : Bool := l.any fun x => decide (x = d)
def dots (l : List It) : List Dt.Dot := l.map fun x => x.2.1
def mayReg (l : L) : Bool := same l (new 2) || mayI 1 1099511627776 (l.time, l.dot, l.text)
def maySet (l : L) : Bool := mayItems 0 0 l.items && (mayTombs l.tombs && !(l.tombs.any fun d => hasI l.items d))
def mayLog (l : L) : Bool := mayItems 1 1099511627776 l.items && decide (dots l.items).Nodup
def may (l : L) : Bool :=
 if l.kind = 1 then same l { zeroL with kind := l.kind, n := l.n }
 else if l.kind = 2 then same l { zeroL with kind := l.kind, time := l.time, dot := l.dot, text := l.text } && mayReg l
 else if l.kind = 3 then same l { zeroL with kind := l.kind, items := l.items, tombs := l.tombs } && maySet l
 else if l.kind = 4 then same l { zeroL with kind := l.kind, items := l.items } && mayLog l
 else false
theorem ahead_iff {t : Nat} {d : Dt.Dot} {u : Nat} {o : Dt.Dot} : ahead t d u o = true ↔ t < u ∨ (t = u ∧ Dt.lt d o) := by simp [ahead, Dt.less]
theorem aheadI_iff {x y : It} : aheadI x y = true ↔ x.1 < y.1 ∨ (x.1 = y.1 ∧ Dt.lt x.2.1 y.2.1) := ahead_iff
theorem aheadI_trans {x y w : It} (h : aheadI x y = true) (g : aheadI y w = true) : aheadI x w = true := by
 rw [aheadI_iff] at *
 rcases h with h | ⟨h, h2⟩ <;> rcases g with g | ⟨g, g2⟩
 ·left; omega
 ·left; omega
 ·left; omega
 ·right; exact ⟨by omega, Dt.lt_trans h2 g2⟩
theorem lt_total (a b : Dt.Dot) : Dt.lt a b ∨ a = b ∨ Dt.lt b a := by
 rcases a with ⟨⟨x, y⟩, s⟩; rcases b with ⟨⟨u, v⟩, t⟩
 rw [Dt.lt_iff, Dt.lt_iff]; simp only [Prod.mk.injEq]; omega
theorem pairwise_of_next {α : Type} {R : α → α → Prop} (ht : ∀ {x y w}, R x y → R y w → R x w) {l : List α} (h : ∀ i (hi : i + 1 < l.length), R (l[i]'(by omega)) l[i + 1]) : l.Pairwise R := by
 rw [List.pairwise_iff_getElem]
 have key : ∀ k i (hk : i + k + 1 < l.length), R (l[i]'(by omega)) (l[i + k + 1]'hk) := by
  intro k
  induction k with
  | zero => intro i hk; exact h i hk
  | succ k ih => intro i hk; exact ht (ih i (by omega)) (h (i + k + 1) hk)
 intro i j hi hj hij
 obtain ⟨k, rfl⟩ : ∃ k, j = i + k + 1 := ⟨j - i - 1, by omega⟩
 exact key k i hj
theorem mayItems_iff {lo hi : Nat} {l : List It} : mayItems lo hi l = true ↔ (∀ x ∈ l, mayI lo hi x = true) ∧ l.Pairwise (fun x y => aheadI x y = true) := by
 unfold mayItems
 rw [Om.upTo_iff]
 constructor
 ·intro h
  constructor
  ·intro x hx
   obtain ⟨i, hi, rfl⟩ := List.getElem_of_mem hx
   have := h i hi
   unfold itemAt at this
   rw [Bool.and_eq_true] at this
   have h1 := this.1
   rwa [List.getD_eq_getElem?_getD, List.getElem?_eq_getElem hi] at h1
  ·refine pairwise_of_next (R := fun x y => aheadI x y = true) (fun h g => aheadI_trans h g) fun i hi => ?_
   have := h (i + 1) hi
   unfold itemAt at this
   rw [Bool.and_eq_true] at this
   have h1 := this.2
   rw [Nat.add_sub_cancel, List.getD_eq_getElem?_getD, List.getD_eq_getElem?_getD, List.getElem?_eq_getElem hi, List.getElem?_eq_getElem (by omega)] at h1
   simpa using h1
 ·intro ⟨h, g⟩ i hi
  unfold itemAt
  rw [Bool.and_eq_true]
  constructor
  ·rw [List.getD_eq_getElem?_getD, List.getElem?_eq_getElem hi]; exact h _ (List.getElem_mem hi)
  ·cases i with
   | zero => simp
   | succ i =>
    rw [List.pairwise_iff_getElem] at g
    rw [Nat.add_sub_cancel, List.getD_eq_getElem?_getD, List.getD_eq_getElem?_getD, List.getElem?_eq_getElem hi, List.getElem?_eq_getElem (by omega)]
    have := g i (i + 1) (by omega) hi (by omega)
    simp [this]
theorem hasD_iff {l : List Dt.Dot} {d : Dt.Dot} : hasD l d = true ↔ d ∈ l := by simp [hasD]
/-! ### where a dot's item stands -/
def idx (l : List It) (d : Dt.Dot) : Int := if hasI l d = true then (l.findIdx (fun x => decide (x.2.1 = d)) : Nat) else -1
/-! ### the document's leaf -/
def refAt (k : Nat) (l : List It) (tombs : List Dt.Dot) (i : Nat) : Bool :=
 let x := l.getD i z
 Dt.may x.2.1 && decide (x.2.2.size ≤ 40) && !(decide (k = 3) && decide (x.1 ≠ 0)) && !(decide (k = 4) && (decide (x.1 < 1) || decide (1099511627776 < x.1))) && decide (idx l x.2.1 = (i : Int)) && !hasD tombs x.2.1 && (decide (i = 0) || aheadI (l.getD (i - 1) z) x)
def headA (l : L) : Bool := decide (1 ≤ l.kind) && decide (l.kind ≤ 4) && (decide (l.kind = 1) || decide (l.n = 0)) && (decide (3 ≤ l.kind) || decide (l.items.length = 0)) && (decide (l.kind = 3) || decide (l.tombs.length = 0))
def headB (l : L) : Bool := if l.kind ≠ 2 ∨ l.time = 0 then decide (l.time = 0) && decide (l.dot = ((0, 0), 0)) && decide (l.text.size = 0) else decide (l.time ≤ 1099511627776) && Dt.may l.dot && decide (l.text.size ≤ 40)
def refMay (l : L) : Bool := headA l && headB l && Om.upTo (refAt l.kind l.items l.tombs) l.items.length && mayTombs l.tombs
theorem mayI_iff {lo hi : Nat} {x : It} : mayI lo hi x = true ↔ lo ≤ x.1 ∧ x.1 ≤ hi ∧ Dt.may x.2.1 = true ∧ x.2.2.size ≤ 40 := by
 unfold mayI; simp [and_assoc]
theorem same_iff {a b : L} : same a b = true ↔ a.kind = b.kind ∧ a.n = b.n ∧ a.time = b.time ∧ a.dot = b.dot ∧ a.text = b.text ∧ a.items = b.items ∧ a.tombs = b.tombs := by
 unfold same; simp [and_assoc]
theorem bool_eq {a b : Bool} (h : a = true ↔ b = true) : a = b := by cases a <;> cases b <;> simp_all
theorem may1 {l : L} (h : l.kind = 1) : may l = true ↔ l.time = 0 ∧ l.dot = ((0, 0), 0) ∧ l.text = ⟨#[]⟩ ∧ l.items = [] ∧ l.tombs = [] := by
 unfold may; rw [if_pos h, same_iff]; simp [zeroL]
theorem may2 {l : L} (h : l.kind = 2) : may l = true ↔ l.n = 0 ∧ l.items = [] ∧ l.tombs = [] ∧ ((l.time = 0 ∧ l.dot = ((0, 0), 0) ∧ l.text = ⟨#[]⟩) ∨ (1 ≤ l.time ∧ l.time ≤ 1099511627776 ∧ Dt.may l.dot = true ∧ l.text.size ≤ 40)) := by
 unfold may; rw [if_neg (by omega), if_pos h, Bool.and_eq_true, same_iff]; unfold mayReg; rw [Bool.or_eq_true, same_iff, mayI_iff]
 simp only [zeroL, new, show 1 ≤ 2 ∧ 2 ≤ 4 by decide, if_true, true_and, h, and_self]
 constructor
 ·rintro ⟨⟨a, b, c⟩, d | d⟩
  ·exact ⟨a, b, c, Or.inl ⟨d.2.1, d.2.2.1, d.2.2.2.1⟩⟩
  ·exact ⟨a, b, c, Or.inr d⟩
 ·rintro ⟨a, b, c, d | d⟩
  ·exact ⟨⟨a, b, c⟩, Or.inl ⟨a, d.1, d.2.1, d.2.2, b, c⟩⟩
  ·exact ⟨⟨a, b, c⟩, Or.inr d⟩
theorem may0 {l : L} (h : ¬ (1 ≤ l.kind ∧ l.kind ≤ 4)) : may l = false := by
 unfold may; rw [if_neg (by omega), if_neg (by omega), if_neg (by omega), if_neg (by omega)]
theorem dots_of_asc {l : List It} (h : l.Pairwise (fun x y => aheadI x y = true)) (ht : ∀ x ∈ l, x.1 = 0) : (dots l).Pairwise Dt.lt := by
 unfold dots
 rw [List.pairwise_map]
 refine List.Pairwise.imp_of_mem ?_ h
 intro x u hx hu h
 rw [aheadI_iff] at h
 have := ht x hx; have := ht u hu
 rcases h with h | ⟨_, h⟩
 ·omega
 ·exact h
/-! ### an event applied -/
def lay (l : List It) (x : It) : List It := l.takeWhile (fun y => aheadI y x) ++ x :: l.dropWhile (fun y => aheadI y x)
def bury (l : List Dt.Dot) (d : Dt.Dot) : List Dt.Dot := if hasD l d = true then l else l.takeWhile (fun y => Dt.less y d) ++ d :: l.dropWhile (fun y => Dt.less y d)
def add64 (a b : Int) : Int := IntKind.i64.wrap (a + b)
def applied (l : L) (e : Om.E) : L :=
 if e.op.kind = 1 then { l with n := add64 l.n e.op.n }
 else if e.op.kind = 2 then (if ahead l.time l.dot e.time e.dot = true then { l with time := e.time, dot := e.dot, text := e.op.text } else l)
 else if e.op.kind = 3 then (if hasI l.items e.dot = true ∨ hasD l.tombs e.dot = true then l else { l with items := lay l.items (0, e.dot, e.op.text) })
 else if e.op.kind = 4 then { l with items := l.items.filter (fun x => !hasD e.op.dots x.2.1), tombs := e.op.dots.foldl bury l.tombs }
 else (if hasI l.items e.dot = true then l else { l with items := lay l.items (e.time, e.dot, e.op.text) })
def apply (l : L) (e : Om.E) : L × Int := if may l = false ∨ Om.mayEvent e = false then (zeroL, 2) else if Om.type e.op.kind ≠ l.kind then (zeroL, 15) else (applied l e, 0)
/-! ### what stands side by side, once -/
def cstep (acc : List Dt.Dot) (d : Dt.Dot) : List Dt.Dot := if acc.getLast? = some d then acc else acc ++ [d]
def compact (l : List Dt.Dot) : List Dt.Dot := l.foldl cstep []
end Go.Lm
