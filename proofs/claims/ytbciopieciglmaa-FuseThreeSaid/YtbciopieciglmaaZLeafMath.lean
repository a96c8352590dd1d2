import Derived.Test.YtbciopieciglmaaZOpMath
/- Plain mathematics of leaves: free of the program. -/
namespace Go.Lm
set_option linter.unusedSimpArgs false
set_option linter.unusedVariables false
abbrev It := Nat × Dt.Dot × ByteArray
def z : It := (0, ((0, 0), 0), ⟨#[]⟩)
def ahead (t : Nat) (d : Dt.Dot) (u : Nat) (o : Dt.Dot) : Bool := decide (t < u) || (decide (t = u) && Dt.less d o)
def aheadI (x y : It) : Bool := ahead x.1 x.2.1 y.1 y.2.1
structure L where
  kind : Nat
  n : Int
  time : Nat
  dot : Dt.Dot
  text : ByteArray
  items : List It
  tombs : List Dt.Dot
def zeroL : L := ⟨0, 0, 0, ((0, 0), 0), ⟨#[]⟩, [], []⟩
def new (k : Nat) : L := if 1 ≤ k ∧ k ≤ 4 then { zeroL with kind := k } else zeroL
def same (a b : L) : Bool := decide (a.kind = b.kind) && decide (a.n = b.n) && decide (a.time = b.time) && decide (a.dot = b.dot) && decide (a.text = b.text) && decide (a.items = b.items) && decide (a.tombs = b.tombs)
def mayI (lo hi : Nat) (x : It) : Bool := decide (lo ≤ x.1) && decide (x.1 ≤ hi) && Dt.may x.2.1 && decide (x.2.2.size ≤ 40)
def itemAt (lo hi : Nat) (l : List It) (i : Nat) : Bool := mayI lo hi (l.getD i z) && (decide (i = 0) || aheadI (l.getD (i - 1) z) (l.getD i z))
def mayItems (lo hi : Nat) (l : List It) : Bool := Om.upTo (itemAt lo hi l) l.length
def mayTombs (l : List Dt.Dot) : Bool := Om.upTo (Om.dropAt l) l.length
def hasI (l : List It) (d : Dt.Dot) : Bool := l.any fun x => decide (x.2.1 = d)
def hasD (l : List Dt.Dot) (d : Dt.Dot) : Bool := l.any fun x => decide (x = d)
def dots (l : List It) : List Dt.Dot := l.map fun x => x.2.1
def mayReg (l : L) : Bool := same l (new 2) || mayI 1 1099511627776 (l.time, l.dot, l.text)
def maySet (l : L) : Bool := mayItems 0 0 l.items && (mayTombs l.tombs && !(l.tombs.any fun d => hasI l.items d))
def mayLog (l : L) : Bool := mayItems 1 1099511627776 l.items && decide (dots l.items).Nodup
def may (l : L) : Bool :=
 if l.kind = 1 then same l { zeroL with kind := l.kind, n := l.n }
 else if l.kind = 2 then same l { zeroL with kind := l.kind, time := l.time, dot := l.dot, text := l.text } && mayReg l
 else if l.kind = 3 then same l { zeroL with kind := l.kind, items := l.items, tombs := l.tombs } && maySet l
 else if l.kind = 4 then same l { zeroL with kind := l.kind, items := l.items } && mayLog l
 else false
theorem ahead_iff {t : Nat} {d : Dt.Dot} {u : Nat} {o : Dt.Dot} : ahead t d u o = true ↔ t < u ∨ (t = u ∧ Dt.lt d o) := by simp [ahead, Dt.less]
theorem aheadI_iff {x y : It} : aheadI x y = true ↔ x.1 < y.1 ∨ (x.1 = y.1 ∧ Dt.lt x.2.1 y.2.1) := ahead_iff
theorem aheadI_trans {x y w : It} (h : aheadI x y = true) (g : aheadI y w = true) : aheadI x w = true := by
 rw [aheadI_iff] at *
 rcases h with h | ⟨h, h2⟩ <;> rcases g with g | ⟨g, g2⟩
 ·left; omega
 ·left; omega
 ·left; omega
 ·right; exact ⟨by omega, Dt.lt_trans h2 g2⟩
theorem aheadI_irrefl (x : It) : aheadI x x = false := by
 cases h : aheadI x x
 ·rfl
 ·rw [aheadI_iff] at h
  rcases h with h | ⟨_, h⟩
  ·omega
  ·exact absurd h (Dt.lt_irrefl _)
theorem lt_total (a b : Dt.Dot) : Dt.lt a b ∨ a = b ∨ Dt.lt b a := by
 rcases a with ⟨⟨x, y⟩, s⟩; rcases b with ⟨⟨u, v⟩, t⟩
 rw [Dt.lt_iff, Dt.lt_iff]; simp only [Prod.mk.injEq]; omega
theorem aheadI_total (x y : It) (hne : x.2.1 ≠ y.2.1) : aheadI x y = true ∨ aheadI y x = true := by
 rw [aheadI_iff, aheadI_iff]
 rcases lt_total x.2.1 y.2.1 with h | h | h
 ·by_cases h1 : x.1 < y.1
  ·exact Or.inl (Or.inl h1)
  ·by_cases h2 : y.1 < x.1
   ·exact Or.inr (Or.inl h2)
   ·exact Or.inl (Or.inr ⟨by omega, h⟩)
 ·exact absurd h hne
 ·by_cases h1 : x.1 < y.1
  ·exact Or.inl (Or.inl h1)
  ·by_cases h2 : y.1 < x.1
   ·exact Or.inr (Or.inl h2)
   ·exact Or.inr (Or.inr ⟨by omega, h⟩)
theorem aheadI_asymm {x y : It} (h : aheadI x y = true) : aheadI y x = false := by
 cases g : aheadI y x
 ·rfl
 ·have := aheadI_trans h g; rw [aheadI_irrefl] at this; cases this
theorem pairwise_of_next {α : Type} {R : α → α → Prop} (ht : ∀ {x y w}, R x y → R y w → R x w) {l : List α} (h : ∀ i (hi : i + 1 < l.length), R (l[i]'(by omega)) l[i + 1]) : l.Pairwise R := by
 rw [List.pairwise_iff_getElem]
 have key : ∀ k i (hk : i + k + 1 < l.length), R (l[i]'(by omega)) (l[i + k + 1]'hk) := by
  intro k
  induction k with
  | zero => intro i hk; exact h i hk
  | succ k ih => intro i hk; exact ht (ih i (by omega)) (h (i + k + 1) hk)
 intro i j hi hj hij
 obtain ⟨k, rfl⟩ : ∃ k, j = i + k + 1 := ⟨j - i - 1, by omega⟩
 exact key k i hj
theorem mayItems_iff {lo hi : Nat} {l : List It} : mayItems lo hi l = true ↔ (∀ x ∈ l, mayI lo hi x = true) ∧ l.Pairwise (fun x y => aheadI x y = true) := by
 unfold mayItems
 rw [Om.upTo_iff]
 constructor
 ·intro h
  constructor
  ·intro x hx
   obtain ⟨i, hi, rfl⟩ := List.getElem_of_mem hx
   have := h i hi
   unfold itemAt at this
   rw [Bool.and_eq_true] at this
   have h1 := this.1
   rwa [List.getD_eq_getElem?_getD, List.getElem?_eq_getElem hi] at h1
  ·refine pairwise_of_next (R := fun x y => aheadI x y = true) (fun h g => aheadI_trans h g) fun i hi => ?_
   have := h (i + 1) hi
   unfold itemAt at this
   rw [Bool.and_eq_true] at this
   have h1 := this.2
   rw [Nat.add_sub_cancel, List.getD_eq_getElem?_getD, List.getD_eq_getElem?_getD, List.getElem?_eq_getElem hi, List.getElem?_eq_getElem (by omega)] at h1
   simpa using h1
 ·intro ⟨h, g⟩ i hi
  unfold itemAt
  rw [Bool.and_eq_true]
  constructor
  ·rw [List.getD_eq_getElem?_getD, List.getElem?_eq_getElem hi]; exact h _ (List.getElem_mem hi)
  ·cases i with
   | zero => simp
   | succ i =>
    rw [List.pairwise_iff_getElem] at g
    rw [Nat.add_sub_cancel, List.getD_eq_getElem?_getD, List.getD_eq_getElem?_getD, List.getElem?_eq_getElem hi, List.getElem?_eq_getElem (by omega)]
    have := g i (i + 1) (by omega) hi (by omega)
    simp [this]
theorem mayTombs_iff {l : List Dt.Dot} : mayTombs l = true ↔ (∀ d ∈ l, Dt.may d = true) ∧ l.Pairwise Dt.lt := by
 unfold mayTombs
 rw [Om.upTo_iff]
 constructor
 ·intro h
  constructor
  ·intro x hx
   obtain ⟨i, hi, rfl⟩ := List.getElem_of_mem hx
   have := h i hi
   unfold Om.dropAt at this
   rw [Bool.and_eq_true] at this
   have h1 := this.1
   rwa [List.getD_eq_getElem?_getD, List.getElem?_eq_getElem hi] at h1
  ·refine pairwise_of_next (R := Dt.lt) (fun h g => Dt.lt_trans h g) fun i hi => ?_
   have := h (i + 1) hi
   unfold Om.dropAt at this
   rw [Bool.and_eq_true] at this
   have h1 := this.2
   rw [Nat.add_sub_cancel, List.getD_eq_getElem?_getD, List.getD_eq_getElem?_getD, List.getElem?_eq_getElem hi, List.getElem?_eq_getElem (by omega)] at h1
   simpa [Dt.less] using h1
 ·intro ⟨h, g⟩ i hi
  unfold Om.dropAt
  rw [Bool.and_eq_true]
  constructor
  ·rw [List.getD_eq_getElem?_getD, List.getElem?_eq_getElem hi]; exact h _ (List.getElem_mem hi)
  ·cases i with
   | zero => simp
   | succ i =>
    rw [List.pairwise_iff_getElem] at g
    rw [Nat.add_sub_cancel, List.getD_eq_getElem?_getD, List.getD_eq_getElem?_getD, List.getElem?_eq_getElem hi, List.getElem?_eq_getElem (by omega)]
    have := g i (i + 1) (by omega) hi (by omega)
    simp [Dt.less, this]
theorem hasI_iff {l : List It} {d : Dt.Dot} : hasI l d = true ↔ ∃ x ∈ l, x.2.1 = d := by simp [hasI]
theorem hasD_iff {l : List Dt.Dot} {d : Dt.Dot} : hasD l d = true ↔ d ∈ l := by simp [hasD]
/-! ### where a dot's item stands -/
def idx (l : List It) (d : Dt.Dot) : Int := if hasI l d = true then (l.findIdx (fun x => decide (x.2.1 = d)) : Nat) else -1
theorem idx_found {l : List It} {d : Dt.Dot} {i : Nat} (h : ∀ (j : Nat) (y : It), j < i → l[j]? = some y → y.2.1 ≠ d) {x : It} (hx : l[i]? = some x) (he : x.2.1 = d) : idx l d = i := by
 obtain ⟨hi, hxi⟩ := List.getElem?_eq_some_iff.1 hx
 unfold idx
 rw [if_pos (hasI_iff.2 ⟨x, List.mem_of_getElem? hx, he⟩)]
 have : l.findIdx (fun x => decide (x.2.1 = d)) = i := by
  rw [List.findIdx_eq hi]
  exact ⟨by rw [hxi]; simp [he], fun j hj => by have := h j (l[j]'(by omega)) hj (List.getElem?_eq_getElem _); simp [this]⟩
 rw [this]
theorem idx_none {l : List It} {d : Dt.Dot} (h : ∀ (j : Nat) (y : It), l[j]? = some y → y.2.1 ≠ d) : idx l d = -1 := by
 unfold idx
 rw [if_neg]
 rw [hasI_iff]
 rintro ⟨x, hx, he⟩
 obtain ⟨i, hi, rfl⟩ := List.getElem_of_mem hx
 exact h i _ (List.getElem?_eq_getElem hi) he
theorem idx_ge {l : List It} {d : Dt.Dot} : (0 ≤ idx l d) ↔ hasI l d = true := by
 unfold idx
 split
 ·simp [*]
 ·simp [*]
theorem idx_self {l : List It} (i : Nat) (hi : i < l.length) : idx l (l[i]).2.1 = i ↔ ∀ j (hj : j < i), (l[j]'(by omega)).2.1 ≠ (l[i]).2.1 := by
 have hh : hasI l (l[i]).2.1 = true := hasI_iff.2 ⟨_, List.getElem_mem hi, rfl⟩
 constructor
 ·intro h j hj e
  unfold idx at h
  rw [if_pos hh] at h
  have h2 : l.findIdx (fun x => decide (x.2.1 = (l[i]).2.1)) = i := by omega
  have := (List.findIdx_eq hi).1 h2
  have h3 := this.2 j hj
  simp at h3
  exact h3 e
 ·intro h
  refine idx_found (x := l[i]) (fun j y hj hy => ?_) (List.getElem?_eq_getElem hi) rfl
  obtain ⟨hj2, rfl⟩ := List.getElem?_eq_some_iff.1 hy
  exact h j hj
/-! ### the document's leaf -/
def refAt (k : Nat) (l : List It) (tombs : List Dt.Dot) (i : Nat) : Bool :=
 let x := l.getD i z
 Dt.may x.2.1 && decide (x.2.2.size ≤ 40) && !(decide (k = 3) && decide (x.1 ≠ 0)) && !(decide (k = 4) && (decide (x.1 < 1) || decide (1099511627776 < x.1))) && decide (idx l x.2.1 = (i : Int)) && !hasD tombs x.2.1 && (decide (i = 0) || aheadI (l.getD (i - 1) z) x)
def headA (l : L) : Bool := decide (1 ≤ l.kind) && decide (l.kind ≤ 4) && (decide (l.kind = 1) || decide (l.n = 0)) && (decide (3 ≤ l.kind) || decide (l.items.length = 0)) && (decide (l.kind = 3) || decide (l.tombs.length = 0))
def headB (l : L) : Bool := if l.kind ≠ 2 ∨ l.time = 0 then decide (l.time = 0) && decide (l.dot = ((0, 0), 0)) && decide (l.text.size = 0) else decide (l.time ≤ 1099511627776) && Dt.may l.dot && decide (l.text.size ≤ 40)
def refMay (l : L) : Bool := headA l && headB l && Om.upTo (refAt l.kind l.items l.tombs) l.items.length && mayTombs l.tombs
theorem text_zero {t : ByteArray} : t = ⟨#[]⟩ ↔ t.size = 0 := by
 constructor
 ·rintro rfl; rfl
 ·intro h
  obtain ⟨⟨d⟩⟩ := t
  cases d with
  | nil => rfl
  | cons => simp [ByteArray.size] at h
theorem refAt_iff {k : Nat} {l : List It} {tombs : List Dt.Dot} : Om.upTo (refAt k l tombs) l.length = true ↔
  (∀ x ∈ l, Dt.may x.2.1 = true ∧ x.2.2.size ≤ 40 ∧ (k = 3 → x.1 = 0) ∧ (k = 4 → 1 ≤ x.1 ∧ x.1 ≤ 1099511627776) ∧ hasD tombs x.2.1 = false) ∧ (dots l).Nodup ∧ l.Pairwise (fun x y => aheadI x y = true) := by
 rw [Om.upTo_iff]
 have hun : ∀ i (hi : i < l.length), (refAt k l tombs i = true ↔ (Dt.may (l[i]).2.1 = true ∧ (l[i]).2.2.size ≤ 40 ∧ (k = 3 → (l[i]).1 = 0) ∧ (k = 4 → 1 ≤ (l[i]).1 ∧ (l[i]).1 ≤ 1099511627776) ∧ hasD tombs (l[i]).2.1 = false) ∧ (∀ j (hj : j < i), (l[j]'(by omega)).2.1 ≠ (l[i]).2.1) ∧ (i = 0 ∨ aheadI (l[i - 1]'(by omega)) l[i] = true)) := by
  intro i hi
  rw [← idx_self i hi]
  unfold refAt
  have e1 : l.getD i z = l[i] := by rw [List.getD_eq_getElem?_getD, List.getElem?_eq_getElem hi]; rfl
  have e2 : l.getD (i - 1) z = l[i - 1]'(by omega) := by rw [List.getD_eq_getElem?_getD, List.getElem?_eq_getElem (by omega)]; rfl
  rw [e1, e2]
  simp only [Bool.and_eq_true, Bool.or_eq_true, Bool.not_eq_true', decide_eq_true_eq, Bool.and_eq_false_iff, Bool.or_eq_false_iff, decide_eq_false_iff_not]
  constructor
  ·rintro ⟨⟨⟨⟨⟨⟨a, b⟩, c⟩, d⟩, e⟩, f⟩, g⟩
   exact ⟨⟨a, b, fun hk => by rcases c with c | c; exact absurd hk c; omega, fun hk => by rcases d with d | d; exact absurd hk d; omega, f⟩, e, g⟩
  ·rintro ⟨⟨a, b, c, d, f⟩, e, g⟩
   refine ⟨⟨⟨⟨⟨⟨a, b⟩, ?_⟩, ?_⟩, e⟩, f⟩, g⟩
   ·by_cases hk : k = 3
    ·right; have := c hk; omega
    ·exact Or.inl hk
   ·by_cases hk : k = 4
    ·right; have := d hk; omega
    ·exact Or.inl hk
 constructor
 ·intro h
  refine ⟨fun x hx => ?_, ?_, ?_⟩
  ·obtain ⟨i, hi, rfl⟩ := List.getElem_of_mem hx
   exact ((hun i hi).1 (h i hi)).1
  ·unfold dots List.Nodup
   rw [List.pairwise_map, List.pairwise_iff_getElem]
   intro i j hi hj hij
   exact ((hun j hj).1 (h j hj)).2.1 i hij
  ·refine pairwise_of_next (R := fun x y => aheadI x y = true) (fun h g => aheadI_trans h g) fun i hi => ?_
   have := ((hun (i + 1) hi).1 (h (i + 1) hi)).2.2
   rcases this with g | g
   ·omega
   ·simpa using g
 ·rintro ⟨h1, h2, h3⟩ i hi
  unfold dots List.Nodup at h2
  rw [List.pairwise_map, List.pairwise_iff_getElem] at h2
  rw [List.pairwise_iff_getElem] at h3
  refine (hun i hi).2 ⟨h1 _ (List.getElem_mem hi), fun j hj => h2 j i (by omega) hi hj, ?_⟩
  by_cases h0 : i = 0
  ·exact Or.inl h0
  ·exact Or.inr (h3 (i - 1) i (by omega) hi (by omega))
theorem mayI_iff {lo hi : Nat} {x : It} : mayI lo hi x = true ↔ lo ≤ x.1 ∧ x.1 ≤ hi ∧ Dt.may x.2.1 = true ∧ x.2.2.size ≤ 40 := by
 unfold mayI; simp [and_assoc]
theorem same_iff {a b : L} : same a b = true ↔ a.kind = b.kind ∧ a.n = b.n ∧ a.time = b.time ∧ a.dot = b.dot ∧ a.text = b.text ∧ a.items = b.items ∧ a.tombs = b.tombs := by
 unfold same; simp [and_assoc]
theorem same_refl (a : L) : same a a = true := by simp [same]
theorem bool_eq {a b : Bool} (h : a = true ↔ b = true) : a = b := by cases a <;> cases b <;> simp_all
theorem mayTombs_nil : mayTombs [] = true := by simp [mayTombs, Om.upTo]
theorem dots_nil : (dots []).Nodup := by simp [dots]
theorem headA_iff {l : L} : headA l = true ↔ 1 ≤ l.kind ∧ l.kind ≤ 4 ∧ (l.kind = 1 ∨ l.n = 0) ∧ (3 ≤ l.kind ∨ l.items = []) ∧ (l.kind = 3 ∨ l.tombs = []) := by
 unfold headA; simp [and_assoc]
theorem headB_iff {l : L} : headB l = true ↔ ((l.kind ≠ 2 ∨ l.time = 0) → l.time = 0 ∧ l.dot = ((0, 0), 0) ∧ l.text = ⟨#[]⟩) ∧ (¬ (l.kind ≠ 2 ∨ l.time = 0) → l.time ≤ 1099511627776 ∧ Dt.may l.dot = true ∧ l.text.size ≤ 40) := by
 unfold headB
 split
 ·rename_i h; simp only [Bool.and_eq_true, decide_eq_true_eq, text_zero]; constructor
  ·intro g; exact ⟨fun _ => ⟨g.1.1, g.1.2, g.2⟩, fun n => absurd h n⟩
  ·intro g; have := g.1 h; exact ⟨⟨this.1, this.2.1⟩, this.2.2⟩
 ·rename_i h; simp only [Bool.and_eq_true, decide_eq_true_eq]; constructor
  ·intro g; exact ⟨fun n => absurd n h, fun _ => ⟨g.1.1, g.1.2, g.2⟩⟩
  ·intro g; have := g.2 h; exact ⟨⟨this.1, this.2.1⟩, this.2.2⟩
theorem may1 {l : L} (h : l.kind = 1) : may l = true ↔ l.time = 0 ∧ l.dot = ((0, 0), 0) ∧ l.text = ⟨#[]⟩ ∧ l.items = [] ∧ l.tombs = [] := by
 unfold may; rw [if_pos h, same_iff]; simp [zeroL]
theorem may2 {l : L} (h : l.kind = 2) : may l = true ↔ l.n = 0 ∧ l.items = [] ∧ l.tombs = [] ∧ ((l.time = 0 ∧ l.dot = ((0, 0), 0) ∧ l.text = ⟨#[]⟩) ∨ (1 ≤ l.time ∧ l.time ≤ 1099511627776 ∧ Dt.may l.dot = true ∧ l.text.size ≤ 40)) := by
 unfold may; rw [if_neg (by omega), if_pos h, Bool.and_eq_true, same_iff]; unfold mayReg; rw [Bool.or_eq_true, same_iff, mayI_iff]
 simp only [zeroL, new, show 1 ≤ 2 ∧ 2 ≤ 4 by decide, if_true, true_and, h, and_self]
 constructor
 ·rintro ⟨⟨a, b, c⟩, d | d⟩
  ·exact ⟨a, b, c, Or.inl ⟨d.2.1, d.2.2.1, d.2.2.2.1⟩⟩
  ·exact ⟨a, b, c, Or.inr d⟩
 ·rintro ⟨a, b, c, d | d⟩
  ·exact ⟨⟨a, b, c⟩, Or.inl ⟨a, d.1, d.2.1, d.2.2, b, c⟩⟩
  ·exact ⟨⟨a, b, c⟩, Or.inr d⟩
theorem may3 {l : L} (h : l.kind = 3) : may l = true ↔ l.n = 0 ∧ l.time = 0 ∧ l.dot = ((0, 0), 0) ∧ l.text = ⟨#[]⟩ ∧ ((∀ x ∈ l.items, mayI 0 0 x = true) ∧ l.items.Pairwise (fun x y => aheadI x y = true)) ∧ mayTombs l.tombs = true ∧ ∀ x ∈ l.items, hasD l.tombs x.2.1 = false := by
 unfold may; rw [if_neg (by omega), if_neg (by omega), if_pos h, Bool.and_eq_true, same_iff]; unfold maySet; rw [Bool.and_eq_true, Bool.and_eq_true, mayItems_iff]
 simp only [zeroL, true_and, and_self, and_true, Bool.not_eq_true', and_assoc, List.any_eq_false]
 have e : (∀ x ∈ l.tombs, ¬ hasI l.items x = true) ↔ ∀ x ∈ l.items, hasD l.tombs x.2.1 = false := by
  simp only [hasI_iff, ← Bool.not_eq_true, hasD_iff]
  constructor
  ·intro g x hx ht; exact g _ ht ⟨x, hx, rfl⟩
  ·rintro g t ht ⟨x, hx, rfl⟩; exact g x hx ht
 rw [e]
theorem may4 {l : L} (h : l.kind = 4) : may l = true ↔ l.n = 0 ∧ l.time = 0 ∧ l.dot = ((0, 0), 0) ∧ l.text = ⟨#[]⟩ ∧ l.tombs = [] ∧ ((∀ x ∈ l.items, mayI 1 1099511627776 x = true) ∧ l.items.Pairwise (fun x y => aheadI x y = true)) ∧ (dots l.items).Nodup := by
 unfold may; rw [if_neg (by omega), if_neg (by omega), if_neg (by omega), if_pos h, Bool.and_eq_true, same_iff]; unfold mayLog; rw [Bool.and_eq_true, mayItems_iff]
 simp only [zeroL, true_and, and_self, and_true, and_assoc, decide_eq_true_eq]
theorem may0 {l : L} (h : ¬ (1 ≤ l.kind ∧ l.kind ≤ 4)) : may l = false := by
 unfold may; rw [if_neg (by omega), if_neg (by omega), if_neg (by omega), if_neg (by omega)]
theorem dots_of_asc {l : List It} (h : l.Pairwise (fun x y => aheadI x y = true)) (ht : ∀ x ∈ l, x.1 = 0) : (dots l).Pairwise Dt.lt := by
 unfold dots
 rw [List.pairwise_map]
 refine List.Pairwise.imp_of_mem ?_ h
 intro x u hx hu h
 rw [aheadI_iff] at h
 have := ht x hx; have := ht u hu
 rcases h with h | ⟨_, h⟩
 ·omega
 ·exact h
theorem nodup_of_lt {l : List Dt.Dot} (h : l.Pairwise Dt.lt) : l.Nodup := h.imp fun {a b} h e => by subst e; exact Dt.lt_irrefl _ h
theorem refMay_eq (l : L) : refMay l = may l := by
 apply bool_eq
 unfold refMay
 rw [Bool.and_eq_true, Bool.and_eq_true, Bool.and_eq_true, refAt_iff, headA_iff, headB_iff]
 by_cases k1 : l.kind = 1
 ·rw [may1 k1]
  constructor
  ·rintro ⟨⟨⟨⟨_, _, _, a, b⟩, c, _⟩, _⟩, _⟩
   have := c (Or.inl (by omega))
   exact ⟨this.1, this.2.1, this.2.2, a.resolve_left (by omega), b.resolve_left (by omega)⟩
  ·rintro ⟨c, d, e, f, g⟩
   rw [f, g]
   exact ⟨⟨⟨⟨by omega, by omega, Or.inl k1, Or.inr rfl, Or.inr rfl⟩, fun _ => ⟨c, d, e⟩, fun n => absurd (Or.inr c) n⟩, fun x hx => by (cases hx), dots_nil, List.Pairwise.nil⟩, mayTombs_nil⟩
 by_cases k2 : l.kind = 2
 ·rw [may2 k2]
  constructor
  ·rintro ⟨⟨⟨⟨_, _, n, a, b⟩, c, c2⟩, _⟩, _⟩
   refine ⟨n.resolve_left k1, a.resolve_left (by omega), b.resolve_left (by omega), ?_⟩
   by_cases h0 : l.time = 0
   ·exact Or.inl (c (Or.inr h0))
   ·have := c2 (by omega); exact Or.inr ⟨by omega, this⟩
  ·rintro ⟨n, f, g, c⟩
   rw [f, g]
   refine ⟨⟨⟨⟨by omega, by omega, Or.inr n, Or.inr rfl, Or.inr rfl⟩, fun h => ?_, fun h => ?_⟩, fun x hx => by (cases hx), dots_nil, List.Pairwise.nil⟩, mayTombs_nil⟩
   ·rcases c with c | c
    ·exact c
    ·exact absurd c.1 (by omega)
   ·rcases c with c | c
    ·exact absurd c.1 (by omega)
    ·exact c.2
 by_cases k3 : l.kind = 3
 ·rw [may3 k3]
  constructor
  ·rintro ⟨⟨⟨⟨_, _, n, a, b⟩, c, c2⟩, d1, _, d2⟩, e⟩
   have := c (Or.inl k2)
   refine ⟨n.resolve_left k1, this.1, this.2.1, this.2.2, ⟨fun x hx => ?_, d2⟩, e, fun x hx => (d1 x hx).2.2.2.2⟩
   have g := d1 x hx
   have g2 := g.2.2.1 k3
   exact mayI_iff.2 ⟨by omega, by omega, g.1, g.2.1⟩
  ·rintro ⟨n, a, b, c, ⟨d1, d2⟩, e, f⟩
   refine ⟨⟨⟨⟨by omega, by omega, Or.inr n, Or.inl (by omega), Or.inl k3⟩, fun _ => ⟨a, b, c⟩, fun h => absurd (Or.inl k2) h⟩, fun x hx => ?_, nodup_of_lt (dots_of_asc d2 fun x hx => ?_), d2⟩, e⟩
   ·have g := mayI_iff.1 (d1 x hx)
    exact ⟨g.2.2.1, g.2.2.2, fun _ => by omega, fun h => by omega, f x hx⟩
   ·have g := mayI_iff.1 (d1 x hx); omega
 by_cases k4 : l.kind = 4
 ·rw [may4 k4]
  constructor
  ·rintro ⟨⟨⟨⟨_, _, n, a, b⟩, c, c2⟩, d1, d3, d2⟩, e⟩
   have := c (Or.inl k2)
   refine ⟨n.resolve_left k1, this.1, this.2.1, this.2.2, b.resolve_left k3, ⟨fun x hx => ?_, d2⟩, d3⟩
   have g := d1 x hx
   have g2 := g.2.2.2.1 k4
   exact mayI_iff.2 ⟨g2.1, g2.2, g.1, g.2.1⟩
  ·rintro ⟨n, a, b, c, t, ⟨d1, d2⟩, d3⟩
   rw [t]
   refine ⟨⟨⟨⟨by omega, by omega, Or.inr n, Or.inl (by omega), Or.inr rfl⟩, fun _ => ⟨a, b, c⟩, fun h => absurd (Or.inl k2) h⟩, fun x hx => ?_, d3, d2⟩, mayTombs_nil⟩
   have g := mayI_iff.1 (d1 x hx)
   exact ⟨g.2.2.1, g.2.2.2, fun _ => by omega, fun h => ⟨g.1, g.2.1⟩, by simp [hasD]⟩
 ·rw [may0 (by omega)]
  constructor
  ·rintro ⟨⟨⟨⟨a, b, _⟩, _⟩, _⟩, _⟩; omega
  ·intro h; cases h
/-! ### an event applied -/
def lay (l : List It) (x : It) : List It := l.takeWhile (fun y => aheadI y x) ++ x :: l.dropWhile (fun y => aheadI y x)
def bury (l : List Dt.Dot) (d : Dt.Dot) : List Dt.Dot := if hasD l d = true then l else l.takeWhile (fun y => Dt.less y d) ++ d :: l.dropWhile (fun y => Dt.less y d)
def add64 (a b : Int) : Int := IntKind.i64.wrap (a + b)
def applied (l : L) (e : Om.E) : L :=
 if e.op.kind = 1 then { l with n := add64 l.n e.op.n }
 else if e.op.kind = 2 then (if ahead l.time l.dot e.time e.dot = true then { l with time := e.time, dot := e.dot, text := e.op.text } else l)
 else if e.op.kind = 3 then (if hasI l.items e.dot = true ∨ hasD l.tombs e.dot = true then l else { l with items := lay l.items (0, e.dot, e.op.text) })
 else if e.op.kind = 4 then { l with items := l.items.filter (fun x => !hasD e.op.dots x.2.1), tombs := e.op.dots.foldl bury l.tombs }
 else (if hasI l.items e.dot = true then l else { l with items := lay l.items (e.time, e.dot, e.op.text) })
def apply (l : L) (e : Om.E) : L × Int := if may l = false ∨ Om.mayEvent e = false then (zeroL, 2) else if Om.type e.op.kind ≠ l.kind then (zeroL, 15) else (applied l e, 0)
theorem ext_lt : ∀ {l m : List Dt.Dot}, l.Pairwise Dt.lt → m.Pairwise Dt.lt → (∀ d, d ∈ l ↔ d ∈ m) → l = m
 | [], m, _, _, h => by cases m with
  | nil => rfl
  | cons y m => exact absurd ((h y).2 (by simp)) (by simp)
 | x :: l, [], _, _, h => absurd ((h x).1 (by simp)) (by simp)
 | x :: l, y :: m, hl, hm, h => by
  rw [List.pairwise_cons] at hl hm
  have e : x = y := by
   rcases lt_total x y with g | g | g
   ·have := (h x).1 (by simp)
    rcases List.mem_cons.1 this with e | e
    ·exact e
    ·exact absurd (Dt.lt_trans g (hm.1 _ e)) (Dt.lt_irrefl _)
   ·exact g
   ·have := (h y).2 (by simp)
    rcases List.mem_cons.1 this with e | e
    ·exact e.symm
    ·exact absurd (Dt.lt_trans g (hl.1 _ e)) (Dt.lt_irrefl _)
  subst e
  rw [ext_lt hl.2 hm.2 fun d => by
   have hd := h d
   rw [List.mem_cons, List.mem_cons] at hd
   constructor
   ·intro g
    rcases hd.1 (Or.inr g) with e | e
    ·subst e; exact absurd (hl.1 _ g) (Dt.lt_irrefl _)
    ·exact e
   ·intro g
    rcases hd.2 (Or.inr g) with e | e
    ·subst e; exact absurd (hm.1 _ g) (Dt.lt_irrefl _)
    ·exact e]
theorem bury_mem {l : List Dt.Dot} {d x : Dt.Dot} : x ∈ bury l d ↔ x ∈ l ∨ x = d := by
 unfold bury
 split
 ·rename_i h; rw [hasD_iff] at h
  constructor
  ·exact Or.inl
  ·rintro (h | rfl) <;> assumption
 ·rw [Dt.mem_insert, or_comm]
theorem bury_lt {l : List Dt.Dot} {d : Dt.Dot} (hl : l.Pairwise Dt.lt) : (bury l d).Pairwise Dt.lt := by
 unfold bury
 split
 ·exact hl
 ·rename_i h
  rw [hasD_iff] at h
  have key : ∀ l : List Dt.Dot, l.Pairwise Dt.lt → d ∉ l → (l.takeWhile (fun y => Dt.less y d) ++ d :: l.dropWhile (fun y => Dt.less y d)).Pairwise Dt.lt := by
   intro l
   induction l with
   | nil => intro _ _; simp
   | cons x l ih =>
    intro hl hn
    rw [List.pairwise_cons] at hl
    rw [List.mem_cons, not_or] at hn
    by_cases hx : Dt.less x d = true
    ·simp only [List.takeWhile_cons, List.dropWhile_cons, hx, if_true, List.cons_append, List.pairwise_cons]
     refine ⟨fun y hy => ?_, ih hl.2 hn.2⟩
     rw [Dt.mem_insert] at hy
     rcases hy with rfl | hy
     ·simpa [Dt.less] using hx
     ·exact hl.1 y hy
    ·have hd : Dt.lt d x := by
      rcases lt_total x d with g | g | g
      ·exact absurd (by simpa [Dt.less] using g) hx
      ·exact absurd g.symm hn.1
      ·exact g
     simp only [List.takeWhile_cons, List.dropWhile_cons, hx, Bool.false_eq_true, if_false, List.nil_append, List.pairwise_cons]
     refine ⟨fun y hy => ?_, hl.1, hl.2⟩
     rw [List.mem_cons] at hy
     rcases hy with rfl | hy
     ·exact hd
     ·exact Dt.lt_trans hd (hl.1 y hy)
  exact key l hl h
theorem buried_mem {m : List Dt.Dot} : ∀ {l : List Dt.Dot} {x : Dt.Dot}, x ∈ m.foldl bury l ↔ x ∈ l ∨ x ∈ m := by
 induction m with
 | nil => intro l x; simp
 | cons d m ih => intro l x; rw [List.foldl_cons, ih, bury_mem, List.mem_cons, or_assoc]
theorem buried_lt {m : List Dt.Dot} : ∀ {l : List Dt.Dot}, l.Pairwise Dt.lt → (m.foldl bury l).Pairwise Dt.lt := by
 induction m with
 | nil => intro l h; exact h
 | cons d m ih => intro l h; exact ih (bury_lt h)
/-! ### what stands side by side, once -/
def cstep (acc : List Dt.Dot) (d : Dt.Dot) : List Dt.Dot := if acc.getLast? = some d then acc else acc ++ [d]
def compact (l : List Dt.Dot) : List Dt.Dot := l.foldl cstep []
theorem compact_snoc (l : List Dt.Dot) (d : Dt.Dot) : compact (l ++ [d]) = cstep (compact l) d := by simp [compact]
theorem cstep_last (acc : List Dt.Dot) (d : Dt.Dot) : (cstep acc d).getLast? = some d := by unfold cstep; split <;> simp [*]
theorem snoc_cases {α : Type} : ∀ (l : List α), l = [] ∨ ∃ i x, l = i ++ [x]
 | [] => Or.inl rfl
 | a :: l => by
  rcases snoc_cases l with rfl | ⟨i, x, rfl⟩
  ·exact Or.inr ⟨[], a, rfl⟩
  ·exact Or.inr ⟨a :: i, x, rfl⟩
theorem compact_last (l : List Dt.Dot) : (compact l).getLast? = l.getLast? := by
 rcases snoc_cases l with rfl | ⟨i, x, rfl⟩
 ·rfl
 ·rw [compact_snoc, cstep_last]; simp
theorem take_snoc {l : List Dt.Dot} {k : Nat} {d : Dt.Dot} (hd : l[k]? = some d) : l.take (k + 1) = l.take k ++ [d] := by
 obtain ⟨hk, rfl⟩ := List.getElem?_eq_some_iff.1 hd
 exact List.take_succ_eq_append_getElem hk
theorem last_take {l : List Dt.Dot} {k : Nat} {e : Dt.Dot} (he : l[k]? = some e) : (l.take (k + 1)).getLast? = some e := by
 rw [take_snoc he]; simp
theorem compact_eq {l : List Dt.Dot} {k : Nat} {d : Dt.Dot} (hd : l[k + 1]? = some d) (he : l[k]? = some d) : compact (l.take (k + 2)) = compact (l.take (k + 1)) := by
 rw [take_snoc hd, compact_snoc, cstep, compact_last, last_take he, if_pos rfl]
theorem compact_ne {l : List Dt.Dot} {k : Nat} {d e : Dt.Dot} (hd : l[k + 1]? = some d) (he : l[k]? = some e) (hne : d ≠ e) : compact (l.take (k + 2)) = compact (l.take (k + 1)) ++ [d] := by
 rw [take_snoc hd, compact_snoc, cstep, compact_last, last_take he, if_neg (fun h => hne (Option.some.inj h).symm)]
theorem mem_compact {l : List Dt.Dot} : ∀ {x : Dt.Dot}, x ∈ compact l ↔ x ∈ l := by
 have key : ∀ n (l : List Dt.Dot), l.length = n → ∀ x, x ∈ compact l ↔ x ∈ l := by
  intro n
  induction n with
  | zero => intro l hl x; rw [List.eq_nil_of_length_eq_zero hl]; rfl
  | succ n ih =>
   intro l hl x
   rcases snoc_cases l with rfl | ⟨i, d, rfl⟩
   ·rfl
   ·rw [compact_snoc]
    have hi : i.length = n := by simpa using hl
    unfold cstep
    split
    ·rename_i h
     have : d ∈ compact i := List.mem_of_getLast? h
     rw [ih i hi] at this
     rw [ih i hi, List.mem_append, List.mem_singleton]
     constructor
     ·exact Or.inl
     ·rintro (h | rfl) <;> assumption
    ·rw [List.mem_append, List.mem_append, ih i hi]
 intro x; exact key _ l rfl x
theorem compact_lt {l : List Dt.Dot} (h : l.Pairwise fun x y => ¬ Dt.lt y x) : (compact l).Pairwise Dt.lt := by
 have key : ∀ n (l : List Dt.Dot), l.length = n → l.Pairwise (fun x y => ¬ Dt.lt y x) → (compact l).Pairwise Dt.lt := by
  intro n
  induction n with
  | zero => intro l hl _; rw [List.eq_nil_of_length_eq_zero hl]; exact List.Pairwise.nil
  | succ n ih =>
   intro l hl hp
   rcases snoc_cases l with rfl | ⟨i, d, rfl⟩
   ·exact List.Pairwise.nil
   ·have hi : i.length = n := by simpa using hl
    rw [List.pairwise_append] at hp
    have hc := ih i hi hp.1
    rw [compact_snoc]
    unfold cstep
    split
    ·exact hc
    ·rename_i hne
     rw [List.pairwise_append]
     refine ⟨hc, by simp, fun x hx y hy => ?_⟩
     rw [List.mem_singleton] at hy; subst hy
     have hxi := mem_compact.1 hx
     have h1 := hp.2.2 x hxi y (by simp)
     rcases lt_total x y with g | g | g
     ·exact g
     ·subst g
      rcases snoc_cases (compact i) with e | ⟨j, z, e⟩
      ·rw [e] at hx; cases hx
      ·rw [e] at hx hne hc
       rw [List.getLast?_append, List.getLast?_singleton] at hne
       have hzx : z ≠ x := fun e2 => hne (by rw [e2]; rfl)
       rw [List.mem_append, List.mem_singleton] at hx
       rw [List.pairwise_append] at hc
       rcases hx with hx | hx
       ·have h3 := hc.2.2 x hx z (by simp)
        have hz : z ∈ i := mem_compact.1 (by rw [e]; simp)
        exact absurd h3 (hp.2.2 z hz x (by simp))
       ·exact absurd hx.symm hzx
     ·exact absurd g h1
 exact key _ l rfl h
theorem buried_eq {t d s : List Dt.Dot} (ht : t.Pairwise Dt.lt) (hp : s.Perm (t ++ d)) (hs : s.Pairwise fun x y => ¬ Dt.lt y x) : compact s = d.foldl bury t :=
 ext_lt (compact_lt hs) (buried_lt ht) fun x => by rw [mem_compact, hp.mem_iff, buried_mem, List.mem_append]
end Go.Lm
