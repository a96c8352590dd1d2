
/- Plain mathematics of dots and vectors: free of the program. -/
namespace Go.Dt
abbrev Ac := Nat × Nat
abbrev Dot := Ac × Nat
def mayA (a : Ac) : Bool := decide (a.1 ≤ 15) && decide (1 ≤ a.2) && decide (a.2 ≤ 4)
def may (d : Dot) : Bool := mayA d.1 && decide (1 ≤ d.2) && decide (d.2 ≤ 1048576)
def ltA (a b : Ac) : Prop := a.1 < b.1 ∨ (a.1 = b.1 ∧ a.2 < b.2)
def lt (a b : Dot) : Prop := ltA a.1 b.1 ∨ (a.1 = b.1 ∧ a.2 < b.2)
instance (a b : Ac) : Decidable (ltA a b) := inferInstanceAs (Decidable (_ ∨ _))
instance (a b : Dot) : Decidable (lt a b) := inferInstanceAs (Decidable (_ ∨ _))
def less (a b : Dot) : Bool := decide (lt a b)
def cmpN (a b : Nat) : Int := if a < b then -1 else if b < a then 1 else 0
def cmpA (a b : Ac) : Int := if ltA a b then -1 else if ltA b a then 1 else 0
def cmp (a b : Dot) : Int := if lt a b then -1 else if lt b a then 1 else 0
def okD (d : Dot) : Prop := d.1.1 < 256 ∧ d.1.2 < 4294967296 ∧ d.2 < 18446744073709551616
theorem ltA_irrefl (a : Ac) : ¬ ltA a a := by unfold ltA; omega
theorem ltA_trans {a b c : Ac} (h : ltA a b) (g : ltA b c) : ltA a c := by unfold ltA at *; omega
theorem ltA_total (a b : Ac) : ltA a b ∨ a = b ∨ ltA b a := by
 unfold ltA
 rcases a with ⟨x, y⟩; rcases b with ⟨z, u⟩
 simp only [Prod.mk.injEq]; omega
theorem lt_irrefl (a : Dot) : ¬ lt a a := fun h => h.elim (fun h => ltA_irrefl _ h) (fun h => Nat.lt_irrefl _ h.2)
theorem lt_iff (a b : Dot) : lt a b ↔ a.1.1 < b.1.1 ∨ (a.1.1 = b.1.1 ∧ (a.1.2 < b.1.2 ∨ (a.1.2 = b.1.2 ∧ a.2 < b.2))) := by
 rcases a with ⟨⟨x, y⟩, s⟩; rcases b with ⟨⟨z, u⟩, t⟩
 unfold lt ltA; simp only [Prod.mk.injEq]; omega
theorem lt_trans {a b c : Dot} (h : lt a b) (g : lt b c) : lt a c := by rw [lt_iff] at *; omega
theorem cmpA_eq (a b : Ac) : cmpA a b = if cmpN a.1 b.1 ≠ 0 then cmpN a.1 b.1 else cmpN a.2 b.2 := by
 unfold cmpA cmpN ltA
 by_cases h1 : a.1 < b.1
 ·simp [h1]
 ·by_cases h2 : b.1 < a.1
  ·have : ¬ a.1 = b.1 := by omega
   simp [h1, h2, this]
  ·have : a.1 = b.1 := by omega
   simp [this]
theorem cmp_eq (a b : Dot) : cmp a b = if cmpA a.1 b.1 ≠ 0 then cmpA a.1 b.1 else cmpN a.2 b.2 := by
 unfold cmp cmpA cmpN lt
 rcases ltA_total a.1 b.1 with h | h | h
 ·simp [h]
 ·have h0 := ltA_irrefl b.1
  simp [h, h0]
 ·have h1 : ¬ ltA a.1 b.1 := fun g => ltA_irrefl _ (ltA_trans h g)
  have h2 : ¬ a.1 = b.1 := fun e => ltA_irrefl b.1 (by rw [e] at h; exact h)
  simp [h, h1, h2]
theorem may_seq {d : Dot} (h : may d = true) : 1 ≤ d.2 ∧ d.2 ≤ 1048576 ∧ mayA d.1 = true := by
 unfold may at h; simp at h; exact ⟨h.1.2, h.2, h.1.1⟩
theorem mayA_iff {a : Ac} : mayA a = true ↔ a.1 ≤ 15 ∧ 1 ≤ a.2 ∧ a.2 ≤ 4 := by unfold mayA; simp [and_assoc]
theorem may_iff {d : Dot} : may d = true ↔ mayA d.1 = true ∧ 1 ≤ d.2 ∧ d.2 ≤ 1048576 := by unfold may; simp [and_assoc]
/-! ### an actor's number -/
def getStep (a : Ac) (n : Nat) (d : Dot) : Nat := if may d = true ∧ d.1 = a then max n d.2 else n
def get (v : List Dot) (a : Ac) : Nat := v.foldl (getStep a) 0
theorem getStep_max (a : Ac) (n : Nat) (d : Dot) : getStep a n d = max n (getStep a 0 d) := by unfold getStep; split <;> omega
theorem foldl_max (a : Ac) : ∀ (v : List Dot) (n : Nat), v.foldl (getStep a) n = max n (v.foldl (getStep a) 0)
 | [], n => by simp
 | d :: r, n => by
  simp only [List.foldl_cons]
  rw [foldl_max a r (getStep a n d), foldl_max a r (getStep a 0 d), getStep_max a n d]; omega
theorem get_cons (d : Dot) (v : List Dot) (a : Ac) : get (d :: v) a = max (getStep a 0 d) (get v a) := by
 unfold get; rw [List.foldl_cons, foldl_max]
theorem get_ge {v : List Dot} {d : Dot} (hd : d ∈ v) (hm : may d = true) : d.2 ≤ get v d.1 := by
 induction v with
 | nil => cases hd
 | cons x r ih =>
  rw [get_cons]
  rcases List.mem_cons.1 hd with rfl | h
  ·have : getStep d.1 0 d = d.2 := by unfold getStep; simp [hm]
   omega
  ·have := ih h; omega
theorem get_mem (v : List Dot) (a : Ac) : get v a = 0 ∨ ∃ d ∈ v, may d = true ∧ d.1 = a ∧ d.2 = get v a := by
 induction v with
 | nil => exact Or.inl rfl
 | cons x r ih =>
  rw [get_cons]
  by_cases hx : may x = true ∧ x.1 = a
  ·have e : getStep a 0 x = x.2 := by unfold getStep; rw [if_pos hx]; omega
   rw [e]
   by_cases hle : get r a ≤ x.2
   ·exact Or.inr ⟨x, by simp, hx.1, hx.2, by omega⟩
   ·rcases ih with h | ⟨d, hd, h1, h2, h3⟩
    ·omega
    ·exact Or.inr ⟨d, by simp [hd], h1, h2, by omega⟩
  ·have e : getStep a 0 x = 0 := by unfold getStep; rw [if_neg hx]
   rw [e]
   rcases ih with h | ⟨d, hd, h1, h2, h3⟩
   ·exact Or.inl (by omega)
   ·exact Or.inr ⟨d, by simp [hd], h1, h2, by omega⟩
theorem get_le (v : List Dot) (a : Ac) : get v a ≤ 1048576 := by
 rcases get_mem v a with h | ⟨d, _, h1, _, h3⟩
 ·omega
 ·have := may_seq h1; omega
theorem get_zero {v : List Dot} {a : Ac} (h : mayA a = false) : get v a = 0 := by
 rcases get_mem v a with h1 | ⟨d, _, h1, h2, _⟩
 ·exact h1
 ·have := (may_seq h1).2.2; rw [h2, h] at this; cases this
/-! ### sorted lists of dots -/
def Sorted (l : List Dot) : Prop := l.Pairwise fun x y => ltA x.1 y.1
def acts : List Ac := (List.range 16).flatMap fun r => [(r, 1), (r, 2), (r, 3), (r, 4)]
theorem mem_acts (a : Ac) : a ∈ acts ↔ mayA a = true := by
 rw [mayA_iff]
 rcases a with ⟨r, i⟩
 simp only [acts, List.mem_flatMap, List.mem_range, List.mem_cons, Prod.mk.injEq, List.not_mem_nil, or_false]
 constructor
 ·rintro ⟨x, hx, h⟩; omega
 ·rintro ⟨h1, h2, h3⟩; exact ⟨r, by omega, by omega⟩
def vec (f : Ac → Nat) : List Dot := (acts.filter fun a => decide (0 < f a)).map fun a => (a, f a)
theorem mem_vec {f : Ac → Nat} {d : Dot} : d ∈ vec f ↔ mayA d.1 = true ∧ 0 < d.2 ∧ d.2 = f d.1 := by
 unfold vec
 simp only [List.mem_map, List.mem_filter, mem_acts, decide_eq_true_eq]
 constructor
 ·rintro ⟨a, ⟨h1, h2⟩, rfl⟩; exact ⟨h1, h2, rfl⟩
 ·rintro ⟨h1, h2, h3⟩; exact ⟨d.1, ⟨h1, by omega⟩, by rw [← h3]⟩
theorem get_vec {f : Ac → Nat} (hf : ∀ a, f a ≤ 1048576) {a : Ac} (ha : mayA a = true) : get (vec f) a = f a := by
 by_cases h0 : f a = 0
 ·rcases get_mem (vec f) a with h | ⟨d, hd, _, h2, h3⟩
  ·rw [h, h0]
  ·have := mem_vec.1 hd
   rw [h2] at this; omega
 ·have hm : (a, f a) ∈ vec f := mem_vec.2 ⟨ha, by simp; omega, rfl⟩
  have hmay : may (a, f a) = true := may_iff.2 ⟨ha, by simp; omega, hf a⟩
  have h1 := get_ge hm hmay
  simp only at h1
  rcases get_mem (vec f) a with h | ⟨d, hd, _, h2, h3⟩
  ·omega
  ·have := mem_vec.1 hd
   rw [h2] at this; omega
def canon (v : List Dot) : List Dot := vec (get v)
def join (u v : List Dot) : List Dot := vec fun a => max (get u a) (get v a)
def meet (u v : List Dot) : List Dot := vec fun a => min (get u a) (get v a)
def within (u v : List Dot) : Bool := u.all fun d => !may d || decide (d.2 ≤ get v d.1)
def has (v : List Dot) (d : Dot) : Bool := may d && decide (d.2 ≤ get v d.1)
theorem within_iff {u v : List Dot} : within u v = true ↔ ∀ a, get u a ≤ get v a := by
 unfold within
 simp only [List.all_eq_true, Bool.or_eq_true, Bool.not_eq_true', decide_eq_true_eq]
 constructor
 ·intro h a
  rcases get_mem u a with h0 | ⟨d, hd, h1, h2, h3⟩
  ·omega
  ·rcases h d hd with h4 | h4
   ·rw [h1] at h4; cases h4
   ·rw [h2] at h4; omega
 ·intro h d hd
  cases hm : may d
  ·exact Or.inl rfl
  ·exact Or.inr (Nat.le_trans (get_ge hd hm) (h d.1))
theorem get_canon (v : List Dot) (a : Ac) : get (canon v) a = get v a := by
 cases ha : mayA a
 ·rw [get_zero ha, get_zero ha]
 ·exact get_vec (get_le v) ha
theorem canon_eq_iff {u v : List Dot} : canon u = canon v ↔ ∀ a, get u a = get v a := by
 constructor
 ·intro h a; rw [← get_canon u, h, get_canon]
 ·intro h; unfold canon; rw [funext h]
theorem same_iff (u v : List Dot) : decide (canon u = canon v) = (within u v && within v u) := by
 rw [Bool.eq_iff_iff, Bool.and_eq_true, decide_eq_true_eq, within_iff, within_iff, canon_eq_iff]
 constructor
 ·intro h; exact ⟨fun a => by rw [h a]; exact Nat.le_refl _, fun a => by rw [h a]; exact Nat.le_refl _⟩
 ·rintro ⟨h1, h2⟩ a; exact Nat.le_antisymm (h1 a) (h2 a)
/-! ### the reference's forms -/
def canonStep (v out : List Dot) (d : Dot) : List Dot :=
 if may d = true ∧ d.2 = get v d.1 ∧ get out d.1 = 0 then out.takeWhile (fun x => less x d) ++ d :: out.dropWhile (fun x => less x d) else out
def canonR (v : List Dot) : List Dot := v.foldl (canonStep v) []
theorem insert_sorted {out : List Dot} {d : Dot} (hs : Sorted out) (hn : ∀ x ∈ out, x.1 ≠ d.1) : Sorted (out.takeWhile (fun x => less x d) ++ d :: out.dropWhile (fun x => less x d)) := by
 have hsplit := List.takeWhile_append_dropWhile (p := fun x => less x d) (l := out)
 have hs' : Sorted (out.takeWhile (fun x => less x d) ++ out.dropWhile (fun x => less x d)) := by rw [hsplit]; exact hs
 unfold Sorted at *
 rw [List.pairwise_append] at hs'
 obtain ⟨h1, h2, h3⟩ := hs'
 have hlt : ∀ x ∈ out.takeWhile (fun x => less x d), ltA x.1 d.1 := by
  intro x hx
  have hl : less x d = true := by
   have := List.all_takeWhile (p := fun x => less x d) (l := out)
   rw [List.all_eq_true] at this
   exact this x hx
  have hmem : x ∈ out := List.takeWhile_sublist _ |>.subset hx
  rcases of_decide_eq_true hl with h | ⟨h, _⟩
  ·exact h
  ·exact absurd h (hn x hmem)
 have hgt : ∀ x ∈ out.dropWhile (fun x => less x d), ltA d.1 x.1 := by
  intro x hx
  cases hdw : out.dropWhile (fun x => less x d) with
  | nil => rw [hdw] at hx; cases hx
  | cons y r =>
   have hy : less y d = false := by
    have := List.head?_dropWhile_not (fun x => less x d) out
    rw [hdw] at this; simpa using this
   have hym : y ∈ out := List.dropWhile_sublist (fun x => less x d) |>.subset (by rw [hdw]; simp)
   have hdy : ltA d.1 y.1 := by
    rcases ltA_total y.1 d.1 with h | h | h
    ·exact absurd (Or.inl h) (of_decide_eq_false hy)
    ·exact absurd h (hn y hym)
    ·exact h
   rw [hdw] at hx h2
   rcases List.mem_cons.1 hx with rfl | hx
   ·exact hdy
   ·exact ltA_trans hdy ((List.pairwise_cons.1 h2).1 x hx)
 rw [List.pairwise_append, List.pairwise_cons]
 refine ⟨h1, ⟨hgt, h2⟩, fun x hx y hy => ?_⟩
 rcases List.mem_cons.1 hy with rfl | hy
 ·exact hlt x hx
 ·exact h3 x hx y hy
theorem mem_insert {out : List Dot} {d x : Dot} : x ∈ out.takeWhile (fun x => less x d) ++ d :: out.dropWhile (fun x => less x d) ↔ x = d ∨ x ∈ out := by
 have hsplit := List.takeWhile_append_dropWhile (p := fun x => less x d) (l := out)
 constructor
 ·intro h
  rcases List.mem_append.1 h with h | h
  ·exact Or.inr (by rw [← hsplit]; exact List.mem_append_left _ h)
  ·rcases List.mem_cons.1 h with h | h
   ·exact Or.inl h
   ·exact Or.inr (by rw [← hsplit]; exact List.mem_append_right _ h)
 ·rintro (rfl | h)
  ·exact List.mem_append_right _ (by simp)
  ·rw [← hsplit] at h
   rcases List.mem_append.1 h with h | h
   ·exact List.mem_append_left _ h
   ·exact List.mem_append_right _ (by simp [h])
structure CInv (v pre out : List Dot) : Prop where
  sorted : Sorted out
  mem : ∀ d, d ∈ out ↔ d ∈ pre ∧ may d = true ∧ d.2 = get v d.1
theorem get_out (out : List Dot) (a : Ac) : get out a = 0 ∨ ∃ d ∈ out, d.1 = a := by
 rcases get_mem out a with h0 | ⟨d, hd, _, h2, _⟩
 ·exact Or.inl h0
 ·exact Or.inr ⟨d, hd, h2⟩
theorem CInv.step {v pre out : List Dot} (h : CInv v pre out) (d : Dot) : CInv v (pre ++ [d]) (canonStep v out d) := by
 unfold canonStep
 by_cases hc : may d = true ∧ d.2 = get v d.1 ∧ get out d.1 = 0
 ·rw [if_pos hc]
  refine ⟨insert_sorted h.sorted fun x hx e => ?_, fun x => ?_⟩
  ·have hm := (h.mem x).1 hx
   have := get_ge hx hm.2.1
   have := (may_seq hm.2.1).1
   rw [e, hc.2.2] at *; omega
  ·rw [mem_insert, h.mem, List.mem_append, List.mem_singleton]
   constructor
   ·rintro (rfl | ⟨h1, h2⟩)
    ·exact ⟨Or.inr rfl, hc.1, hc.2.1⟩
    ·exact ⟨Or.inl h1, h2⟩
   ·rintro ⟨h1 | h1, h2⟩
    ·exact Or.inr ⟨h1, h2⟩
    ·exact Or.inl h1
 ·rw [if_neg hc]
  refine ⟨h.sorted, fun x => ?_⟩
  rw [h.mem, List.mem_append, List.mem_singleton]
  constructor
  ·rintro ⟨h1, h2⟩; exact ⟨Or.inl h1, h2⟩
  ·rintro ⟨h1 | rfl, h2⟩
   ·exact ⟨h1, h2⟩
   ·have hne : get out x.1 ≠ 0 := fun e => hc ⟨h2.1, h2.2, e⟩
    rcases get_out out x.1 with h0 | ⟨y, hy, e⟩
    ·exact absurd h0 hne
    ·have hy' := (h.mem y).1 hy
     have : y = x := by
      rcases x with ⟨a, n⟩; rcases y with ⟨b, m⟩
      simp only at e; subst e
      have e1 := hy'.2.2; have e2 := h2.2
      simp only at e1 e2
      rw [e1, e2]
     subst this; exact ⟨hy'.1, hy'.2⟩
def meetL (u v : List Dot) : List Dot := (canon u).map fun d => (d.1, min d.2 (get v d.1))
end Go.Dt
