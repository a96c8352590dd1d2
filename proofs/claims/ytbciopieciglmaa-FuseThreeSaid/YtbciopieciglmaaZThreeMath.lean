import Derived.Test.YtbciopieciglmaaZFuseMath
/- Plain mathematics of what is behind some events: free of the program. -/
namespace Go.Lm
set_option linter.unusedSimpArgs false
set_option linter.unusedVariables false
def sumN : List Om.E → Int
 | [] => 0
 | e :: es => e.op.n + sumN es
theorem sumN_snoc : ∀ (l : List Om.E) (e : Om.E), sumN (l ++ [e]) = sumN l + e.op.n
 | [], e => by simp [sumN]
 | x :: l, e => by rw [List.cons_append]; simp only [sumN]; rw [sumN_snoc l e]; omega
theorem sumN_app : ∀ (l m : List Om.E), sumN (l ++ m) = sumN l + sumN m
 | [], m => by simp [sumN]
 | x :: l, m => by rw [List.cons_append]; simp only [sumN]; rw [sumN_app l m]; omega
def trip (e : Om.E) : It := (e.time, e.dot, e.op.text)
def oneOf (es : List Om.E) (x : It) : Prop := x = z ∨ ∃ e ∈ es, x = trip e
def IsMost (es : List Om.E) (x : It) : Prop := oneOf es x ∧ ∀ y, oneOf es y → y = x ∨ aheadI y x = true
def itemOf (e : Om.E) : It := (if e.op.kind = 3 then 0 else e.time, e.dot, e.op.text)
def isPut (e : Om.E) : Prop := e.op.kind = 3 ∨ e.op.kind = 5
def Beh (k : Nat) (es : List Om.E) (l : L) : Prop :=
 l.kind = k ∧
 (k = 1 → l = { zeroL with kind := 1, n := IntKind.i64.wrap (sumN es) }) ∧
 (k = 2 → l.n = 0 ∧ l.items = [] ∧ l.tombs = [] ∧ IsMost es (l.time, l.dot, l.text)) ∧
 (3 ≤ k → l.n = 0 ∧ l.time = 0 ∧ l.dot = ((0, 0), 0) ∧ l.text = ⟨#[]⟩ ∧ l.items.Pairwise (fun u v => aheadI u v = true) ∧ l.tombs.Pairwise Dt.lt ∧
  (∀ d, d ∈ l.tombs ↔ ∃ e ∈ es, e.op.kind = 4 ∧ d ∈ e.op.dots) ∧ (∀ x, x ∈ l.items ↔ (∃ e ∈ es, isPut e ∧ x = itemOf e) ∧ x.2.1 ∉ l.tombs))
structure Evs (k : Nat) (es : List Om.E) : Prop where
  may : ∀ e ∈ es, Om.mayEvent e = true
  ty : ∀ e ∈ es, Om.type e.op.kind = k
  nd : (es.map (·.dot)).Nodup
theorem Evs.inj {k : Nat} {es : List Om.E} (h : Evs k es) {e f : Om.E} (he : e ∈ es) (hf : f ∈ es) (hd : e.dot = f.dot) : e = f := by
 have g : ∀ (l : List Om.E), (l.map (·.dot)).Nodup → e ∈ l → f ∈ l → e = f := by
  intro l
  induction l with
  | nil => intro _ h; simp at h
  | cons x l ih =>
   intro hn h1 h2
   rw [List.map_cons, List.nodup_cons] at hn
   rcases List.mem_cons.1 h1 with a | a <;> rcases List.mem_cons.1 h2 with b | b
   ·rw [a, b]
   ·exact absurd (List.mem_map.2 ⟨f, b, by rw [← hd, a]⟩) hn.1
   ·exact absurd (List.mem_map.2 ⟨e, a, by rw [hd, b]⟩) hn.1
   ·exact ih hn.2 a b
 exact g es h.nd he hf
theorem may_ev {e : Om.E} (h : Om.mayEvent e = true) : Dt.may e.dot = true ∧ 1 ≤ e.time ∧ e.time ≤ 1099511627776 ∧ Om.asked e.op = true := by
 unfold Om.mayEvent Om.may at h
 simp only [Bool.and_eq_true, decide_eq_true_eq] at h
 exact ⟨h.1.1.1, h.1.1.2, h.1.2, h.2.2⟩
theorem ty_cases {q : Nat} (h : 1 ≤ Om.type q) : (q = 1 ∧ Om.type q = 1) ∨ (q = 2 ∧ Om.type q = 2) ∨ (q = 3 ∧ Om.type q = 3) ∨ (q = 4 ∧ Om.type q = 3) ∨ (q = 5 ∧ Om.type q = 4) := by
 unfold Om.type at h ⊢
 by_cases h1 : q = 1
 ·subst h1; simp
 by_cases h2 : q = 2
 ·subst h2; simp
 by_cases h3 : q = 3
 ·subst h3; simp
 by_cases h4 : q = 4
 ·subst h4; simp
 by_cases h5 : q = 5
 ·subst h5; simp
 ·simp [h1, h2, h3, h4, h5] at h
theorem may_text {e : Om.E} (h : Om.mayEvent e = true) (hk : e.op.kind = 2 ∨ e.op.kind = 3 ∨ e.op.kind = 5) : e.op.text.size ≤ 40 := by
 have h1 := (may_ev h).2.2.2
 unfold Om.asked Om.mayText at h1
 rcases hk with h2 | h2 | h2 <;> rw [h2] at h1 <;> simp at h1 <;> exact h1.1.2
theorem may_drops {e : Om.E} (h : Om.mayEvent e = true) (hk : e.op.kind = 4) : (∀ d ∈ e.op.dots, Dt.may d = true) ∧ e.op.dots.length ≤ 64 := by
 have h1 := (may_ev h).2.2.2
 unfold Om.asked Om.mayDrop Om.mayDrops at h1
 rw [hk] at h1
 simp at h1
 have h2 : mayTombs e.op.dots = true := by unfold mayTombs; exact h1.2.2
 exact ⟨(mayTombs_iff.1 h2).1, h1.2.1⟩
theorem Evs.tot {k : Nat} {es : List Om.E} (h : Evs k es) {x y : It} (hx : oneOf es x) (hy : oneOf es y) : x = y ∨ aheadI x y = true ∨ aheadI y x = true := by
 rcases hx with rfl | ⟨e, he, rfl⟩ <;> rcases hy with rfl | ⟨f, hf, rfl⟩
 ·exact Or.inl rfl
 ·exact Or.inr (Or.inl (aheadI_iff.2 (Or.inl (may_ev (h.may f hf)).2.1)))
 ·exact Or.inr (Or.inr (aheadI_iff.2 (Or.inl (may_ev (h.may e he)).2.1)))
 ·by_cases g : e.dot = f.dot
  ·exact Or.inl (by rw [h.inj he hf g])
  ·exact Or.inr (aheadI_total _ _ g)
theorem IsMost.unique {es : List Om.E} {x y : It} (hx : IsMost es x) (hy : IsMost es y) : x = y := by
 rcases hx.2 y hy.1 with h | h
 ·exact h.symm
 rcases hy.2 x hx.1 with g | g
 ·exact g
 ·rw [aheadI_asymm h] at g; cases g
theorem Beh.unique {k : Nat} {es : List Om.E} {l m : L} (hk : 1 ≤ k ∧ k ≤ 4) (h : Beh k es l) (g : Beh k es m) : l = m := by
 obtain ⟨h0, h1, h2, h3⟩ := h
 obtain ⟨g0, g1, g2, g3⟩ := g
 rcases (show k = 1 ∨ k = 2 ∨ 3 ≤ k by omega) with q | q | q
 ·rw [h1 q, g1 q]
 ·obtain ⟨a, b, c, d⟩ := h2 q
  obtain ⟨a', b', c', d'⟩ := g2 q
  have e := d.unique d'
  rcases l with ⟨lk, ln, lt, ld, lx, li, lo⟩; rcases m with ⟨mk, mn, mt, md, mx, mi, mo⟩
  simp only [Prod.mk.injEq] at *
  obtain ⟨e1, e2, e3⟩ := e
  subst h0; subst g0; subst a; subst a'; subst b; subst b'; subst c; subst c'; subst e1; subst e2; subst e3; rfl
 ·obtain ⟨a, b, c, d, e, f, t, i⟩ := h3 q
  obtain ⟨a', b', c', d', e', f', t', i'⟩ := g3 q
  have et : l.tombs = m.tombs := ext_lt f f' fun d => by rw [t, t']
  have ei : l.items = m.items := ext_ahead e e' fun x => by rw [i, i', et]
  rcases l with ⟨lk, ln, lt, ld, lx, li, lo⟩; rcases m with ⟨mk, mn, mt, md, mx, mi, mo⟩
  simp only at *
  subst h0; subst g0; subst a; subst a'; subst b; subst b'; subst c; subst c'; subst d; subst d'; subst et; subst ei; rfl
theorem Beh.new {k : Nat} (hk : 1 ≤ k ∧ k ≤ 4) : Beh k [] (new k) := by
 unfold Lm.new
 rw [if_pos hk]
 refine ⟨rfl, fun h => by subst h; simp [sumN, zeroL, IntKind.wrap_i64], fun h => ⟨rfl, rfl, rfl, Or.inl rfl, fun y hy => ?_⟩, fun h => ⟨rfl, rfl, rfl, rfl, List.Pairwise.nil, List.Pairwise.nil, fun d => by simp [zeroL], fun x => by simp [zeroL]⟩⟩
 rcases hy with rfl | ⟨e, he, _⟩
 ·exact Or.inl rfl
 ·simp at he
theorem Beh.may {k : Nat} {es : List Om.E} {l : L} (hk : 1 ≤ k ∧ k ≤ 4) (he : Evs k es) (h : Beh k es l) : Lm.may l = true := by
 obtain ⟨h0, h1, h2, h3⟩ := h
 rcases (show k = 1 ∨ k = 2 ∨ k = 3 ∨ k = 4 by omega) with q | q | q | q
 ·rw [may1 (h0.trans q), h1 q]; exact ⟨rfl, rfl, rfl, rfl, rfl⟩
 ·rw [may2 (h0.trans q)]
  obtain ⟨a, b, c, d, _⟩ := h2 q
  refine ⟨a, b, c, ?_⟩
  rcases d with d | ⟨e, hm, d⟩
  ·simp only [z, Prod.mk.injEq] at d
   exact Or.inl d
  ·simp only [trip, Prod.mk.injEq] at d
   obtain ⟨m1, m2, m3, _⟩ := may_ev (he.may e hm)
   rw [d.1, d.2.1, d.2.2]
   refine Or.inr ⟨m2, m3, m1, may_text (he.may e hm) ?_⟩
   have := he.ty e hm
   rcases ty_cases (q := e.op.kind) (by omega) with g | g | g | g | g <;> omega
 ·rw [may3 (h0.trans q)]
  obtain ⟨a, b, c, d, e, f, t, i⟩ := h3 (by omega)
  refine ⟨a, b, c, d, ⟨fun x hx => ?_, e⟩, mayTombs_iff.2 ⟨fun d hd => ?_, f⟩, fun x hx => ?_⟩
  ·obtain ⟨⟨v, hv, hp, rfl⟩, _⟩ := (i x).1 hx
   have hty := he.ty v hv
   have h33 : v.op.kind = 3 := by
    rcases ty_cases (q := v.op.kind) (by omega) with g | g | g | g | g <;> rcases hp with p | p <;> omega
   rw [mayI_iff]
   refine ⟨Nat.zero_le _, by simp [itemOf, h33], (may_ev (he.may v hv)).1, may_text (he.may v hv) (by omega)⟩
  ·obtain ⟨v, hv, hq, hd⟩ := (t d).1 hd
   exact (may_drops (he.may v hv) hq).1 d hd
  ·have := ((i x).1 hx).2
   cases g : hasD l.tombs x.2.1
   ·rfl
   ·exact absurd (hasD_iff.1 g) this
 ·rw [may4 (h0.trans q)]
  obtain ⟨a, b, c, d, e, f, t, i⟩ := h3 (by omega)
  have hto : l.tombs = [] := by
   cases g : l.tombs with
   | nil => rfl
   | cons x m =>
    obtain ⟨v, hv, hq, _⟩ := (t x).1 (by rw [g]; simp)
    have := he.ty v hv
    rw [hq] at this
    exact absurd this (by unfold Om.type; simp; omega)
  have hev : ∀ x ∈ l.items, ∃ v ∈ es, v.op.kind = 5 ∧ x = (v.time, v.dot, v.op.text) := fun x hx => by
   obtain ⟨⟨v, hv, hp, rfl⟩, _⟩ := (i x).1 hx
   have hty := he.ty v hv
   have h55 : v.op.kind = 5 := by
    rcases ty_cases (q := v.op.kind) (by omega) with g | g | g | g | g <;> rcases hp with p | p <;> omega
   exact ⟨v, hv, h55, by simp [itemOf, h55]⟩
  refine ⟨a, b, c, d, hto, ⟨fun x hx => ?_, e⟩, ?_⟩
  ·obtain ⟨v, hv, hq, rfl⟩ := hev x hx
   obtain ⟨m1, m2, m3, _⟩ := may_ev (he.may v hv)
   exact mayI_iff.2 ⟨m2, m3, m1, may_text (he.may v hv) (by omega)⟩
  ·unfold dots
   rw [List.Nodup, List.pairwise_map]
   refine (List.Pairwise.and_mem.1 e).imp ?_
   rintro x y ⟨hx, hy, hxy⟩ hd
   obtain ⟨v, hv, _, rfl⟩ := hev x hx
   obtain ⟨u, hu, _, rfl⟩ := hev y hy
   have := he.inj hv hu hd
   subst this
   rw [aheadI_irrefl] at hxy; cases hxy
theorem Evs.snoc {k : Nat} {es : List Om.E} {e : Om.E} (h : Evs k (es ++ [e])) : Evs k es ∧ Om.mayEvent e = true ∧ Om.type e.op.kind = k ∧ ∀ f ∈ es, f.dot ≠ e.dot := by
 refine ⟨⟨fun x hx => h.may x (List.mem_append_left _ hx), fun x hx => h.ty x (List.mem_append_left _ hx), ?_⟩, h.may e (by simp), h.ty e (by simp), fun f hf hd => ?_⟩
 ·have := h.nd
  rw [List.map_append, List.nodup_append] at this
  exact this.1
 ·have := h.nd
  rw [List.map_append, List.nodup_append] at this
  exact this.2.2 _ (List.mem_map.2 ⟨f, hf, rfl⟩) e.dot (by simp) hd
theorem oneOf_snoc {es : List Om.E} {e : Om.E} {x : It} : oneOf (es ++ [e]) x ↔ oneOf es x ∨ x = trip e := by
 unfold oneOf
 constructor
 ·rintro (h | ⟨f, hf, h⟩)
  ·exact Or.inl (Or.inl h)
  ·rcases List.mem_append.1 hf with g | g
   ·exact Or.inl (Or.inr ⟨f, g, h⟩)
   ·rw [List.mem_singleton] at g; subst g; exact Or.inr h
 ·rintro ((h | ⟨f, hf, h⟩) | h)
  ·exact Or.inl h
  ·exact Or.inr ⟨f, by simp [hf], h⟩
  ·exact Or.inr ⟨e, by simp, h⟩
theorem ex_snoc {es : List Om.E} {e : Om.E} {P : Om.E → Prop} : (∃ f ∈ es ++ [e], P f) ↔ (∃ f ∈ es, P f) ∨ P e := by
 constructor
 ·rintro ⟨f, hf, h⟩
  rcases List.mem_append.1 hf with g | g
  ·exact Or.inl ⟨f, g, h⟩
  ·rw [List.mem_singleton] at g; subst g; exact Or.inr h
 ·rintro (⟨f, hf, h⟩ | h)
  ·exact ⟨f, by simp [hf], h⟩
  ·exact ⟨e, by simp, h⟩
theorem Beh.step {k : Nat} {es : List Om.E} {l : L} {e : Om.E} (hk : 1 ≤ k ∧ k ≤ 4) (he : Evs k (es ++ [e])) (h : Beh k es l) : Beh k (es ++ [e]) (applied l e) := by
 obtain ⟨hes, hme, hty, hdi⟩ := he.snoc
 obtain ⟨h0, h1, h2, h3⟩ := h
 rcases ty_cases (q := e.op.kind) (by omega) with ⟨q, qt⟩ | ⟨q, qt⟩ | ⟨q, qt⟩ | ⟨q, qt⟩ | ⟨q, qt⟩
 ·have ek : k = 1 := by omega
  have ea : applied l e = { l with n := add64 l.n e.op.n } := by unfold applied; rw [if_pos q]
  refine ⟨by rw [ea]; exact h0, fun _ => ?_, fun h => by omega, fun h => by omega⟩
  rw [ea, h1 ek]
  simp only [add64, sumN_snoc, L.mk.injEq, true_and, and_true]
  simp only [IntKind.wrap_i64]; omega
 ·have ek : k = 2 := by omega
  obtain ⟨a, b, c, d⟩ := h2 ek
  have ea : applied l e = if ahead l.time l.dot e.time e.dot = true then { l with time := e.time, dot := e.dot, text := e.op.text } else l := by unfold applied; rw [if_neg (by omega), if_pos q]
  rw [ea]
  split
  ·rename_i g
   refine ⟨h0, fun h => by omega, fun _ => ⟨a, b, c, oneOf_snoc.2 (Or.inr rfl), fun y hy => ?_⟩, fun h => by omega⟩
   rcases oneOf_snoc.1 hy with hy | hy
   ·right
    rcases d.2 y hy with g2 | g2
    ·rw [g2]; exact g
    ·exact aheadI_trans g2 g
   ·exact Or.inl hy
  ·rename_i g
   refine ⟨h0, fun h => by omega, fun _ => ⟨a, b, c, oneOf_snoc.2 (Or.inl d.1), fun y hy => ?_⟩, fun h => by omega⟩
   rcases oneOf_snoc.1 hy with hy | hy
   ·exact d.2 y hy
   ·rcases he.tot (oneOf_snoc.2 (Or.inr hy)) (oneOf_snoc.2 (Or.inl d.1)) with g2 | g2 | g2
    ·exact Or.inl g2
    ·exact Or.inr g2
    ·exact absurd (by rw [hy] at g2; exact g2) g
 ·have ek : k = 3 := by omega
  obtain ⟨a, b, c, d, e1, f, t, i⟩ := h3 (by omega)
  have hnI : hasI l.items e.dot = false := by
   cases g : hasI l.items e.dot
   ·rfl
   ·obtain ⟨x, hx, hd⟩ := hasI_iff.1 g
    obtain ⟨⟨v, hv, _, rfl⟩, _⟩ := (i x).1 hx
    exact absurd hd (hdi v hv)
  have ht : ∀ d, d ∈ l.tombs ↔ ∃ v ∈ es ++ [e], v.op.kind = 4 ∧ d ∈ v.op.dots := fun d => by rw [t, ex_snoc]; simp [q]
  have ea : applied l e = if hasD l.tombs e.dot = true then l else { l with items := lay l.items (0, e.dot, e.op.text) } := by
   unfold applied; rw [if_neg (by omega), if_neg (by omega), if_pos q, hnI]; simp
  have ei : itemOf e = (0, e.dot, e.op.text) := by simp [itemOf, q]
  rw [ea]
  split
  ·rename_i g
   refine ⟨h0, fun h => by omega, fun h => by omega, fun _ => ⟨a, b, c, d, e1, f, ht, fun x => ?_⟩⟩
   rw [i, ex_snoc]
   constructor
   ·rintro ⟨g1, g2⟩; exact ⟨Or.inl g1, g2⟩
   ·rintro ⟨g1 | ⟨_, g1⟩, g2⟩
    ·exact ⟨g1, g2⟩
    ·rw [g1, ei] at g2; exact absurd (hasD_iff.1 g) g2
  ·rename_i g
   refine ⟨h0, fun h => by omega, fun h => by omega, fun _ => ⟨a, b, c, d, lay_asc e1 hnI, f, ht, fun x => ?_⟩⟩
   show x ∈ lay l.items (0, e.dot, e.op.text) ↔ _
   rw [lay_mem, i, ex_snoc]
   constructor
   ·rintro (g1 | ⟨g1, g2⟩)
    ·refine ⟨Or.inr ⟨Or.inl q, g1.trans ei.symm⟩, ?_⟩
     rw [g1]; exact fun h => g (hasD_iff.2 h)
    ·exact ⟨Or.inl g1, g2⟩
   ·rintro ⟨g1 | ⟨_, g1⟩, g2⟩
    ·exact Or.inr ⟨g1, g2⟩
    ·exact Or.inl (g1.trans ei)
 ·have ek : k = 3 := by omega
  obtain ⟨a, b, c, d, e1, f, t, i⟩ := h3 (by omega)
  have ea : applied l e = { l with items := l.items.filter (fun x => !hasD e.op.dots x.2.1), tombs := e.op.dots.foldl bury l.tombs } := by
   unfold applied; rw [if_neg (by omega), if_neg (by omega), if_neg (by omega), if_pos q]
  rw [ea]
  refine ⟨h0, fun h => by omega, fun h => by omega, fun _ => ⟨a, b, c, d, e1.filter _, buried_lt f, fun d => ?_, fun x => ?_⟩⟩
  ·show d ∈ e.op.dots.foldl bury l.tombs ↔ _
   rw [buried_mem, t, ex_snoc]; simp [q]
  ·show x ∈ l.items.filter (fun x => !hasD e.op.dots x.2.1) ↔ _ ∧ x.2.1 ∉ e.op.dots.foldl bury l.tombs
   rw [List.mem_filter, i, ex_snoc, buried_mem]
   have e5 : ((!hasD e.op.dots x.2.1) = true) ↔ x.2.1 ∉ e.op.dots := by rw [← hasD_iff]; simp
   rw [e5]
   constructor
   ·rintro ⟨⟨g1, g2⟩, g3⟩
    exact ⟨Or.inl g1, fun h => h.elim g2 g3⟩
   ·rintro ⟨g1 | ⟨g1, _⟩, g2⟩
    ·exact ⟨⟨g1, fun h => g2 (Or.inl h)⟩, fun h => g2 (Or.inr h)⟩
    ·rcases g1 with g1 | g1 <;> omega
 ·have ek : k = 4 := by omega
  obtain ⟨a, b, c, d, e1, f, t, i⟩ := h3 (by omega)
  have hnI : hasI l.items e.dot = false := by
   cases g : hasI l.items e.dot
   ·rfl
   ·obtain ⟨x, hx, hd⟩ := hasI_iff.1 g
    obtain ⟨⟨v, hv, _, rfl⟩, _⟩ := (i x).1 hx
    exact absurd hd (hdi v hv)
  have ht : ∀ d, d ∈ l.tombs ↔ ∃ v ∈ es ++ [e], v.op.kind = 4 ∧ d ∈ v.op.dots := fun d => by rw [t, ex_snoc]; simp [q]
  have hno : ∀ d, d ∉ l.tombs := fun d hd => by
   obtain ⟨v, hv, hq, _⟩ := (t d).1 hd
   have := hes.ty v hv
   rcases ty_cases (q := v.op.kind) (by omega) with g | g | g | g | g <;> omega
  have ea : applied l e = { l with items := lay l.items (e.time, e.dot, e.op.text) } := by
   unfold applied; rw [if_neg (by omega), if_neg (by omega), if_neg (by omega), if_neg (by omega), hnI]; simp
  have ei : itemOf e = (e.time, e.dot, e.op.text) := by simp [itemOf, q]
  rw [ea]
  refine ⟨h0, fun h => by omega, fun h => by omega, fun _ => ⟨a, b, c, d, lay_asc e1 hnI, f, ht, fun x => ?_⟩⟩
  show x ∈ lay l.items (e.time, e.dot, e.op.text) ↔ _
  rw [lay_mem, i, ex_snoc]
  constructor
  ·rintro (g1 | ⟨g1, g2⟩)
   ·exact ⟨Or.inr ⟨Or.inr q, g1.trans ei.symm⟩, hno _⟩
   ·exact ⟨Or.inl g1, g2⟩
  ·rintro ⟨g1 | ⟨_, g1⟩, g2⟩
   ·exact Or.inr ⟨g1, g2⟩
   ·exact Or.inl (g1.trans ei)
theorem Beh.nodup {k : Nat} {es : List Om.E} {l : L} (hk : 3 ≤ k) (he : Evs k es) (h : Beh k es l) : (dots l.items).Nodup := by
 obtain ⟨_, _, _, h3⟩ := h
 obtain ⟨a, b, c, d, e, f, t, i⟩ := h3 hk
 unfold dots
 rw [List.Nodup, List.pairwise_map]
 refine (List.Pairwise.and_mem.1 e).imp ?_
 rintro x y ⟨hx, hy, hxy⟩ hd
 obtain ⟨⟨v, hv, _, rfl⟩, _⟩ := (i x).1 hx
 obtain ⟨⟨u, hu, _, rfl⟩, _⟩ := (i y).1 hy
 have := he.inj hv hu hd
 subst this
 rw [aheadI_irrefl] at hxy; cases hxy
theorem Evs.sub {k : Nat} {es P : List Om.E} (h : Evs k es) (hp : P.Sublist es) : Evs k P :=
 ⟨fun e he => h.may e (hp.subset he), fun e he => h.ty e (hp.subset he), (hp.map _).nodup h.nd⟩
theorem Beh.merge1 {k : Nat} {l P Q S : List Om.E} {B X U : L} (hk : 1 ≤ k ∧ k ≤ 4) (he : Evs k S) (hP : Evs k P) (hQ : Evs k Q) (hS : ∀ e, e ∈ S ↔ e ∈ P ∨ e ∈ Q) (hsum : sumN S = sumN P + sumN Q - sumN l)
  (hB : Beh k l B) (hX : Beh k P X) (hU : Beh k Q U) : Beh k S (merged B X U) := by
 have hXn := hX.nodup; have hUn := hU.nodup
 obtain ⟨b0, b1, b2, b3⟩ := hB
 obtain ⟨x0, x1, x2, x3⟩ := hX
 obtain ⟨u0, u1, u2, u3⟩ := hU
 rcases (show k = 1 ∨ k = 2 ∨ 3 ≤ k by omega) with q | q | q
 ·have ea : merged B X U = { zeroL with kind := 1, n := IntKind.i64.wrap (X.n + U.n - B.n) } := by unfold merged; rw [if_pos (b0.trans q)]
  rw [ea]
  refine ⟨q.symm, fun _ => ?_, fun h => by omega, fun h => by omega⟩
  rw [x1 q, u1 q, b1 q, hsum]
  simp only [L.mk.injEq, true_and, and_true]
  simp only [IntKind.wrap_i64]; omega
 ·obtain ⟨xa, xb, xc, xd⟩ := x2 q
  obtain ⟨ua, ub, uc, ud⟩ := u2 q
  have up : ∀ y, oneOf S y ↔ oneOf P y ∨ oneOf Q y := fun y => by
   unfold oneOf
   constructor
   ·rintro (h | ⟨e, h1, h2⟩)
    ·exact Or.inl (Or.inl h)
    ·rcases (hS e).1 h1 with g | g
     ·exact Or.inl (Or.inr ⟨e, g, h2⟩)
     ·exact Or.inr (Or.inr ⟨e, g, h2⟩)
   ·rintro ((h | ⟨e, h1, h2⟩) | (h | ⟨e, h1, h2⟩))
    ·exact Or.inl h
    ·exact Or.inr ⟨e, (hS e).2 (Or.inl h1), h2⟩
    ·exact Or.inl h
    ·exact Or.inr ⟨e, (hS e).2 (Or.inr h1), h2⟩
  have ea : merged B X U = { zeroL with kind := 2, time := (if ahead U.time U.dot X.time X.dot then X else U).time, dot := (if ahead U.time U.dot X.time X.dot then X else U).dot, text := (if ahead U.time U.dot X.time X.dot then X else U).text } := by unfold merged; rw [if_neg (by omega), if_pos (b0.trans q)]
  rw [ea]
  refine ⟨q.symm, fun h => by omega, fun _ => ⟨rfl, rfl, rfl, ?_⟩, fun h => by omega⟩
  by_cases g : ahead U.time U.dot X.time X.dot = true
  ·simp only [g, if_true]
   refine ⟨(up _).2 (Or.inl xd.1), fun y hy => ?_⟩
   rcases (up y).1 hy with hy | hy
   ·exact xd.2 y hy
   ·right
    rcases ud.2 y hy with h | h
    ·rw [h]; exact g
    ·exact aheadI_trans h g
  ·simp only [g, Bool.false_eq_true, if_false]
   refine ⟨(up _).2 (Or.inr ud.1), fun y hy => ?_⟩
   rcases (up y).1 hy with hy | hy
   ·have hxu : (X.time, X.dot, X.text) = (U.time, U.dot, U.text) ∨ aheadI (X.time, X.dot, X.text) (U.time, U.dot, U.text) = true := by
     rcases he.tot ((up _).2 (Or.inl xd.1)) ((up _).2 (Or.inr ud.1)) with h | h | h
     ·exact Or.inl h
     ·exact Or.inr h
     ·exact absurd h g
    rcases xd.2 y hy with h | h
    ·rw [h]; exact hxu
    ·rcases hxu with h2 | h2
     ·right; rw [← h2]; exact h
     ·exact Or.inr (aheadI_trans h h2)
   ·exact ud.2 y hy
 ·obtain ⟨xa, xb, xc, xd, xe, xf, xt, xi⟩ := x3 q
  obtain ⟨ua, ub, uc, ud, ue, uf, ut, ui⟩ := u3 q
  have key : ∀ (gone : List Dt.Dot), (∀ d, d ∈ gone ↔ d ∈ X.tombs ∨ d ∈ U.tombs) → ∀ y, y ∈ mix gone X.items U.items ↔ (∃ e ∈ S, isPut e ∧ y = itemOf e) ∧ y.2.1 ∉ gone := by
   intro gone hg y
   unfold mix
   rw [List.mem_filter, laid_mem (hUn q hQ)]
   have e5 : ((!hasD gone y.2.1) = true) ↔ y.2.1 ∉ gone := by rw [← hasD_iff]; simp
   rw [e5]
   constructor
   ·rintro ⟨h | ⟨h, _⟩, h2⟩
    ·obtain ⟨⟨e, h3, h4, h5⟩, _⟩ := (xi y).1 h
     exact ⟨⟨e, (hS e).2 (Or.inl h3), h4, h5⟩, h2⟩
    ·obtain ⟨⟨e, h3, h4, h5⟩, _⟩ := (ui y).1 h
     exact ⟨⟨e, (hS e).2 (Or.inr h3), h4, h5⟩, h2⟩
   ·rintro ⟨⟨e, h3, h4, h5⟩, h2⟩
    refine ⟨?_, h2⟩
    rcases (hS e).1 h3 with h | h
    ·exact Or.inl ((xi y).2 ⟨⟨e, h, h4, h5⟩, fun h6 => h2 ((hg _).2 (Or.inl h6))⟩)
    ·have hU : y ∈ U.items := (ui y).2 ⟨⟨e, h, h4, h5⟩, fun h6 => h2 ((hg _).2 (Or.inr h6))⟩
     by_cases h7 : y.2.1 ∈ dots X.items
     ·left
      obtain ⟨v, hv, hd⟩ := List.mem_map.1 h7
      obtain ⟨⟨f, hf, _, rfl⟩, _⟩ := (xi v).1 hv
      rw [h5] at hd ⊢
      have := he.inj ((hS f).2 (Or.inl hf)) h3 hd
      rw [← this]; exact hv
     ·exact Or.inr ⟨hU, h7⟩
  have hm : ∀ gone, (mix gone X.items U.items).Pairwise (fun u v => aheadI u v = true) := fun gone => (laid_asc xe).filter _
  have htomb : ∀ d, (d ∈ X.tombs ∨ d ∈ U.tombs) ↔ ∃ e ∈ S, e.op.kind = 4 ∧ d ∈ e.op.dots := fun d => by
   rw [xt, ut]
   constructor
   ·rintro (⟨e, h1, h2⟩ | ⟨e, h1, h2⟩)
    ·exact ⟨e, (hS e).2 (Or.inl h1), h2⟩
    ·exact ⟨e, (hS e).2 (Or.inr h1), h2⟩
   ·rintro ⟨e, h1, h2⟩
    rcases (hS e).1 h1 with g | g
    ·exact Or.inl ⟨e, g, h2⟩
    ·exact Or.inr ⟨e, g, h2⟩
  by_cases q3 : k = 3
  ·have ea : merged B X U = { zeroL with kind := 3, items := mix (U.tombs.foldl bury X.tombs) X.items U.items, tombs := U.tombs.foldl bury X.tombs } := by unfold merged; rw [if_neg (by omega), if_neg (by omega), if_pos (b0.trans q3)]
   rw [ea]
   refine ⟨q3.symm, fun h => by omega, fun h => by omega, fun _ => ⟨rfl, rfl, rfl, rfl, hm _, buried_lt xf, fun d => ?_, fun x => ?_⟩⟩
   ·show d ∈ U.tombs.foldl bury X.tombs ↔ _
    rw [buried_mem]; exact htomb d
   ·exact key _ (fun d => buried_mem) x
  ·have ea : merged B X U = { zeroL with kind := 4, items := mix [] X.items U.items } := by unfold merged; rw [if_neg (by omega), if_neg (by omega), if_neg (by omega)]
   have hno : ∀ d, ¬ ∃ e ∈ S, e.op.kind = 4 ∧ d ∈ e.op.dots := fun d => by
    rintro ⟨e, h1, h2, _⟩
    have := he.ty e h1
    rcases ty_cases (q := e.op.kind) (by omega) with g | g | g | g | g <;> omega
   rw [ea]
   refine ⟨by show 4 = k; omega, fun h => by omega, fun h => by omega, fun _ => ⟨rfl, rfl, rfl, rfl, hm _, List.Pairwise.nil, fun d => ?_, fun x => ?_⟩⟩
   ·show d ∈ [] ↔ _
    constructor
    ·intro h; simp at h
    ·intro h; exact absurd h (hno d)
   ·exact key [] (fun d => by rw [htomb]; constructor; intro h; simp at h; intro h; exact absurd h (hno d)) x
def run (l : L) : List Om.E → Option L
 | [] => some l
 | e :: es => if (apply l e).2 = 0 then run (apply l e).1 es else none
theorem applied_kind (l : L) (e : Om.E) : (applied l e).kind = l.kind := by
 unfold applied; repeat' split
 all_goals rfl
theorem apply_ok {l : L} {e : Om.E} (h : (apply l e).2 = 0) : Om.mayEvent e = true ∧ Om.type e.op.kind = l.kind ∧ (apply l e).1 = applied l e := by
 unfold apply at h ⊢
 by_cases h1 : may l = false ∨ Om.mayEvent e = false
 ·rw [if_pos h1] at h; simp at h
 ·rw [if_neg h1] at h ⊢
  by_cases h2 : Om.type e.op.kind ≠ l.kind
  ·rw [if_pos h2] at h; simp at h
  ·rw [if_neg h2] at h ⊢
   refine ⟨?_, by omega, rfl⟩
   cases g : Om.mayEvent e
   ·exact absurd (Or.inr g) h1
   ·rfl
theorem run_some : ∀ {es : List Om.E} {l m : L}, run l es = some m → m = es.foldl applied l ∧ ∀ e ∈ es, Om.mayEvent e = true ∧ Om.type e.op.kind = l.kind
 | [], l, m, h => by simp [run] at h; exact ⟨h.symm, by simp⟩
 | e :: es, l, m, h => by
  unfold run at h
  by_cases h1 : (apply l e).2 = 0
  ·rw [if_pos h1] at h
   obtain ⟨a, b, c⟩ := apply_ok h1
   rw [c] at h
   obtain ⟨d, f⟩ := run_some h
   refine ⟨d, fun x hx => ?_⟩
   rcases List.mem_cons.1 hx with g | g
   ·rw [g]; exact ⟨a, b⟩
   ·have := f x g
    rw [applied_kind] at this; exact this
  ·rw [if_neg h1] at h; cases h
theorem Beh.fold {k : Nat} (hk : 1 ≤ k ∧ k ≤ 4) : ∀ {es ps : List Om.E} {l : L}, Evs k (ps ++ es) → Beh k ps l → Beh k (ps ++ es) (es.foldl applied l)
 | [], ps, l, _, h => by rw [List.append_nil]; exact h
 | e :: es, ps, l, he, h => by
  have e1 : ps ++ e :: es = (ps ++ [e]) ++ es := by simp
  rw [e1] at he ⊢
  exact Beh.fold hk he (Beh.step hk (he.sub (List.sublist_append_left _ _)) h)
theorem run_beh {k : Nat} (hk : 1 ≤ k ∧ k ≤ 4) {es : List Om.E} {m : L} (h : run (new k) es = some m) (hn : (es.map (·.dot)).Nodup) : Evs k es ∧ Beh k es m := by
 obtain ⟨h1, h2⟩ := run_some h
 have hk2 : (new k).kind = k := by unfold new; rw [if_pos hk]
 have he : Evs k es := ⟨fun e he => (h2 e he).1, fun e he => (h2 e he).2.trans hk2, hn⟩
 refine ⟨he, ?_⟩
 rw [h1]
 have := Beh.fold hk (es := es) (ps := []) (by simpa using he) (Beh.new hk)
 simpa using this
theorem three {k : Nat} (hk : 1 ≤ k ∧ k ≤ 4) {l a b : List Om.E} {B X U A : L} (h1 : run (new k) l = some B) (h2 : run (new k) (l ++ a) = some X) (h3 : run (new k) (l ++ b) = some U) (h4 : run (new k) (l ++ a ++ b) = some A)
  (hn : ((l ++ a ++ b).map (·.dot)).Nodup) : merge B X U = (A, 0) ∧ merge B U X = (A, 0) := by
 obtain ⟨e4, b4⟩ := run_beh hk h4 hn
 have s1 : l.Sublist (l ++ a ++ b) := (List.sublist_append_left _ _).trans (List.sublist_append_left _ _)
 have s2 : (l ++ a).Sublist (l ++ a ++ b) := List.sublist_append_left _ _
 have s3 : (l ++ b).Sublist (l ++ a ++ b) := List.Sublist.append (List.sublist_append_left _ _) (List.Sublist.refl _)
 have e1 := e4.sub s1; have e2 := e4.sub s2; have e3 := e4.sub s3
 obtain ⟨_, b1⟩ := run_beh hk h1 e1.nd
 obtain ⟨_, b2⟩ := run_beh hk h2 e2.nd
 obtain ⟨_, b3⟩ := run_beh hk h3 e3.nd
 have m1 := b1.may hk e1; have m2 := b2.may hk e2; have m3 := b3.may hk e3
 have hS : ∀ e, e ∈ l ++ a ++ b ↔ e ∈ l ++ a ∨ e ∈ l ++ b := fun e => by
  rw [List.mem_append, List.mem_append, List.mem_append]
  constructor
  ·rintro ((h | h) | h)
   ·exact Or.inl (Or.inl h)
   ·exact Or.inl (Or.inr h)
   ·exact Or.inr (Or.inr h)
  ·rintro ((h | h) | (h | h))
   ·exact Or.inl (Or.inl h)
   ·exact Or.inl (Or.inr h)
   ·exact Or.inl (Or.inl h)
   ·exact Or.inr h
 have hs : sumN (l ++ a ++ b) = sumN (l ++ a) + sumN (l ++ b) - sumN l := by simp only [sumN_app]; omega
 have r1 := Beh.merge1 hk e4 e2 e3 hS hs b1 b2 b3
 have r2 := Beh.merge1 hk e4 e3 e2 (fun e => (hS e).trans Or.comm) (by omega) b1 b3 b2
 have k1 : B.kind = k := b1.1; have k2 : X.kind = k := b2.1; have k3 : U.kind = k := b3.1
 unfold merge
 rw [if_neg (by rw [m1, m2, m3]; simp), if_neg (by rw [k1, k2, k3]; simp), if_neg (by rw [m1, m2, m3]; simp), if_neg (by rw [k1, k2, k3]; simp)]
 exact ⟨by rw [r1.unique hk b4], by rw [r2.unique hk b4]⟩
end Go.Lm
