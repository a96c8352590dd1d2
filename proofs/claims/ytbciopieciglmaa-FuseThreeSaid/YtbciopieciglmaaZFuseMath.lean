import Derived.Test.YtbciopieciglmaaZLeafMath
import Derived.RowKit
/- Leaves merged over a base, and purged: as lists. For any program. -/
namespace Go.Lm
set_option linter.unusedSimpArgs false
set_option linter.unusedVariables false
def takeS (s : List Dt.Dot × List It) (x : It) : List Dt.Dot × List It := (s.1 ++ [x.2.1], if x.2.1 ∈ s.1 then s.2 else s.2 ++ [x])
def gath (gone : List Dt.Dot) (la lb : List It) : List It := (lb.foldl takeS (la.foldl takeS (gone, []))).2
def lay1 (l : List It) (x : It) : List It := if hasI l x.2.1 = true then l else lay l x
def mix (gone : List Dt.Dot) (la lb : List It) : List It := (lb.foldl lay1 la).filter (fun y => !hasD gone y.2.1)
def merged (l a b : L) : L :=
 if l.kind = 1 then { zeroL with kind := 1, n := IntKind.i64.wrap (a.n + b.n - l.n) }
 else if l.kind = 2 then { zeroL with kind := 2, time := (if ahead b.time b.dot a.time a.dot then a else b).time, dot := (if ahead b.time b.dot a.time a.dot then a else b).dot, text := (if ahead b.time b.dot a.time a.dot then a else b).text }
 else if l.kind = 3 then { zeroL with kind := 3, items := mix (b.tombs.foldl bury a.tombs) a.items b.items, tombs := b.tombs.foldl bury a.tombs }
 else { zeroL with kind := 4, items := mix [] a.items b.items }
def merge (l a b : L) : L × Int :=
 if may l = false ∨ may a = false ∨ may b = false then (zeroL, 2)
 else if a.kind ≠ l.kind ∨ b.kind ≠ l.kind then (zeroL, 15) else (merged l a b, 0)
def purge (l : L) : L × Int := if may l = false then (zeroL, 2) else ({ l with tombs := [] }, 0)
theorem wrap_out (a b c : Int) : IntKind.i64.wrap (IntKind.i64.wrap (a + b) - c) = IntKind.i64.wrap (a + b - c) := by simp only [IntKind.wrap_i64]; omega
theorem takeS_fst : ∀ (l : List It) (s : List Dt.Dot × List It), (l.foldl takeS s).1 = s.1 ++ dots l
 | [], s => by simp [dots]
 | x :: l, s => by rw [List.foldl_cons, takeS_fst l]; simp [takeS, dots]
theorem takeS_snd : ∀ (l : List It) (s : List Dt.Dot × List It), (dots l).Nodup → (l.foldl takeS s).2 = s.2 ++ l.filter (fun x => decide (x.2.1 ∉ s.1))
 | [], s, _ => by simp
 | x :: l, s, h => by
  have h' := h
  unfold dots at h'
  rw [List.map_cons, List.nodup_cons] at h'
  have hl : (dots l).Nodup := h'.2
  rw [List.foldl_cons, takeS_snd l _ hl]
  have e : l.filter (fun y => decide (y.2.1 ∉ (takeS s x).1)) = l.filter (fun y => decide (y.2.1 ∉ s.1)) := by
   apply List.filter_congr
   intro y hy
   have hne : y.2.1 ≠ x.2.1 := fun g => h'.1 (List.mem_map.2 ⟨y, hy, g⟩)
   simp [takeS, hne]
  rw [e]
  by_cases hx : x.2.1 ∈ s.1
  ·simp [takeS, hx]
  ·simp [takeS, hx]
theorem gath_eq {gone : List Dt.Dot} {la lb : List It} (ha : (dots la).Nodup) (hb : (dots lb).Nodup) :
  gath gone la lb = la.filter (fun x => decide (x.2.1 ∉ gone)) ++ lb.filter (fun x => decide (x.2.1 ∉ gone ++ dots la)) := by
 unfold gath
 rw [takeS_snd lb _ hb, takeS_snd la _ ha, takeS_fst]
 simp
theorem gath_mem {gone : List Dt.Dot} {la lb : List It} (ha : (dots la).Nodup) (hb : (dots lb).Nodup) {x : It} :
  x ∈ gath gone la lb ↔ (x ∈ la ∧ x.2.1 ∉ gone) ∨ (x ∈ lb ∧ x.2.1 ∉ gone ∧ x.2.1 ∉ dots la) := by
 rw [gath_eq ha hb]; simp
theorem gath_nodup {gone : List Dt.Dot} {la lb : List It} (ha : (dots la).Nodup) (hb : (dots lb).Nodup) : (dots (gath gone la lb)).Nodup := by
 rw [gath_eq ha hb]
 unfold dots
 rw [List.map_append, List.nodup_append]
 refine ⟨List.Sublist.nodup (List.Sublist.map _ List.filter_sublist) ha, List.Sublist.nodup (List.Sublist.map _ List.filter_sublist) hb, ?_⟩
 intro d hd e he heq
 subst heq
 obtain ⟨x, hx, rfl⟩ := List.mem_map.1 hd
 obtain ⟨y, hy, hxy⟩ := List.mem_map.1 he
 have h1 := (List.mem_filter.1 hx).1
 have h2 := (List.mem_filter.1 hy).2
 simp only [decide_eq_true_eq, List.mem_append, not_or] at h2
 exact h2.2 (hxy ▸ List.mem_map.2 ⟨x, h1, rfl⟩)
theorem lay_nil (x : It) : lay [] x = [x] := rfl
theorem lay_cons (a : It) (l : List It) (x : It) : lay (a :: l) x = if aheadI a x = true then a :: lay l x else x :: a :: l := by
 unfold lay
 rw [List.takeWhile_cons, List.dropWhile_cons]
 split <;> simp
theorem lay_mem {x y : It} : ∀ {l : List It}, y ∈ lay l x ↔ y = x ∨ y ∈ l
 | [] => by simp [lay_nil]
 | a :: l => by
  rw [lay_cons]
  split
  ·rw [List.mem_cons, lay_mem (l := l), List.mem_cons]
   constructor
   ·rintro (h | h | h)
    ·exact Or.inr (Or.inl h)
    ·exact Or.inl h
    ·exact Or.inr (Or.inr h)
   ·rintro (h | h | h)
    ·exact Or.inr (Or.inl h)
    ·exact Or.inl h
    ·exact Or.inr (Or.inr h)
  ·simp
theorem lay_asc {x : It} : ∀ {l : List It}, l.Pairwise (fun u v => aheadI u v = true) → hasI l x.2.1 = false → (lay l x).Pairwise (fun u v => aheadI u v = true)
 | [], _, _ => by simp [lay_nil]
 | a :: l, h, hx => by
  rw [List.pairwise_cons] at h
  have hn : ∀ y ∈ a :: l, y.2.1 ≠ x.2.1 := fun y hy e => by
   have : hasI (a :: l) x.2.1 = true := hasI_iff.2 ⟨y, hy, e⟩
   rw [hx] at this; cases this
  have hl : hasI l x.2.1 = false := by
   cases hq : hasI l x.2.1 with
   | false => rfl
   | true =>
    obtain ⟨y, hy, e⟩ := hasI_iff.1 hq
    exact absurd e (hn y (List.mem_cons_of_mem _ hy))
  rw [lay_cons]
  split
  ·next ha =>
   rw [List.pairwise_cons]
   refine ⟨fun y hy => ?_, lay_asc h.2 hl⟩
   rcases lay_mem.1 hy with rfl | hy
   ·exact ha
   ·exact h.1 y hy
  ·next ha =>
   have hxa : aheadI x a = true := (aheadI_total a x (hn a (by simp))).resolve_left ha
   rw [List.pairwise_cons, List.pairwise_cons]
   refine ⟨fun y hy => ?_, h⟩
   rcases List.mem_cons.1 hy with rfl | hy
   ·exact hxa
   ·exact aheadI_trans hxa (h.1 y hy)
theorem laid_asc : ∀ {lb la : List It}, la.Pairwise (fun u v => aheadI u v = true) → (lb.foldl lay1 la).Pairwise (fun u v => aheadI u v = true)
 | [], la, h => h
 | x :: lb, la, h => by
  rw [List.foldl_cons]
  apply laid_asc
  unfold lay1
  cases hq : hasI la x.2.1 with
  | true => simpa using h
  | false => simpa using lay_asc h hq
theorem laid_mem {y : It} : ∀ {lb la : List It}, (dots lb).Nodup → (y ∈ lb.foldl lay1 la ↔ y ∈ la ∨ (y ∈ lb ∧ y.2.1 ∉ dots la))
 | [], la, _ => by simp
 | x :: lb, la, h => by
  have h' := h
  unfold dots at h'
  rw [List.map_cons, List.nodup_cons] at h'
  rw [List.foldl_cons, laid_mem (lb := lb) h'.2]
  have hne : y ∈ lb → y.2.1 ≠ x.2.1 := fun hy g => h'.1 (List.mem_map.2 ⟨y, hy, g⟩)
  unfold lay1
  cases hq : hasI la x.2.1 with
  | true =>
   have hx : x.2.1 ∈ dots la := by
    obtain ⟨u, hu, e⟩ := hasI_iff.1 hq
    exact List.mem_map.2 ⟨u, hu, e⟩
   simp only [if_true]
   constructor
   ·rintro (h | ⟨h1, h2⟩)
    ·exact Or.inl h
    ·exact Or.inr ⟨List.mem_cons_of_mem _ h1, h2⟩
   ·rintro (h | ⟨h1, h2⟩)
    ·exact Or.inl h
    ·rcases List.mem_cons.1 h1 with rfl | h1
     ·exact absurd hx h2
     ·exact Or.inr ⟨h1, h2⟩
  | false =>
   have hx : x.2.1 ∉ dots la := fun g => by
    obtain ⟨u, hu, e⟩ := List.mem_map.1 g
    have := hasI_iff.2 ⟨u, hu, e⟩
    rw [hq] at this; cases this
   have hd : ∀ d, d ∈ dots (lay la x) ↔ d = x.2.1 ∨ d ∈ dots la := fun d => by
    unfold dots
    simp only [List.mem_map, lay_mem]
    constructor
    ·rintro ⟨u, rfl | hu, rfl⟩
     ·exact Or.inl rfl
     ·exact Or.inr ⟨u, hu, rfl⟩
    ·rintro (rfl | ⟨u, hu, rfl⟩)
     ·exact ⟨x, Or.inl rfl, rfl⟩
     ·exact ⟨u, Or.inr hu, rfl⟩
   simp only [Bool.false_eq_true, if_false]
   rw [lay_mem, hd]
   constructor
   ·rintro ((rfl | h) | ⟨h1, h2⟩)
    ·exact Or.inr ⟨by simp, hx⟩
    ·exact Or.inl h
    ·exact Or.inr ⟨List.mem_cons_of_mem _ h1, fun g => h2 (Or.inr g)⟩
   ·rintro (h | ⟨h1, h2⟩)
    ·exact Or.inl (Or.inr h)
    ·rcases List.mem_cons.1 h1 with rfl | h1
     ·exact Or.inl (Or.inl rfl)
     ·exact Or.inr ⟨h1, fun g => g.elim (hne h1) h2⟩
theorem ext_ahead : ∀ {l m : List It}, l.Pairwise (fun u v => aheadI u v = true) → m.Pairwise (fun u v => aheadI u v = true) → (∀ d, d ∈ l ↔ d ∈ m) → l = m
 | [], [], _, _, _ => rfl
 | [], b :: m, _, _, h => by have := (h b).2 (by simp); simp at this
 | a :: l, [], _, _, h => by have := (h a).1 (by simp); simp at this
 | a :: l, b :: m, hl, hm, h => by
  rw [List.pairwise_cons] at hl hm
  have irr : ∀ x, ¬ aheadI x x = true := fun x g => by rw [aheadI_irrefl] at g; cases g
  have e : a = b := by
   rcases List.mem_cons.1 ((h a).1 (by simp)) with e | h1
   ·exact e
   ·rcases List.mem_cons.1 ((h b).2 (by simp)) with e | h2
    ·exact e.symm
    ·exact absurd (aheadI_trans (hm.1 a h1) (hl.1 b h2)) (irr b)
  subst e
  rw [ext_ahead hl.2 hm.2 (fun d => ?_)]
  constructor
  ·intro hd
   rcases List.mem_cons.1 ((h d).1 (List.mem_cons_of_mem _ hd)) with rfl | h1
   ·exact absurd (hl.1 d hd) (irr d)
   ·exact h1
  ·intro hd
   rcases List.mem_cons.1 ((h d).2 (List.mem_cons_of_mem _ hd)) with rfl | h1
   ·exact absurd (hm.1 d hd) (irr d)
   ·exact h1
theorem gath_mix {gone : List Dt.Dot} {la lb s : List It} (hA : la.Pairwise (fun u v => aheadI u v = true)) (ha : (dots la).Nodup) (hb : (dots lb).Nodup)
  (hp : s.Perm (gath gone la lb)) (hs : s.Pairwise (fun u v => ¬ aheadI v u = true)) : s = mix gone la lb := by
 have hnd : (dots s).Nodup := (List.Perm.nodup_iff (hp.map _)).2 (gath_nodup ha hb)
 have hasc : s.Pairwise (fun u v => aheadI u v = true) := by
  unfold dots at hnd
  rw [List.Nodup, List.pairwise_map] at hnd
  exact (hnd.and hs).imp fun {u v} ⟨h1, h2⟩ => (aheadI_total u v h1).resolve_right h2
 refine ext_ahead hasc ((laid_asc hA).filter _) (fun d => ?_)
 rw [hp.mem_iff, gath_mem ha hb]
 unfold mix
 rw [List.mem_filter, laid_mem hb]
 have e : (!hasD gone d.2.1) = true ↔ d.2.1 ∉ gone := by
  cases hq : hasD gone d.2.1 with
  | true => simp [hasD_iff.1 hq]
  | false =>
   have : d.2.1 ∉ gone := fun g => by have := hasD_iff.2 g; rw [hq] at this; cases this
   simp [this]
 rw [e]
 constructor
 ·rintro (⟨h1, h2⟩ | ⟨h1, h2, h3⟩)
  ·exact ⟨Or.inl h1, h2⟩
  ·exact ⟨Or.inr ⟨h1, h3⟩, h2⟩
 ·rintro ⟨h1 | ⟨h1, h3⟩, h2⟩
  ·exact Or.inl ⟨h1, h2⟩
  ·exact Or.inr ⟨h1, h2, h3⟩
theorem tombs_eq {a b s : List Dt.Dot} (ha : a.Pairwise Dt.lt) (hp : s.Perm (a ++ b)) (hs : s.Pairwise fun x y => ¬ Dt.lt y x) : compact s = b.foldl bury a := buried_eq ha hp hs
end Go.Lm
