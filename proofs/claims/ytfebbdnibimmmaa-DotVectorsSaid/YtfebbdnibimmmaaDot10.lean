import Derived.Test.YtfebbdnibimmmaaDot9
namespace Go.Proofs.Ytfebbdnibimmmaa
open Go.Shelf Go.RowKit Go.Maps
def RetVec (W : World) (L : List Dt.Dot) (e : Ending) (w' : World) : Prop := ∃ a c, e = .returned (.slice a L.length c) ∧ VRow w' a c L ∧ Below W.heap.size W w'
theorem ret_slice {p : Option Addr} {a b c : Nat} (h : a = b) : Ending.returned (.slice p a c) = .returned (.slice p b c) := by rw [h]
def dotsV (l : List Dt.Dot) : List Value := l.flatMap encD
theorem dotsV_length (l : List Dt.Dot) : (dotsV l).length = l.length * 3 := by
  induction l with
  | nil => rfl
  | cons x r ih => unfold dotsV at *; rw [List.flatMap_cons, List.length_append, ih]; simp [encD]; omega
theorem dotsV_snoc (l : List Dt.Dot) (d : Dt.Dot) : dotsV (l ++ [d]) = dotsV l ++ encD d := by unfold dotsV; rw [List.flatMap_append]; simp
theorem dotsV_get : ∀ (l : List Dt.Dot) (i : Nat) (d : Dt.Dot), l[i]? = some d → ∀ j, j < 3 → (dotsV l)[i * 3 + j]? = (encD d)[j]?
  | [], _, _, h => by simp at h
  | x :: r, 0, d, h => by
    intro j hj
    simp at h; subst h
    unfold dotsV; rw [List.flatMap_cons, Nat.zero_mul, Nat.zero_add, List.getElem?_append_left (by simp [encD]; omega)]
  | x :: r, i + 1, d, h => by
    intro j hj
    have := dotsV_get r i d (by simpa using h) j hj
    unfold dotsV at *
    rw [List.flatMap_cons, List.getElem?_append_right (by simp [encD]; omega), ← this]
    congr 1; simp [encD]; omega
theorem info_dot : (Try.prog.info? 29).map (fun i => (i.zero, i.size, i.bytes)) = some (some (.agg #[.int .u8 0, .int .u32 0, .int .u64 0]), 3, 16) := by kernel_rfl
def VecInv (f : Dt.Ac → Nat) (D : DataW Unit) (left : Lit → Bool) (xs : List Dt.Dot) : Prop :=
  xs.Pairwise (fun x y => x.1 ≠ y.1) ∧ ∀ d, d ∈ xs ↔ (okAc d.1 ∧ 0 < d.2 ∧ d.2 = f d.1 ∧ Maps.has D (kl d.1) = true ∧ left (kl d.1) = false)
theorem vecInv_start (f : Dt.Ac → Nat) (D : DataW Unit) : VecInv f D (Maps.has D) [] := by
  refine ⟨List.Pairwise.nil, fun d => ?_⟩
  simp only [List.not_mem_nil, false_iff]
  rintro ⟨_, _, _, h1, h2⟩
  rw [h1] at h2; cases h2
theorem vecInv_skip {f : Dt.Ac → Nat} {D : DataW Unit} {left : Lit → Bool} {xs : List Dt.Dot} {x : Dt.Ac} (h : VecInv f D left xs) (hx : okAc x) (h0 : f x = 0) : VecInv f D (fun z => left z && !z.sameKey (kl x)) xs := by
  refine ⟨h.1, fun d => ?_⟩
  rw [h.2]
  constructor
  · rintro ⟨h1, h2, h3, h4, h5⟩; exact ⟨h1, h2, h3, h4, by simp [h5]⟩
  · rintro ⟨h1, h2, h3, h4, h5⟩
    refine ⟨h1, h2, h3, h4, ?_⟩
    have hne : kl d.1 ≠ kl x := fun e => by rw [kl_inj h1 hx e] at h3; omega
    simpa [sameKey_ne hne] using h5
theorem vecInv_take {f : Dt.Ac → Nat} {D : DataW Unit} {left : Lit → Bool} {xs : List Dt.Dot} {x : Dt.Ac} (h : VecInv f D left xs) (hx : okAc x) (h0 : 0 < f x) (hh : Maps.has D (kl x) = true) (hl : left (kl x) = true) : VecInv f D (fun z => left z && !z.sameKey (kl x)) (xs ++ [(x, f x)]) := by
  have hk : WideAt.IsKeyLit (kl x) := actLaw.key (keyOf_act hx)
  refine ⟨?_, fun d => ?_⟩
  · rw [List.pairwise_append]
    refine ⟨h.1, List.pairwise_singleton _ _, fun y hy z hz => ?_⟩
    rw [List.mem_singleton] at hz; subst hz
    intro e
    have := ((h.2 y).1 hy).2.2.2.2
    simp only at e
    rw [e, hl] at this; cases this
  · rw [List.mem_append, h.2, List.mem_singleton]
    constructor
    · rintro (⟨h1, h2, h3, h4, h5⟩ | rfl)
      · exact ⟨h1, h2, h3, h4, by simp [h5]⟩
      · exact ⟨hx, h0, rfl, hh, by simp [WideAt.sameKey_self hk]⟩
    · rintro ⟨h1, h2, h3, h4, h5⟩
      by_cases e : d.1 = x
      · right
        rcases d with ⟨a, m⟩
        simp only at e h3; subst e; rw [h3]
      · left
        refine ⟨h1, h2, h3, h4, ?_⟩
        have hne : kl d.1 ≠ kl x := fun g => e (kl_inj h1 hx g)
        simpa [sameKey_ne hne] using h5
theorem vec_of_sort {f : Dt.Ac → Nat} {D : DataW Unit} {left : Lit → Bool} {xs ys : List Dt.Dot} (h : VecInv f D left xs) (hl : ∀ k, left k = false) (hD : ∀ a, okAc a → D.atKey (kl a) (.lit (.int .u64 0)) = .lit (.int .u64 (f a : Nat)))
    (hf : ∀ a, okAc a → 0 < f a → Dt.mayA a = true) (hp : ys.Perm xs) (hs : ys.Pairwise (fun x y => ¬ Dt.lt y x)) : ys = Dt.vec f := by
  have hne : ys.Pairwise (fun x y => x.1 ≠ y.1) := (hp.pairwise_iff (fun {_ _} g => Ne.symm g)).2 h.1
  refine Dt.vec_of_sorted ?_ (fun d => ?_)
  · refine (hs.and hne).imp ?_
    rintro x y ⟨h1, h2⟩
    rcases Dt.ltA_total x.1 y.1 with g | g | g
    · exact g
    · exact absurd g h2
    · exact absurd (Or.inl g) h1
  · rw [hp.mem_iff, h.2]
    constructor
    · rintro ⟨h1, h2, h3, _⟩; exact ⟨hf _ h1 (by omega), h2, h3⟩
    · rintro ⟨h1, h2, h3⟩
      have hok : okAc d.1 := by have := Dt.mayA_iff.1 h1; exact ⟨by omega, by omega⟩
      refine ⟨hok, h2, h3, ?_, hl _⟩
      cases hh : Maps.has D (kl d.1)
      · have := hD _ hok
        rw [atKey_of_not_has hh] at this
        simp only [DataW.lit.injEq, Lit.int.injEq, true_and] at this
        omega
      · rfl
theorem entry_facts {D : DataW Unit} {f : Dt.Ac → Nat} (hD : ∀ a, okAc a → D.atKey (kl a) (.lit (.int .u64 0)) = .lit (.int .u64 (f a : Nat))) {x : Dt.Ac} {c : Nat} {l : Lit} {y : DataW Unit × List MemPlace}
    (hkey : keyOf Try.prog 26 (acV x) = some l) (hv : plainElem Try.prog 27 (.int .u64 (c : Int)) = some y) (hat : ∀ zd, D.atKey l zd = y.1) : okAc x ∧ l = kl x ∧ f x = c ∧ c < 18446744073709551616 := by
  obtain ⟨a, ha, he, rfl⟩ := keyOf_act_inv hkey
  have hxa : x = a := by
    simp only [Value.agg.injEq, Array.mk.injEq, List.cons.injEq, Value.int.injEq, true_and, and_true] at he
    rcases x with ⟨x1, x2⟩; rcases a with ⟨a1, a2⟩
    simp only at he; simp only [Prod.mk.injEq]; omega
  subst hxa
  obtain ⟨c', he', rfl, hwf⟩ := plainElem_int_inv Try.underlying27 hv
  simp only [Value.int.injEq, true_and] at he'
  subst he'
  have h1 := hat (.lit (.int .u64 0))
  rw [hD x ha] at h1
  simp only [DataW.lit.injEq, Lit.int.injEq, true_and] at h1
  have := bounds_u64 hwf
  exact ⟨ha, rfl, by omega, by omega⟩
theorem size_le {w : World} {b n : Nat} {D : DataW Unit} (h : w.ownsMap Try.prog 26 (plainElem Try.prog 27) b n D) : Maps.size D ≤ n := by
  obtain ⟨es, clock, _, _, hs, rfl⟩ := h
  simp [Maps.size, length_sorted]; omega
theorem has_of_left {D : DataW Unit} {l : Lit} {y : DataW Unit} (hat : ∀ zd, D.atKey l zd = y) : Maps.has D l = true := has_true_of_atKey hat
theorem holds_of_own {w : World} {base g cap : Nat} {xs : List Dt.Dot} (h : w.ownsRow base 29 3 (.slice (some ⟨g, 0, none⟩) xs.length cap) xs.length (dotsV xs)) : Go.Sort.HoldsK encD 3 w g 0 xs.toArray := by
  intro j hj
  simp only [Go.Sort.size_flatK, List.size_toArray] at hj
  refine ⟨?_, by rw [Nat.zero_add]; exact h.frozenAt j⟩
  rw [Nat.zero_add, h.cellAt j hj, Go.Sort.get_flatK encD 3 xs.toArray j (by simpa using hj)]
  have hi : j / 3 < xs.length := by omega
  have h3 : j % 3 < 3 := Nat.mod_lt _ (by omega)
  have := dotsV_get xs (j / 3) xs[j / 3] (List.getElem?_eq_getElem hi) (j % 3) h3
  rw [show j / 3 * 3 + j % 3 = j from by omega] at this
  rw [this, getElem!_pos xs.toArray (j / 3) (by simpa using hi)]
  rw [getElem!_pos (encD _) (j % 3) (by rw [encD_len]; exact h3)]
  simp
theorem row_of_holds {w : World} {g cap : Nat} {ys : List Dt.Dot} (h : Go.Sort.HoldsK encD 3 w g 0 ys.toArray) (hok : ∀ d ∈ ys, Dt.okD d) (h1 : ys.length ≤ cap) (h2 : cap ≤ 9223372036854775807) : VRow w (some ⟨g, 0, none⟩) cap ys := by
  refine ⟨h1, h2, hok, (fun e => by cases e), fun i d hd => ⟨_, rfl, ?_⟩⟩
  have hi : i < ys.length := (List.getElem?_eq_some_iff.1 hd).1
  have key : ∀ j, j < 3 → w.cell? ⟨g, i * 3 + j, none⟩ = (encD d)[j]? := fun j hj => by
    have := (h (i * 3 + j) (by simp; omega)).1
    rw [Nat.zero_add, Go.Sort.get_flatK encD 3 ys.toArray _ (by simp; omega), show (i * 3 + j) / 3 = i from by omega, show (i * 3 + j) % 3 = j from by omega] at this
    rw [this, getElem!_pos ys.toArray i (by simpa using hi)]
    have hdi : ys[i] = d := by have := (List.getElem?_eq_some_iff.1 hd).2; exact this
    simp only [List.getElem_toArray, hdi]
    rw [getElem!_pos (encD _) j (by rw [encD_len]; exact hj)]
    simp
  refine ⟨?_, ?_, ?_⟩
  · rw [Addr.add_mid, Nat.zero_add]; exact key 0 (by omega)
  · rw [Addr.add_mid, Nat.zero_add]; exact key 1 (by omega)
  · rw [Addr.add_mid, Nat.zero_add]; exact key 2 (by omega)
end Go.Proofs.Ytfebbdnibimmmaa
