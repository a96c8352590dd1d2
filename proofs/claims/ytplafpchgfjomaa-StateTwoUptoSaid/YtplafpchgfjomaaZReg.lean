import Derived.WalkKit
import Derived.WalkSpells
import Derived.WalkLawsBesides
import Derived.Test.YtplafpchgfjomaaZK
import Derived.Below
/- A region that draws its order, proved operation by operation: each operation has a fact on its value that stays true while memory only grows; each is run once, in any frame in which the facts of those it waits for hold. For any program. -/
namespace Go.Reg
open Go.RowKit
def dstOf (ops : Array Oper) (i : Nat) : Option Tmp := (ops[i]?).bind Oper.dst
def valOf (ops : Array Oper) (ev : Operand → Value) (i : Nat) : Value := match dstOf ops i with | some d => ev (.tmp d) | none => undef
def deps (o : Oper) : List Nat := (o.after.toList.filter fun e => Region.binds .any e).map (·.on)
def dsts (ops : Array Oper) : List Tmp := ops.toList.filterMap Oper.dst
def okOps (ops : Array Oper) (n : Nat) : Bool :=
 decide (dsts ops).Nodup && (dsts ops).all (· < n) && (List.range ops.size).all (fun i => ((ops[i]?).map fun o => o.after.all fun e => !Region.binds .any e || decide (e.on < i)).getD false) &&
 (List.range ops.size).all (fun i => ((ops[i]?).map fun o => match o.guard with | none => true | some (g, _) => (dstOf ops g).isSome).getD false)
def GuardYes (ops : Array Oper) (o : Oper) (ev : Operand → Value) : Prop := match o.guard with | none => True | some (g, b) => valOf ops ev g = .bool b
def GuardNo (ops : Array Oper) (o : Oper) (ev : Operand → Value) : Prop := match o.guard with | none => False | some (g, b) => valOf ops ev g = .bool (!b) ∨ valOf ops ev g = undef
def Runs (P : Program) (o : Oper) (ev : Operand → Value) (w : World) (R : Value → World → Prop) : Prop :=
 (∃ v w', (execOp ev o).run P w = .ok (.value v) w' ∧ R v w') ∨
 (∃ f args w', (execOp ev o).run P w = .ok (.enter f args) w' ∧ Calls P f args w' fun e w'' => ∃ v, e = .returned v ∧ R v w'')
def Step (P : Program) (ops : Array Oper) (Fact : Nat → Value → World → Prop) (ev0 : Operand → Value) (w0 : World) (i : Nat) (o : Oper) : Prop :=
 ∀ (ev : Operand → Value) (w : World), (∀ v, ev (.const v) = v) → (∀ f, ev (.func f) = .func (.func f) #[] #[]) → (∀ g, ev (.global g) = .pointer (some ⟨g, 0, none⟩)) → (∀ t, t ∉ dsts ops → ev (.tmp t) = ev0 (.tmp t)) →
  (∀ j, j ∈ deps o → Fact j (valOf ops ev j) w) → Below w0.heap.size w0 w →
  (GuardYes ops o ev ∧ Runs P o ev w fun v w' => Fact i (match o.dst with | some _ => v | none => undef) w' ∧ Below w.heap.size w w') ∨ (GuardNo ops o ev ∧ Fact i undef w)
def Steps (P : Program) (ops : Array Oper) (Fact : Nat → Value → World → Prop) (ev0 : Operand → Value) (w0 : World) : Nat → List Oper → Prop
 | _, [] => True
 | i, o :: r => Step P ops Fact ev0 w0 i o ∧ Steps P ops Fact ev0 w0 (i + 1) r
def putAll (v : Nat → Value) : Nat → List Oper → Act → Act
 | _, [], a => a
 | i, o :: r, a => putAll v (i + 1) r (a.put o.dst (v i))
theorem putAll_eq (v : Nat → Value) (b : Act) : ∀ (l : List Oper) (k : Nat) (a : Act), a.tmps.size = b.tmps.size → a.defers = b.defers →
  (∀ (i : Nat) (t : Tmp), (l[i]?).bind Oper.dst = some t → b.tmps[t]? = some (v (k + i))) → (∀ t : Tmp, (∀ i : Nat, (l[i]?).bind Oper.dst ≠ some t) → a.tmps[t]? = b.tmps[t]?) → putAll v k l a = b
 | [], k, a, hs, hd, _, hf => by
  unfold putAll
  have ht : a.tmps = b.tmps := Array.ext_getElem? fun t => hf t (fun i => by simp)
  cases a; cases b; simp_all
 | o :: r, k, a, hs, hd, hv, hf => by
  unfold putAll
  refine putAll_eq v b r (k + 1) _ ?_ ?_ (fun i t h => ?_) (fun t h => ?_)
  ·cases o.dst <;> simp [Act.put, hs]
  ·cases o.dst <;> simp [Act.put, hd]
  ·have := hv (i + 1) t (by simpa using h)
   rw [this]; congr 2; omega
  ·by_cases ht : o.dst = some t
   ·have h0 := hv 0 t (by simpa using ht)
    have hlt : t < a.tmps.size := by rw [hs]; exact (Array.getElem?_eq_some_iff.1 h0).1
    rw [h0]
    simp [Act.put, ht, hlt]
   ·have h1 := hf t (fun i => by
     cases i with
     | zero => simpa using ht
     | succ i => simpa using h i)
    rw [← h1]
    cases hd : o.dst with
    | none => rfl
    | some d =>
     have : d ≠ t := fun e => ht (by rw [hd, e])
     simp [Act.put, Array.getElem?_setIfInBounds_ne this]
theorem steps_get {P : Program} {ops : Array Oper} {Fact : Nat → Value → World → Prop} {ev0 : Operand → Value} {w0 : World} : ∀ (l : List Oper) (k : Nat), Steps P ops Fact ev0 w0 k l → ∀ i o, l[i]? = some o → Step P ops Fact ev0 w0 (k + i) o
 | [], _, _, _, _, h => by simp at h
 | o :: r, k, hs, i, o', h => by
  cases i with
  | zero => simp at h; subst h; exact hs.1
  | succ i =>
   have := steps_get r (k + 1) hs.2 i o' (by simpa using h)
   rwa [show k + 1 + i = k + (i + 1) from by omega] at this
theorem eval_tmp (a : Act) (t : Tmp) : a.eval (.tmp t) = a.tmps.getD t undef := rfl
theorem nodup_inj {ops : Array Oper} (h : (dsts ops).Nodup) : ∀ (i j : Nat) (d : Tmp), dstOf ops i = some d → dstOf ops j = some d → i = j := by
 have key : ∀ (l : List Oper), (l.filterMap Oper.dst).Nodup → ∀ (i j : Nat) (d : Tmp), (l[i]?).bind Oper.dst = some d → (l[j]?).bind Oper.dst = some d → i = j := by
  intro l
  induction l with
  | nil => intro _ i j d h; simp at h
  | cons o r ih =>
   intro hn i j d hi hj
   have mem : ∀ (k : Nat) (d : Tmp), (r[k]?).bind Oper.dst = some d → d ∈ r.filterMap Oper.dst := fun k d hk => by
    obtain ⟨o', ho', hd'⟩ := Option.bind_eq_some_iff.1 hk
    exact List.mem_filterMap.2 ⟨o', List.mem_of_getElem? ho', hd'⟩
   cases hod : o.dst with
   | none =>
    rw [List.filterMap_cons_none hod] at hn
    cases i with
    | zero => simp [hod] at hi
    | succ i => cases j with
     | zero => simp [hod] at hj
     | succ j => rw [ih hn i j d (by simpa using hi) (by simpa using hj)]
   | some d0 =>
    rw [List.filterMap_cons_some hod, List.nodup_cons] at hn
    cases i with
    | zero => cases j with
     | zero => rfl
     | succ j =>
      simp [hod] at hi; subst hi
      exact absurd (mem j d0 (by simpa using hj)) hn.1
    | succ i => cases j with
     | zero =>
      simp [hod] at hj; subst hj
      exact absurd (mem i d0 (by simpa using hi)) hn.1
     | succ j => rw [ih hn.2 i j d (by simpa using hi) (by simpa using hj)]
 intro i j d hi hj
 refine key ops.toList (by simpa [dsts] using h) i j d ?_ ?_
 ·simpa [dstOf] using hi
 ·simpa [dstOf] using hj
structure Inv (ops : Array Oper) (Fact : Nat → Value → World → Prop) (a0 : Act) (w0 : World) (listed : Array Bool) (a : Act) (w : World) : Prop where
  size : a.tmps.size = a0.tmps.size
  defers : a.defers = a0.defers
  rest : ∀ t, t ∉ dsts ops → a.tmps[t]? = a0.tmps[t]?
  fact : ∀ i, listed.getD i true = true → i < ops.size → Fact i (valOf ops a.eval i) w
  below : Below w0.heap.size w0 w
  len : listed.size = ops.size
theorem mem_dsts {ops : Array Oper} {i : Nat} {d : Tmp} (h : dstOf ops i = some d) : d ∈ dsts ops := by
 obtain ⟨o, ho, hd⟩ := Option.bind_eq_some_iff.1 h
 exact List.mem_filterMap.2 ⟨o, by
  have := Array.getElem?_toList (xs := ops) (i := i)
  exact List.mem_of_getElem? (i := i) (by rw [this]; exact ho), hd⟩
theorem inv_step {P : Program} {ops : Array Oper} {Q : Exit → Act → World → Prop} {Fact : Nat → Value → World → Prop} {a0 : Act} {w0 : World}
  (hok : okOps ops a0.tmps.size = true) (hmono : ∀ i v w w', Below w.heap.size w w' → Fact i v w → Fact i v w') (hsteps : Steps P ops Fact a0.eval w0 0 ops.toList)
  {listed : Array Bool} {a : Act} {w : World} (inv : Inv ops Fact a0 w0 listed a w) (i : Nat) (hi : i ∈ Region.ready .any ops listed) :
  wpOp P ops Q i (fun a' w' => Inv ops Fact a0 w0 (listed.setIfInBounds i true) a' w') a w := by
 simp only [okOps, Bool.and_eq_true, List.all_eq_true, decide_eq_true_eq, List.mem_range] at hok
 obtain ⟨⟨⟨hnd, hlt⟩, hedge⟩, hgd⟩ := hok
 have hinj := nodup_inj hnd
 simp only [Region.ready, List.mem_filter, List.mem_range, Bool.and_eq_true, Bool.not_eq_true'] at hi
 obtain ⟨hin, hun, hdep⟩ := hi
 obtain ⟨o, ho⟩ : ∃ o, ops[i]? = some o := ⟨ops[i], by simp [hin]⟩
 have hoi : dstOf ops i = o.dst := by simp [dstOf, ho]
 rw [ho] at hdep
 simp only [Option.map_some, Option.getD_some, Array.all_eq_true_iff_forall_mem] at hdep
 have hst := steps_get ops.toList 0 hsteps i o (by simpa using ho)
 rw [Nat.zero_add] at hst
 have hearly := hedge i hin
 rw [ho] at hearly
 simp only [Option.map_some, Option.getD_some, Array.all_eq_true_iff_forall_mem, Bool.or_eq_true, Bool.not_eq_true', decide_eq_true_eq] at hearly
 have hgs := hgd i hin
 rw [ho] at hgs
 simp only [Option.map_some, Option.getD_some] at hgs
 have hlisted : ∀ e ∈ o.after, Region.binds .any e = true → listed.getD e.on false = true := fun e he hb => by
  have := hdep e he
  rw [hb] at this; simpa using this
 have hfacts : ∀ j, j ∈ deps o → Fact j (valOf ops a.eval j) w := fun j hj => by
  simp only [deps, List.mem_map, List.mem_filter] at hj
  obtain ⟨e, ⟨he, hb⟩, rfl⟩ := hj
  have he' : e ∈ o.after := by simpa using he
  have h1 := hlisted e he' hb
  have h2 := (hearly e he').resolve_left (by rw [hb]; simp)
  refine inv.fact _ ?_ (by omega)
  have hl : e.on < listed.size := by rw [inv.len]; omega
  simpa [Array.getD, hl] using h1
 have hval : ∀ t, t ∉ dsts ops → a.eval (.tmp t) = a0.eval (.tmp t) := fun t ht => by
  have := inv.rest t ht
  simp [eval_tmp, this]
 have hres := hst a.eval w (fun _ => rfl) (fun _ => rfl) (fun _ => rfl) hval hfacts inv.below
 have hput : ∀ (v : Value) (w' : World), Fact i (match o.dst with | some _ => v | none => undef) w' → Below w.heap.size w w' →
   Inv ops Fact a0 w0 (listed.setIfInBounds i true) (a.put o.dst v) w' := fun v w' hf hb => by
  refine ⟨?_, ?_, fun t ht => ?_, fun j hj hjn => ?_, inv.below.trans (hb.mono inv.below.size), by simpa using inv.len⟩
  ·rw [← inv.size]; cases o.dst <;> simp [Act.put]
  ·rw [← inv.defers]; cases o.dst <;> simp [Act.put]
  ·rw [← inv.rest t ht]
   cases hd : o.dst with
   | none => rfl
   | some d =>
    have : d ≠ t := fun e => ht (by rw [← e]; exact mem_dsts (i := i) (by rw [hoi, hd]))
    simp [Act.put, Array.getElem?_setIfInBounds_ne this]
  ·by_cases hji : j = i
   ·subst hji
    cases hd : o.dst with
    | none =>
     rw [hd] at hf
     simpa [valOf, hoi, hd] using hf
    | some d =>
     rw [hd] at hf
     have hdl : d < a.tmps.size := by
      rw [inv.size]
      have := hlt d (mem_dsts (i := j) (by rw [hoi, hd]))
      simpa using this
     simpa [valOf, hoi, hd, eval_tmp, Act.put, hdl] using hf
   ·have hj' : listed.getD j true = true := by
     have hne : i ≠ j := fun e => hji e.symm
     simpa [Array.getElem?_setIfInBounds_ne hne] using hj
    have h1 := hmono j _ w w' hb (inv.fact j hj' hjn)
    have e : valOf ops (a.put o.dst v).eval j = valOf ops a.eval j := by
     unfold valOf
     cases hdj : dstOf ops j with
     | none => rfl
     | some dj =>
      cases hd : o.dst with
      | none => rfl
      | some d =>
       have hne : d ≠ dj := fun e => hji (hinj j i dj hdj (by rw [hoi, hd, e]))
       simp [eval_tmp, Act.put, Array.getElem?_setIfInBounds_ne hne]
    rw [e]; exact h1
 have hyield : ∀ g b, o.guard = some (g, b) → ∀ b', valOf ops a.eval g = .bool b' → yielded ops a.tmps g = some b' := fun g b hg b' hv => by
  rw [hg] at hgs
  simp only at hgs
  obtain ⟨d, hd⟩ := Option.isSome_iff_exists.1 hgs
  have hdl : d < a.tmps.size := by
   rw [inv.size]
   have := hlt d (mem_dsts (i := g) hd)
   simpa using this
  have hv' : a.tmps[d] = .bool b' := by simpa [valOf, hd, eval_tmp, hdl] using hv
  have hd' : (ops[g]?).bind Oper.dst = some d := hd
  simp [yielded, hd', hdl, hv']
 have hyieldNo : ∀ g b, o.guard = some (g, b) → valOf ops a.eval g = undef → yielded ops a.tmps g = none := fun g b hg hv => by
  rw [hg] at hgs
  simp only at hgs
  obtain ⟨d, hd⟩ := Option.isSome_iff_exists.1 hgs
  have hdl : d < a.tmps.size := by
   rw [inv.size]
   have := hlt d (mem_dsts (i := g) hd)
   simpa using this
  have hv' : a.tmps[d] = undef := by simpa [valOf, hd, eval_tmp, hdl] using hv
  have hd' : (ops[g]?).bind Oper.dst = some d := hd
  simp [yielded, hd', hdl, hv', undef]
 unfold wpOp
 simp only [ho]
 rcases hres with ⟨hg, hruns⟩ | ⟨hg, hf⟩
 ·have hw : Region.wanted o (yielded ops a.tmps) = true := by
   unfold Region.wanted
   unfold GuardYes at hg
   cases hgo : o.guard with
   | none => rfl
   | some gb =>
    obtain ⟨g, b⟩ := gb
    rw [hgo] at hg
    simp only at hg
    simp [hyield g b hgo b hg]
  rw [if_pos hw]
  refine Or.inl ?_
  unfold Oper.wp
  rcases hruns with ⟨v, w', hr, hf, hb⟩ | ⟨f, args, w', hr, hc⟩
  ·rw [hr, Oper.upon_value]
   exact hput v w' hf hb
  ·rw [hr, Oper.upon_enter]
   refine hc.mono ?_
   rintro e w'' ⟨v, rfl, hf, hb⟩
   exact hput v w'' hf hb
 ·have hw : Region.wanted o (yielded ops a.tmps) = false := by
   unfold Region.wanted
   unfold GuardNo at hg
   cases hgo : o.guard with
   | none => rw [hgo] at hg; exact hg.elim
   | some gb =>
    obtain ⟨g, b⟩ := gb
    rw [hgo] at hg
    simp only at hg
    rcases hg with hg | hg
    ·simp [hyield g b hgo (!b) hg]
    ·simp [hyieldNo g b hgo hg]
  rw [if_neg (by rw [hw]; decide)]
  refine hput undef w ?_ (Below.refl _ _)
  cases o.dst <;> exact hf
def left (listed : Array Bool) : Nat := listed.toList.countP (fun b => !b)
theorem left_set {listed : Array Bool} {i : Nat} (hi : i < listed.size) (h : listed.getD i true = false) : left (listed.setIfInBounds i true) + 1 = left listed := by
 unfold left
 have hx : listed[i] = false := by simpa [Array.getD, hi] using h
 have key : ∀ (l : List Bool) (i : Nat) (hi : i < l.length), l[i] = false → (l.set i true).countP (fun b => !b) + 1 = l.countP (fun b => !b) := by
  intro l
  induction l with
  | nil => intro i hi; simp at hi
  | cons b r ih =>
   intro i hi hb
   cases i with
   | zero => simp at hb; subst hb; simp
   | succ i =>
    have := ih i (by simpa using hi) (by simpa using hb)
    simp only [List.set_cons_succ, List.countP_cons]
    omega
 have := key listed.toList i (by simpa using hi) (by simpa using hx)
 simpa using this
theorem all_listed {ops : Array Oper} {n : Nat} (hok : okOps ops n = true) {listed : Array Bool} (hl : listed.size = ops.size) (hr : Region.ready .any ops listed = []) : ∀ i, i < ops.size → listed.getD i true = true := by
 simp only [okOps, Bool.and_eq_true, List.all_eq_true, decide_eq_true_eq, List.mem_range] at hok
 obtain ⟨⟨_, hedge⟩, _⟩ := hok
 intro i
 induction i using Nat.strongRecOn with
 | ind i ih =>
  intro hi
  by_cases hx : listed.getD i true = true
  ·exact hx
  ·exfalso
   have hx' : listed.getD i true = false := by simpa using hx
   have : i ∈ Region.ready .any ops listed := by
    simp only [Region.ready, List.mem_filter, List.mem_range, Bool.and_eq_true, Bool.not_eq_true']
    refine ⟨hi, hx', ?_⟩
    have he := hedge i hi
    obtain ⟨o, ho⟩ : ∃ o, ops[i]? = some o := ⟨ops[i], by simp [hi]⟩
    rw [ho] at he ⊢
    simp only [Option.map_some, Option.getD_some, Array.all_eq_true_iff_forall_mem, Bool.or_eq_true, Bool.not_eq_true', decide_eq_true_eq] at he ⊢
    intro e hem
    rcases he e hem with hb | h1
    ·exact Or.inl hb
    right
    have h2 := ih e.on h1 (by omega)
    have hel : e.on < listed.size := by omega
    have h3 : listed.getD e.on false = true := by simpa [Array.getD, hel] using h2
    simp [h3]
   rw [hr] at this
   simp at this
theorem wpAny_facts {P : Program} {ops : Array Oper} {Q : Exit → Act → World → Prop} {Fact : Nat → Value → World → Prop} {a0 : Act} {w0 : World}
  (hok : okOps ops a0.tmps.size = true) (hmono : ∀ i v w w', Below w.heap.size w w' → Fact i v w → Fact i v w') (hsteps : Steps P ops Fact a0.eval w0 0 ops.toList)
  (hend : ∀ (v : Nat → Value) (w : World), (∀ i, i < ops.size → Fact i (v i) w) → Below w0.heap.size w0 w → Q .normal (putAll v 0 ops.toList a0) w) :
  ∀ (fuel : Nat) (listed : Array Bool) (a : Act) (w : World), left listed ≤ fuel → Inv ops Fact a0 w0 listed a w → wpAny P .any ops Q fuel listed a w := by
 have fin : ∀ (listed : Array Bool) (a : Act) (w : World), Inv ops Fact a0 w0 listed a w → Region.ready .any ops listed = [] → Q .normal a w := by
  intro listed a w inv hr
  have hall := all_listed hok inv.len hr
  have hlt : ∀ i d, dstOf ops i = some d → d < a.tmps.size := fun i d h => by
   simp only [okOps, Bool.and_eq_true, List.all_eq_true, decide_eq_true_eq] at hok
   rw [inv.size]
   simpa using hok.1.1.2 d (mem_dsts h)
  have he : putAll (valOf ops a.eval) 0 ops.toList a0 = a := by
   refine putAll_eq _ a ops.toList 0 a0 inv.size.symm inv.defers.symm (fun i t h => ?_) (fun t h => ?_)
   ·have hd : dstOf ops i = some t := by simpa [dstOf] using h
    have := hlt i t hd
    simp [valOf, hd, eval_tmp, this]
   ·refine (inv.rest t (fun hm => ?_)).symm
    obtain ⟨o, hom, hod⟩ := List.mem_filterMap.1 hm
    obtain ⟨i, hi, hio⟩ := List.mem_iff_getElem.1 hom
    exact h i (by rw [List.getElem?_eq_getElem hi, hio]; simpa using hod)
  rw [← he]
  exact hend _ w (fun i hi => inv.fact i (hall i hi) hi) inv.below
 intro fuel
 induction fuel with
 | zero =>
  intro listed a w hl inv
  have hr : Region.ready .any ops listed = [] := by
   apply List.eq_nil_iff_forall_not_mem.2
   intro i hi
   simp only [Region.ready, List.mem_filter, List.mem_range, Bool.and_eq_true, Bool.not_eq_true'] at hi
   have := left_set (by rw [inv.len]; exact hi.1) hi.2.1
   omega
  exact ⟨hr, fin listed a w inv hr⟩
 | succ fuel ih =>
  intro listed a w hl inv
  refine ⟨fun hr => fin listed a w inv hr, fun i hi => ?_⟩
  have hi' := hi
  simp only [Region.ready, List.mem_filter, List.mem_range, Bool.and_eq_true, Bool.not_eq_true'] at hi'
  have hls := left_set (by rw [inv.len]; exact hi'.1) hi'.2.1
  exact wpOp_mono (fun a' w' h => ih _ a' w' (by omega) h) (inv_step hok hmono hsteps inv i hi)
theorem region_facts {P : Program} {id : Nat} {ops : Array Oper} {Q : Exit → Act → World → Prop} {a0 : Act} {w0 : World} (hm : P.follows .mixedOrders = true)
  (Fact : Nat → Value → World → Prop) (hok : okOps ops a0.tmps.size = true) (hmono : ∀ i v w w', Below w.heap.size w w' → Fact i v w → Fact i v w') (hsteps : Steps P ops Fact a0.eval w0.drew 0 ops.toList)
  (hend : ∀ (v : Nat → Value) (w : World), (∀ i, i < ops.size → Fact i (v i) w) → Below w0.heap.size w0 w → Q .normal (putAll v 0 ops.toList a0) w) : (Code.region id ops true).wp P Q a0 w0 := by
 refine wp_region_any hm ?_
 refine wpAny_facts (w0 := w0.drew) hok hmono hsteps (fun v w hf hb => hend v w hf ((Below.refl _ _).drew.trans hb)) ops.size _ a0 _ ?_ ⟨rfl, rfl, fun _ _ => rfl, fun i hi hin => ?_, Below.refl _ _, by simp⟩
 ·unfold left
  refine Nat.le_trans (List.countP_le_length) (by simp)
 ·exfalso
  simp [Array.getD, hin] at hi
/-! THE SAME WITH THE FACTS AS A LIST, one a operation. -/
def nth : List (Value → World → Prop) → Nat → Value → World → Prop
 | [], _, _, _ => True
 | f :: _, 0, v, w => f v w
 | _ :: r, n + 1, v, w => nth r n v w
def StepL (P : Program) (ops : Array Oper) (fs : List (Value → World → Prop)) (ev0 : Operand → Value) (w0 : World) (f : Value → World → Prop) (o : Oper) : Prop :=
 ∀ (ev : Operand → Value) (w : World), (∀ v, ev (.const v) = v) → (∀ f, ev (.func f) = .func (.func f) #[] #[]) → (∀ g, ev (.global g) = .pointer (some ⟨g, 0, none⟩)) → (∀ t, t ∉ dsts ops → ev (.tmp t) = ev0 (.tmp t)) →
  (∀ j, j ∈ deps o → nth fs j (valOf ops ev j) w) → Below w0.heap.size w0 w →
  (GuardYes ops o ev ∧ Runs P o ev w fun v w' => f (match o.dst with | some _ => v | none => undef) w' ∧ Below w.heap.size w w') ∨ (GuardNo ops o ev ∧ f undef w)
def StepsL (P : Program) (ops : Array Oper) (fs : List (Value → World → Prop)) (ev0 : Operand → Value) (w0 : World) : List (Value → World → Prop) → List Oper → Prop
 | [], [] => True
 | f :: r, o :: l => StepL P ops fs ev0 w0 f o ∧ StepsL P ops fs ev0 w0 r l
 | _, _ => False
theorem steps_of {P : Program} {ops : Array Oper} {fs : List (Value → World → Prop)} {ev0 : Operand → Value} {w0 : World} : ∀ (r : List (Value → World → Prop)) (l : List Oper) (k : Nat), (∀ i v w, nth r i v w = nth fs (k + i) v w) →
  StepsL P ops fs ev0 w0 r l → Steps P ops (nth fs) ev0 w0 k l
 | [], [], _, _, _ => trivial
 | f :: r, o :: l, k, he, h => by
  refine ⟨?_, steps_of r l (k + 1) (fun i v w => ?_) h.2⟩
  ·intro ev w h1 h2 h3 h4 h5 h6
   have e : ∀ v w, nth fs k v w = f v w := fun v w => (he 0 v w).symm
   rcases h.1 ev w h1 h2 h3 h4 h5 h6 with ⟨hg, hr⟩ | ⟨hg, hr⟩
   ·refine Or.inl ⟨hg, ?_⟩
    rcases hr with ⟨v, w', hrun, hf, hb⟩ | ⟨fn, args, w', hrun, hc⟩
    ·exact Or.inl ⟨v, w', hrun, by rw [e]; exact hf, hb⟩
    ·refine Or.inr ⟨fn, args, w', hrun, hc.mono ?_⟩
     rintro en w'' ⟨v, hv, hf, hb⟩
     exact ⟨v, hv, by rw [e]; exact hf, hb⟩
   ·exact Or.inr ⟨hg, by rw [e]; exact hr⟩
  ·have := he (i + 1) v w
   rw [show k + 1 + i = k + (i + 1) from by omega]; exact this
 | [], _ :: _, _, _, h => h.elim
 | _ :: _, [], _, _, h => h.elim
def Monos : List (Value → World → Prop) → Prop
 | [] => True
 | f :: r => (∀ v w w', Below w.heap.size w w' → f v w → f v w') ∧ Monos r
theorem monos_nth : ∀ (fs : List (Value → World → Prop)), Monos fs → ∀ i v w w', Below w.heap.size w w' → nth fs i v w → nth fs i v w'
 | [], _, _, _, _, _, _, _ => trivial
 | _ :: _, hm, 0, v, w, w', hb, h => hm.1 v w w' hb h
 | _ :: r, hm, i + 1, v, w, w', hb, h => monos_nth r hm.2 i v w w' hb h
theorem region_list {P : Program} {id : Nat} {ops : Array Oper} {Q : Exit → Act → World → Prop} {a0 : Act} {w0 : World} (hm : P.follows .mixedOrders = true)
  (fs : List (Value → World → Prop)) (hok : okOps ops a0.tmps.size = true) (hmono : Monos fs) (hsteps : StepsL P ops fs a0.eval w0.drew fs ops.toList)
  (hend : ∀ (v : Nat → Value) (w : World), (∀ i, i < ops.size → nth fs i (v i) w) → Below w0.heap.size w0 w → Q .normal (putAll v 0 ops.toList a0) w) : (Code.region id ops true).wp P Q a0 w0 :=
 region_facts hm (nth fs) hok (monos_nth fs hmono) (steps_of fs ops.toList 0 (fun i v w => by rw [Nat.zero_add]) hsteps) hend
end Go.Reg
namespace Go
open Go.RowKit
theorem okb {P : Program} {G N : Prop} {o : Oper} {ev : Operand → Value} {w : World} {F : Value → World → Prop} {v : Value} (g : G) (hf : F v w) (h : (execOp ev o).run P w = .ok (.value v) w) : (G ∧ Reg.Runs P o ev w fun v w' => F v w' ∧ Below w.heap.size w w') ∨ N := Or.inl ⟨g, Or.inl ⟨v, w, h, hf, Below.refl _ _⟩⟩
end Go
