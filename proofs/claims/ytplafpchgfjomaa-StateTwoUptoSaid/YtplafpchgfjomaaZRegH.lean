import Derived.Test.YtplafpchgfjomaaZReg
import Derived.Test.YtplafpchgfjomaaZOwn
/- As RegF, with a chain of operations that change one thing, one behind the other: what it is behind k of them (J k).
   As RegE, where new blocks (al) are known to be apart, and what an operation does speaks of its value:
  A region that draws its order and changes memory: operations that store, append or call what changes some blocks (S) among others that only add; each is run once, in any frame in which the facts of those it waits for hold, and, where all that change wait for it, in a world in which nothing has changed yet. For any program. -/
namespace Go.RegH
open Go.RowKit Go.Reg Go.LB
set_option linter.unusedVariables false
structure Ent where
  f : Value → World → Prop
  S : Nat → Prop
  r : Value → World → World → Prop
abbrev plain (f : Value → World → Prop) : Ent := ⟨f, fun _ => False, fun _ => Chg fun _ => False⟩
abbrev change (f : Value → World → Prop) (S : Nat → Prop) (r : Value → World → World → Prop) : Ent := ⟨f, S, r⟩
abbrev fresh (f : Value → World → Prop) : Ent := ⟨f, fun _ => False, fun u w w' => (u = .pointer (some ⟨w.heap.size, 0, none⟩) ∧ w.heap.size < w'.heap.size) ∧ Chg (fun _ => False) w w'⟩
theorem to_below {S : Nat → Prop} {w w' : World} (h : Chg S w w') (hS : ∀ k, ¬ S k) : Below w.heap.size w w' := ⟨h.os, h.tape, h.output, h.size, fun k hk => h.block k hk (hS k)⟩
def adr (o : Oper) : Option Operand := match o.op with | .store _ a _ => some a | _ => none
def res (o : Oper) (ev : Operand → Value) (v : Value) : Value := match o.dst with | some _ => v | none => (match adr o with | some a => ev a | none => undef)
def valOf' (ops : Array Oper) (ev : Operand → Value) (i : Nat) : Value := match ops[i]? with | some o => res o ev (match o.dst with | some d => ev (.tmp d) | none => undef) | none => undef
def adrOf (ops : Array Oper) (j : Nat) : Option Nat := match ops[j]? with
 | some o => (match o.dst, adr o with | none, some (.tmp t) => (List.range ops.size).find? (fun i => dstOf ops i == some t) | _, _ => none)
 | none => none
def okAdr (ops : Array Oper) : Bool := (List.range ops.size).all fun j => match ops[j]? with
 | some o => (match o.dst, adr o with | none, some (.tmp t) => (List.range ops.size).all fun i => dstOf ops i != some t || (deps o).contains i | _, _ => true)
 | none => true
def okAl (ops : Array Oper) (al : List Nat) : Bool := al.all fun i => match ops[i]? with | some o => o.guard.isNone && o.dst.isSome | none => false
def src (ops : Array Oper) (al : List Nat) (j : Nat) : Option Nat := if al.contains j then some j else adrOf ops j
def apartB (ops : Array Oper) (al : List Nat) (i j : Nat) : Bool := match src ops al i, src ops al j with
 | some p, some q => al.contains p && al.contains q && p != q
 | _, _ => false
theorem valOf_dst {ops : Array Oper} {ev : Operand → Value} {i : Nat} {d : Tmp} (h : dstOf ops i = some d) : valOf' ops ev i = ev (.tmp d) := by
 unfold dstOf at h
 unfold valOf'
 cases ho : ops[i]? with
 | none => rw [ho] at h; simp at h
 | some o =>
  rw [ho] at h
  have hd : o.dst = some d := by simpa using h
  simp [res, hd]
theorem link_of {ops : Array Oper} (ev : Operand → Value) {i j : Nat} (h : adrOf ops j = some i) : valOf' ops ev j = valOf' ops ev i := by
 unfold adrOf at h
 cases ho : ops[j]? with
 | none => rw [ho] at h; simp at h
 | some o =>
  rw [ho] at h
  simp only at h
  cases hd : o.dst with
  | some d => rw [hd] at h; simp at h
  | none =>
   rw [hd] at h
   cases ha : adr o with
   | none => rw [ha] at h; simp at h
   | some a =>
    rw [ha] at h
    cases a with
    | tmp t =>
     simp only at h
     have h2 := List.find?_some h
     have h3 : dstOf ops i = some t := by simpa using h2
     rw [valOf_dst h3]
     unfold valOf'
     rw [ho]
     simp [res, hd, ha]
    | const v => simp at h
    | func f => simp at h
    | global g => simp at h
def Runs (P : Program) (o : Oper) (ev : Operand → Value) (w : World) (R : Value → World → Prop) : Prop :=
 (∃ v w', (execOp ev o).run P w = .ok (.value v) w' ∧ R v w') ∨
 (∃ f args w', (execOp ev o).run P w = .ok (.enter f args) w' ∧ Calls P f args w' fun e w'' => ∃ v, e = .returned v ∧ R v w'') ∨
 (∃ w', (execOp ev o).run P w = .ok .skip w' ∧ R undef w')
theorem res_none {o : Oper} {ev : Operand → Value} {v u : Value} (h : o.dst = none) : res o ev v = res o ev u := by simp [res, h]
def depsAt (ops : Array Oper) (s : Nat) : List Nat := match ops[s]? with | some o => deps o | none => []
theorem adr_dep {ops : Array Oper} (hadr : okAdr ops = true) {i j : Nat} (h : adrOf ops j = some i) : i ∈ depsAt ops j ∧ dstOf ops j = none := by
 unfold adrOf at h
 cases ho : ops[j]? with
 | none => rw [ho] at h; simp at h
 | some o =>
  rw [ho] at h
  simp only at h
  have hj : j < ops.size := (Array.getElem?_eq_some_iff.1 ho).1
  cases hd : o.dst with
  | some d => rw [hd] at h; simp at h
  | none =>
   rw [hd] at h
   cases ha : adr o with
   | none => rw [ha] at h; simp at h
   | some a =>
    rw [ha] at h
    cases a with
    | tmp t =>
     simp only at h
     have h2 := List.find?_some h
     have h3 : dstOf ops i = some t := by simpa using h2
     have h4 := List.mem_of_find?_eq_some h
     have h5 := List.all_eq_true.1 hadr j (List.mem_range.2 hj)
     rw [ho] at h5
     simp only [hd, ha] at h5
     have h6 := List.all_eq_true.1 h5 i h4
     rw [h3] at h6
     refine ⟨?_, by simp [dstOf, ho, hd]⟩
     unfold depsAt
     rw [ho]
     simpa using h6
    | const v => simp at h
    | func f => simp at h
    | global g => simp at h
def ancB (ops : Array Oper) : Nat → Nat → Nat → Bool
 | 0, _, _ => false
 | f + 1, i, s => (depsAt ops s).any fun j => j == i || ancB ops f i j
def wants (o : Oper) : List Nat := (o.after.toList.filter fun e => Region.binds .any e && (match e.ground with | .phase => false | _ => true)).map (·.on)
theorem wants_deps {o : Oper} {j : Nat} (h : j ∈ wants o) : j ∈ deps o := by
 simp only [wants, deps, List.mem_map, List.mem_filter, Bool.and_eq_true] at h ⊢
 obtain ⟨e, ⟨h1, h2, _⟩, h3⟩ := h
 exact ⟨e, ⟨h1, h2⟩, h3⟩
def wantsAt (ops : Array Oper) (s : Nat) : List Nat := match ops[s]? with | some o => wants o | none => []
def Live (ops : Array Oper) (keep : List Nat) (listed : Array Bool) (j : Nat) : Prop := j ∈ keep ∨ ∃ i, i < ops.size ∧ j ∈ wantsAt ops i ∧ listed.getD i false = false
def deadB (ops : Array Oper) (keep : List Nat) (i j : Nat) : Bool := !keep.contains j && (List.range ops.size).all fun k => !(wantsAt ops k).contains j || k == i || ancB ops ops.size k i
def others (ops : Array Oper) (st : List Nat) (i : Nat) : List Nat := st.filter fun s => !(s == i || ancB ops ops.size i s)
def orS (E : Nat → Ent) : List Nat → Nat → Prop
 | [], _ => False
 | s :: r, k => (E s).S k ∨ orS E r k
theorem orS_mem {E : Nat → Ent} {s k : Nat} : ∀ {l : List Nat}, s ∈ l → (E s).S k → orS E l k
 | [], h, _ => by simp at h
 | x :: r, h, g => by
  rcases List.mem_cons.1 h with rfl | h
  ·exact Or.inl g
  ·exact Or.inr (orS_mem h g)
def okCh (ops : Array Oper) (ch : List Nat) : Bool := decide ch.Nodup && (List.range ch.length).all fun b => (List.range b).all fun a => match ch[a]?, ch[b]? with | some x, some y => ancB ops ops.size x y | _, _ => false
def cnt (ch : List Nat) (listed : Array Bool) : Nat := (ch.filter fun c => listed.getD c false).length
def Step (P : Program) (ops : Array Oper) (J : Nat → World → Prop) (ch : List Nat) (E : Nat → Ent) (st keep : List Nat) (ev0 : Operand → Value) (w0 : World) (i : Nat) (o : Oper) : Prop :=
 ∀ (ev : Operand → Value) (w : World), (∀ v, ev (.const v) = v) → (∀ f, ev (.func f) = .func (.func f) #[] #[]) → (∀ g, ev (.global g) = .pointer (some ⟨g, 0, none⟩)) → (∀ t, t ∉ dsts ops → ev (.tmp t) = ev0 (.tmp t)) →
  (∀ j, j ∈ wants o → (E j).f (valOf' ops ev j) w) → (∀ l, others ops st i = l → Chg (orS E l) w0 w) → (∀ n, ch[n]? = some i → J n w) →
  (GuardYes ops o ev ∧ RegH.Runs P o ev w fun v w' => (E i).f (res o ev v) w' ∧ (E i).r (res o ev v) w w') ∨ (GuardNo ops o ev ∧ (E i).f (res o ev undef) w)
def Steps (P : Program) (ops : Array Oper) (J : Nat → World → Prop) (ch : List Nat) (E : Nat → Ent) (st keep : List Nat) (ev0 : Operand → Value) (w0 : World) : Nat → List Oper → Prop
 | _, [] => True
 | i, o :: r => Step P ops J ch E st keep ev0 w0 i o ∧ Steps P ops J ch E st keep ev0 w0 (i + 1) r
theorem steps_get {P : Program} {ops : Array Oper} {J : Nat → World → Prop} {ch : List Nat} {E : Nat → Ent} {st keep : List Nat} {ev0 : Operand → Value} {w0 : World} : ∀ (l : List Oper) (k : Nat), Steps P ops J ch E st keep ev0 w0 k l → ∀ i o, l[i]? = some o → Step P ops J ch E st keep ev0 w0 (k + i) o
 | [], _, _, _, _, h => by simp at h
 | o :: r, k, hs, i, o', h => by
  cases i with
  | zero => simp at h; subst h; exact hs.1
  | succ i =>
   have := steps_get r (k + 1) hs.2 i o' (by simpa using h)
   rwa [show k + 1 + i = k + (i + 1) from by omega] at this
structure Inv (ops : Array Oper) (J : Nat → World → Prop) (ch : List Nat) (E : Nat → Ent) (st keep al : List Nat) (a0 : Act) (w0 : World) (listed : Array Bool) (a : Act) (w : World) : Prop where
  size : a.tmps.size = a0.tmps.size
  defers : a.defers = a0.defers
  rest : ∀ t, t ∉ dsts ops → a.tmps[t]? = a0.tmps[t]?
  fact : ∀ i, listed.getD i true = true → i < ops.size → Live ops keep listed i → (E i).f (valOf' ops a.eval i) w
  chg : ∀ T : Nat → Prop, (∀ s, listed.getD s false = true → ∀ k, (E s).S k → T k) → Chg T w0 w
  inv : J (cnt ch listed) w
  closed : ∀ i, listed.getD i false = true → ∀ j, j ∈ depsAt ops i → listed.getD j false = true
  len : listed.size = ops.size
  low : ∀ i, i ∈ al → listed.getD i false = true → ∃ b, valOf' ops a.eval i = .pointer (some ⟨b, 0, none⟩) ∧ b < w.heap.size
  apart : ∀ i j, i ∈ al → j ∈ al → i ≠ j → listed.getD i false = true → listed.getD j false = true → valOf' ops a.eval i ≠ valOf' ops a.eval j
theorem anc_closed {ops : Array Oper} {listed : Array Bool} (hc : ∀ i, listed.getD i false = true → ∀ j, j ∈ depsAt ops i → listed.getD j false = true) : ∀ (f i s : Nat), ancB ops f i s = true → listed.getD s false = true → listed.getD i false = true
 | 0, _, _, h, _ => by simp [ancB] at h
 | f + 1, i, s, h, hs => by
  simp only [ancB, List.any_eq_true, Bool.or_eq_true, beq_iff_eq] at h
  obtain ⟨j, hj, h⟩ := h
  have hl := hc s hs j hj
  rcases h with rfl | h
  ·exact hl
  ·exact anc_closed hc f i j h hl
theorem anc_listed {ops : Array Oper} {listed : Array Bool} (hc : ∀ i, listed.getD i false = true → ∀ j, j ∈ depsAt ops i → listed.getD j false = true) {f i s : Nat} (h : ancB ops f i s = true) (hd : ∀ j, j ∈ depsAt ops s → listed.getD j false = true) : listed.getD i false = true := by
 cases f with
 | zero => simp [ancB] at h
 | succ f =>
  simp only [ancB, List.any_eq_true, Bool.or_eq_true, beq_iff_eq] at h
  obtain ⟨j, hj, h⟩ := h
  rcases h with rfl | h
  ·exact hd _ hj
  ·exact anc_closed hc f i j h (hd j hj)
theorem okCh_anc {ops : Array Oper} {ch : List Nat} (h : okCh ops ch = true) {a b x y : Nat} (hab : a < b) (hx : ch[a]? = some x) (hy : ch[b]? = some y) : ancB ops ops.size x y = true := by
 simp only [okCh, Bool.and_eq_true, List.all_eq_true, List.mem_range] at h
 have := h.2 b (List.getElem?_eq_some_iff.1 hy).1 a hab
 rw [hx, hy] at this
 exact this
theorem okCh_nodup {ops : Array Oper} {ch : List Nat} (h : okCh ops ch = true) : ch.Nodup := by
 simp only [okCh, Bool.and_eq_true, decide_eq_true_eq] at h; exact h.1
theorem cnt_split {ch : List Nat} {p : Nat → Bool} {n : Nat} (h1 : ∀ c ∈ ch.take n, p c = true) (h2 : ∀ c ∈ ch.drop n, p c = false) (hn : n ≤ ch.length) : (ch.filter p).length = n := by
 rw [← List.take_append_drop n ch, List.filter_append, List.filter_eq_self.2 h1, List.filter_eq_nil_iff.2 (fun c hc => by rw [h2 c hc]; decide)]
 simp; omega
theorem take_idx {ch : List Nat} {n c : Nat} (h : c ∈ ch.take n) : ∃ a, a < n ∧ ch[a]? = some c := by
 obtain ⟨a, ha⟩ := List.getElem?_of_mem h
 have hl := (List.getElem?_eq_some_iff.1 ha).1
 rw [List.length_take] at hl
 have han : a < n := by omega
 rw [List.getElem?_take_of_lt han] at ha
 exact ⟨a, han, ha⟩
theorem drop_idx {ch : List Nat} {n c : Nat} (h : c ∈ ch.drop n) : ∃ a, n ≤ a ∧ ch[a]? = some c := by
 obtain ⟨a, ha⟩ := List.getElem?_of_mem h
 rw [List.getElem?_drop] at ha
 exact ⟨n + a, by omega, ha⟩
theorem cnt_at {ops : Array Oper} {ch : List Nat} {listed : Array Bool} {n i : Nat} (hch : okCh ops ch = true) (hn : ch[n]? = some i) (hc : ∀ i, listed.getD i false = true → ∀ j, j ∈ depsAt ops i → listed.getD j false = true) (hi : listed.getD i false = false) (hd : ∀ j, j ∈ depsAt ops i → listed.getD j false = true) : cnt ch listed = n := by
 refine cnt_split (fun c h => ?_) (fun c h => ?_) (Nat.le_of_lt (List.getElem?_eq_some_iff.1 hn).1)
 ·obtain ⟨a, ha, hx⟩ := take_idx h
  exact anc_listed hc (okCh_anc hch ha hx hn) hd
 ·obtain ⟨a, ha, hx⟩ := drop_idx h
  rcases Nat.eq_or_lt_of_le ha with rfl | ha
  ·rw [hn] at hx; cases hx; exact hi
  ·cases hl : listed.getD c false with
   | false => rfl
   | true =>
    have := anc_closed hc _ _ _ (okCh_anc hch ha hn hx) hl
    rw [hi] at this; cases this
theorem getD_set_ne {listed : Array Bool} {i c : Nat} (h : c ≠ i) : (listed.setIfInBounds i true).getD c false = listed.getD c false := by
 have : i ≠ c := fun e => h e.symm
 simp [Array.getElem?_setIfInBounds_ne this]
theorem cnt_other {ch : List Nat} {listed : Array Bool} {i : Nat} (h : i ∉ ch) : cnt ch (listed.setIfInBounds i true) = cnt ch listed := by
 unfold cnt
 congr 1
 refine List.filter_congr (fun c hc => ?_)
 exact getD_set_ne (fun e => h (e ▸ hc))
theorem cnt_next {ops : Array Oper} {ch : List Nat} {listed : Array Bool} {n i : Nat} (hch : okCh ops ch = true) (hn : ch[n]? = some i) (hc : ∀ i, listed.getD i false = true → ∀ j, j ∈ depsAt ops i → listed.getD j false = true) (hi : listed.getD i false = false) (hd : ∀ j, j ∈ depsAt ops i → listed.getD j false = true) (hil : i < listed.size) : cnt ch (listed.setIfInBounds i true) = n + 1 := by
 have hnd := okCh_nodup hch
 have hnl := (List.getElem?_eq_some_iff.1 hn).1
 refine cnt_split (fun c h => ?_) (fun c h => ?_) hnl
 ·obtain ⟨a, ha, hx⟩ := take_idx h
  by_cases e : c = i
  ·subst e; simp [hil]
  ·rw [getD_set_ne e]
   have han : a < n := by
    rcases Nat.lt_succ_iff_lt_or_eq.1 ha with g | g
    ·exact g
    ·subst g; rw [hn] at hx; exact absurd (Option.some.inj hx).symm e
   exact anc_listed hc (okCh_anc hch han hx hn) hd
 ·obtain ⟨a, ha, hx⟩ := drop_idx h
  have hne : c ≠ i := by
   rintro rfl
   have h1 := List.getElem?_eq_some_iff.1 hx
   have h2 := List.getElem?_eq_some_iff.1 hn
   exact List.pairwise_iff_getElem.1 hnd n a h2.1 h1.1 (by omega) (h2.2.trans h1.2.symm)
  rw [getD_set_ne hne]
  cases hl : listed.getD c false with
  | false => rfl
  | true =>
   have := anc_closed hc _ _ _ (okCh_anc hch (show n < a by omega) hn hx) hl
   rw [hi] at this; cases this
theorem cnt_all {ch : List Nat} {listed : Array Bool} (h : ∀ i, i ∈ ch → listed.getD i false = true) : cnt ch listed = ch.length := by
 unfold cnt; rw [List.filter_eq_self.2 h]
theorem cnt_none {ch : List Nat} {listed : Array Bool} (h : ∀ c, listed.getD c false = false) : cnt ch listed = 0 := by
 unfold cnt
 rw [List.length_eq_zero_iff, List.filter_eq_nil_iff]
 intro c _
 rw [h c]; decide
theorem inv_step {P : Program} {ops : Array Oper} {Q : Exit → Act → World → Prop} {J : Nat → World → Prop} {ch : List Nat} {E : Nat → Ent} {st keep al : List Nat} {a0 : Act} {w0 : World}
  (hok : okOps ops a0.tmps.size = true) (hadr : okAdr ops = true) (hst : ∀ i k, (E i).S k → i ∈ st) (hr : ∀ i u w w', (E i).r u w w' → Chg (E i).S w w') (hch : okCh ops ch = true) (hcal : okAl ops ch = true) (hJ : ∀ i, (i ∉ ch ∧ ∀ u w w' n, (E i).r u w w' → J n w → J n w') ∨ ∃ n, ch[n]? = some i ∧ ∀ u w w', (E i).r u w w' → J n w → J (n + 1) w') (hal : okAl ops al = true) (hfr : ∀ i, i ∈ al → ∀ u w w', (E i).r u w w' → u = .pointer (some ⟨w.heap.size, 0, none⟩) ∧ w.heap.size < w'.heap.size)
  (hmono : ∀ i j u v w w', i ≠ j → ancB ops ops.size i j = false → deadB ops keep i j = false → (apartB ops al i j = true → v ≠ u) → (E i).r u w w' → (E j).f v w → (E j).f v w') (hsteps : Steps P ops J ch E st keep a0.eval w0 0 ops.toList)
  {listed : Array Bool} {a : Act} {w : World} (inv : Inv ops J ch E st keep al a0 w0 listed a w) (i : Nat) (hi : i ∈ Region.ready .any ops listed) :
  wpOp P ops Q i (fun a' w' => Inv ops J ch E st keep al a0 w0 (listed.setIfInBounds i true) a' w') a w := by
 simp only [okOps, Bool.and_eq_true, List.all_eq_true, decide_eq_true_eq, List.mem_range] at hok
 obtain ⟨⟨⟨hnd, hlt⟩, hedge⟩, hgd⟩ := hok
 have hinj := nodup_inj hnd
 simp only [Region.ready, List.mem_filter, List.mem_range, Bool.and_eq_true, Bool.not_eq_true'] at hi
 obtain ⟨hin, hun, hdep⟩ := hi
 obtain ⟨o, ho⟩ : ∃ o, ops[i]? = some o := ⟨ops[i], by simp [hin]⟩
 have hoi : dstOf ops i = o.dst := by simp [dstOf, ho]
 rw [ho] at hdep
 simp only [Option.map_some, Option.getD_some, Array.all_eq_true_iff_forall_mem] at hdep
 have hst1 := steps_get ops.toList 0 hsteps i o (by simpa using ho)
 rw [Nat.zero_add] at hst1
 have hearly := hedge i hin
 rw [ho] at hearly
 simp only [Option.map_some, Option.getD_some, Array.all_eq_true_iff_forall_mem, Bool.or_eq_true, Bool.not_eq_true', decide_eq_true_eq] at hearly
 have hgs := hgd i hin
 rw [ho] at hgs
 simp only [Option.map_some, Option.getD_some] at hgs
 have hlisted : ∀ e ∈ o.after, Region.binds .any e = true → listed.getD e.on false = true := fun e he hb => by
  have := hdep e he
  rw [hb] at this; simpa using this
 have hdl : ∀ j, j ∈ deps o → listed.getD j false = true := fun j hj => by
  simp only [deps, List.mem_map, List.mem_filter] at hj
  obtain ⟨e, ⟨he, hb⟩, rfl⟩ := hj
  exact hlisted e (by simpa using he) hb
 have hil : i < listed.size := by rw [inv.len]; omega
 have hifalse : listed.getD i false = false := by
  have h : listed[i] = false := by simpa [Array.getD, hil] using hun
  simp [Array.getD, hil, h]
 have hfacts : ∀ j, j ∈ wants o → (E j).f (valOf' ops a.eval j) w := fun j hj => by
  have h1 := hdl j (wants_deps hj)
  have hj0 := hj
  simp only [wants, List.mem_map, List.mem_filter, Bool.and_eq_true] at hj
  obtain ⟨e, ⟨he, hb, hph⟩, rfl⟩ := hj
  have he' : e ∈ o.after := by simpa using he
  have h2 := (hearly e he').resolve_left (by rw [hb]; simp)
  refine inv.fact _ ?_ (by omega) (Or.inr ⟨i, hin, by
   simp only [wantsAt, ho]; exact hj0, hifalse⟩)
  have hl : e.on < listed.size := by rw [inv.len]; omega
  simpa [Array.getD, hl] using h1
 have hval : ∀ t, t ∉ dsts ops → a.eval (.tmp t) = a0.eval (.tmp t) := fun t ht => by
  have := inv.rest t ht
  simp [eval_tmp, this]
 have hres := hst1 a.eval w (fun _ => rfl) (fun _ => rfl) (fun _ => rfl) hval hfacts (fun l hl => inv.chg _ fun s hs k hk => by
  refine orS_mem ?_ hk
  rw [← hl]
  unfold others
  rw [List.mem_filter]
  refine ⟨hst s k hk, ?_⟩
  have hsi : (s == i) = false := by
   rw [beq_eq_false_iff_ne]
   intro e
   rw [e, hifalse] at hs; cases hs
  rw [hsi, Bool.false_or]
  cases ha : ancB ops ops.size i s with
  | false => rfl
  | true =>
   have h3 := anc_closed inv.closed _ _ _ ha hs
   rw [hifalse] at h3; cases h3) (fun n hn => by have := inv.inv; rwa [cnt_at hch hn inv.closed hifalse (fun j hj => hdl j (by simpa [depsAt, ho] using hj))] at this)
 have hset : ∀ j, j ≠ i → (listed.setIfInBounds i true).getD j false = listed.getD j false := fun j hj => by
  have : i ≠ j := fun e => hj e.symm
  simp [Array.getElem?_setIfInBounds_ne this]
 have hseti : (listed.setIfInBounds i true).getD i false = true := by simp [hil]
 have hput : ∀ (v : Value) (w' : World), (E i).f (res o a.eval v) w' → ((w = w' ∧ i ∉ al ∧ i ∉ ch) ∨ (E i).r (res o a.eval v) w w') →
   Inv ops J ch E st keep al a0 w0 (listed.setIfInBounds i true) (a.put o.dst v) w' := fun v w' hf hb => by
  have hsame : ∀ j, j ≠ i → j < ops.size → listed.getD j true = true → valOf' ops (a.put o.dst v).eval j = valOf' ops a.eval j := fun j hji hjn hj' => by
   cases hd : o.dst with
   | none => rfl
   | some d =>
    obtain ⟨oj, hoj⟩ : ∃ oj, ops[j]? = some oj := ⟨ops[j], by simp [hjn]⟩
    cases hdj : oj.dst with
    | some dj =>
     have hdj2 : dstOf ops j = some dj := by simp [dstOf, hoj, hdj]
     have hne : d ≠ dj := fun e => hji (hinj j i dj hdj2 (by rw [hoi, hd, e]))
     rw [valOf_dst hdj2, valOf_dst hdj2]
     simp [eval_tmp, Act.put, Array.getElem?_setIfInBounds_ne hne]
    | none =>
     unfold valOf'
     rw [hoj]
     simp only [res, hdj]
     cases haj : adr oj with
     | none => rfl
     | some q =>
      cases q with
      | const v => rfl
      | func f => rfl
      | global g => rfl
      | tmp t =>
       have hne : d ≠ t := by
        intro e
        subst e
        have h1 := List.all_eq_true.1 hadr j (List.mem_range.2 hjn)
        rw [hoj] at h1
        simp only [hdj, haj] at h1
        have h2 := List.all_eq_true.1 h1 i (List.mem_range.2 hin)
        rw [hoi, hd] at h2
        have h3 : i ∈ deps oj := by simpa using h2
        have hjl : j < listed.size := by rw [inv.len]; omega
        have hj2 : listed.getD j false = true := by
         have : listed[j] = true := by simpa [Array.getD, hjl] using hj'
         simp [Array.getD, hjl, this]
        have := inv.closed j hj2 i (by simpa [depsAt, hoj] using h3)
        rw [hifalse] at this; cases this
       simp [eval_tmp, Act.put, Array.getElem?_setIfInBounds_ne hne]
  have hwsz : w.heap.size ≤ w'.heap.size := by
   rcases hb with ⟨rfl, _⟩ | hb
   ·exact Nat.le_refl _
   ·exact (hr i _ _ _ hb).size
  have hup : ∀ j, listed.getD j false = true → listed.getD j true = true := fun j h => by
   by_cases hl : j < listed.size
   ·simpa [Array.getD, hl] using h
   ·simp [Array.getD, hl] at h
  have hself : i ∈ al → valOf' ops (a.put o.dst v).eval i = res o a.eval v := fun hia => by
   have h1 := List.all_eq_true.1 hal i hia
   rw [ho] at h1
   simp only [Bool.and_eq_true] at h1
   obtain ⟨d, hd⟩ := Option.isSome_iff_exists.1 h1.2
   have hdl : d < a.tmps.size := by
    rw [inv.size]
    have := hlt d (mem_dsts (i := i) (by rw [hoi, hd]))
    simpa using this
   rw [valOf_dst (d := d) (by rw [hoi, hd])]
   simp [res, hd, eval_tmp, Act.put, hdl]
  have hnew : i ∈ al → res o a.eval v = .pointer (some ⟨w.heap.size, 0, none⟩) ∧ w.heap.size < w'.heap.size := fun hia => by
   rcases hb with ⟨_, hni, _⟩ | hb
   ·exact absurd hia hni
   ·exact hfr i hia _ _ _ hb
  have hlow : ∀ j, j ∈ al → listed.getD j false = true → valOf' ops a.eval j ≠ .pointer (some ⟨w.heap.size, 0, none⟩) := fun j hja hj e => by
   obtain ⟨b, hb1, hb2⟩ := inv.low j hja hj
   rw [hb1] at e
   injection e with e
   injection e with e
   injection e with e
   omega
  have hsz : ∀ j, j ∈ al → j < ops.size := fun j hja => by
   have h1 := List.all_eq_true.1 hal j hja
   by_cases hl : j < ops.size
   ·exact hl
   ·simp [hl] at h1
  have hcase : ∀ j, (listed.setIfInBounds i true).getD j false = true → j = i ∨ (j ≠ i ∧ listed.getD j false = true) := fun j hj => by
   by_cases e : j = i
   ·exact Or.inl e
   ·rw [hset j e] at hj
    exact Or.inr ⟨e, hj⟩
  refine ⟨?_, ?_, fun t ht => ?_, fun j hj hjn hlv => ?_, fun T hT => ?_, ?_, fun j hj k hk => ?_, by simpa using inv.len, fun j hja hj => ?_, fun j k hja hka hjk hj hk => ?_⟩
  ·rw [← inv.size]; cases o.dst <;> simp [Act.put]
  ·rw [← inv.defers]; cases o.dst <;> simp [Act.put]
  ·rw [← inv.rest t ht]
   cases hd : o.dst with
   | none => rfl
   | some d =>
    have : d ≠ t := fun e => ht (by rw [← e]; exact mem_dsts (i := i) (by rw [hoi, hd]))
    simp [Act.put, Array.getElem?_setIfInBounds_ne this]
  ·by_cases hji : j = i
   ·subst hji
    cases hd : o.dst with
    | none =>
     have e : valOf' ops (a.put none v).eval j = res o a.eval v := by
      unfold valOf'
      rw [ho]
      simp only [res, hd]
      rfl
     rw [e]; exact hf
    | some d =>
     simp only [res, hd] at hf
     have hdl : d < a.tmps.size := by
      rw [inv.size]
      have := hlt d (mem_dsts (i := j) (by rw [hoi, hd]))
      simpa using this
     rw [valOf_dst (d := d) (by rw [hoi, hd])]
     simpa [eval_tmp, Act.put, hdl] using hf
   ·have hj' : listed.getD j true = true := by
     have hne : i ≠ j := fun e => hji e.symm
     simpa [Array.getElem?_setIfInBounds_ne hne] using hj
    have hlv0 : Live ops keep listed j := by
     rcases hlv with h | ⟨k, h1, h2, h3⟩
     ·exact Or.inl h
     ·refine Or.inr ⟨k, h1, h2, ?_⟩
      by_cases e : k = i
      ·subst e; exact hifalse
      ·rwa [hset k e] at h3
    have hdead : deadB ops keep i j = false := by
     cases hd : deadB ops keep i j with
     | false => rfl
     | true =>
      exfalso
      simp only [deadB, Bool.and_eq_true, Bool.not_eq_true', List.all_eq_true, List.mem_range, Bool.or_eq_true, beq_iff_eq, List.contains_eq_mem, decide_eq_false_iff_not] at hd
      rcases hlv with h | ⟨k, h1, h2, h3⟩
      ·exact hd.1 h
      ·rcases hd.2 k h1 with (g | g) | g
       ·exact g h2
       ·subst g; rw [hseti] at h3; cases h3
       ·have hki : k ≠ i := fun e => by subst e; rw [hseti] at h3; cases h3
        rw [hset k hki] at h3
        have hcl : ∀ (f s : Nat), s = i → ancB ops f k s = true → listed.getD k false = true := by
         intro f s hs hf
         subst hs
         cases f with
         | zero => simp [ancB] at hf
         | succ f =>
          simp only [ancB, List.any_eq_true, Bool.or_eq_true, beq_iff_eq] at hf
          obtain ⟨q, hq, hf⟩ := hf
          have hql : listed.getD q false = true := hdl q (by simpa [depsAt, ho] using hq)
          rcases hf with rfl | hf
          ·exact hql
          ·exact anc_closed inv.closed _ _ _ hf hql
        have := hcl _ i rfl g
        rw [h3] at this; cases this
    have h0 := inv.fact j hj' hjn hlv0
    have h1 : (E j).f (valOf' ops a.eval j) w' := by
     have hj2 : listed.getD j false = true := by
      have hjl : j < listed.size := by rw [inv.len]; omega
      have : listed[j] = true := by simpa [Array.getD, hjl] using hj'
      simp [Array.getD, hjl, this]
     rcases hb with ⟨rfl, _⟩ | hb
     ·exact h0
     ·refine hmono i j _ _ w w' (fun e => hji e.symm) ?_ hdead (fun hap => ?_) hb h0
      rotate_left
      ·unfold apartB at hap
       cases hsi : src ops al i with
       | none => rw [hsi] at hap; simp at hap
       | some p =>
        cases hsj : src ops al j with
        | none => rw [hsi, hsj] at hap; simp at hap
        | some q =>
         rw [hsi, hsj] at hap
         simp only [Bool.and_eq_true, List.contains_eq_mem, decide_eq_true_eq, bne_iff_ne, ne_eq] at hap
         obtain ⟨⟨hpa, hqa⟩, hpq⟩ := hap
         have hqv : valOf' ops a.eval j = valOf' ops a.eval q ∧ listed.getD q false = true := by
          unfold src at hsj
          split at hsj
          ·cases hsj; exact ⟨rfl, hj2⟩
          ·exact ⟨link_of _ hsj, inv.closed j hj2 q (adr_dep hadr hsj).1⟩
         rw [hqv.1]
         unfold src at hsi
         split at hsi
         ·next hia =>
          have hia : i ∈ al := by simpa using hia
          rw [(hfr i hia _ _ _ hb).1]
          exact hlow q hqa hqv.2
         ·have h1 := adr_dep hadr hsi
          have h2 := link_of a.eval hsi
          have h3 : listed.getD p false = true := hdl p (by simpa [depsAt, ho] using h1.1)
          have h4 : res o a.eval v = valOf' ops a.eval i := by
           have hdn : o.dst = none := by rw [← hoi]; exact h1.2
           unfold valOf'
           rw [ho]
           exact res_none hdn
          rw [h4, h2]
          exact inv.apart q p hqa hpa (fun e => hpq e.symm) hqv.2 h3
      cases hanc : ancB ops ops.size i j with
      | false => rfl
      | true =>
       have hjl : j < listed.size := by rw [inv.len]; omega
       have hj2 : listed.getD j false = true := by
        have : listed[j] = true := by simpa [Array.getD, hjl] using hj'
        simp [Array.getD, hjl, this]
       have := anc_closed inv.closed _ _ _ hanc hj2
       rw [hifalse] at this; cases this
    rw [hsame j hji hjn hj']; exact h1
  ·have h0 := inv.chg T fun s hs k hk => hT s (by
    by_cases e : s = i
    ·subst e; exact hseti
    ·rwa [hset s e]) k hk
   rcases hb with ⟨rfl, _⟩ | hb
   ·exact h0
   ·exact h0.trans (hr i _ _ _ hb) (fun k _ hk => hT i hseti k hk)
  ·rcases hb with ⟨rfl, _, hnc⟩ | hb
   ·rw [cnt_other hnc]; exact inv.inv
   ·rcases hJ i with ⟨hnc, h⟩ | ⟨n, hn, h⟩
    ·rw [cnt_other hnc]; exact h _ _ _ _ hb inv.inv
    ·have hdl' : ∀ j, j ∈ depsAt ops i → listed.getD j false = true := fun j hj => hdl j (by simpa [depsAt, ho] using hj)
     rw [cnt_next hch hn inv.closed hifalse hdl' hil]
     have h0 := inv.inv
     rw [cnt_at hch hn inv.closed hifalse hdl'] at h0
     exact h _ _ _ hb h0
  ·by_cases e : k = i
   ·subst e; exact hseti
   ·rw [hset k e]
    by_cases e2 : j = i
    ·subst e2
     refine hdl k ?_
     simpa [depsAt, ho] using hk
    ·rw [hset j e2] at hj
     exact inv.closed j hj k hk
  ·rcases hcase j hj with rfl | ⟨hji, hj⟩
   ·rw [hself hja, (hnew hja).1]
    exact ⟨_, rfl, (hnew hja).2⟩
   ·rw [hsame j hji (hsz j hja) (hup j hj)]
    obtain ⟨b, h1, h2⟩ := inv.low j hja hj
    exact ⟨b, h1, by omega⟩
  ·rcases hcase j hj with rfl | ⟨hji, hj2⟩
   ·rcases hcase k hk with rfl | ⟨hki, hk2⟩
    ·exact absurd rfl hjk
    ·rw [hself hja, (hnew hja).1, hsame k hki (hsz k hka) (hup k hk2)]
     exact fun e => hlow k hka hk2 e.symm
   ·rcases hcase k hk with rfl | ⟨hki, hk2⟩
    ·rw [hself hka, (hnew hka).1, hsame j hji (hsz j hja) (hup j hj2)]
     exact hlow j hja hj2
    ·rw [hsame j hji (hsz j hja) (hup j hj2), hsame k hki (hsz k hka) (hup k hk2)]
     exact inv.apart j k hja hka hjk hj2 hk2
 have hyield : ∀ g b, o.guard = some (g, b) → ∀ b', Reg.valOf ops a.eval g = .bool b' → yielded ops a.tmps g = some b' := fun g b hg b' hv => by
  rw [hg] at hgs
  simp only at hgs
  obtain ⟨d, hd⟩ := Option.isSome_iff_exists.1 hgs
  have hdl : d < a.tmps.size := by
   rw [inv.size]
   have := hlt d (mem_dsts (i := g) hd)
   simpa using this
  have hv' : a.tmps[d] = .bool b' := by simpa [Reg.valOf, hd, eval_tmp, hdl] using hv
  have hd' : (ops[g]?).bind Oper.dst = some d := hd
  simp [yielded, hd', hdl, hv']
 have hyieldNo : ∀ g b, o.guard = some (g, b) → Reg.valOf ops a.eval g = undef → yielded ops a.tmps g = none := fun g b hg hv => by
  rw [hg] at hgs
  simp only at hgs
  obtain ⟨d, hd⟩ := Option.isSome_iff_exists.1 hgs
  have hdl : d < a.tmps.size := by
   rw [inv.size]
   have := hlt d (mem_dsts (i := g) hd)
   simpa using this
  have hv' : a.tmps[d] = undef := by simpa [Reg.valOf, hd, eval_tmp, hdl] using hv
  have hd' : (ops[g]?).bind Oper.dst = some d := hd
  simp [yielded, hd', hdl, hv', undef]
 unfold wpOp
 simp only [ho]
 rcases hres with ⟨hg, hruns⟩ | ⟨hg, hf⟩
 ·have hw : Region.wanted o (yielded ops a.tmps) = true := by
   unfold Region.wanted
   unfold GuardYes at hg
   cases hgo : o.guard with
   | none => rfl
   | some gb =>
    obtain ⟨g, b⟩ := gb
    rw [hgo] at hg
    simp only at hg
    simp [hyield g b hgo b hg]
  rw [if_pos hw]
  refine Or.inl ?_
  unfold Oper.wp
  rcases hruns with ⟨v, w', hru, hf, hb⟩ | ⟨f, args, w', hru, hc⟩ | ⟨w', hru, hf, hb⟩
  ·rw [hru, Oper.upon_value]
   exact hput v w' hf (Or.inr hb)
  ·rw [hru, Oper.upon_enter]
   refine hc.mono ?_
   rintro e w'' ⟨v, rfl, hf, hb⟩
   exact hput v w'' hf (Or.inr hb)
  ·rw [hru, Oper.upon_skip]
   exact hput undef w' hf (Or.inr hb)
 ·have hw : Region.wanted o (yielded ops a.tmps) = false := by
   unfold Region.wanted
   unfold GuardNo at hg
   cases hgo : o.guard with
   | none => rw [hgo] at hg; exact hg.elim
   | some gb =>
    obtain ⟨g, b⟩ := gb
    rw [hgo] at hg
    simp only at hg
    rcases hg with hg | hg
    ·simp [hyield g b hgo (!b) hg]
    ·simp [hyieldNo g b hgo hg]
  rw [if_neg (by rw [hw]; decide)]
  have hno : ∀ l, okAl ops l = true → i ∉ l := fun l hal hia => by
   have h1 := List.all_eq_true.1 hal i hia
   rw [ho] at h1
   simp only [Bool.and_eq_true, Option.isNone_iff_eq_none] at h1
   unfold GuardNo at hg
   rw [h1.1] at hg
   exact hg
  exact hput undef w hf (Or.inl ⟨rfl, hno al hal, hno ch hcal⟩)
theorem wpAny_facts {P : Program} {ops : Array Oper} {Q : Exit → Act → World → Prop} {J : Nat → World → Prop} {ch : List Nat} {E : Nat → Ent} {st keep al : List Nat} {a0 : Act} {w0 : World}
  (hok : okOps ops a0.tmps.size = true) (hadr : okAdr ops = true) (hst : ∀ i k, (E i).S k → i ∈ st) (hr : ∀ i u w w', (E i).r u w w' → Chg (E i).S w w') (hch : okCh ops ch = true) (hcal : okAl ops ch = true) (hJ : ∀ i, (i ∉ ch ∧ ∀ u w w' n, (E i).r u w w' → J n w → J n w') ∨ ∃ n, ch[n]? = some i ∧ ∀ u w w', (E i).r u w w' → J n w → J (n + 1) w') (hal : okAl ops al = true) (hfr : ∀ i, i ∈ al → ∀ u w w', (E i).r u w w' → u = .pointer (some ⟨w.heap.size, 0, none⟩) ∧ w.heap.size < w'.heap.size)
  (hmono : ∀ i j u v w w', i ≠ j → ancB ops ops.size i j = false → deadB ops keep i j = false → (apartB ops al i j = true → v ≠ u) → (E i).r u w w' → (E j).f v w → (E j).f v w') (hsteps : Steps P ops J ch E st keep a0.eval w0 0 ops.toList)
  (hend : ∀ (v : Nat → Value) (w : World), (∀ i, i ∈ keep → i < ops.size → (E i).f (v i) w) → (∀ i j, adrOf ops j = some i → v j = v i) → (∀ i j, i ∈ al → j ∈ al → i ≠ j → v i ≠ v j) → Chg (orS E st) w0 w → J ch.length w → Q .normal (putAll v 0 ops.toList a0) w) :
  ∀ (fuel : Nat) (listed : Array Bool) (a : Act) (w : World), left listed ≤ fuel → Inv ops J ch E st keep al a0 w0 listed a w → wpAny P .any ops Q fuel listed a w := by
 have fin : ∀ (listed : Array Bool) (a : Act) (w : World), Inv ops J ch E st keep al a0 w0 listed a w → Region.ready .any ops listed = [] → Q .normal a w := by
  intro listed a w inv hrd
  have hall := all_listed hok inv.len hrd
  have hlt : ∀ i d, dstOf ops i = some d → d < a.tmps.size := fun i d h => by
   simp only [okOps, Bool.and_eq_true, List.all_eq_true, decide_eq_true_eq] at hok
   rw [inv.size]
   simpa using hok.1.1.2 d (mem_dsts h)
  have he : putAll (valOf' ops a.eval) 0 ops.toList a0 = a := by
   refine putAll_eq _ a ops.toList 0 a0 inv.size.symm inv.defers.symm (fun i t h => ?_) (fun t h => ?_)
   ·have hd : dstOf ops i = some t := by simpa [dstOf] using h
    have := hlt i t hd
    rw [Nat.zero_add, valOf_dst hd]; simp [eval_tmp, this]
   ·refine (inv.rest t (fun hm => ?_)).symm
    obtain ⟨o, hom, hod⟩ := List.mem_filterMap.1 hm
    obtain ⟨i, hi, hio⟩ := List.mem_iff_getElem.1 hom
    exact h i (by rw [List.getElem?_eq_getElem hi, hio]; simpa using hod)
  rw [← he]
  have hli : ∀ i, i ∈ al → listed.getD i false = true := fun i hi => by
   have h1 := List.all_eq_true.1 hal i hi
   have hl : i < ops.size := by
    by_cases hl : i < ops.size
    ·exact hl
    ·simp [hl] at h1
   have h2 := hall i hl
   have hl2 : i < listed.size := by rw [inv.len]; exact hl
   simpa [Array.getD, hl2] using h2
  have hlc : ∀ i, i ∈ ch → listed.getD i false = true := fun i hi => by
   have h1 := List.all_eq_true.1 hcal i hi
   have hl : i < ops.size := by
    by_cases hl : i < ops.size
    ·exact hl
    ·simp [hl] at h1
   have h2 := hall i hl
   have hl2 : i < listed.size := by rw [inv.len]; exact hl
   simpa [Array.getD, hl2] using h2
  exact hend _ w (fun i hk hi => inv.fact i (hall i hi) hi (Or.inl hk)) (fun i j h => link_of _ h) (fun i j hi hj hij => inv.apart i j hi hj hij (hli i hi) (hli j hj)) (inv.chg _ fun s _ k hk => orS_mem (hst s k hk) hk) (by have h0 := inv.inv; rwa [cnt_all (fun i hi => hlc i hi)] at h0)
 intro fuel
 induction fuel with
 | zero =>
  intro listed a w hl inv
  have hrd : Region.ready .any ops listed = [] := by
   apply List.eq_nil_iff_forall_not_mem.2
   intro i hi
   simp only [Region.ready, List.mem_filter, List.mem_range, Bool.and_eq_true, Bool.not_eq_true'] at hi
   have := left_set (by rw [inv.len]; exact hi.1) hi.2.1
   omega
  exact ⟨hrd, fin listed a w inv hrd⟩
 | succ fuel ih =>
  intro listed a w hl inv
  refine ⟨fun hrd => fin listed a w inv hrd, fun i hi => ?_⟩
  have hi' := hi
  simp only [Region.ready, List.mem_filter, List.mem_range, Bool.and_eq_true, Bool.not_eq_true'] at hi'
  have hls := left_set (by rw [inv.len]; exact hi'.1) hi'.2.1
  exact wpOp_mono (fun a' w' h => ih _ a' w' (by omega) h) (inv_step hok hadr hst hr hch hcal hJ hal hfr hmono hsteps inv i hi)
/-! the facts as a list -/
def ent : List Ent → Nat → Ent
 | [], _ => plain fun _ _ => True
 | e :: _, 0 => e
 | _ :: r, n + 1 => ent r n
def StepL (P : Program) (ops : Array Oper) (J : Nat → World → Prop) (ch : List Nat) (es : List Ent) (st keep : List Nat) (ev0 : Operand → Value) (w0 : World) (k : Nat) (e : Ent) (o : Oper) : Prop :=
 ∀ (ev : Operand → Value) (w : World), (∀ v, ev (.const v) = v) → (∀ f, ev (.func f) = .func (.func f) #[] #[]) → (∀ g, ev (.global g) = .pointer (some ⟨g, 0, none⟩)) → (∀ t, t ∉ dsts ops → ev (.tmp t) = ev0 (.tmp t)) →
  (∀ j, j ∈ wants o → (ent es j).f (valOf' ops ev j) w) → (∀ l, others ops st k = l → Chg (orS (ent es) l) w0 w) → (∀ n, ch[n]? = some k → J n w) →
  (GuardYes ops o ev ∧ RegH.Runs P o ev w fun v w' => e.f (res o ev v) w' ∧ e.r (res o ev v) w w') ∨ (GuardNo ops o ev ∧ e.f (res o ev undef) w)
def StepsL (P : Program) (ops : Array Oper) (J : Nat → World → Prop) (ch : List Nat) (es : List Ent) (st keep : List Nat) (ev0 : Operand → Value) (w0 : World) : Nat → List Ent → List Oper → Prop
 | _, [], [] => True
 | k, e :: r, o :: l => StepL P ops J ch es st keep ev0 w0 k e o ∧ StepsL P ops J ch es st keep ev0 w0 (k + 1) r l
 | _, _, _ => False
theorem steps_of {P : Program} {ops : Array Oper} {J : Nat → World → Prop} {ch : List Nat} {es : List Ent} {st keep : List Nat} {ev0 : Operand → Value} {w0 : World} : ∀ (r : List Ent) (l : List Oper) (k : Nat), (∀ i, ent r i = ent es (k + i)) →
  StepsL P ops J ch es st keep ev0 w0 k r l → Steps P ops J ch (ent es) st keep ev0 w0 k l
 | [], [], _, _, _ => trivial
 | e :: r, o :: l, k, he, h => by
  refine ⟨?_, steps_of r l (k + 1) (fun i => ?_) h.2⟩
  ·have e0 : ent es k = e := (he 0).symm
   unfold Step
   rw [e0]
   exact h.1
  ·have := he (i + 1)
   rw [show k + 1 + i = k + (i + 1) from by omega]; exact this
 | [], _ :: _, _, _, h => h.elim
 | _ :: _, [], _, _, h => h.elim
def Oks (st : List Nat) : Nat → List Ent → Prop
 | _, [] => True
 | k, e :: r => (k ∈ st ∨ ((∀ b, ¬ e.S b) ∧ ∀ u w w', e.r u w w' → Chg (fun _ => False) w w')) ∧ Oks st (k + 1) r
theorem oks_ent {st : List Nat} : ∀ (es : List Ent) (k : Nat), Oks st k es → ∀ i b, (ent es i).S b → k + i ∈ st
 | [], _, _, _, _, h => h.elim
 | e :: r, k, h, 0, b, g => h.1.resolve_right (fun hn => hn.1 b g)
 | _ :: r, k, h, n + 1, b, g => by rw [show k + (n + 1) = k + 1 + n by omega]; exact oks_ent r (k + 1) h.2 n b g
theorem oks_plain {st : List Nat} : ∀ (es : List Ent) (k : Nat), Oks st k es → ∀ i, k + i ∉ st → ∀ u w w', (ent es i).r u w w' → Chg (fun _ => False) w w'
 | [], _, _, _, _ => fun _ _ _ h => h
 | e :: r, k, h, 0, g => (h.1.resolve_left g).2
 | _ :: r, k, h, n + 1, g => oks_plain r (k + 1) h.2 n (by rwa [show k + 1 + n = k + (n + 1) by omega])
def Chgs (J : Nat → World → Prop) (ch : List Nat) : Nat → List Ent → Prop
 | _, [] => True
 | k, e :: r => ((∀ u w w', e.r u w w' → Chg e.S w w') ∧ ((k ∉ ch ∧ ∀ u w w' n, e.r u w w' → J n w → J n w') ∨ ∃ n, ch[n]? = some k ∧ ∀ u w w', e.r u w w' → J n w → J (n + 1) w')) ∧ Chgs J ch (k + 1) r
theorem chgs_ent {J : Nat → World → Prop} {ch : List Nat} (hJ : ∀ n w w', Below w.heap.size w w' → J n w → J n w') : ∀ (es : List Ent) (k : Nat), Chgs J ch k es → (∀ m, m ∈ ch → m < k + es.length) → ∀ i, (∀ u w w', (ent es i).r u w w' → Chg (ent es i).S w w') ∧ ((k + i ∉ ch ∧ ∀ u w w' n, (ent es i).r u w w' → J n w → J n w') ∨ ∃ n, ch[n]? = some (k + i) ∧ ∀ u w w', (ent es i).r u w w' → J n w → J (n + 1) w')
 | [], k, _, hm, i => ⟨fun _ _ _ h => h, Or.inl ⟨fun hi => by have := hm _ hi; simp at this; omega, fun _ _ _ n h => hJ n _ _ (to_below h (fun _ h => h))⟩⟩
 | e :: r, k, h, _, 0 => h.1
 | _ :: r, k, h, hm, n + 1 => by
  have := chgs_ent hJ r (k + 1) h.2 (fun m hmm => by have := hm m hmm; simp at this; omega) n
  rw [show k + (n + 1) = k + 1 + n by omega]
  exact this
def Monos : List Ent → Prop
 | [] => True
 | e :: r => (∀ v w w', Below w.heap.size w w' → e.f v w → e.f v w') ∧ Monos r
theorem monos_ent : ∀ (es : List Ent), Monos es → ∀ i v w w', Below w.heap.size w w' → (ent es i).f v w → (ent es i).f v w'
 | [], _, _, _, _, _, _, _ => trivial
 | _ :: _, hm, 0, v, w, w', hb, h => hm.1 v w w' hb h
 | _ :: r, hm, i + 1, v, w, w', hb, h => monos_ent r hm.2 i v w w' hb h
def MonoAt (ops : Array Oper) (keep al : List Nat) (i : Nat) (R : Value → World → World → Prop) : Nat → List Ent → Prop
 | _, [] => True
 | k, e :: r => (k = i ∨ ancB ops ops.size i k = true ∨ deadB ops keep i k = true ∨ ∀ u v w w', (apartB ops al i k = true → v ≠ u) → R u w w' → e.f v w → e.f v w') ∧ MonoAt ops keep al i R (k + 1) r
theorem monoAt_ent {ops : Array Oper} {keep al : List Nat} {i : Nat} {R : Value → World → World → Prop} : ∀ (es : List Ent) (k : Nat), MonoAt ops keep al i R k es → ∀ j u v w w', k + j ≠ i → ancB ops ops.size i (k + j) = false → deadB ops keep i (k + j) = false → (apartB ops al i (k + j) = true → v ≠ u) → R u w w' → (ent es j).f v w → (ent es j).f v w'
 | [], _, _, _, _, _, _, _, _, _, _, _, _, _ => trivial
 | _ :: _, k, hm, 0, u, v, w, w', hne, ha, hd, hap, hb, h => by
  rcases hm.1 with h1 | h1 | h1 | h1
  ·exact absurd h1 hne
  ·rw [Nat.add_zero, h1] at ha; cases ha
  ·rw [Nat.add_zero, h1] at hd; cases hd
  ·exact h1 u v w w' hap hb h
 | _ :: r, k, hm, j + 1, u, v, w, w', hne, ha, hd, hap, hb, h => by
  rw [show k + (j + 1) = k + 1 + j by omega] at hne ha hd hap
  exact monoAt_ent r (k + 1) hm.2 j u v w w' hne ha hd hap hb h
def MonoSt (ops : Array Oper) (keep al : List Nat) (es : List Ent) : List Nat → Prop
 | [] => True
 | i :: r => MonoAt ops keep al i (ent es i).r 0 es ∧ MonoSt ops keep al es r
theorem monoSt_ent {ops : Array Oper} {keep al : List Nat} {es : List Ent} : ∀ (st : List Nat), MonoSt ops keep al es st → ∀ i, i ∈ st → MonoAt ops keep al i (ent es i).r 0 es
 | [], _, _, h => by simp at h
 | k :: r, hm, i, h => by
  rcases List.mem_cons.1 h with rfl | h
  ·exact hm.1
  ·exact monoSt_ent r hm.2 i h
theorem region_list {P : Program} {id : Nat} {ops : Array Oper} {Q : Exit → Act → World → Prop} {a0 : Act} {w0 : World} (hm : P.follows .mixedOrders = true) (J : Nat → World → Prop) (ch : List Nat) (st keep al : List Nat) (es : List Ent)
  (hok : okOps ops a0.tmps.size = true) (hadr : okAdr ops = true) (hal : okAl ops al = true) (hfr : ∀ i, i ∈ al → ∀ u w w', (ent es i).r u w w' → u = .pointer (some ⟨w.heap.size, 0, none⟩) ∧ w.heap.size < w'.heap.size) (hch : okCh ops ch = true) (hcal : okAl ops ch = true) (hlen : ops.size = es.length) (hJ0 : J 0 w0.drew) (hJ : ∀ n w w', Below w.heap.size w w' → J n w → J n w') (hoks : Oks st 0 es) (hchg : Chgs J ch 0 es) (hmono : Monos es) (hmst : MonoSt ops keep al es st) (hsteps : StepsL P ops J ch es st keep a0.eval w0.drew 0 es ops.toList)
  (hend : ∀ (v : Nat → Value) (w : World), (∀ i, i ∈ keep → i < ops.size → (ent es i).f (v i) w) → (∀ i j, adrOf ops j = some i → v j = v i) → (∀ i j, i ∈ al → j ∈ al → i ≠ j → v i ≠ v j) → Chg (orS (ent es) st) w0 w → J ch.length w → Q .normal (putAll v 0 ops.toList a0) w) : (Code.region id ops true).wp P Q a0 w0 := by
 have hs2 : ∀ i k, (ent es i).S k → i ∈ st := fun i k h => by
  have := oks_ent es 0 hoks i k h
  rwa [Nat.zero_add] at this
 have hC := chgs_ent hJ es 0 hchg (fun m hm => by
  have h1 := List.all_eq_true.1 hcal m hm
  by_cases hl : m < ops.size
  ·omega
  ·simp [hl] at h1)
 refine wp_region_any hm ?_
 refine wpAny_facts (J := J) (ch := ch) (E := ent es) (st := st) (keep := keep) (al := al) (w0 := w0.drew) hok hadr hs2 (fun i => (hC i).1) hch hcal (fun i => by have := (hC i).2; rwa [Nat.zero_add] at this) hal hfr (fun i j u v w w' hij hanc hdead hap hr hf => ?_) (steps_of es ops.toList 0 (fun i => by rw [Nat.zero_add]) hsteps)
  (fun v w hf hl hap hb hj => hend v w hf hl hap ((Chg.of_below (S := orS (ent es) st) (Below.refl w0.heap.size w0).drew).trans hb (fun _ _ h => h)) hj) ops.size _ a0 _ ?_ ⟨rfl, rfl, fun _ _ => rfl, fun i hi hin _ => ?_, fun _ _ => Chg.refl _ _, ?_, fun i hi => ?_, by simp, fun i _ hi => ?_, fun i j _ _ _ hi => ?_⟩
 ·by_cases hsi : i ∈ st
  ·exact monoAt_ent es 0 (monoSt_ent st hmst i hsi) j u v w w' (by omega) (by rw [Nat.zero_add]; exact hanc) (by rw [Nat.zero_add]; exact hdead) (by rw [Nat.zero_add]; exact hap) hr hf
  ·have hr2 := oks_plain es 0 hoks i (by rwa [Nat.zero_add]) u w w' hr
   exact monos_ent es hmono j v w w' (to_below hr2 (fun k hk => hk)) hf
 ·unfold left
  refine Nat.le_trans (List.countP_le_length) (by simp)
 ·exfalso
  simp [Array.getD, hin] at hi
 ·rw [cnt_none (fun c => by by_cases h : c < ops.size <;> simp [Array.getD, h])]; exact hJ0
 ·exfalso
  by_cases h : i < ops.size
  ·simp [Array.getD, h] at hi
  ·simp [Array.getD, h] at hi
 ·exfalso
  by_cases h : i < ops.size
  ·simp [Array.getD, h] at hi
  ·simp [Array.getD, h] at hi
 ·exfalso
  by_cases h : i < ops.size
  ·simp [Array.getD, h] at hi
  ·simp [Array.getD, h] at hi
theorem undrewC {S : Nat → Prop} {w w' : World} (h : Chg S w.drew w') : Chg S w w' := ⟨h.os, h.tape, h.output, h.size, h.block⟩
theorem chg0 {E : Nat → Ent} {w w' : World} (h : Chg (orS E []) w.drew w') : Below w.heap.size w w' := to_below (undrewC h) (fun _ h => h)
end Go.RegH
