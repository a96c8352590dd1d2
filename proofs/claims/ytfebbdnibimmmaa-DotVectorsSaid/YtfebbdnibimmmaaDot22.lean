import Derived.Test.YtfebbdnibimmmaaDot21
import Derived.Test.YtfebbdnibimmmaaDot20
namespace Go.Proofs.Ytfebbdnibimmmaa
open Go.RowKit Go.Maps Go.Buf
/-- a buffer of dots that reads as l -/
def VBf (B : Nat) (w : World) (v : Value) (l : List Dt.Dot) (row : Option Nat) : Prop := (∀ d ∈ l, Dt.okD d) ∧ Buf 29 3 B w v l.length (dotsV l) row
theorem VBf.row {B : Nat} {w : World} {v : Value} {l : List Dt.Dot} {row : Option Nat} (h : VBf B w v l row) : ∃ a c, v = .slice a l.length c ∧ VRow w a c l := by
  obtain ⟨a, c, rfl, h1, h2, h3⟩ := h.2.shape
  refine ⟨a, c, rfl, h1, by unfold maxLen at h2; omega, h.1, h3, fun i d hd => ?_⟩
  cases a with
  | none =>
    have := h3 rfl
    have hi := (List.getElem?_eq_some_iff.1 hd).1
    omega
  | some p =>
    have hc := h.2.cells p rfl
    refine ⟨p, rfl, hc (i * 3) _ (by rw [← Nat.add_zero (i * 3), dotsV_get l i d hd 0 (by omega)]; rfl), hc (i * 3 + 1) _ (by rw [dotsV_get l i d hd 1 (by omega)]; rfl), hc (i * 3 + 2) _ (by rw [dotsV_get l i d hd 2 (by omega)]; rfl)⟩
theorem VBf.full {B : Nat} {w : World} {a : Option Addr} {n : Nat} {l : List Dt.Dot} (h : VRow w a n l) (hn : l.length = n) (hB : B ≤ w.heap.size) (hm : n ≤ 1000000000) : VBf B w (.slice a n n) l none := by
  refine ⟨h.ok, ?_⟩
  subst hn
  refine Buf.full hB (dotsV_length l) (by unfold maxLen; omega) (fun ha => h.2.2.2.1 ha) (fun b hb j u hu => ?_)
  have hj : j < l.length * 3 := by have := (List.getElem?_eq_some_iff.1 hu).1; rwa [dotsV_length] at this
  have hi : j / 3 < l.length := by omega
  obtain ⟨p, hp, h1, h2, h3⟩ := h.2.2.2.2 (j / 3) l[j / 3] (List.getElem?_eq_getElem hi)
  rw [hb] at hp
  obtain rfl := Option.some.inj hp
  have hg := dotsV_get l (j / 3) l[j / 3] (List.getElem?_eq_getElem hi) (j % 3) (Nat.mod_lt _ (by omega))
  rw [show j / 3 * 3 + j % 3 = j from by omega, hu] at hg
  have hr : j % 3 = 0 ∨ j % 3 = 1 ∨ j % 3 = 2 := by omega
  rcases hr with hr | hr | hr
  · rw [hr] at hg; simp [encD] at hg; subst hg; rw [show j / 3 * 3 = j from by omega] at h1; exact h1
  · rw [hr] at hg; simp [encD] at hg; subst hg; rw [show j / 3 * 3 + 1 = j from by omega] at h2; exact h2
  · rw [hr] at hg; simp [encD] at hg; subst hg; rw [show j / 3 * 3 + 2 = j from by omega] at h3; exact h3
theorem VBf.empty {B : Nat} {w : World} (a : Addr) (hB : B ≤ w.heap.size) : VBf B w (.slice (some a) 0 0) [] none := ⟨by simp, Buf.full hB (by simp [dotsV]) (by simp [maxLen]) (fun h => by cases h) (fun b _ j u hu => by simp [dotsV] at hu)⟩
theorem VBf.nil {B : Nat} {w : World} (hB : B ≤ w.heap.size) : VBf B w (.slice none 0 0) [] none := ⟨by simp, Buf.nil hB⟩
theorem VBf.alloc {B : Nat} {w : World} {v : Value} {l : List Dt.Dot} {row : Option Nat} (h : VBf B w v l row) (o : Obj) : VBf B (w.alloc o) v l row := ⟨h.1, h.2.kept (World.grownBy_alloc w o none) (Or.inl rfl)⟩
theorem VBf.below {B : Nat} {w w' : World} {v : Value} {l : List Dt.Dot} {row : Option Nat} (h : VBf B w v l row) (hb : Below w.heap.size w w') : VBf B w' v l row := ⟨h.1, h.2.kept (grown_of_below (row := none) hb) (Or.inl rfl)⟩
theorem VBf.base {B B' : Nat} {w : World} {v : Value} {l : List Dt.Dot} {row : Option Nat} (h : VBf B w v l row) (hB : B' ≤ B) : VBf B' w v l row := ⟨h.1, h.2.base hB⟩
theorem dotsV_one (l : List Dt.Dot) : ∀ u ∈ dotsV l, u.oneCell' = true := by
  intro u hu
  simp only [dotsV, List.mem_flatMap] at hu
  obtain ⟨d, _, hd⟩ := hu
  exact encD_one d u hd
theorem src_vrow {w : World} {a : Option Addr} {n cap : Nat} {l : List Dt.Dot} (h : VRow w a cap l) (hn : l.length = n) (hm : n ≤ 1000000000) : Src Try.prog 3 23 (.slice a n cap) n (dotsV l) w := by
  cases a with
  | none =>
    have hc := h.2.2.2.1 rfl
    have hle := h.le
    have hl : l = [] := List.eq_nil_of_length_eq_zero (by omega)
    subst hl
    subst hn
    exact Src.ofNil w Try.underlying23 cap
  | some p =>
    have hf : VRow w (some p) n l := ⟨by omega, by omega, h.ok, (fun e => by cases e), h.2.2.2.2⟩
    have := (VBf.full (B := 0) hf hn (Nat.zero_le _) hm).2
    exact Src.ofSlice w Try.underlying23 p n cap (dotsV l) (by rw [dotsV_length, hn]) (by subst hn; exact this.cells p rfl) (dotsV_one l)
theorem src_lit {w : World} {L : Nat} {d : Dt.Dot} (h0 : w.cell? ⟨L, 0, none⟩ = some (.int .u8 (d.1.1 : Int))) (h1 : w.cell? ⟨L, 1, none⟩ = some (.int .u32 (d.1.2 : Int))) (h2 : w.cell? ⟨L, 2, none⟩ = some (.int .u64 (d.2 : Int))) :
    Src Try.prog 3 23 (.slice (some ⟨L, 0, none⟩) 1 1) 1 (dotsV [d]) w := by
  have hd : dotsV [d] = encD d := by simp [dotsV]
  rw [hd]
  refine Src.ofSlice w Try.underlying23 _ 1 1 (encD d) (by simp [encD]) (fun j u hu => ?_) (encD_one d)
  match j, hu with
  | 0, hu => simp [encD] at hu; subst hu; simpa [Addr.add] using h0
  | 1, hu => simp [encD] at hu; subst hu; simpa [Addr.add] using h1
  | 2, hu => simp [encD] at hu; subst hu; simpa [Addr.add] using h2
  | j + 3, hu => simp [encD] at hu
/-- the run of an append -/
theorem run_append_vb (w : World) (B : Nat) (v : Value) (l : List Dt.Dot) (row : Option Nat) (hb : VBf B w v l row) (y : Value) (m : Nat) (l2 : List Dt.Dot) (hs : Src Try.prog 3 23 y m (dotsV l2) w) (hm : l2.length = m) (hl2 : ∀ d ∈ l2, Dt.okD d) (hsm : l.length + m ≤ 1000000000) (ty : TypeId) :
    ∃ v' w' row', (Builtin.append_ #[23, 23] ty #[v, y]).run Try.prog w = .ok v' w' ∧ VBf B w' v' (l ++ l2) row' ∧ w.grownBy w' row ∧ New w row row' := by
  obtain ⟨i0, hi, hz0, hz1, hz2⟩ := info_parts info_dot
  obtain ⟨v', w', row', hr, h1, h2, h3⟩ := run_append_buf (P := Try.prog) w B 23 23 ty 29 i0 (.agg #[.int .u8 0, .int .u32 0, .int .u64 0]) 3 16 Try.underlying23 hi hz0 hz1 hz2 rfl v l.length (dotsV l) row hb.2 y m (dotsV l2) hs (by unfold maxLen; omega) (by omega)
  refine ⟨v', w', row', hr, ⟨?_, ?_⟩, h2, h3⟩
  · intro d hd
    rcases List.mem_append.1 hd with hd | hd
    · exact hb.1 d hd
    · exact hl2 d hd
  · have e : dotsV (l ++ l2) = dotsV l ++ dotsV l2 := by unfold dotsV; rw [List.flatMap_append]
    rw [e, List.length_append, hm]; exact h1
theorem wpList_append_vb {w : World} {ops : Array Oper} {rest : List Oper} {o : Oper} {ac : Act} {Q : Exit → Act → World → Prop} (hgd : o.guard = none) (s x : Operand)
    (ho : o.op = .call { callee := .builtin .append, args := #[s, x], argTypes := #[23, 23] }) (B : Nat) (v : Value) (l : List Dt.Dot) (row : Option Nat) (hv : ac.eval s = v) (hb : VBf B w v l row)
    (y : Value) (m : Nat) (l2 : List Dt.Dot) (hx : ac.eval x = y) (hs : Src Try.prog 3 23 y m (dotsV l2) w) (hm : l2.length = m) (hl2 : ∀ d ∈ l2, Dt.okD d) (hsm : l.length + m ≤ 1000000000)
    (h : ∀ v' w' row', VBf B w' v' (l ++ l2) row' → w.grownBy w' row → New w row row' → wpList Try.prog ops Q rest (ac.put o.dst v') w') : wpList Try.prog ops Q (o :: rest) ac w := by
  refine wpList_plain hgd fun K hK => ?_
  obtain ⟨v', w', row', hr, h1, h2, h3⟩ := run_append_vb w B v l row hb y m l2 hs hm hl2 hsm o.type
  unfold Oper.wp
  simp [execOp, ho, resolve, invoke, builtin, hv, hx, hr, Result.andThen]
  exact hK _ _ (h v' w' row' h1 h2 h3)
theorem step_append_vb {w : World} {ops : Array Oper} {o : Oper} {ac : Act} {K : Act → World → Prop} {Q : Exit → Act → World → Prop} {E : Prop} (hgd : o.guard = none) (s x : Operand)
    (ho : o.op = .call { callee := .builtin .append, args := #[s, x], argTypes := #[23, 23] }) (B : Nat) (v : Value) (l : List Dt.Dot) (row : Option Nat) (hv : ac.eval s = v) (hb : VBf B w v l row)
    (y : Value) (m : Nat) (l2 : List Dt.Dot) (hx : ac.eval x = y) (hs : Src Try.prog 3 23 y m (dotsV l2) w) (hm : l2.length = m) (hl2 : ∀ d ∈ l2, Dt.okD d) (hsm : l.length + m ≤ 1000000000)
    (h : ∀ v' w' row', VBf B w' v' (l ++ l2) row' → w.grownBy w' row → New w row row' → K (ac.put o.dst v') w') : if Region.wanted o (yielded ops ac.tmps) = true then Oper.wp Try.prog o ac w K Q else E := by
  have hw : Region.wanted o (yielded ops ac.tmps) = true := by simp [Region.wanted, hgd]
  rw [if_pos hw]
  obtain ⟨v', w', row', hr, h1, h2, h3⟩ := run_append_vb w B v l row hb y m l2 hs hm hl2 hsm o.type
  unfold Oper.wp
  simp [execOp, ho, resolve, invoke, builtin, hv, hx, hr, Result.andThen]
  exact h v' w' row' h1 h2 h3
end Go.Proofs.Ytfebbdnibimmmaa
