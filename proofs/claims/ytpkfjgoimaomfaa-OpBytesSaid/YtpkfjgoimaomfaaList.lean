/- The call's own slice of elements of any type (each of 'size' cells, by 'enc'), that is appended to one by one. For any program. -/
import Derived.Laws.AppendOwn
import Derived.Laws.OwnMore
import Derived.Below
import Derived.Tactics
import Derived.Test.YtpkfjgoimaomfaaBuf
namespace Go.LB
open Go.RowKit Go.Buf
section
variable {α : Type} {enc : α → List Value} {size : Nat}
theorem enc_length (h : ∀ d, (enc d).length = size) (l : List α) : (l.flatMap enc).length = l.length * size := by
  induction l with
  | nil => simp
  | cons x r ih => rw [List.flatMap_cons, List.length_append, ih, h, List.length_cons, Nat.succ_mul]; omega
theorem enc_get (h : ∀ d, (enc d).length = size) : ∀ (l : List α) (i : Nat) (d : α), l[i]? = some d → ∀ j, j < size → (l.flatMap enc)[i * size + j]? = (enc d)[j]?
  | [], i, d, hd, _, _ => by simp at hd
  | x :: r, 0, d, hd, j, hj => by
    simp at hd; subst hd
    rw [Nat.zero_mul, Nat.zero_add, List.flatMap_cons, List.getElem?_append_left (by rw [h]; exact hj)]
  | x :: r, i + 1, d, hd, j, hj => by
    simp at hd
    rw [List.flatMap_cons, List.getElem?_append_right (by rw [h, Nat.succ_mul]; omega), h, show (i + 1) * size + j - size = i * size + j by rw [Nat.succ_mul]; omega]
    exact enc_get h r i d hd j hj
/-- the call's own row of elements -/
def OB (e : TypeId) (size : Nat) (enc : α → List Value) (B : Nat) (w : World) (v : Value) (l : List α) : Prop := B ≤ w.heap.size ∧ w.ownsRow B e size v l.length (l.flatMap enc)
variable {e : TypeId} {B : Nat} {w w' : World} {v : Value} {l : List α}
theorem OB.nil (hB : B ≤ w.heap.size) : OB e size enc B w (.slice none 0 0) [] := ⟨hB, World.ownsRow_nil w B e size⟩
theorem OB.own (h : OB e size enc B w v l) : ∀ k, v.ownBlock = some k → B ≤ k ∧ k < w.heap.size := h.2.lt
theorem OB.grown {row : Option Nat} (h : OB e size enc B w v l) (hg : w.grownBy w' row) (hr : ∀ k, row = some k → k < B) : OB e size enc B w' v l := by
  refine ⟨Nat.le_trans h.1 hg.size, h.2.kept hg ?_⟩
  cases hv : v.ownBlock with
  | none => exact Or.inl rfl
  | some k =>
    refine Or.inr (fun e => ?_)
    have h1 := h.own k hv
    have h2 := hr k e.symm
    omega
theorem OB.below (h : OB e size enc B w v l) (hb : Below w.heap.size w w') : OB e size enc B w' v l := h.grown (grown_of_below (row := none) hb) (fun k hk => by cases hk)
theorem OB.alloc (h : OB e size enc B w v l) (o : Obj) : OB e size enc B (w.alloc o) v l := ⟨Nat.le_trans h.1 (by simp), h.2.alloc o⟩
theorem OB.base {B' : Nat} (h : OB e size enc B w v l) (hB : B' ≤ B) : OB e size enc B' w v l := by
  refine ⟨Nat.le_trans hB h.1, h.2.1, ?_⟩
  rcases h.2.2 with h3 | ⟨g, cap, cur, hv, hg, r⟩
  · exact Or.inl h3
  · exact Or.inr ⟨g, cap, cur, hv, Nat.le_trans hB hg, r⟩
/-- what it reads as -/
theorem OB.reads (h : OB e size enc B w v l) (he : ∀ d, (enc d).length = size) : ∃ a c, v = .slice a l.length c ∧ l.length ≤ c ∧ c ≤ 9223372036854775807 ∧ (a = none → c = 0) ∧ (∀ q, a = some q → B ≤ q.block) ∧
    ∀ i d, l[i]? = some d → ∃ q, a = some q ∧ ∀ j u, (enc d)[j]? = some u → w.cell? (q.add (i * size + j)) = some u := by
  rcases h.2.2 with ⟨rfl, hn⟩ | ⟨g, cap, cur, hv, hg, hblk, hnc, hcm, hcs, htake⟩
  · have hl : l = [] := List.eq_nil_of_length_eq_zero hn
    subst hl
    exact ⟨none, 0, rfl, by simp, by omega, fun _ => rfl, fun q hq => by (cases hq), fun i d hd => by simp at hd⟩
  · refine ⟨some ⟨g, 0, none⟩, cap, hv, hnc, by unfold maxLen at hcm; omega, fun h => by (cases h), fun q hq => by (cases hq; exact hg), fun i d hd => ⟨_, rfl, fun j u hu => ?_⟩⟩
    have hj : j < size := by have := (List.getElem?_eq_some_iff.1 hu).1; rw [he] at this; exact this
    refine h.2.cells (g := g) (by rw [hv]; rfl) (i * size + j) u ?_
    rw [enc_get he l i d hd j hj]; exact hu
/-- one more -/
theorem wpList_append_ob {P : Program} {ops : Array Oper} {rest : List Oper} {o : Oper} {ac : Act} {Q : Exit → Act → World → Prop} (hgd : o.guard = none) (s x : Operand) (t : TypeId)
    (ho : o.op = .call { callee := .builtin .append, args := #[s, x], argTypes := #[t, t] })
    (i0 : TypeInfo) (z : Value) (bytes : Nat) (ht : P.underlying t = some (.slice e)) (hi : P.info? e = some i0) (hz : i0.zero = some z)
    (hsize : i0.size = size) (hby : i0.bytes = bytes) (hzs : z.cells.size = size) (hsz : 0 < size) (hv : ac.eval s = v) (hb : OB e size enc B w v l)
    (ad : Addr) (c : Nat) (d : α) (hx : ac.eval x = .slice (some ad) 1 c) (hl : (enc d).length = size) (hnews : ∀ j u, (enc d)[j]? = some u → w.cell? (ad.add j) = some u) (h1 : ∀ u ∈ enc d, u.oneCell' = true)
    (hsm : l.length + 1 ≤ 1000000000) (hbytes : (l.length + 1) * bytes ≤ 140737488355328)
    (h : ∀ v' w', OB e size enc B w' v' (l ++ [d]) → w.grownBy w' v.ownBlock → wpList P ops Q rest (ac.put o.dst v') w') : wpList P ops Q (o :: rest) ac w := by
  refine wpList_append_own w hgd s x t ho B e i0 z size bytes ht hi hz hsize hby hzs hsz v l.length (l.flatMap enc) hv hb.2 ad 1 c (enc d) hx (by rw [hl, Nat.one_mul]) hnews h1 (by simp only [maxLen]; omega) hbytes hb.1 ?_
  intro v' w' ho' hg' _
  refine h v' w' ⟨Nat.le_trans hb.1 hg'.size, ?_⟩ hg'
  rw [List.length_append, List.flatMap_append]
  simpa using ho'
end
end Go.LB
