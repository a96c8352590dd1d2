import Derived.Deep.AppendSrc
import Derived.Deep.Upon
import Derived.Laws.AppendOwn
import Derived.Laws.OwnMore
import Derived.Below
import Derived.Tactics
import Derived.Laws.IdiomCopy
/- A slice that is appended to: either the call's own (row: its block), or full (whatever its memory), so that appending never writes into memory that was there, but for its own row. For any program, any element. -/
namespace Go.Buf
open Go.RowKit
def Buf (e : TypeId) (size B : Nat) (w : World) (v : Value) (n : Nat) (xs : List Value) (row : Option Nat) : Prop :=
 B ≤ w.heap.size ∧ xs.length = n * size ∧ ((w.ownsRow B e size v n xs ∧ row = v.ownBlock) ∨
  (row = none ∧ n ≤ maxLen ∧ ∃ a, v = .slice a n n ∧ (a = none → n = 0) ∧ ∀ b, a = some b → ∀ j u, xs[j]? = some u → w.cell? (b.add j) = some u))
def New (w : World) (row row' : Option Nat) : Prop := row' = row ∨ ∃ k, row' = some k ∧ w.heap.size ≤ k
theorem New.refl (w : World) (row : Option Nat) : New w row row := Or.inl rfl
theorem New.trans {w w1 : World} {a b c : Option Nat} (h : New w a b) (h1 : New w1 b c) (hs : w.heap.size ≤ w1.heap.size) : New w a c := by
 rcases h1 with rfl | ⟨k, rfl, hk⟩
 ·exact h
 ·exact Or.inr ⟨k, rfl, by omega⟩
theorem grown_refl (w : World) (row : Option Nat) : w.grownBy w row := ⟨rfl, rfl, rfl, Nat.le_refl _, fun _ _ _ => rfl⟩
theorem grown_trans {w w1 w2 : World} {row row1 : Option Nat} (h : w.grownBy w1 row) (h1 : w1.grownBy w2 row1) (hn : New w row row1) : w.grownBy w2 row := by
 refine ⟨h1.os.trans h.os, h1.tape.trans h.tape, h1.output.trans h.output, Nat.le_trans h.size h1.size, fun k hk hne => ?_⟩
 refine (h1.block k (Nat.lt_of_lt_of_le hk h.size) ?_).trans (h.block k hk hne)
 rcases hn with rfl | ⟨j, rfl, hj⟩
 ·exact hne
 ·intro e; cases e; omega
theorem grown_of_below {w w' : World} {row : Option Nat} (h : Below w.heap.size w w') : w.grownBy w' row := ⟨h.os, h.tape, h.output, h.size, fun k hk _ => h.block k hk⟩
theorem below_of_grown {w w' : World} {row : Option Nat} {B : Nat} (h : w.grownBy w' row) (hB : B ≤ w.heap.size) (hr : ∀ k, row = some k → B ≤ k) : Below B w w' := (Below.refl B w).grown h hB hr
theorem Buf.row_le {e : TypeId} {size B : Nat} {w : World} {v : Value} {n : Nat} {xs : List Value} {row : Option Nat} (h : Buf e size B w v n xs row) : ∀ k, row = some k → B ≤ k ∧ k < w.heap.size := by
 intro k hk
 rcases h.2.2 with ⟨ho, hr⟩ | ⟨hr, _⟩
 ·exact ho.lt k (hr ▸ hk)
 ·rw [hr] at hk; cases hk
theorem Buf.own {e : TypeId} {size B : Nat} {w : World} {v : Value} {n : Nat} {xs : List Value} (h : w.ownsRow B e size v n xs) (hB : B ≤ w.heap.size) : Buf e size B w v n xs v.ownBlock := ⟨hB, h.1, Or.inl ⟨h, rfl⟩⟩
theorem Buf.nil {e : TypeId} {size B : Nat} {w : World} (hB : B ≤ w.heap.size) : Buf e size B w (.slice none 0 0) 0 [] none := Buf.own (World.ownsRow_nil w B e size) hB
theorem Buf.full {e : TypeId} {size B : Nat} {w : World} {a : Option Addr} {n : Nat} {xs : List Value} (hB : B ≤ w.heap.size) (hl : xs.length = n * size) (hm : n ≤ maxLen) (ha : a = none → n = 0)
  (hc : ∀ b, a = some b → ∀ j u, xs[j]? = some u → w.cell? (b.add j) = some u) : Buf e size B w (.slice a n n) n xs none := ⟨hB, hl, Or.inr ⟨rfl, hm, a, rfl, ha, hc⟩⟩
theorem Buf.shape {e : TypeId} {size B : Nat} {w : World} {v : Value} {n : Nat} {xs : List Value} {row : Option Nat} (h : Buf e size B w v n xs row) : ∃ a c, v = .slice a n c ∧ n ≤ c ∧ c ≤ maxLen ∧ (a = none → c = 0) := by
 rcases h.2.2 with ⟨ho, _⟩ | ⟨_, hm, a, rfl, ha, _⟩
 ·rcases ho.2 with ⟨rfl, rfl⟩ | ⟨g, cap, cur, rfl, _, _, h1, h2, _⟩
  ·exact ⟨none, 0, rfl, Nat.le_refl _, by simp [maxLen], fun _ => rfl⟩
  ·exact ⟨_, cap, rfl, h1, h2, fun h => by cases h⟩
 ·exact ⟨a, n, rfl, Nat.le_refl _, hm, ha⟩
theorem Buf.cells {e : TypeId} {size B : Nat} {w : World} {a : Option Addr} {n c : Nat} {xs : List Value} {row : Option Nat} (h : Buf e size B w (.slice a n c) n xs row) : ∀ b, a = some b → ∀ j u, xs[j]? = some u → w.cell? (b.add j) = some u := by
 rintro b rfl j u hu
 rcases h.2.2 with ⟨ho, _⟩ | ⟨_, hm, a, ha, _, hc⟩
 ·rcases ho.2 with ⟨h0, _⟩ | ⟨g, cap, cur, h0, _⟩
  ·simp at h0
  ·simp only [Value.slice.injEq, Option.some.injEq] at h0
   obtain ⟨rfl, _⟩ := h0
   exact ho.cells (g := g) rfl j u hu
 ·simp only [Value.slice.injEq] at ha
  exact hc b ha.1.symm j u hu
theorem Buf.base {e : TypeId} {size B B' : Nat} {w : World} {v : Value} {n : Nat} {xs : List Value} {row : Option Nat} (h : Buf e size B w v n xs row) (hB : B' ≤ B) : Buf e size B' w v n xs row := by
 refine ⟨Nat.le_trans hB h.1, h.2.1, ?_⟩
 rcases h.2.2 with ⟨ho, hr⟩ | h2
 ·refine Or.inl ⟨⟨ho.1, ?_⟩, hr⟩
  rcases ho.2 with h3 | ⟨g, cap, cur, hv, hg, r⟩
  ·exact Or.inl h3
  ·exact Or.inr ⟨g, cap, cur, hv, Nat.le_trans hB hg, r⟩
 ·exact Or.inr h2
theorem Buf.kept {e : TypeId} {size B : Nat} {w w' : World} {v : Value} {n : Nat} {xs : List Value} {row r : Option Nat} (h : Buf e size B w v n xs row) (hg : w.grownBy w' r) (hne : r = none ∨ (r ≠ row ∧ ∀ k, r = some k → ∀ a n c, v = .slice (some a) n c → a.block ≠ k)) : Buf e size B w' v n xs row := by
 refine ⟨Nat.le_trans h.1 hg.size, h.2.1, ?_⟩
 rcases h.2.2 with ⟨ho, rfl⟩ | ⟨hr, hm, a, rfl, ha, hc⟩
 ·refine Or.inl ⟨ho.kept hg ?_, rfl⟩
  rcases hne with rfl | ⟨h1, _⟩
  ·cases hv : v.ownBlock <;> simp
  ·exact Or.inr (fun e => h1 e.symm)
 ·refine Or.inr ⟨hr, hm, a, rfl, ha, fun b hb j u hu => hg.cell (hc b hb j u hu) ?_⟩
  rcases hne with rfl | ⟨_, h2⟩
  ·simp
  ·have : (b.add j).block = b.block := by unfold Addr.add; split <;> rfl
   rw [this]
   intro e
   exact h2 b.block e.symm b n n (by rw [hb]) rfl
section
variable {P : Program}
theorem run_grow (w : World) (t tx ty e : TypeId) (i : TypeInfo) (z : Value) (size bytes : Nat) (ht : P.underlying t = some (.slice e)) (hi : P.info? e = some i) (hz : i.zero = some z)
  (hsize : i.size = size) (hby : i.bytes = bytes) (hzs : z.cells.size = size) (a : Option Addr) (n cap : Nat) (xs : List Value) (hl : xs.length = n * size) (hn : a = none → n = 0)
  (hc : ∀ b, a = some b → ∀ j u, xs[j]? = some u → w.cell? (b.add j) = some u) (x : Value) (m : Nat) (news : List Value) (hs : Src P size tx x m news w)
  (hg : cap < n + m) (h63 : n + m ≤ maxLen) (hbytes : (n + m) * bytes ≤ 140737488355328) :
  ∃ v' w' k, (Builtin.append_ #[t, tx] ty #[.slice a n cap, x]).run P w = .ok v' w' ∧ w'.ownsRow w.heap.size e size v' (n + m) (xs ++ news) ∧ w.grownBy w' none ∧ v'.ownBlock = some k ∧ w.heap.size ≤ k := by
 subst hsize
 subst hby
 have hsmall : n + m ≤ 9223372036854775807 := by simp only [maxLen] at h63; omega
 have hlen : (xs ++ news).length = (n + m) * i.size := by rw [List.length_append, hl, hs.newsLen, Nat.add_mul]
 have hge := grownCap_ge w (n + m) cap e
 have hcm : grownCap w (n + m) cap e ≤ maxLen := grownCap_le_maxLen w (n + m) cap e h63
 have hold : (Builtin.firstCells i.size n (.slice a n cap)).run P w.drew = .ok xs.toArray w.drew := by
  cases a with
  | none =>
   have h0 := hn rfl
   subst h0
   have : xs = [] := List.eq_nil_of_length_eq_zero (by simpa using hl)
   subst this
   exact run_firstCells_none w.drew i.size 0 0 cap
  | some b => exact run_firstCells_some w.drew i.size n b n cap xs hl (by simpa using hc b rfl)
 have hr := run_append_grow_src (P := P) w t tx ty e i z ht hi hz a n cap xs hold x m news hs hg (by omega) (growslice_fits hg hbytes)
 refine ⟨_, _, w.heap.size, hr, ⟨hlen, .inr ⟨w.heap.size, _, _, rfl, Nat.le_refl _, heap_alloc_new w.drew _, hge, hcm, ?_, ?_⟩⟩, ⟨rfl, rfl, rfl, by simp, fun k hk _ => heap_alloc_old w.drew _ k hk⟩, rfl, Nat.le_refl _⟩
 ·simp only [Array.size_append, List.size_toArray, size_zeroCells, hzs, hlen, ← Nat.add_mul]
  congr 1
  omega
 ·simp only [Array.toList_append]
  rw [← hlen]
  exact List.take_left
theorem run_append_buf (w : World) (B : Nat) (t tx ty e : TypeId) (i : TypeInfo) (z : Value) (size bytes : Nat) (ht : P.underlying t = some (.slice e)) (hi : P.info? e = some i) (hz : i.zero = some z)
  (hsize : i.size = size) (hby : i.bytes = bytes) (hzs : z.cells.size = size) (v : Value) (n : Nat) (xs : List Value) (row : Option Nat) (hb : Buf e size B w v n xs row)
  (x : Value) (m : Nat) (news : List Value) (hs : Src P size tx x m news w) (h63 : n + m ≤ maxLen) (hbytes : (n + m) * bytes ≤ 140737488355328) :
  ∃ v' w' row', (Builtin.append_ #[t, tx] ty #[v, x]).run P w = .ok v' w' ∧ Buf e size B w' v' (n + m) (xs ++ news) row' ∧ w.grownBy w' row ∧ New w row row' := by
 have grow : ∀ (a : Option Addr) (cap : Nat), (a = none → n = 0) → (∀ b, a = some b → ∀ j u, xs[j]? = some u → w.cell? (b.add j) = some u) → cap < n + m →
   ∃ v' w' row', (Builtin.append_ #[t, tx] ty #[.slice a n cap, x]).run P w = .ok v' w' ∧ Buf e size B w' v' (n + m) (xs ++ news) row' ∧ w.grownBy w' row ∧ New w row row' := by
  intro a cap ha hc hg
  obtain ⟨v', w', k, h1, h2, h3, h4, h5⟩ := run_grow (P := P) w t tx ty e i z size bytes ht hi hz hsize hby hzs a n cap xs hb.2.1 ha hc x m news hs hg h63 hbytes
  have hB := Nat.le_trans hb.1 h3.size
  have ho : w'.ownsRow B e size v' (n + m) (xs ++ news) := ((Buf.own h2 h3.size).base hb.1).2.2.elim (fun h => h.1) (fun h => by rw [h4] at h; cases h.1)
  exact ⟨v', w', some k, h1, ⟨hB, ho.1, Or.inl ⟨ho, h4.symm⟩⟩, ⟨h3.os, h3.tape, h3.output, h3.size, fun j hj _ => h3.block j hj (by simp)⟩, Or.inr ⟨k, rfl, h5⟩⟩
 have nothing : ∀ (a : Option Addr) (cap : Nat), v = .slice a n cap → n ≤ cap → m = 0 → ∃ v' w' row', (Builtin.append_ #[t, tx] ty #[.slice a n cap, x]).run P w = .ok v' w' ∧ Buf e size B w' v' (n + m) (xs ++ news) row' ∧ w.grownBy w' row ∧ New w row row' := by
  rintro a cap rfl hle rfl
  have hnews : news = [] := List.eq_nil_of_length_eq_zero (by simpa using hs.newsLen)
  subst hnews
  subst hsize
  exact ⟨_, w, row, run_append_nothing w t tx ty e i ht hi a n cap hle x hs, by simpa using hb, grown_refl w row, New.refl w row⟩
 rcases hb.2.2 with ⟨ho, hrow⟩ | ⟨hrow, hm, a, hv, ha, hc⟩
 ·rcases ho.2 with ⟨hv, hn⟩ | ⟨g, cap, cur, hv, hbg, hg, hnc, hcm, hcs, htake⟩
  ·subst hn
   rw [hv] at *
   by_cases hm : m = 0
   ·exact nothing none 0 rfl (Nat.le_refl _) hm
   ·exact grow none 0 (fun _ => rfl) (fun b h => by cases h) (by omega)
  ·by_cases hroom : n + m ≤ cap
   ·subst hsize
    have hlen : (xs ++ news).length = (n + m) * i.size := by rw [List.length_append, hb.2.1, hs.newsLen, Nat.add_mul]
    have hfit : n * i.size + news.length ≤ cur.size := by rw [hs.newsLen, hcs, ← Nat.add_mul]; exact Nat.mul_le_mul_right _ hroom
    have hst := run_storeCells_at P g (n * i.size) e news 0 cur w hg (by simpa using hfit) hs.one
    simp only [Nat.add_zero] at hst
    have hr : (Builtin.append_ #[t, tx] ty #[.slice (some ⟨g, 0, none⟩) n cap, x]).run P w = .ok (.slice (some ⟨g, 0, none⟩) (n + m) cap) (w.setRow g (cur.toList.take (n * i.size) ++ news ++ cur.toList.drop (n * i.size + news.length)).toArray) := by
     rcases hs.kind with ⟨e', hk⟩ | hk <;> simp [Builtin.append_, run_underlying ht, run_underlying hk, sizeOf, typeInfo, hi, hs.len, hroom, hs.cells, Addr.add_lit, hst]
    subst hv
    refine ⟨_, _, row, hr, ⟨by simpa using hb.1, hlen, Or.inl ⟨⟨hlen, .inr ⟨g, cap, _, rfl, hbg, setRow_heap w g cur _ e _ hg, hroom, hcm, ?_, ?_⟩⟩, hrow⟩⟩, ⟨rfl, rfl, rfl, by simp, fun k _ hk => setRow_other w g k _ (fun e => hk (by rw [hrow]; simp [Value.ownBlock, e]))⟩, New.refl w row⟩
    ·simp only [List.size_toArray, List.length_append, List.length_take, List.length_drop, Array.length_toList]
     omega
    ·rw [htake, ← hlen]
     exact List.take_left
   ·have hcells : ∀ b, some (⟨g, 0, none⟩ : Addr) = some b → ∀ j u, xs[j]? = some u → w.cell? (b.add j) = some u := by
     rintro b h j u hu
     cases h
     exact ho.cells (g := g) (by rw [hv]; rfl) j u hu
    have := grow (some ⟨g, 0, none⟩) cap (fun h => by cases h) hcells (by omega)
    rw [hv]; exact this
 ·rw [hv]
  by_cases hm0 : m = 0
  ·exact nothing a n hv (Nat.le_refl _) hm0
  ·exact grow a n ha hc (by omega)
theorem wpList_append_buf {w : World} {ops : Array Oper} {rest : List Oper} {o : Oper} {ac : Act} {Q : Exit → Act → World → Prop} (hgd : o.guard = none) (s x : Operand) (t tx : TypeId)
  (ho : o.op = .call { callee := .builtin .append, args := #[s, x], argTypes := #[t, tx] })
  (B : Nat) (e : TypeId) (i : TypeInfo) (z : Value) (size bytes : Nat) (ht : P.underlying t = some (.slice e)) (hi : P.info? e = some i) (hz : i.zero = some z)
  (hsize : i.size = size) (hby : i.bytes = bytes) (hzs : z.cells.size = size) (v : Value) (n : Nat) (xs : List Value) (row : Option Nat) (hv : ac.eval s = v) (hb : Buf e size B w v n xs row)
  (y : Value) (m : Nat) (news : List Value) (hx : ac.eval x = y) (hs : Src P size tx y m news w) (h63 : n + m ≤ maxLen) (hbytes : (n + m) * bytes ≤ 140737488355328)
  (h : ∀ v' w' row', Buf e size B w' v' (n + m) (xs ++ news) row' → w.grownBy w' row → New w row row' → wpList P ops Q rest (ac.put o.dst v') w') : wpList P ops Q (o :: rest) ac w := by
 refine wpList_plain hgd fun K hK => ?_
 obtain ⟨v', w', row', hr, h1, h2, h3⟩ := run_append_buf (P := P) w B t tx o.type e i z size bytes ht hi hz hsize hby hzs v n xs row hb y m news hs h63 hbytes
 unfold Oper.wp
 simp [execOp, ho, resolve, invoke, builtin, hv, hx, hr, Result.andThen]
 exact hK _ _ (h v' w' row' h1 h2 h3)
end
end Go.Buf
/- The call's own slice of elements of any type (each of 'size' cells, by 'enc'), that is appended to one by one. For any program. -/
namespace Go.LB
open Go.RowKit Go.Buf
section
variable {α : Type} {enc : α → List Value} {size : Nat}
theorem enc_length (h : ∀ d, (enc d).length = size) (l : List α) : (l.flatMap enc).length = l.length * size := by
 induction l with
 | nil => simp
 | cons x r ih => rw [List.flatMap_cons, List.length_append, ih, h, List.length_cons, Nat.succ_mul]; omega
theorem enc_get (h : ∀ d, (enc d).length = size) : ∀ (l : List α) (i : Nat) (d : α), l[i]? = some d → ∀ j, j < size → (l.flatMap enc)[i * size + j]? = (enc d)[j]?
 | [], i, d, hd, _, _ => by simp at hd
 | x :: r, 0, d, hd, j, hj => by
  simp at hd; subst hd
  rw [Nat.zero_mul, Nat.zero_add, List.flatMap_cons, List.getElem?_append_left (by rw [h]; exact hj)]
 | x :: r, i + 1, d, hd, j, hj => by
  simp at hd
  rw [List.flatMap_cons, List.getElem?_append_right (by rw [h, Nat.succ_mul]; omega), h, show (i + 1) * size + j - size = i * size + j by rw [Nat.succ_mul]; omega]
  exact enc_get h r i d hd j hj
def OB (e : TypeId) (size : Nat) (enc : α → List Value) (B : Nat) (w : World) (v : Value) (l : List α) : Prop := B ≤ w.heap.size ∧ w.ownsRow B e size v l.length (l.flatMap enc)
variable {e : TypeId} {B : Nat} {w w' : World} {v : Value} {l : List α}
theorem OB.nil (hB : B ≤ w.heap.size) : OB e size enc B w (.slice none 0 0) [] := ⟨hB, World.ownsRow_nil w B e size⟩
theorem OB.own (h : OB e size enc B w v l) : ∀ k, v.ownBlock = some k → B ≤ k ∧ k < w.heap.size := h.2.lt
theorem OB.grown {row : Option Nat} (h : OB e size enc B w v l) (hg : w.grownBy w' row) (hr : ∀ k, row = some k → k < B) : OB e size enc B w' v l := by
 refine ⟨Nat.le_trans h.1 hg.size, h.2.kept hg ?_⟩
 cases hv : v.ownBlock with
 | none => exact Or.inl rfl
 | some k =>
  refine Or.inr (fun e => ?_)
  have h1 := h.own k hv
  have h2 := hr k e.symm
  omega
theorem OB.below (h : OB e size enc B w v l) (hb : Below w.heap.size w w') : OB e size enc B w' v l := h.grown (grown_of_below (row := none) hb) (fun k hk => by cases hk)
theorem OB.alloc (h : OB e size enc B w v l) (o : Obj) : OB e size enc B (w.alloc o) v l := ⟨Nat.le_trans h.1 (by simp), h.2.alloc o⟩
theorem OB.base {B' : Nat} (h : OB e size enc B w v l) (hB : B' ≤ B) : OB e size enc B' w v l := by
 refine ⟨Nat.le_trans hB h.1, h.2.1, ?_⟩
 rcases h.2.2 with h3 | ⟨g, cap, cur, hv, hg, r⟩
 ·exact Or.inl h3
 ·exact Or.inr ⟨g, cap, cur, hv, Nat.le_trans hB hg, r⟩
theorem OB.reads (h : OB e size enc B w v l) (he : ∀ d, (enc d).length = size) : ∃ a c, v = .slice a l.length c ∧ l.length ≤ c ∧ c ≤ 9223372036854775807 ∧ (a = none → c = 0) ∧ (∀ q, a = some q → B ≤ q.block) ∧
  ∀ i d, l[i]? = some d → ∃ q, a = some q ∧ ∀ j u, (enc d)[j]? = some u → w.cell? (q.add (i * size + j)) = some u := by
 rcases h.2.2 with ⟨rfl, hn⟩ | ⟨g, cap, cur, hv, hg, hblk, hnc, hcm, hcs, htake⟩
 ·have hl : l = [] := List.eq_nil_of_length_eq_zero hn
  subst hl
  exact ⟨none, 0, rfl, by simp, by omega, fun _ => rfl, fun q hq => by (cases hq), fun i d hd => by simp at hd⟩
 ·refine ⟨some ⟨g, 0, none⟩, cap, hv, hnc, by unfold maxLen at hcm; omega, fun h => by (cases h), fun q hq => by (cases hq; exact hg), fun i d hd => ⟨_, rfl, fun j u hu => ?_⟩⟩
  have hj : j < size := by have := (List.getElem?_eq_some_iff.1 hu).1; rw [he] at this; exact this
  refine h.2.cells (g := g) (by rw [hv]; rfl) (i * size + j) u ?_
  rw [enc_get he l i d hd j hj]; exact hu
end
end Go.LB
/- One block of plain memory as a list of cells. For any program. -/
namespace Go.LB
open Go.RowKit Go.Buf
def Blk (w : World) (b : Nat) (t : TypeId) (cs : List Value) : Prop := w.heap[b]? = some (.cells cs.toArray t (0, 0))
section
variable {w w' : World} {b g : Nat} {t : TypeId} {cs : List Value}
theorem Blk.lt (h : Blk w b t cs) : b < w.heap.size := by
 unfold Blk at h
 exact (Array.getElem?_eq_some_iff.1 h).1
theorem Blk.new (w : World) (cs : Array Value) (t : TypeId) : Blk (w.alloc (.cells cs t)) w.heap.size t cs.toList := by unfold Blk; simpa using heap_alloc_new w (.cells cs t)
theorem Blk.cell (h : Blk w b t cs) (j : Nat) : w.cell? ⟨b, j, none⟩ = cs[j]? := by
 rw [cell_of_row w b j cs.toArray t (0, 0) h]; simp
theorem Blk.frozen (h : Blk w b t cs) (j : Nat) : w.frozen? ⟨b, j, none⟩ = false := frozen_of_row w b j cs.toArray t h
theorem Blk.shape (h : Blk w b t cs) : w.shape? b = some (t, cs.length) := by
 unfold Blk at h
 simp [World.shape?, h]
theorem Blk.set (h : Blk w b t cs) (j : Nat) (u : Value) : Blk (w.setCell ⟨b, j, none⟩ u) b t (cs.set j u) := by
 have := heap_setCell_same w b j cs.toArray t u h
 unfold Blk
 rw [this]; simp
theorem Blk.other (h : Blk w b t cs) (hne : b ≠ g) (j : Nat) (u : Value) : Blk (w.setCell ⟨g, j, none⟩ u) b t cs := by
 unfold Blk
 rw [heap_setCell_other w ⟨g, j, none⟩ b u hne]; exact h
theorem Blk.below (h : Blk w b t cs) (hb : Below w.heap.size w w') : Blk w' b t cs := by
 unfold Blk
 rw [hb.block b h.lt]; exact h
theorem Blk.grown {row : Option Nat} (h : Blk w b t cs) (hg : w.grownBy w' row) (hne : some b ≠ row) : Blk w' b t cs := by
 unfold Blk
 rw [hg.block b h.lt hne]; exact h
theorem setCells_grown (b : Nat) : ∀ (vs : List Value) (o : Nat) (w : World), w.grownBy (w.setCells b o vs) (some b)
 | [], _, w => ⟨rfl, rfl, rfl, Nat.le_refl _, fun _ _ _ => rfl⟩
 | v :: r, o, w => by
  have h1 : w.grownBy (w.setCell ⟨b, o, none⟩ v) (some b) := ⟨rfl, rfl, rfl, by simp, fun k _ hk => heap_setCell_other w ⟨b, o, none⟩ k v (fun e => hk (by simp [e]))⟩
  have h2 := setCells_grown b r (o + 1) (w.setCell ⟨b, o, none⟩ v)
  exact ⟨h2.os.trans h1.os, h2.tape.trans h1.tape, h2.output.trans h1.output, Nat.le_trans h1.size h2.size, fun k hk hne => (h2.block k (Nat.lt_of_lt_of_le hk h1.size) hne).trans (h1.block k hk hne)⟩
theorem setCell_grown (w : World) (b o : Nat) (v : Value) : w.grownBy (w.setCell ⟨b, o, none⟩ v) (some b) := setCells_grown b [v] o w
def splice (cs vs : List Value) (o : Nat) : List Value := cs.take o ++ vs ++ cs.drop (o + vs.length)
theorem splice_cons (cs : List Value) (v : Value) (r : List Value) (o : Nat) (h : o + r.length + 1 ≤ cs.length) : splice (cs.set o v) r (o + 1) = splice cs (v :: r) o := by
 have ho : o < cs.length := by omega
 unfold splice
 have e1 : (cs.set o v).take (o + 1) = cs.take o ++ [v] := by
  rw [List.take_succ_eq_append_getElem (by simpa using ho), List.getElem_set_self, List.take_set_of_le (Nat.le_refl _)]
 have e2 : (cs.set o v).drop (o + 1 + r.length) = cs.drop (o + (v :: r).length) := by
  rw [List.drop_set_of_lt (by omega)]; congr 1; simp; omega
 rw [e1, e2]; simp
theorem Blk.setCells : ∀ (vs : List Value) (o : Nat) {w : World} {cs : List Value}, Blk w b t cs → o + vs.length ≤ cs.length → Blk (w.setCells b o vs) b t (splice cs vs o)
 | [], o, w, cs, h, _ => by simpa [splice, World.setCells] using h
 | v :: r, o, w, cs, h, hl => by
  have := Blk.setCells r (o + 1) (h.set o v) (by simp at hl ⊢; omega)
  rw [splice_cons _ _ _ _ (by simp at hl; omega)] at this
  exact this
theorem OB.blk {α : Type} {enc : α → List Value} {e : TypeId} {size B : Nat} {w : World} {v : Value} {l : List α} (h : OB e size enc B w v l) :
  (v = .slice none 0 0 ∧ l = []) ∨ ∃ g cap cs, v = .slice (some ⟨g, 0, none⟩) l.length cap ∧ B ≤ g ∧ Blk w g e cs ∧ l.length ≤ cap ∧ cap ≤ maxLen ∧ cs.length = cap * size ∧ cs.take (l.length * size) = l.flatMap enc := by
 rcases h.2.2 with ⟨h1, h2⟩ | ⟨g, cap, cur, hv, hg, hblk, hnc, hcm, hcs, htake⟩
 ·exact Or.inl ⟨h1, List.eq_nil_of_length_eq_zero h2⟩
 ·exact Or.inr ⟨g, cap, cur.toList, hv, hg, by simpa [Blk] using hblk, hnc, hcm, by simpa using hcs, htake⟩
end
theorem boxes3 (W : World) (a b c : List Value) (t u v : TypeId) :
  Below W.heap.size W (((W.alloc (.cells a.toArray t)).alloc (.cells b.toArray u)).alloc (.cells c.toArray v)) ∧ Blk (((W.alloc (.cells a.toArray t)).alloc (.cells b.toArray u)).alloc (.cells c.toArray v)) W.heap.size t a ∧ Blk (((W.alloc (.cells a.toArray t)).alloc (.cells b.toArray u)).alloc (.cells c.toArray v)) (W.heap.size + 1) u b ∧ Blk (((W.alloc (.cells a.toArray t)).alloc (.cells b.toArray u)).alloc (.cells c.toArray v)) (W.heap.size + 1 + 1) v c := by
 refine ⟨(((Below.refl W.heap.size W).alloc (Nat.le_refl _) _).alloc (by simp) _).alloc (by simp; omega) _, ((Blk.new W a.toArray t).below ((Below.refl _ _).alloc (Nat.le_refl _) _)).below ((Below.refl _ _).alloc (Nat.le_refl _) _), ?_, ?_⟩
 ·have h := (Blk.new (W.alloc (.cells a.toArray t)) b.toArray u).below ((Below.refl _ _).alloc (Nat.le_refl _) (.cells c.toArray v))
  rw [World.size_alloc] at h; exact h
 ·have h := Blk.new ((W.alloc (.cells a.toArray t)).alloc (.cells b.toArray u)) c.toArray v
  rw [World.size_alloc, World.size_alloc] at h; exact h
theorem Blk.nine {w : World} {b : Nat} {t : TypeId} {c0 c1 c2 c3 c4 c5 c6 c7 c8 : Value} (h : Blk w b t [c0, c1, c2, c3, c4, c5, c6, c7, c8]) : w.cell? ⟨b, 0, none⟩ = some c0 ∧ w.cell? ⟨b, 1, none⟩ = some c1 ∧ w.cell? ⟨b, 2, none⟩ = some c2 ∧ w.cell? ⟨b, 3, none⟩ = some c3 ∧ w.cell? ⟨b, 4, none⟩ = some c4 ∧ w.cell? ⟨b, 5, none⟩ = some c5 ∧ w.cell? ⟨b, 6, none⟩ = some c6 ∧ w.cell? ⟨b, 7, none⟩ = some c7 ∧ w.cell? ⟨b, 8, none⟩ = some c8 :=
 ⟨h.cell 0, h.cell 1, h.cell 2, h.cell 3, h.cell 4, h.cell 5, h.cell 6, h.cell 7, h.cell 8⟩
theorem Blk.froz9 {w : World} {b : Nat} {t : TypeId} {cs : List Value} (h : Blk w b t cs) : w.frozen? ⟨b, 0, none⟩ = false ∧ w.frozen? ⟨b, 1, none⟩ = false ∧ w.frozen? ⟨b, 2, none⟩ = false ∧ w.frozen? ⟨b, 3, none⟩ = false ∧ w.frozen? ⟨b, 4, none⟩ = false ∧ w.frozen? ⟨b, 5, none⟩ = false ∧ w.frozen? ⟨b, 6, none⟩ = false ∧ w.frozen? ⟨b, 7, none⟩ = false ∧ w.frozen? ⟨b, 8, none⟩ = false :=
 ⟨h.frozen 0, h.frozen 1, h.frozen 2, h.frozen 3, h.frozen 4, h.frozen 5, h.frozen 6, h.frozen 7, h.frozen 8⟩
end Go.LB
