import Derived.Test.YtplafpchgfjomaaZBuf
import Derived.Lib.SliceRun
import Derived.Lib.JoinLaws
import Derived.Lib.AppendZeros
import Derived.Lib.Overlaps
import Derived.Laws.Externs
import Derived.Deep.AppendSrc
import Derived.Deep.Upon
/- A slice of the call's own (its block, its elements, what lies behind them), or an empty one that has no room: changed in place, appended to; and what changes from one world to another. For any program. -/
namespace Go.LB
open Go.RowKit Go.Buf
structure Chg (S : Nat → Prop) (w w' : World) : Prop where
  os : w'.os = w.os
  tape : w'.tape = w.tape
  output : w'.output = w.output
  size : w.heap.size ≤ w'.heap.size
  block : ∀ k, k < w.heap.size → ¬ S k → w'.heap[k]? = w.heap[k]?
section
variable {S T : Nat → Prop} {w w1 w' : World}
theorem Chg.refl (S : Nat → Prop) (w : World) : Chg S w w := ⟨rfl, rfl, rfl, Nat.le_refl _, fun _ _ _ => rfl⟩
theorem Chg.trans (h : Chg S w w1) (g : Chg T w1 w') (hT : ∀ k, k < w.heap.size → T k → S k) : Chg S w w' :=
 ⟨g.os.trans h.os, g.tape.trans h.tape, g.output.trans h.output, Nat.le_trans h.size g.size, fun k hk hn => (g.block k (Nat.lt_of_lt_of_le hk h.size) (fun e => hn (hT k hk e))).trans (h.block k hk hn)⟩
theorem Chg.mono (h : Chg S w w') (hS : ∀ k, k < w.heap.size → S k → T k) : Chg T w w' := ⟨h.os, h.tape, h.output, h.size, fun k hk hn => h.block k hk (fun e => hn (hS k hk e))⟩
theorem Chg.of_below (h : Below w.heap.size w w') : Chg S w w' := ⟨h.os, h.tape, h.output, h.size, fun k hk _ => h.block k hk⟩
theorem Chg.of_grown {row : Option Nat} (h : w.grownBy w' row) : Chg (fun k => some k = row) w w' := ⟨h.os, h.tape, h.output, h.size, fun k hk hn => h.block k hk hn⟩
theorem Chg.drew (h : Chg S w w') : Chg S w w'.drew := ⟨h.os, h.tape, h.output, h.size, h.block⟩
theorem Chg.alloc (h : Chg S w w') (o : Obj) : Chg S w (w'.alloc o) := h.trans (Chg.of_grown (World.grownBy_alloc w' o none)) (fun k _ e => by cases e)
theorem Chg.set (h : Chg S w w') {b : Nat} (hb : w.heap.size ≤ b ∨ S b) (j : Nat) (v : Value) : Chg S w (w'.setCell ⟨b, j, none⟩ v) :=
 h.trans (Chg.of_grown (setCell_grown w' b j v)) (fun k hk e => by cases e; rcases hb with hb | hb; omega; exact hb)
theorem Chg.below {B : Nat} (h : Chg S w w') (hB : ∀ k, k < w.heap.size → S k → B ≤ k) (hs : B ≤ w.heap.size) : Below B w w' :=
 ⟨h.os, h.tape, h.output, h.size, fun k hk => h.block k (by omega) (fun e => by have := hB k (by omega) e; omega)⟩
theorem Blk.chg {b : Nat} {t : TypeId} {cs : List Value} (h : Blk w b t cs) (g : Chg S w w') (hn : ¬ S b) : Blk w' b t cs := by
 unfold Blk
 rw [g.block b h.lt hn]; exact h
theorem Blk.some {b : Nat} {t : TypeId} {cs : List Value} (h : Blk w b t cs) {j : Nat} (hj : j < cs.length) : (w.cell? ⟨b, j, none⟩).isSome = true := by rw [h.cell, List.getElem?_eq_getElem hj]; rfl
end
/-! ### lists of cells -/
section
variable {α : Type} {enc : α → List Value} {e : TypeId} {size : Nat}
def Own (e : TypeId) (size : Nat) (enc : α → List Value) (B : Nat) (w : World) (v : Value) (l : List α) (row : Option Nat) : Prop :=
 B ≤ w.heap.size ∧ ((row = none ∧ l = [] ∧ ∃ a, v = .slice a 0 0) ∨
 ∃ g cap tl, row = some g ∧ v = .slice (some ⟨g, 0, none⟩) l.length cap ∧ B ≤ g ∧ Blk w g e (l.flatMap enc ++ tl) ∧ l.length ≤ cap ∧ cap ≤ maxLen ∧ (l.flatMap enc ++ tl).length = cap * size)
variable {B : Nat} {w w' : World} {v : Value} {l : List α} {row : Option Nat} {S : Nat → Prop}
theorem Own.base (h : Own e size enc B w v l row) {B' : Nat} (hB : B' ≤ B) : Own e size enc B' w v l row := by
 refine ⟨Nat.le_trans hB h.1, h.2.imp id ?_⟩
 rintro ⟨g, cap, tl, h1, h2, h3, r⟩
 exact ⟨g, cap, tl, h1, h2, Nat.le_trans hB h3, r⟩
theorem Own.lt (h : Own e size enc B w v l row) : ∀ g, row = some g → B ≤ g ∧ g < w.heap.size := by
 rintro g rfl
 rcases h.2 with ⟨h1, _⟩ | ⟨g', cap, tl, h1, h2, h3, h4, _⟩
 ·cases h1
 ·cases h1; exact ⟨h3, h4.lt⟩
theorem Own.chg (h : Own e size enc B w v l row) (g : Chg S w w') (hn : ∀ k, row = some k → ¬ S k) : Own e size enc B w' v l row := by
 refine ⟨Nat.le_trans h.1 g.size, h.2.imp id ?_⟩
 rintro ⟨k, cap, tl, h1, h2, h3, h4, r⟩
 exact ⟨k, cap, tl, h1, h2, h3, h4.chg g (hn k h1), r⟩
theorem Own.below (h : Own e size enc B w v l row) (g : Below w.heap.size w w') : Own e size enc B w' v l row := h.chg (S := fun _ => False) (Chg.of_below g) (fun _ _ e => e)
theorem Own.empty (hB : B ≤ w.heap.size) (a : Option Addr) : Own e size enc B w (.slice a 0 0) ([] : List α) none := ⟨hB, Or.inl ⟨rfl, rfl, a, rfl⟩⟩
theorem Own.reads (he : ∀ d, (enc d).length = size) (h : Own e size enc B w v l row) : ∃ a c, v = .slice a l.length c ∧ l.length ≤ c ∧ c ≤ 9223372036854775807 ∧ (a = none → c = 0) ∧
  ∀ i d, l[i]? = some d → ∃ q, a = some q ∧ ∀ j u, (enc d)[j]? = some u → w.cell? (q.add (i * size + j)) = some u := by
 rcases h.2 with ⟨_, rfl, a, rfl⟩ | ⟨g, cap, tl, h1, rfl, h3, h4, h5, h6, h7⟩
 ·exact ⟨a, 0, rfl, by simp, by omega, fun _ => rfl, fun i d hd => by simp at hd⟩
 ·refine ⟨_, cap, rfl, h5, by unfold maxLen at h6; omega, (fun e => by cases e), fun i d hd => ⟨_, rfl, fun j u hu => ?_⟩⟩
  have hj : j < size := by have := (List.getElem?_eq_some_iff.1 hu).1; rwa [he] at this
  have hlt : i < l.length := (List.getElem?_eq_some_iff.1 hd).1
  have h8 : i * size + j < (l.flatMap enc).length := by
   rw [enc_length he]
   have : (i + 1) * size ≤ l.length * size := Nat.mul_le_mul_right _ hlt
   rw [Nat.succ_mul] at this; omega
  rw [Addr.add_lit, Nat.zero_add, h4.cell, List.getElem?_append_left h8, enc_get he l i d hd j hj]; exact hu
end
end Go.LB
