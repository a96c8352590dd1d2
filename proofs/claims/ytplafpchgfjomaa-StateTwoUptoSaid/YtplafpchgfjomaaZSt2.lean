import Derived.Test.YtplafpchgfjomaaZSt1
import Derived.Test.YtplafpchgfjomaaZSt12
import Derived.Test.YtplafpchgfjomaaZOwn
import Derived.Maps.AppendAt
import Derived.Test.YtplafpchgfjomaaZRegH
/- Taking trees off a reader, whole or cut: what stays, what was taken; numbers. -/
namespace Go.Proofs.Ytplafpchgfjomaa
open Go.RowKit Go.Buf Go.LB
set_option linter.unusedSimpArgs false
set_option linter.unusedVariables false
abbrev tkV (p : Nat) : Value := .agg #[.pointer (some ⟨p, 0, none⟩)]
def KeepI (lo hi : Nat) (w : World) (P : World → Prop) : Prop := ∀ w', (∀ k, lo ≤ k → k < hi → w'.heap[k]? = w.heap[k]?) → P w'
theorem KeepI.now {lo hi : Nat} {w : World} {P : World → Prop} (h : KeepI lo hi w P) : P w := h w fun _ _ _ => rfl
theorem KeepI.move {lo hi : Nat} {w w' : World} {P : World → Prop} (h : KeepI lo hi w P) (g : ∀ k, lo ≤ k → k < hi → w'.heap[k]? = w.heap[k]?) : KeepI lo hi w' P := fun w2 g2 => h w2 fun k h1 h2 => (g2 k h1 h2).trans (g k h1 h2)
theorem KeepI.wide {lo hi lo' hi' : Nat} {w : World} {P : World → Prop} (h : KeepI lo hi w P) (h1 : lo' ≤ lo) (h2 : hi ≤ hi') : KeepI lo' hi' w P := fun w2 g2 => h w2 fun k a b => g2 k (by omega) (by omega)
theorem KeepI.grown {lo hi : Nat} {w w' : World} {row : Option Nat} {P : World → Prop} (h : KeepI lo hi w P) (hh : hi ≤ w.heap.size) (g : w.grownBy w' row) (hr : ∀ k, row = some k → k < lo ∨ hi ≤ k) : KeepI lo hi w' P :=
 h.move fun k h1 h2 => g.block k (by omega) fun e => by have := hr k e.symm; omega
theorem KeepI.imp {lo hi : Nat} {w : World} {P Q : World → Prop} (h : KeepI lo hi w P) (g : ∀ w', P w' → Q w') : KeepI lo hi w Q := fun w2 g2 => g _ (h w2 g2)
theorem KeepI.and {lo hi lo2 hi2 : Nat} {w : World} {P Q : World → Prop} (h : KeepI lo hi w P) (g : KeepI lo2 hi2 w Q) {a b : Nat} (h1 : a ≤ lo) (h2 : hi ≤ b) (h3 : a ≤ lo2) (h4 : hi2 ≤ b) : KeepI a b w fun w => P w ∧ Q w := fun w2 g2 => ⟨(h.wide h1 h2) w2 g2, (g.wide h3 h4) w2 g2⟩
def Own1 (B : Nat) (w : World) (P : World → Prop) : Prop := ∃ lo hi, B ≤ lo ∧ hi ≤ w.heap.size ∧ KeepI lo hi w P
theorem Own1.now {B : Nat} {w : World} {P : World → Prop} (h : Own1 B w P) : P w := by obtain ⟨lo, hi, _, _, h⟩ := h; exact h.now
theorem Own1.base {B B' : Nat} {w : World} {P : World → Prop} (h : Own1 B w P) (hb : B' ≤ B) : Own1 B' w P := by obtain ⟨lo, hi, h1, h2, h⟩ := h; exact ⟨lo, hi, by omega, h2, h⟩
theorem Own1.grown {B q : Nat} {w w' : World} {P : World → Prop} (h : Own1 B w P) (g : w.grownBy w' (some q)) (hq : q < B) : Own1 B w' P := by
 obtain ⟨lo, hi, h1, h2, h⟩ := h
 exact ⟨lo, hi, h1, Nat.le_trans h2 g.size, h.grown h2 g fun k e => by cases e; omega⟩
theorem Own1.below {B : Nat} {w w' : World} {P : World → Prop} (h : Own1 B w P) (g : Below w.heap.size w w') : Own1 B w' P := by
 obtain ⟨lo, hi, h1, h2, h⟩ := h
 exact ⟨lo, hi, h1, Nat.le_trans h2 g.size, h.move fun k _ hk => g.block k (by omega)⟩
theorem Own1.imp {B : Nat} {w : World} {P Q : World → Prop} (h : Own1 B w P) (g : ∀ w', P w' → Q w') : Own1 B w Q := by obtain ⟨lo, hi, h1, h2, h⟩ := h; exact ⟨lo, hi, h1, h2, h.imp g⟩
theorem Own1.and {B : Nat} {w : World} {P Q : World → Prop} (h : Own1 B w P) (g : Own1 B w Q) : Own1 B w fun w => P w ∧ Q w := by
 obtain ⟨lo, hi, h1, h2, h⟩ := h
 obtain ⟨lo2, hi2, g1, g2, g⟩ := g
 exact ⟨B, w.heap.size, Nat.le_refl _, Nat.le_refl _, h.and g h1 h2 g1 g2⟩
theorem Own1.keep {B : Nat} {w : World} {P : World → Prop} (h : Own1 B w P) : KeepI B w.heap.size w P := by obtain ⟨lo, hi, h1, h2, h⟩ := h; exact h.wide h1 h2
abbrev Cs (size : Nat) : Type := {cs : List Value // cs.length = size}
def OBX {α : Type} (e : TypeId) (size B : Nat) (rel : World → List Value → α → Prop) (w : World) (u : Value) (l : List α) : Prop :=
 ∃ raws : List (Cs size), raws.length = l.length ∧ OB e size Subtype.val B w u raws ∧ ∀ (i : Nat) (r : Cs size) (x : α), raws[i]? = some r → l[i]? = some x → ∃ lo hi, B ≤ lo ∧ hi ≤ w.heap.size ∧ (∀ g, u.ownBlock = some g → g < lo ∨ hi ≤ g) ∧ KeepI lo hi w fun w => rel w r.val x
section
variable {α : Type} {e : TypeId} {size B : Nat} {rel : World → List Value → α → Prop} {w w' : World} {u : Value} {l : List α}
theorem OBX.nil (hB : B ≤ w.heap.size) : OBX e size B rel w (.slice none 0 0) [] := ⟨[], rfl, OB.nil hB, fun i r x h => by simp at h⟩
theorem OBX.grown {q : Nat} (h : OBX e size B rel w u l) (g : w.grownBy w' (some q)) (hq : q < B) : OBX e size B rel w' u l := by
 obtain ⟨raws, h1, h2, h3⟩ := h
 refine ⟨raws, h1, h2.grown g (fun k e => by cases e; exact hq), fun i r x hr hx => ?_⟩
 obtain ⟨lo, hi, a, b, c, d⟩ := h3 i r x hr hx
 exact ⟨lo, hi, a, Nat.le_trans b g.size, c, d.grown b g fun k e => by cases e; omega⟩
theorem OBX.below (h : OBX e size B rel w u l) (g : Below w.heap.size w w') : OBX e size B rel w' u l := by
 obtain ⟨raws, h1, h2, h3⟩ := h
 refine ⟨raws, h1, h2.below g, fun i r x hr hx => ?_⟩
 obtain ⟨lo, hi, a, b, c, d⟩ := h3 i r x hr hx
 exact ⟨lo, hi, a, Nat.le_trans b g.size, c, d.move fun k _ hk => g.block k (by omega)⟩
theorem OBX.le (h : OBX e size B rel w u l) : B ≤ w.heap.size := by obtain ⟨raws, h1, h2, h3⟩ := h; exact h2.1
theorem OBX.own (h : OBX e size B rel w u l) : ∀ k, u.ownBlock = some k → B ≤ k ∧ k < w.heap.size := by obtain ⟨raws, h1, h2, h3⟩ := h; exact h2.own
theorem OBX.reads (h : OBX e size B rel w u l) : ∃ a c, u = .slice a l.length c ∧ l.length ≤ c ∧ c ≤ 9223372036854775807 ∧ (a = none → c = 0) ∧
  Own1 B w fun w => ∀ i x, l[i]? = some x → ∃ q cs, a = some q ∧ cs.length = size ∧ rel w cs x ∧ ∀ j v, cs[j]? = some v → w.cell? (q.add (i * size + j)) = some v := by
 obtain ⟨raws, h1, h2, h3⟩ := h
 have he : ∀ d : Cs size, (Subtype.val d).length = size := fun d => d.2
 obtain ⟨a, c, hu, hn, hc, ha, _, _⟩ := h2.reads he
 rw [h1] at hu hn
 refine ⟨a, c, hu, hn, hc, ha, B, w.heap.size, Nat.le_refl _, Nat.le_refl _, fun w2 hw2 i x hx => ?_⟩
 have hil : i < raws.length := by rw [h1]; exact (List.getElem?_eq_some_iff.1 hx).1
 obtain ⟨lo, hi, b1, b2, b3, b4⟩ := h3 i raws[i] x (List.getElem?_eq_getElem hil) hx
 have o2 : OB e size Subtype.val 0 w2 u raws := by
  refine ⟨Nat.zero_le _, h2.2.1, ?_⟩
  rcases h2.2.2 with h4 | ⟨g, cap, cur, hv, hg, hh, r⟩
  ·exact Or.inl h4
  ·exact Or.inr ⟨g, cap, cur, hv, Nat.zero_le _, by rw [hw2 g hg (Array.getElem?_eq_some_iff.1 hh).1]; exact hh, r⟩
 obtain ⟨a', c', hu', _, _, _, _, hcell⟩ := o2.reads he
 rw [h1, hu] at hu'
 simp only [Value.slice.injEq, true_and] at hu'
 obtain ⟨rfl, rfl⟩ := hu'
 obtain ⟨q, hq, hcs⟩ := hcell i raws[i] (List.getElem?_eq_getElem hil)
 exact ⟨q, raws[i].val, hq, raws[i].2, b4 w2 (fun k k1 k2 => hw2 k (by omega) (by omega)), hcs⟩
theorem wpList_append_obx {P : Program} {ops : Array Oper} {rest : List Oper} {o : Oper} {ac : Act} {Q : Exit → Act → World → Prop} (hgd : o.guard = none) (s x : Operand) (t : TypeId)
  (ho : o.op = .call { callee := .builtin .append, args := #[s, x], argTypes := #[t, t] })
  (i0 : TypeInfo) (z : Value) (bytes : Nat) (ht : P.underlying t = some (.slice e)) (hi : P.info? e = some i0) (hz : i0.zero = some z)
  (hsize : i0.size = size) (hby : i0.bytes = bytes) (hzs : z.cells.size = size) (hsz : 0 < size) (hv : ac.eval s = u) (hb : OBX e size B rel w u l)
  (ad : Addr) (c : Nat) (cs : List Value) (d : α) (hx : ac.eval x = .slice (some ad) 1 c) (hl : cs.length = size) (hnews : ∀ j v, cs[j]? = some v → w.cell? (ad.add j) = some v) (h1 : ∀ v ∈ cs, v.oneCell' = true)
  (hsm : l.length + 1 ≤ 1000000000) (hbytes : (l.length + 1) * bytes ≤ 140737488355328)
  (hd : ∃ lo hi, B ≤ lo ∧ hi ≤ w.heap.size ∧ (∀ g, u.ownBlock = some g → g < lo ∨ hi ≤ g) ∧ KeepI lo hi w fun w => rel w cs d)
  (h : ∀ v' w', OBX e size B rel w' v' (l ++ [d]) → w.grownBy w' u.ownBlock → wpList P ops Q rest (ac.put o.dst v') w') : wpList P ops Q (o :: rest) ac w := by
 obtain ⟨raws, e1, e2, e3⟩ := hb
 refine wpList_append_own_at w hgd s x t ho B e i0 z size bytes ht hi hz hsize hby hzs hsz u raws.length (raws.flatMap Subtype.val) hv e2.2 ad 1 c cs hx (by rw [hl, Nat.one_mul]) hnews h1 (by simp only [maxLen]; omega) (by rw [e1]; exact hbytes) e2.1 ?_
 intro v' w' ho' hg' _ hown
 refine h v' w' ⟨raws ++ [⟨cs, hl⟩], by simp [e1], ⟨Nat.le_trans e2.1 hg'.size, ?_⟩, fun i r y hr hy => ?_⟩ hg'
 ·rw [List.length_append, List.flatMap_append]
  simpa using ho'
 ·have apart : ∀ lo hi, hi ≤ w.heap.size → (∀ g, u.ownBlock = some g → g < lo ∨ hi ≤ g) → ∀ g, v'.ownBlock = some g → g < lo ∨ hi ≤ g := fun lo hi h5 h6 g hg => by
   rcases hown with h7 | h7
   ·exact h6 g (by rw [← h7]; exact hg)
   ·rw [h7] at hg; cases hg; omega
  by_cases hik : i < l.length
  ·rw [List.getElem?_append_left (by omega)] at hr
   rw [List.getElem?_append_left hik] at hy
   obtain ⟨lo, hi, a, b, c, d⟩ := e3 i r y hr hy
   exact ⟨lo, hi, a, Nat.le_trans b hg'.size, apart lo hi b c, d.grown b hg' c⟩
  ·have hi1 : i < (raws ++ [(⟨cs, hl⟩ : Cs size)]).length := (List.getElem?_eq_some_iff.1 hr).1
   have : i = l.length := by rw [List.length_append, e1] at hi1; simp at hi1; omega
   subst this
   rw [← e1, List.getElem?_concat_length] at hr
   rw [List.getElem?_concat_length] at hy
   cases hr; cases hy
   obtain ⟨lo, hi, a, b, c, d⟩ := hd
   exact ⟨lo, hi, a, Nat.le_trans b hg'.size, apart lo hi b c, d.grown b hg' c⟩
end
def Tk {α : Type} (q : Nat) (rel : World → Value → α → Prop) (x : α) (v : Value) (w : World) : Prop := ∃ y, rel w v y ∧ (y = x ∨ Bad q w)
theorem Tk.step {α : Type} {q : Nat} {rel : World → Value → α → Prop} {x : α} {v : Value} {w w' : World} (h : Tk q rel x v w) (hr : ∀ y, rel w v y → rel w' v y) (hb : Bad q w → Bad q w') : Tk q rel x v w' := by
 obtain ⟨y, h1, h2⟩ := h; exact ⟨y, hr y h1, h2.imp id hb⟩
def relU (_ : World) (v : Value) (y : Nat) : Prop := v = .int .u64 (y : Int) ∧ y < 18446744073709551616
def relB (_ : World) (v : Value) (y : Nat) : Prop := v = .int .u8 (y : Int) ∧ y < 256
def relC (_ : World) (v : Value) (y : Nat) : Prop := v = .int .u32 (y : Int) ∧ y < 4294967296
def relZ (_ : World) (v : Value) (y : Int) : Prop := v = .int .i64 y ∧ -9223372036854775808 ≤ y ∧ y ≤ 9223372036854775807
def relS (most : Nat) (_ : World) (v : Value) (y : ByteArray) : Prop := v = .string y ∧ y.size ≤ most
def relD (_ : World) (v : Value) (y : Dt.Dot) : Prop := v = dotV y ∧ Dt.okD y
def relIs (B : Nat) (w : World) (v : Value) (y : List Lm.It) : Prop := ∃ a c, v = .slice a y.length c ∧ Own1 B w fun w => IRow w a c y
def relDs (B : Nat) (w : World) (v : Value) (y : List Dt.Dot) : Prop := ∃ a c, v = .slice a y.length c ∧ Own1 B w fun w => VRow w a c y
def relLs (B : Nat) (w : World) (v : Value) (y : List Lm.L) : Prop := ∃ a c, v = .slice a y.length c ∧ Own1 B w fun w => LRow w a c y
def relT (m B : Nat) (w : World) (v : Value) (y : List Tm.N) : Prop := ∃ a c, v = .slice a y.length c ∧ Own1 B w fun w => TRow w m a c y
theorem relIs.grown {B q : Nat} {w w' : World} {v : Value} {y : List Lm.It} (h : relIs B w v y) (g : w.grownBy w' (some q)) (hq : q < B) : relIs B w' v y := by obtain ⟨a, c, h1, h2⟩ := h; exact ⟨a, c, h1, h2.grown g hq⟩
theorem relDs.grown {B q : Nat} {w w' : World} {v : Value} {y : List Dt.Dot} (h : relDs B w v y) (g : w.grownBy w' (some q)) (hq : q < B) : relDs B w' v y := by obtain ⟨a, c, h1, h2⟩ := h; exact ⟨a, c, h1, h2.grown g hq⟩
theorem relLs.grown {B q : Nat} {w w' : World} {v : Value} {y : List Lm.L} (h : relLs B w v y) (g : w.grownBy w' (some q)) (hq : q < B) : relLs B w' v y := by obtain ⟨a, c, h1, h2⟩ := h; exact ⟨a, c, h1, h2.grown g hq⟩
theorem relT.grown {m B q : Nat} {w w' : World} {v : Value} {y : List Tm.N} (h : relT m B w v y) (g : w.grownBy w' (some q)) (hq : q < B) : relT m B w' v y := by obtain ⟨a, c, h1, h2⟩ := h; exact ⟨a, c, h1, h2.grown g hq⟩
theorem relIs.below {B : Nat} {w w' : World} {v : Value} {y : List Lm.It} (h : relIs B w v y) (g : Below w.heap.size w w') : relIs B w' v y := by obtain ⟨a, c, h1, h2⟩ := h; exact ⟨a, c, h1, h2.below g⟩
theorem relDs.below {B : Nat} {w w' : World} {v : Value} {y : List Dt.Dot} (h : relDs B w v y) (g : Below w.heap.size w w') : relDs B w' v y := by obtain ⟨a, c, h1, h2⟩ := h; exact ⟨a, c, h1, h2.below g⟩
theorem relLs.below {B : Nat} {w w' : World} {v : Value} {y : List Lm.L} (h : relLs B w v y) (g : Below w.heap.size w w') : relLs B w' v y := by obtain ⟨a, c, h1, h2⟩ := h; exact ⟨a, c, h1, h2.below g⟩
theorem relT.below {m B : Nat} {w w' : World} {v : Value} {y : List Tm.N} (h : relT m B w v y) (g : Below w.heap.size w w') : relT m B w' v y := by obtain ⟨a, c, h1, h2⟩ := h; exact ⟨a, c, h1, h2.below g⟩
theorem relIs.base {B B' : Nat} {w : World} {v : Value} {y : List Lm.It} (h : relIs B w v y) (g : B' ≤ B) : relIs B' w v y := by obtain ⟨a, c, h1, h2⟩ := h; exact ⟨a, c, h1, h2.base g⟩
theorem relDs.base {B B' : Nat} {w : World} {v : Value} {y : List Dt.Dot} (h : relDs B w v y) (g : B' ≤ B) : relDs B' w v y := by obtain ⟨a, c, h1, h2⟩ := h; exact ⟨a, c, h1, h2.base g⟩
theorem relLs.base {B B' : Nat} {w : World} {v : Value} {y : List Lm.L} (h : relLs B w v y) (g : B' ≤ B) : relLs B' w v y := by obtain ⟨a, c, h1, h2⟩ := h; exact ⟨a, c, h1, h2.base g⟩
theorem relT.base {m B B' : Nat} {w : World} {v : Value} {y : List Tm.N} (h : relT m B w v y) (g : B' ≤ B) : relT m B' w v y := by obtain ⟨a, c, h1, h2⟩ := h; exact ⟨a, c, h1, h2.base g⟩
def JX (q : Nat) (EJ : Nat → List Nat) (z : List Nat) (er H k : Nat) (w : World) : Prop := ∃ er', RdX w q (EJ k) z er' ∧ (er' = 0 → er = 0) ∧ H ≤ w.heap.size
theorem JX.below {q : Nat} {EJ : Nat → List Nat} {z : List Nat} {er H k : Nat} {w w' : World} (h : JX q EJ z er H k w) (hb : Below w.heap.size w w') : JX q EJ z er H k w' := by
 obtain ⟨er', h1, h2, h3⟩ := h; exact ⟨er', h1.below hb, h2, Nat.le_trans h3 hb.size⟩
theorem JX.grown {q b : Nat} {EJ : Nat → List Nat} {z : List Nat} {er H k : Nat} {w w' : World} (h : JX q EJ z er H k w) (g : w.grownBy w' (some b)) (hq : q < b) : JX q EJ z er H k w' := by
 obtain ⟨er', h1, h2, h3⟩ := h; exact ⟨er', h1.grown g (fun k e => by cases e; exact hq), h2, Nat.le_trans h3 g.size⟩
def RX (q : Nat) (EJ : Nat → List Nat) (z : List Nat) (er H n : Nat) (w w' : World) : Prop := w.grownBy w' (some q) ∧ (Bad q w → Bad q w') ∧ JX q EJ z er H n w'
theorem RX.mk' {A : Prop} {q : Nat} {EJ : Nat → List Nat} {z E E' : List Nat} {er er0 er9 H n : Nat} {w w9 : World} (hj : RdX w q E z er0) (he : er0 = 0 → er = 0) (hs : H ≤ w.heap.size) (hE : EJ n = E') (hv : er9 = 0 → A ∧ er0 = 0) (hr : RdX w9 q E' z er9) (hg : w.grownBy w9 (some q)) : RX q EJ z er H n w w9 :=
 ⟨hg, bad_step hj hr (fun h => (hv h).2), er9, by rw [hE]; exact hr, fun h => he (hv h).2, Nat.le_trans hs hg.size⟩
theorem num_and {v n er er' : Nat} (h : (v = n ∧ er' = 0 ∧ er = 0) ∨ (v = 0 ∧ er' ≠ 0)) : er' = 0 → v = n ∧ er = 0 := fun h0 => by omega
set_option maxHeartbeats 800000 in
theorem supTo_x (p n most : Nat) (hn : n ≤ most) (hm : most < 18446744073709551616) (R z : List Nat) (er : Nat) (w : World) (h : RdX w p (Cd.num n ++ R) z er) :
  Calls Try.prog 38 #[tkV p, .int .u64 most] w fun e w' => ∃ v er', e = .returned (.int .u64 (v : Nat)) ∧ ((v = n ∧ er' = 0 ∧ er = 0) ∨ (v = 0 ∧ er' ≠ 0)) ∧ RdX w' p R z er' ∧ w.grownBy w' (some p) := by
 have H := Lib.hid h; have HM := Lib.hid hm; have HP := Lib.hid h.lt; clear h hm
 go_enter Try.func38, Try.ntmps38
 go_wp2_with fail
 refine (Num_x n (by have := HM.out; omega) (H.out.below (below_box3 _ _ _))).mono ?_
 rintro e w1 ⟨v, er', rfl, hv, hr, hg⟩
 have hle : v ≤ most := by have := le_of_x hv; omega
 have HV := Lib.hid hv; have HR := Lib.hid hr; have HG := Lib.hid (grown_trans (grown_of_below (row := some p) (below_box3 w _ _)) hg (New.refl _ _)); clear hr hg hv
 go_wp2_with fail
 go_ret
 exact ⟨v, er', rfl, HV.out, HR.out, HG.out⟩
end Go.Proofs.Ytplafpchgfjomaa
