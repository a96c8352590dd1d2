import Derived.Test.YtplafpchgfjomaaZCode8
import Derived.Test.YtplafpchgfjomaaZOp8
import Derived.Test.YtplafpchgfjomaaZReg
/- Trees as bytes: plain mathematics. -/
namespace Go.Proofs.Ytplafpchgfjomaa
open Go.RowKit Go.Buf Go.LB
set_option linter.unusedSimpArgs false
set_option linter.unusedVariables false
def itE (x : Lm.It) : List Nat := Cd.num x.1 ++ (dotE x.2.1 ++ txtE x.2.2)
def lfE (x : Lm.L) : List Nat := Cd.num x.kind ++ (Cd.num (Cd.uns x.n) ++ (Cd.num x.time ++ (dotE x.dot ++ (txtE x.text ++ (Cd.num x.items.length ++ (x.items.flatMap itE ++ (Cd.num x.tombs.length ++ x.tombs.flatMap dotE)))))))
def ndE (f : List Tm.N → List Nat) (x : Tm.N) : List Nat := txtE x.name ++ (Cd.num x.leaves.length ++ (x.leaves.flatMap lfE ++ f x.under))
def trE : Nat → List Tm.N → List Nat
 | 0, l => Cd.num l.length
 | m + 1, l => Cd.num l.length ++ l.flatMap (ndE (trE m))
def deepT : Nat → List Tm.N → Prop
 | 0, l => l = []
 | m + 1, l => ∀ x ∈ l, deepT m x.under
def okLf (x : Lm.L) : Prop := okL x ∧ (∀ i ∈ x.items, okI i) ∧ (∀ d ∈ x.tombs, Dt.okD d)
def okT : Nat → List Tm.N → Prop
 | 0, _ => True
 | m + 1, l => ∀ x ∈ l, (x.name.size ≤ 100000000 ∧ x.leaves.length ≤ 100000000 ∧ x.under.length ≤ 100000000) ∧ (∀ y ∈ x.leaves, okLf y) ∧ okT m x.under
theorem flat_inj {α : Type} {f : α → List Nat} {P : α → Prop} (hf : ∀ a b R S, P a → P b → f a ++ R = f b ++ S → a = b ∧ R = S) : ∀ {l m : List α} {R S : List Nat}, l.length = m.length → (∀ d ∈ l, P d) → (∀ d ∈ m, P d) → l.flatMap f ++ R = m.flatMap f ++ S → l = m ∧ R = S
 | [], [], _, _, _, _, _, h => ⟨rfl, h⟩
 | d :: l, e :: m, R, S, hl, hd, he, h => by
  simp only [List.flatMap_cons, List.append_assoc] at h
  obtain ⟨rfl, h_0⟩ := hf _ _ _ _ (hd d (by simp)) (he e (by simp)) h
  obtain ⟨rfl, h_1⟩ := flat_inj hf (by simpa using hl) (fun x hx => hd x (by simp [hx])) (fun x hx => he x (by simp [hx])) h_0
  exact ⟨rfl, h_1⟩
theorem itE_inj (a b : Lm.It) (R S : List Nat) (ha : okI a) (hb : okI b) (h : itE a ++ R = itE b ++ S) : a = b ∧ R = S := by
 obtain ⟨a1, a2, a3⟩ := a
 obtain ⟨b1, b2, b3⟩ := b
 obtain ⟨p1, p2, p3⟩ := ha
 obtain ⟨q1, q2, q3⟩ := hb
 simp only [itE, List.append_assoc] at h p1 p2 p3 q1 q2 q3
 obtain ⟨rfl, h1⟩ := num_inj p1 q1 h
 obtain ⟨rfl, h2⟩ := dot_inj p2 q2 h1
 obtain ⟨rfl, h3⟩ := txt_inj p3 q3 h2
 exact ⟨rfl, h3⟩
theorem lfE_inj (a b : Lm.L) (R S : List Nat) (ha : okLf a) (hb : okLf b) (h : lfE a ++ R = lfE b ++ S) : a = b ∧ R = S := by
 obtain ⟨a1, a2, a3, a4, a5, a6, a7⟩ := a
 obtain ⟨b1, b2, b3, b4, b5, b6, b7⟩ := b
 obtain ⟨⟨p1, ⟨p2, p2'⟩, p3, p4, p5, p6, p7⟩, p8, p9⟩ := ha
 obtain ⟨⟨q1, ⟨q2, q2'⟩, q3, q4, q5, q6, q7⟩, q8, q9⟩ := hb
 simp only [lfE, List.append_assoc] at h p1 p2 p2' p3 p4 p5 p6 p7 p8 p9 q1 q2 q2' q3 q4 q5 q6 q7 q8 q9
 obtain ⟨rfl, h_1⟩ := num_inj (by omega) (by omega) h
 obtain ⟨rfl, h_2⟩ := int_inj p2 p2' q2 q2' h_1
 obtain ⟨rfl, h_3⟩ := num_inj p3 q3 h_2
 obtain ⟨rfl, h_4⟩ := dot_inj p4 q4 h_3
 obtain ⟨rfl, h_5⟩ := txt_inj (by omega) (by omega) h_4
 obtain ⟨e1, h_6⟩ := num_inj (by omega) (by omega) h_5
 obtain ⟨rfl, h_7⟩ := flat_inj (P := okI) itE_inj e1 p8 q8 h_6
 obtain ⟨e1, h_8⟩ := num_inj (by omega) (by omega) h_7
 obtain ⟨rfl, h_9⟩ := flatD_inj e1 p9 q9 h_8
 exact ⟨rfl, h_9⟩
theorem trE_inj : ∀ (m : Nat) (l k : List Tm.N) (R S : List Nat), deepT m l → deepT m k → okT m l → okT m k → l.length ≤ 1000000000 → k.length ≤ 1000000000 → trE m l ++ R = trE m k ++ S → l = k ∧ R = S
 | 0, l, k, R, S, hl, hk, _, _, _, _, h => by
  rw [show l = [] from hl, show k = [] from hk] at h ⊢
  exact ⟨rfl, List.append_cancel_left h⟩
 | m + 1, l, k, R, S, hl, hk, ol, ok, nl, nk, h => by
  simp only [trE, List.append_assoc] at h
  obtain ⟨e1, h_1⟩ := num_inj (by omega) (by omega) h
  refine flat_inj (P := fun x => deepT m x.under ∧ (x.name.size ≤ 100000000 ∧ x.leaves.length ≤ 100000000 ∧ x.under.length ≤ 100000000) ∧ (∀ y ∈ x.leaves, okLf y) ∧ okT m x.under) ?_ e1 (fun x hx => ⟨hl x hx, ol x hx⟩) (fun x hx => ⟨hk x hx, ok x hx⟩) h_1
  rintro ⟨a1, a2, a3⟩ ⟨b1, b2, b3⟩ R S ⟨p1, ⟨p2, p3, p4⟩, p5, p6⟩ ⟨q1, ⟨q2, q3, q4⟩, q5, q6⟩ h
  simp only [ndE, List.append_assoc, Tm.N.name_mk, Tm.N.leaves_mk, Tm.N.under_mk] at h p1 p2 p3 p4 p5 p6 q1 q2 q3 q4 q5 q6
  obtain ⟨rfl, h_2⟩ := txt_inj (by omega) (by omega) h
  obtain ⟨e1, h_3⟩ := num_inj (by omega) (by omega) h_2
  obtain ⟨rfl, h_4⟩ := flat_inj (P := okLf) lfE_inj e1 p5 q5 h_3
  obtain ⟨rfl, h_5⟩ := trE_inj m _ _ _ _ p1 q1 p6 q6 (by omega) (by omega) h_4
  exact ⟨rfl, h_5⟩
def szI (x : Lm.It) : Nat := 1 + x.2.2.size
def szL (x : Lm.L) : Nat := 1 + x.text.size + x.tombs.length + (x.items.map szI).sum
def szN (f : List Tm.N → Nat) (x : Tm.N) : Nat := 1 + x.name.size + f x.under + (x.leaves.map szL).sum
def sz : Nat → List Tm.N → Nat
 | 0, _ => 0
 | k + 1, l => (l.map (szN (sz k))).sum
theorem flat_len {α : Type} {f : α → List Nat} {g : α → Nat} (h : ∀ x, (f x).length ≤ 100 * g x) : ∀ l : List α, (l.flatMap f).length ≤ 100 * (l.map g).sum
 | [] => by simp
 | x :: l => by
  have h1 := h x
  have h2 := flat_len h l
  simp only [List.flatMap_cons, List.length_append, List.map_cons, List.sum_cons]
  omega
theorem itE_length (x : Lm.It) : (itE x).length ≤ 100 * szI x := by
 have h1 := num_lenO x.1; have h2 := dotE_length x.2.1; have h3 := txtE_length x.2.2
 simp only [itE, szI, List.length_append]; omega
theorem lfE_length (x : Lm.L) : (lfE x).length ≤ 100 * szL x := by
 have h1 := num_lenO x.kind; have h2 := num_lenO (Cd.uns x.n); have h3 := num_lenO x.time; have h4 := dotE_length x.dot; have h5 := txtE_length x.text; have h6 := num_lenO x.items.length; have h7 := num_lenO x.tombs.length
 have h8 := flat_len itE_length x.items
 have h9 : (x.tombs.flatMap dotE).length ≤ 30 * x.tombs.length := by
  induction x.tombs with
  | nil => simp
  | cons d l ih => have := dotE_length d; simp only [List.flatMap_cons, List.length_append, List.length_cons]; omega
 simp only [lfE, szL, List.length_append]; omega
theorem trE_length : ∀ (m k : Nat) (l : List Tm.N), m ≤ k → (trE m l).length ≤ 10 + 100 * sz k l
 | 0, k, l, _ => by have := num_lenO l.length; simp only [trE]; omega
 | m + 1, 0, l, h => by omega
 | m + 1, k + 1, l, h => by
  have h1 := num_lenO l.length
  have h2 := flat_len (f := ndE (trE m)) (g := szN (sz k)) (fun x => by
   have e1 := txtE_length x.name; have e2 := num_lenO x.leaves.length; have e3 := flat_len lfE_length x.leaves; have e4 := trE_length m k x.under (by omega)
   simp only [ndE, szN, List.length_append]; omega) l
  simp only [trE, sz, List.length_append]; omega
theorem num_pos (n : Nat) : 0 < (Cd.num n).length := (Cd.num_len n).1
theorem trE_pos (m : Nat) (l : List Tm.N) : 0 < (trE m l).length := by
 have := num_pos l.length
 cases m <;> simp only [trE, List.length_append] <;> omega
theorem le_sum {α : Type} {g : α → Nat} {l : List α} {x : α} (h : x ∈ l) : g x ≤ (l.map g).sum := by
 induction l with
 | nil => cases h
 | cons y l ih =>
  simp only [List.map_cons, List.sum_cons]
  rcases List.mem_cons.1 h with rfl | h
  ·omega
  ·have := ih h; omega
theorem len_sum {α : Type} {g : α → Nat} (hg : ∀ x, 1 ≤ g x) (l : List α) : l.length ≤ (l.map g).sum := by
 induction l with
 | nil => simp
 | cons y l ih => have := hg y; simp only [List.map_cons, List.sum_cons, List.length_cons]; omega
theorem szN_pos (f : List Tm.N → Nat) (x : Tm.N) : 1 ≤ szN f x := by unfold szN; omega
theorem sz_len (k : Nat) (l : List Tm.N) : l.length ≤ sz (k + 1) l := len_sum (szN_pos _) l
def takesL (y : Lm.L) : Prop := okLf y ∧ y.text.size ≤ 40 ∧ ∀ i ∈ y.items, i.2.2.size ≤ 40
def takesT : Nat → List Tm.N → Prop
 | 0, l => l = []
 | m + 1, l => l.length ≤ 100000000 ∧ ∀ x ∈ l, x.name.size ≤ 12 ∧ x.leaves.length ≤ 100000000 ∧ (∀ y ∈ x.leaves, takesL y) ∧ takesT m x.under
theorem takesL_of_may {y : Lm.L} (ho : okLf y) (h : Lm.may y = true) : takesL y := by
 refine ⟨ho, ?_⟩
 have hz : Lm.zeroL.text.size = 0 := rfl
 have hit : ∀ lo hi, Lm.mayItems lo hi y.items = true → ∀ i ∈ y.items, i.2.2.size ≤ 40 := fun lo hi hm i hi => by
  obtain ⟨k, hk⟩ := List.getElem?_of_mem hi
  obtain ⟨hk1, hk2⟩ := List.getElem?_eq_some_iff.1 hk
  have := Om.upTo_iff.1 hm k hk1
  simp only [Lm.itemAt, List.getD, hk, Option.getD_some, Lm.mayI, Bool.and_eq_true, decide_eq_true_eq] at this
  exact this.1.2
 unfold Lm.may at h
 split at h
 ·have g := Lm.same_iff.1 h
  simp only at g
  rw [g.2.2.2.2.1, g.2.2.2.2.2.1]
  exact ⟨by decide, by simp [Lm.zeroL]⟩
 ·split at h
  ·simp only [Bool.and_eq_true] at h
   have g := Lm.same_iff.1 h.1
   simp only at g
   refine ⟨?_, by rw [g.2.2.2.2.2.1]; simp [Lm.zeroL]⟩
   have h2 := h.2
   simp only [Lm.mayReg, Bool.or_eq_true] at h2
   rcases h2 with h2 | h2
   ·have g2 := Lm.same_iff.1 h2
    rw [g2.2.2.2.2.1]; decide
   ·simp only [Lm.mayI, Bool.and_eq_true, decide_eq_true_eq] at h2
    exact h2.2
  ·split at h
   ·simp only [Bool.and_eq_true, Lm.maySet] at h
    have g := Lm.same_iff.1 h.1
    simp only at g
    exact ⟨by rw [g.2.2.2.2.1]; decide, hit _ _ h.2.1⟩
   ·split at h
    ·simp only [Bool.and_eq_true, Lm.mayLog] at h
     have g := Lm.same_iff.1 h.1
     simp only at g
     exact ⟨by rw [g.2.2.2.2.1]; decide, hit _ _ h.2.1⟩
    ·cases h
theorem takesT_of_may (lt : ByteArray → ByteArray → Bool) : ∀ (m : Nat) (l : List Tm.N), okT m l → l.length ≤ 100000000 → Tm.may lt m l = true → takesT m l
 | 0, l, _, _, h => by simpa [Tm.may, takesT] using h
 | m + 1, l, ho, hn, h => by
  refine ⟨hn, fun x hx => ?_⟩
  obtain ⟨⟨o1, o2, o3⟩, o4, o5⟩ := ho x hx
  obtain ⟨k, hk⟩ := List.getElem?_of_mem hx
  obtain ⟨hk1, hk2⟩ := List.getElem?_eq_some_iff.1 hk
  have g := Om.upTo_iff.1 h k hk1
  simp only [Tm.nodeAt, List.getD, hk, Option.getD_some, Bool.and_eq_true] at g
  obtain ⟨_, ⟨⟨⟨g1, _⟩, g2⟩, g3⟩⟩ := g
  simp only [Om.isName, Bool.and_eq_true, decide_eq_true_eq] at g1
  refine ⟨g1.1.2, by omega, fun y hy => takesL_of_may (o4 y hy) ?_, takesT_of_may lt m _ o5 (by omega) g3⟩
  obtain ⟨j, hj⟩ := List.getElem?_of_mem hy
  obtain ⟨hj1, hj2⟩ := List.getElem?_eq_some_iff.1 hj
  have g4 := Om.upTo_iff.1 g2 j hj1
  simp only [Tm.leafAt, List.getD, hj, Option.getD_some, Bool.and_eq_true] at g4
  exact g4.2
theorem deepT_of_takes : ∀ (m : Nat) (l : List Tm.N), takesT m l → deepT m l
 | 0, _, h => h
 | m + 1, l, h => fun x hx => deepT_of_takes m _ (h.2 x hx).2.2.2
theorem okLf_of_row {w : World} {a : Option Addr} {cap : Nat} {l : List Lm.L} (h : LRow w a cap l) : ∀ y ∈ l, okLf y := fun y hy => by
 obtain ⟨i, hi⟩ := List.getElem?_of_mem hy
 obtain ⟨ho, p, ia, ic, da, dc, _, _, h1, h2⟩ := h.2.2.2 i y hi
 exact ⟨ho, h1.ok, h2.ok⟩
theorem okT_of_row {w : World} : ∀ (m : Nat) {d : Nat} {a : Option Addr} {cap : Nat} {l : List Tm.N}, TRow w d a cap l → okT m l
 | 0, _, _, _, _, _ => trivial
 | m + 1, 0, a, cap, l, h => fun x hx => by rw [h.1] at hx; cases hx
 | m + 1, d + 1, a, cap, l, h => fun x hx => by
  obtain ⟨i, hi⟩ := List.getElem?_of_mem hx
  obtain ⟨ho, p, la, lc, ba, bc, _, _, hl, ht⟩ := h.2.2.2 i x hi
  exact ⟨ho, okLf_of_row hl, okT_of_row m ht⟩
end Go.Proofs.Ytplafpchgfjomaa
namespace Go.Proofs.Ytplafpchgfjomaa
open Go.RowKit Go.Buf Go.LB
set_option linter.unusedSimpArgs false
set_option linter.unusedVariables false
theorem sum_succ {α : Type} {g : α → Nat} {l : List α} {j : Nat} {x : α} (h : l[j]? = some x) : ((l.take (j + 1)).map g).sum = ((l.take j).map g).sum + g x := by
 obtain ⟨hj, rfl⟩ := List.getElem?_eq_some_iff.1 h
 rw [List.take_succ_eq_append_getElem hj, List.map_append, List.sum_append]; simp
theorem sum_le {α : Type} (g : α → Nat) (l : List α) (j : Nat) : ((l.take j).map g).sum ≤ (l.map g).sum := by
 have h : l.map g = (l.take j).map g ++ (l.drop j).map g := by rw [← List.map_append, List.take_append_drop]
 rw [h, List.sum_append]; omega
theorem sum_all {α : Type} (g : α → Nat) {l : List α} {j : Nat} (h : l.length ≤ j) : ((l.take j).map g).sum = (l.map g).sum := by rw [List.take_of_length_le h]
theorem wrapadd (a b c : Nat) (h : c = a + b) (hc : c ≤ 1000000000) : IntKind.i64.wrap ((a : Int) + (b : Int)) = (c : Int) := by
 rw [h, Int.natCast_add]; simp [IntKind.wrap, IntKind.bits, IntKind.signed]; omega
theorem wrapadd64 (a b c : Nat) (h : c = a + b) (hc : c ≤ 1000000000) : wrap64 ((a : Int) + (b : Int)) = (c : Int) := by
 rw [h, Int.natCast_add]; exact IntWalk.wrap64_in _ (by omega)
theorem refsize_zero (d : Nat) (a : Option Addr) (n cap : Nat) (t : List Tm.N) (W : World) (ht : TRow W d a cap t) (hn : t.length = n) :
  Calls Try.prog 9 #[.slice a n cap, .int .i64 10] W fun e w' => e = .returned (.int .i64 0) ∧ Below W.heap.size W w' := by
 clear ht hn
 by_cases h0 : 0 < n
 all_goals
  go_enter Try.func9, Try.ntmps9
  go_wp2_with fail
  go_loopw [5, 6] (fun s i wr => s = .int .i64 0 ∧ i = .int .i64 0 ∧ wr = W) (fun _ _ _ => 0)
  case atStart => exact ⟨rfl, rfl, rfl⟩
  case round =>
   obtain ⟨rfl, rfl, rfl⟩ := hrel
   go_wp2_with fail
   go_ret
   exact ⟨rfl, Below.refl _ _⟩
set_option maxRecDepth 100000 in
set_option maxHeartbeats 12800000 in
theorem refsize_any : ∀ (k D : Nat), D + k = 10 → ∀ (d : Nat) (a : Option Addr) (n cap : Nat) (t : List Tm.N) (W : World), TRow W d a cap t → t.length = n → sz k t ≤ 100000000 →
  Calls Try.prog 9 #[.slice a n cap, .int .i64 (D : Int)] W fun e w' => e = .returned (.int .i64 (sz k t : Nat)) ∧ Below W.heap.size W w'
 | 0, D, hD, d, a, n, cap, t, W, ht, hn, hs => by
  obtain rfl : D = 10 := by omega
  exact refsize_zero d a n cap t W ht hn
 | k + 1, D, hD, d, a, n, cap, t, W, ht, hn, hs => by
  have IH := Lib.hid (refsize_any k)
  have hD10 : (D : Int) < 10 := by omega
  have hle := ht.le
  have hcap := ht.cap
  have hnb := sz_len k t
  rw [hn] at hle hnb
  have hnb2 : n ≤ 100000000 := by omega
  have HT := Lib.hid ht; have HN := Lib.hid hn; have HS := Lib.hid hs; have HDk := Lib.hid hD
  clear ht hn hs hD hnb
  go_enter Try.func9, Try.ntmps9
  go_wp2_with fail
  go_loopw [5, 6] (fun s i wr => ∃ j S : Nat, j ≤ n ∧ i = .int .i64 j ∧ s = .int .i64 S ∧ S = ((t.take j).map (szN (sz k))).sum ∧ Below W.heap.size W wr) (fun _ i _ => n - (intOf i).toNat)
  case atStart => exact ⟨0, 0, Nat.zero_le _, rfl, rfl, by simp, Below.refl _ _⟩
  case round =>
   obtain ⟨j, S, hj, rfl, rfl, hS, hbel⟩ := hrel
   have HBel := Lib.hid hbel; have HSe := Lib.hid hS; clear hbel hS
   by_cases hlt : j < n
   ·obtain ⟨x, hx⟩ := someN (l := t) (i := j) (by rw [HN.out]; exact hlt)
    obtain ⟨dm, blk, off, hdm, rfl, hblt, hc⟩ := HT.out.at (by rw [HN.out]; omega)
    obtain ⟨⟨s1, s2, s3⟩, la, lc, ba, bc, ⟨q0, q1, q2⟩, hlr, htr⟩ := hc j x hx
    have HW0 := Lib.hid q0; have HW1 := Lib.hid q1; have HW2 := Lib.hid q2
    replace q0 := bcell_of HBel.out q0
    replace q1 := bcell_of HBel.out q1
    replace q2 := bcell_of HBel.out q2
    have hsu := sum_succ (g := szN (sz k)) hx
    have hsl := sum_le (szN (sz k)) t (j + 1)
    have hsz : sz (k + 1) t = (t.map (szN (sz k))).sum := rfl
    obtain ⟨nm, ls, us⟩ := x
    simp only [Tm.N.name_mk, Tm.N.leaves_mk, Tm.N.under_mk, szN] at q0 q1 q2 hlr htr s1 s2 s3 hsu
    obtain ⟨bl, hbl⟩ : ∃ m, us.length = m := ⟨_, rfl⟩
    obtain ⟨ll, hll⟩ : ∃ m, ls.length = m := ⟨_, rfl⟩
    rw [hbl] at q2
    rw [hll] at q1 s2
    have hw1' := HW1.out
    simp only [Tm.N.leaves_mk, hll] at hw1'
    replace HW1 := Lib.hid hw1'
    clear hw1'
    obtain ⟨Z, hZ⟩ : ∃ Z, Z = sz k us := ⟨_, rfl⟩
    obtain ⟨S1, hS1⟩ : ∃ m, m = S + 1 := ⟨_, rfl⟩
    obtain ⟨S2, hS2⟩ : ∃ m, m = S1 + nm.size := ⟨_, rfl⟩
    obtain ⟨S3, hS3⟩ : ∃ m, m = S2 + Z := ⟨_, rfl⟩
    obtain ⟨D1, hD1⟩ : ∃ m, m = D + 1 := ⟨_, rfl⟩
    obtain ⟨SN, hSN⟩ : ∃ m, m = ((t.take (j + 1)).map (szN (sz k))).sum := ⟨_, rfl⟩
    have hle1 := hlr.le
    have hcap1 := hlr.cap
    rw [hll] at hle1
    have hSe := HSe.out
    have hss := HS.out
    have hDk := HDk.out
    rw [← hSN] at hsu hsl
    rw [← hSe, ← hZ] at hsu
    rw [hsz] at hss
    have hsum : S3 + (ls.map szL).sum = SN := by omega
    have hSNb : SN ≤ 100000000 := by omega
    have hzb : sz k us ≤ 100000000 := by omega
    have hw1 : IntKind.i64.wrap ((S : Int) + 1) = (S1 : Int) := wrapadd S 1 S1 hS1 (by omega)
    have hw2 : IntKind.i64.wrap ((S1 : Int) + (nm.size : Int)) = (S2 : Int) := wrapadd S1 nm.size S2 hS2 (by omega)
    have hw3 : IntKind.i64.wrap ((S2 : Int) + (Z : Int)) = (S3 : Int) := wrapadd S2 Z S3 hS3 (by omega)
    have hwd : IntKind.i64.wrap ((D : Int) + 1) = (D1 : Int) := wrapadd D 1 D1 hD1 (by omega)
    have hx1 : wrap64 ((S : Int) + 1) = (S1 : Int) := wrapadd64 S 1 S1 hS1 (by omega)
    have hx2 : wrap64 ((S1 : Int) + (nm.size : Int)) = (S2 : Int) := wrapadd64 S1 nm.size S2 hS2 (by omega)
    have hx3 : wrap64 ((S2 : Int) + (Z : Int)) = (S3 : Int) := wrapadd64 S2 Z S3 hS3 (by omega)
    have hxd : wrap64 ((D : Int) + 1) = (D1 : Int) := wrapadd64 D 1 D1 hD1 (by omega)
    have i0 : (0 : Int) ≤ (j : Int) := by omega
    have i1 : (j : Int) < (n : Int) := by omega
    have HSum := Lib.hid hsum; have HSN := Lib.hid hSN; have HQ0 := Lib.hid q0; have HQ1 := Lib.hid q1; have HQ2 := Lib.hid q2; have HTr := Lib.hid htr; have HLr := Lib.hid hlr; have HBl := Lib.hid hbl; have HSz := Lib.hid hzb; have HZ := Lib.hid hZ; have HLl := Lib.hid hll; have HD1 := Lib.hid (show D1 + k = 10 by omega); have HSNb := Lib.hid hSNb
    clear hc hx hsu hsl hsz hbl hll hZ hS1 hS2 hS3 hD1 hSN hSe hss hDk hsum hSNb hzb q0 q1 q2 htr hlr s1 s3
    go_wp2_with fail
    have T0 := Lib.hid (show TRow wr.drew dm ba bc us from TRow.below (HBel.out.trans ((Below.refl wr.heap.size wr).drew.mono HBel.out.size)) HTr.out)
    have hS0 : wr.drew.cell? ⟨blk, off + j * 3, none⟩ = some (.string nm) ∧ wr.drew.cell? ⟨blk, off + j * 3 + 2, none⟩ = some (.slice ba bl bc) := ⟨HQ0.out, HQ2.out⟩
    go_region_held3 (fun w' : World => w'.cell? ⟨blk, off + j * 3, none⟩ = some (.string nm) ∧ w'.cell? ⟨blk, off + j * 3 + 2, none⟩ = some (.slice ba bl bc))
     (first
      | assumption
      | go_keep)
     (first
      | (go_at_call 9; (with_reducible refine (IH.out D1 HD1.out dm ba bl bc us _ T0.out HBl.out HSz.out).mono ?_); rintro e w3 ⟨rfl, hb3⟩; rw [← HZ.out]; have hS := (show w3.cell? ⟨blk, off + j * 3, none⟩ = some (.string nm) ∧ w3.cell? ⟨blk, off + j * 3 + 2, none⟩ = some (.slice ba bl bc) from ⟨bcell_of (undrewX hb3) HQ0.out, bcell_of (undrewX hb3) HQ2.out⟩); have HB3 := Lib.hid (undrewX hb3); clear hb3))
    have HBw := Lib.hid (show Below W.heap.size W w3 from HBel.out.trans ((show Below wr.heap.size wr w3 from HB3.out).mono HBel.out.size))
    have q1 := bcell_of HBw.out HW1.out
    clear hw1 hw2 hw3 hwd hx1 hx2 hx3 hxd hS hS0
    go_wp2_with fail
    go_loopw [5, 7] (fun s i wr2 => ∃ j2 T : Nat, j2 ≤ ll ∧ i = .int .i64 j2 ∧ s = .int .i64 T ∧ T = S3 + ((ls.take j2).map szL).sum ∧ Below W.heap.size W wr2) (fun _ i _ => ll - (intOf i).toNat)
    case atStart => exact ⟨0, S3, Nat.zero_le _, rfl, rfl, by simp, HBw.out⟩
    case round =>
     obtain ⟨j2, T, hj2, rfl, rfl, hTe, hbel2⟩ := hrel
     have HBel2 := Lib.hid hbel2; have HTe := Lib.hid hTe; clear hbel2 hTe q1
     have q1 := bcell_of HBel2.out HW1.out
     by_cases hlt2 : j2 < ll
     ·obtain ⟨y, hy⟩ := someL (l := ls) (i := j2) (by rw [HLl.out]; exact hlt2)
      obtain ⟨lbk, loff, rfl, hlblt, hlc⟩ := HLr.out.at (by rw [HLl.out]; omega)
      obtain ⟨hok, ia, ic, da, dc, ⟨c0, c1, c2, c3, c4, c5, c6, c7, c8⟩, hir, hvr⟩ := hlc j2 y hy
      replace c0 := bcell_of HBel2.out c0; replace c1 := bcell_of HBel2.out c1; replace c2 := bcell_of HBel2.out c2; replace c3 := bcell_of HBel2.out c3; replace c4 := bcell_of HBel2.out c4; replace c5 := bcell_of HBel2.out c5; replace c6 := bcell_of HBel2.out c6; replace c7 := bcell_of HBel2.out c7; replace c8 := bcell_of HBel2.out c8
      have hsu := sum_succ (g := szL) hy
      have hsl := sum_le szL ls (j2 + 1)
      obtain ⟨yk, yn, yt, ⟨⟨yr, yi⟩, ys⟩, yu, li, ld⟩ := y
      obtain ⟨ok1, ok2, ok3, ok4, ok5, ok6, ok7⟩ := hok
      simp only [szL] at c0 c1 c2 c3 c4 c5 c6 c7 c8 hir hvr ok5 ok6 ok7 hsu
      obtain ⟨il, hil⟩ : ∃ m, li.length = m := ⟨_, rfl⟩
      obtain ⟨dl, hdl⟩ : ∃ m, ld.length = m := ⟨_, rfl⟩
      rw [hil] at c7 ok6
      rw [hdl] at c8 ok7 hsu
      have hile := hir.le
      have hicap := hir.cap
      rw [hil] at hile
      obtain ⟨TN, hTN⟩ : ∃ m, m = S3 + ((ls.take (j2 + 1)).map szL).sum := ⟨_, rfl⟩
      obtain ⟨T1, hT1⟩ : ∃ m, m = T + 1 := ⟨_, rfl⟩
      obtain ⟨T2, hT2⟩ : ∃ m, m = T1 + yu.size := ⟨_, rfl⟩
      obtain ⟨T3, hT3⟩ : ∃ m, m = T2 + dl := ⟨_, rfl⟩
      have hb1 := HSum.out; have hb2 := HSNb.out; have hTe := HTe.out
      have hsumT : T3 + (li.map szI).sum = TN := by omega
      have hTNb : TN ≤ 100000000 := by omega
      have hw1 : IntKind.i64.wrap ((T : Int) + 1) = (T1 : Int) := wrapadd T 1 T1 hT1 (by omega)
      have hw2 : IntKind.i64.wrap ((T1 : Int) + (yu.size : Int)) = (T2 : Int) := wrapadd T1 yu.size T2 hT2 (by omega)
      have hw3 : IntKind.i64.wrap ((T2 : Int) + (dl : Int)) = (T3 : Int) := wrapadd T2 dl T3 hT3 (by omega)
      have hx1 : wrap64 ((T : Int) + 1) = (T1 : Int) := wrapadd64 T 1 T1 hT1 (by omega)
      have hx2 : wrap64 ((T1 : Int) + (yu.size : Int)) = (T2 : Int) := wrapadd64 T1 yu.size T2 hT2 (by omega)
      have hx3 : wrap64 ((T2 : Int) + (dl : Int)) = (T3 : Int) := wrapadd64 T2 dl T3 hT3 (by omega)
      have k0 : (0 : Int) ≤ (j2 : Int) := by omega
      have k1 : (j2 : Int) < (ll : Int) := by omega
      have HSumT := Lib.hid hsumT; have HTN := Lib.hid hTN; have HTNb := Lib.hid hTNb; have HIr := Lib.hid hir; have HIl := Lib.hid hil
      have hbw2 := World.block_lt_of_cell? _ _ q1
      simp only at hbw2
      clear hlc hy hsu hsl hil hdl hTN hT1 hT2 hT3 hb1 hb2 hTe hsumT hTNb hir hvr ok1 ok2 ok3 ok4 ok5
      go_wp2_with fail
      go_loopw [5, 9] (fun s i wr3 => ∃ j3 U : Nat, j3 ≤ il ∧ i = .int .i64 j3 ∧ s = .int .i64 U ∧ U = T3 + ((li.take j3).map szI).sum ∧ Below W.heap.size W wr3 ∧ wr3.cell? ⟨wr.heap.size, 7, none⟩ = some (.slice ia il ic)) (fun _ i _ => il - (intOf i).toNat)
      case atStart => exact ⟨0, T3, Nat.zero_le _, rfl, rfl, by simp, HBel2.out.alloc HBel2.out.size _, by simp⟩
      case round =>
       obtain ⟨j3, U, hj3, rfl, rfl, hUe, hbel3, hbox⟩ := hrel
       have HBel3 := Lib.hid hbel3; have HUe := Lib.hid hUe; clear hbel3 hUe c0 c1 c2 c3 c4 c5 c6 c7 c8 hw1 hw2 hw3 hx1 hx2 hx3
       by_cases hlt3 : j3 < il
       ·obtain ⟨z, hz⟩ : ∃ z, li[j3]? = some z := ⟨li[j3]'(by rw [HIl.out]; exact hlt3), List.getElem?_eq_getElem _⟩
        have hir3 := HIr.out.below HBel3.out
        obtain ⟨ib, ioff, rfl, hiblt, hic⟩ := hir3.at (by rw [HIl.out]; omega)
        obtain ⟨_, _, _, _, z4⟩ := hic j3 z hz
        have hsu := sum_succ (g := szI) hz
        have hsl := sum_le szI li (j3 + 1)
        obtain ⟨zt, ⟨⟨zr, zi⟩, zs⟩, zu⟩ := z
        simp only [szI] at z4 hsu
        obtain ⟨UN, hUN⟩ : ∃ m, m = T3 + ((li.take (j3 + 1)).map szI).sum := ⟨_, rfl⟩
        obtain ⟨U1, hU1⟩ : ∃ m, m = U + 1 := ⟨_, rfl⟩
        have hb1 := HSumT.out; have hb2 := HTNb.out; have hUe := HUe.out
        have hUU : UN = U1 + zu.size := by omega
        have hw1 : IntKind.i64.wrap ((U : Int) + 1) = (U1 : Int) := wrapadd U 1 U1 hU1 (by omega)
        have hw2 : IntKind.i64.wrap ((U1 : Int) + (zu.size : Int)) = (UN : Int) := wrapadd U1 zu.size UN hUU (by omega)
        have hx1 : wrap64 ((U : Int) + 1) = (U1 : Int) := wrapadd64 U 1 U1 hU1 (by omega)
        have hx2 : wrap64 ((U1 : Int) + (zu.size : Int)) = (UN : Int) := wrapadd64 U1 zu.size UN hUU (by omega)
        have m0 : (0 : Int) ≤ (j3 : Int) := by omega
        have m1 : (j3 : Int) < (il : Int) := by omega
        have HUN := Lib.hid hUN
        clear hir3 hic hz hsu hsl hUN hU1 hb1 hb2 hUe hUU
        go_wp2_with fail
        go_roundw
        case rel => exact ⟨j3 + 1, UN, by omega, by go_num, rfl, HUN.out, HBel3.out, hbox⟩
        case measure => simp [intOf]; omega
       ·obtain rfl : j3 = il := by omega
        have hUe : U = TN := by
         have a1 := HUe.out; have a2 := HSumT.out
         rw [sum_all szI (by rw [HIl.out]; omega)] at a1
         omega
        subst hUe
        go_wp2_with fail
        go_roundw
        case rel => exact ⟨j2 + 1, U, by omega, by go_num, rfl, HTN.out, HBel3.out⟩
        case measure => simp [intOf]; omega
     ·obtain rfl : j2 = ll := by omega
      have hTe : T = SN := by
       have a1 := HTe.out; have a2 := HSum.out
       rw [sum_all szL (by rw [HLl.out]; omega)] at a1
       omega
      subst hTe
      go_wp2_with fail
      go_roundw
      case rel => exact ⟨j + 1, T, by omega, by go_num, rfl, HSN.out, HBel2.out⟩
      case measure => simp [intOf]; omega
   ·obtain rfl : j = n := by omega
    have hSe : S = sz (k + 1) t := by
     have a1 := HSe.out
     rw [sum_all (szN (sz k)) (by rw [HN.out]; omega)] at a1
     exact a1
    subst hSe
    go_wp2_with fail
    go_ret
    exact ⟨rfl, HBel.out⟩
theorem sgreat_any (d : Nat) (a : Option Addr) (n cap : Nat) (t : List Tm.N) (W : World) (ht : TRow W d a cap t) (hn : t.length = n) (hs : sz 10 t ≤ 100000000) :
  Calls Try.prog 4 #[.slice a n cap] W fun e w' => e = .returned (.bool (decide (1500 < sz 10 t))) ∧ Below W.heap.size W w' := by
 have HT := Lib.hid ht; have HN := Lib.hid hn; have HS := Lib.hid hs
 clear ht hn hs
 go_enter Try.func4, Try.ntmps4
 go_wp2_with fail
 refine (refsize_any 10 0 rfl d a n cap t W HT.out HN.out HS.out).mono ?_
 rintro e w1 ⟨rfl, hb⟩
 have HB := Lib.hid hb; clear hb
 obtain ⟨Z, hZ⟩ : ∃ Z, Z = sz 10 t := ⟨_, rfl⟩
 rw [← hZ]
 have HZ := Lib.hid hZ
 clear hZ
 go_wp2_with fail
 go_ret
 exact ⟨ret_bool (by rw [← HZ.out]; simp; omega), HB.out⟩
end Go.Proofs.Ytplafpchgfjomaa
