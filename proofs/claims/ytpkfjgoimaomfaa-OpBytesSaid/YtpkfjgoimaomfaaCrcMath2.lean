/- Plain mathematics: the long division of a row of bits by the polynomial leaves the register. No Go. -/
import Derived.Test.YtpkfjgoimaomfaaCrcMath
namespace Go.Proofs.Ytpkfjgoimaomfaa
namespace Crc
/-- bit i of the bytes, each byte's lowest one first -/
def bitsOf (l : List Nat) (i : Nat) : Bool := (l.getD (i / 8) 0).testBit (i % 8)
def bstep (reg : Nat) (m : Bool) : Nat := st (reg ^^^ (if m then 1 else 0))
def rg (l : List Nat) : Nat → Nat
  | 0 => 4294967295
  | i + 1 => bstep (rg l i) (bitsOf l i)
theorem rg_lt (l : List Nat) : ∀ i, rg l i < 4294967296
  | 0 => by simp [rg]
  | i + 1 => by
    unfold rg bstep
    refine st_lt (Nat.xor_lt_two_pow (n := 32) (rg_lt l i) ?_)
    split <;> omega
/-- the row: the bytes' bits, the first 32 turned -/
def row0 (l : List Nat) (j : Nat) : Bool := bitsOf l j != decide (j < 32)
/-- the row when i bits are divided off -/
def rowAt (l : List Nat) (i j : Nat) : Bool := if i ≤ j then bitsOf l j != (decide (j < i + 32) && (rg l i).testBit (j - i)) else false
theorem ones_testBit (k : Nat) : (4294967295 : Nat).testBit k = decide (k < 32) := by
  have := Nat.testBit_two_pow_sub_one 32 k
  simpa using this
theorem rowAt_zero (l : List Nat) (j : Nat) : rowAt l 0 j = row0 l j := by
  unfold rowAt row0
  rw [if_pos (Nat.zero_le _), rg, Nat.sub_zero, ones_testBit, Nat.zero_add]
  simp
def div32 (p : Nat) : Bool := [26, 23, 22, 16, 12, 11, 10, 8, 7, 5, 4, 2, 1, 0].contains p
theorem poly_bits : ∀ k, k < 32 → (3988292384 : Nat).testBit k = div32 (31 - k) := by decide +kernel
theorem rg_head (l : List Nat) (i : Nat) : rowAt l i i = (bitsOf l i != (rg l i).testBit 0) := by
  unfold rowAt; rw [if_pos (Nat.le_refl _)]; simp
theorem rg_next (l : List Nat) (i k : Nat) (hk : k < 32) : (rg l (i + 1)).testBit k = ((rg l i).testBit (k + 1) != (rowAt l i i && div32 (31 - k))) := by
  rw [rg_head, rg]
  unfold bstep
  obtain ⟨r, hr⟩ : ∃ r, r = rg l i := ⟨_, rfl⟩
  obtain ⟨m, hm⟩ : ∃ m, m = bitsOf l i := ⟨_, rfl⟩
  rw [← hr, ← hm]
  have hpar : ((r ^^^ (if m = true then 1 else 0)) % 2 = 1) ↔ (m != r.testBit 0) = true := by
    rw [xor_mod2]
    have h0 : r.testBit 0 = decide (r % 2 = 1) := Nat.testBit_zero r
    rw [h0]
    cases m <;> rcases Nat.mod_two_eq_zero_or_one r with h | h <;> simp [h]
  have hdiv : (r ^^^ (if m = true then 1 else 0)) / 2 = r / 2 := by
    rw [xor_div2]; cases m <;> simp
  unfold st
  rw [hdiv]
  have hd : (r / 2).testBit k = r.testBit (k + 1) := by rw [Nat.testBit_div_two]
  by_cases h : (m != r.testBit 0) = true
  · rw [if_pos (hpar.2 h), Nat.testBit_xor, hd, poly_bits k hk, h]; simp
  · rw [if_neg (fun c => h (hpar.1 c)), hd]
    have : (m != r.testBit 0) = false := by simpa using h
    rw [this]; simp
theorem rg_high (l : List Nat) (i k : Nat) (hk : 32 ≤ k) : (rg l i).testBit k = false :=
  Nat.testBit_lt_two_pow (Nat.lt_of_lt_of_le (rg_lt l i) (by have := Nat.pow_le_pow_right (n := 2) (by decide) hk; simpa using this))
/-- one step of the division -/
theorem rowAt_step (l : List Nat) (i j : Nat) (hj : i < j) : rowAt l (i + 1) j = (rowAt l i j != (rowAt l i i && (decide (j ≤ i + 32) && div32 (32 - (j - i))))) := by
  obtain ⟨d, rfl⟩ : ∃ d, j = i + 1 + d := ⟨j - (i + 1), by omega⟩
  have e1 : rowAt l (i + 1) (i + 1 + d) = (bitsOf l (i + 1 + d) != (decide (d < 32) && (rg l (i + 1)).testBit d)) := by
    unfold rowAt
    rw [if_pos (by omega), show i + 1 + d - (i + 1) = d from by omega]
    congr 2
    rw [decide_eq_decide]; omega
  have e2 : rowAt l i (i + 1 + d) = (bitsOf l (i + 1 + d) != (decide (d < 31) && (rg l i).testBit (d + 1))) := by
    unfold rowAt
    rw [if_pos (by omega), show i + 1 + d - i = d + 1 from by omega]
    congr 2
    rw [decide_eq_decide]; omega
  rw [e1, e2]
  by_cases hd : d < 32
  · rw [rg_next l i d hd, show 32 - (i + 1 + d - i) = 31 - d from by omega]
    have h1 : decide (d < 32) = true := by simp [hd]
    have h2 : decide (i + 1 + d ≤ i + 32) = true := by simp; omega
    rw [h1, h2]
    by_cases h31 : d < 31
    · have h3 : decide (d < 31) = true := by simp [h31]
      rw [h3]
      simp only [Bool.true_and, Bool.bne_assoc]
    · have h3 : decide (d < 31) = false := by simp [h31]
      have h4 : (rg l i).testBit (d + 1) = false := rg_high l i _ (by omega)
      rw [h3, h4]
      simp
  · have h1 : decide (d < 32) = false := by simp [hd]
    have h2 : decide (i + 1 + d ≤ i + 32) = false := by simp; omega
    have h3 : decide (d < 31) = false := by simp; omega
    rw [h1, h2, h3]; simp
theorem bitsOf_beyond (l : List Nat) (j : Nat) (h : 8 * l.length ≤ j) : bitsOf l j = false := by
  unfold bitsOf
  rw [List.getD_eq_getElem?_getD, List.getElem?_eq_none (by omega)]; simp
theorem rowAt_end (l : List Nat) (k : Nat) (hk : k < 32) : rowAt l (8 * l.length) (8 * l.length + k) = (rg l (8 * l.length)).testBit k := by
  unfold rowAt
  rw [if_pos (by omega), bitsOf_beyond l _ (by omega), show 8 * l.length + k - 8 * l.length = k from by omega]
  have : decide (8 * l.length + k < 8 * l.length + 32) = true := by simp [hk]
  rw [this]; simp
/-- eight bits are one byte -/
theorem bstep_eq (r y : Nat) : st (r ^^^ y) = bstep r (y.testBit 0) ^^^ (y / 2) := by
  have e : y = (if y.testBit 0 = true then 1 else 0) ^^^ (2 * (y / 2)) := by
    apply Nat.eq_of_testBit_eq
    intro i
    rw [Nat.testBit_xor]
    cases i with
    | zero =>
      have h2 : (2 * (y / 2)).testBit 0 = false := by simp [Nat.testBit_zero]
      rw [h2]
      have h0 : y.testBit 0 = decide (y % 2 = 1) := Nat.testBit_zero y
      rw [h0]
      rcases Nat.mod_two_eq_zero_or_one y with h | h <;> simp [h]
    | succ i =>
      have h2 : (2 * (y / 2)).testBit (i + 1) = y.testBit (i + 1) := by
        rw [← Nat.testBit_div_two, Nat.mul_div_cancel_left _ (by decide), Nat.testBit_div_two]
      rw [h2]
      split <;> simp [Nat.testBit_succ]
  unfold bstep
  conv => lhs; rw [e, ← Nat.xor_assoc, st_xor, st_even]
theorem bits8 (r x : Nat) (hx : x < 256) :
    bstep (bstep (bstep (bstep (bstep (bstep (bstep (bstep r (x.testBit 0)) (x.testBit 1)) (x.testBit 2)) (x.testBit 3)) (x.testBit 4)) (x.testBit 5)) (x.testBit 6)) (x.testBit 7) = st8 (r ^^^ x) := by
  have t : ∀ k, (x / 2 ^ k).testBit 0 = x.testBit k := fun k => by rw [Nat.testBit_div_two_pow]; simp
  have d : ∀ k, x / 2 ^ k / 2 = x / 2 ^ (k + 1) := fun k => by rw [Nat.div_div_eq_div_mul, ← Nat.pow_succ]
  have s : ∀ (q : Nat) (k : Nat), st (q ^^^ (x / 2 ^ k)) = bstep q (x.testBit k) ^^^ (x / 2 ^ (k + 1)) := fun q k => by rw [bstep_eq, t, d]
  have s0 : st (r ^^^ x) = bstep r (x.testBit 0) ^^^ (x / 2 ^ 1) := by have := s r 0; simpa using this
  have hz : x / 2 ^ 8 = 0 := by simp; omega
  unfold st8
  rw [s0, s _ 1, s _ 2, s _ 3, s _ 4, s _ 5, s _ 6, s _ 7, hz, Nat.xor_zero]
theorem rg_run (l : List Nat) (hl : ∀ x ∈ l, x < 256) : ∀ k, k ≤ l.length → rg l (8 * k) = run 4294967295 (l.take k)
  | 0, _ => by simp [rg, run]
  | k + 1, hk => by
    have ih := rg_run l hl k (by omega)
    have hlt : k < l.length := by omega
    have hx : l.getD k 0 = l[k] := by simp [List.getD, hlt]
    have hb : ∀ i, i < 8 → bitsOf l (8 * k + i) = (l[k]).testBit i := by
      intro i hi
      unfold bitsOf
      rw [show (8 * k + i) / 8 = k from by omega, show (8 * k + i) % 8 = i from by omega, hx]
    have e : 8 * (k + 1) = 8 * k + 7 + 1 := by omega
    rw [e]
    simp only [rg]
    have h7 := hb 7 (by omega); have h6 := hb 6 (by omega); have h5 := hb 5 (by omega); have h4 := hb 4 (by omega)
    have h3 := hb 3 (by omega); have h2 := hb 2 (by omega); have h1 := hb 1 (by omega); have h0 := hb 0 (by omega)
    rw [Nat.add_zero] at h0
    rw [h7, h6, h5, h4, h3, h2, h1, h0, ih, List.take_succ_eq_append_getElem hlt, run_snoc, byteStep_eq]
    exact bits8 _ _ (hl _ (List.getElem_mem _))
theorem sum_rg (l : List Nat) (hl : ∀ x ∈ l, x < 256) : 4294967295 - rg l (8 * l.length) = sum l := by
  rw [rg_run l hl l.length (Nat.le_refl _), List.take_length]; rfl
end Crc
end Go.Proofs.Ytpkfjgoimaomfaa
