/- Plain mathematics of layer 2: canonical numbers and their reading. No Go. -/
namespace Go.Proofs.Ytpkfjgoimaomfaa
namespace Cd
/-- a number's bytes, k + 1 of them at most -/
def numF : Nat → Nat → List Nat
  | 0, n => [n]
  | k + 1, n => if n < 128 then [n] else (n % 128 + 128) :: numF k (n / 128)
def num (n : Nat) : List Nat := numF 9 n
def ended (n i x : Nat) : Nat × Nat × Nat := if i = 9 ∧ 1 < x then (0, 0, 14) else if 0 < i ∧ x = 0 then (0, 0, 4) else (n, i + 1, 0)
/-- value, size and error of the number that bytes begin with, from place i on -/
def readF : Nat → Nat → Nat → List Nat → Nat × Nat × Nat
  | 0, _, _, _ => (0, 0, 14)
  | _ + 1, _, _, [] => (0, 0, 5)
  | f + 1, i, acc, x :: r => if x < 128 then ended (acc + x * 128 ^ i) i x else readF f (i + 1) (acc + (x - 128) * 128 ^ i) r
def rd (l : List Nat) : Nat × Nat × Nat := readF 10 0 0 l
theorem numF_byte : ∀ k n, n < 128 * 128 ^ k → ∀ x ∈ numF k n, x < 256 := by
  intro k
  induction k with
  | zero => intro n h x hx; simp [numF] at hx; omega
  | succ k ih =>
    intro n h x hx
    unfold numF at hx
    split at hx
    · simp at hx; omega
    · rw [Nat.pow_succ] at h
      simp only [List.mem_cons] at hx
      rcases hx with rfl | hx
      · omega
      · exact ih (n / 128) (by omega) x hx
theorem num_byte {n : Nat} (h : n < 18446744073709551616) : ∀ x ∈ num n, x < 256 := numF_byte 9 n (by omega)
theorem numF_len : ∀ k n, 1 ≤ (numF k n).length ∧ (numF k n).length ≤ k + 1 := by
  intro k
  induction k with
  | zero => intro n; simp [numF]
  | succ k ih =>
    intro n
    unfold numF
    split
    · simp
    · have := ih (n / 128); simp; omega
theorem num_len (n : Nat) : 1 ≤ (num n).length ∧ (num n).length ≤ 10 := numF_len 9 n
theorem num_small {n : Nat} (h : n < 128) : num n = [n] := by unfold num numF; rw [if_pos h]
/-- what is written is read again -/
theorem readF_numF : ∀ k i n acc r, k + i = 9 → n < 2 * 128 ^ k → (0 < i → 0 < n) → readF (k + 1) i acc (numF k n ++ r) = (acc + n * 128 ^ i, i + (numF k n).length, 0) := by
  intro k
  induction k with
  | zero =>
    intro i n acc r hk hn hi
    simp only [numF, List.cons_append, List.nil_append, readF]
    have : n < 128 := by omega
    rw [if_pos this]
    unfold ended
    have h9 : i = 9 := by omega
    subst h9
    have := hi (by omega)
    have e : ¬ (9 = 9 ∧ 1 < n) := by omega
    have e2 : ¬ (0 < 9 ∧ n = 0) := by omega
    rw [if_neg e, if_neg e2]; rfl
  | succ k ih =>
    intro i n acc r hk hn hi
    unfold numF
    split
    · rename_i hs
      simp only [List.cons_append, List.nil_append, readF]
      rw [if_pos hs]
      unfold ended
      have e : ¬ (i = 9 ∧ 1 < n) := by omega
      have e2 : ¬ (0 < i ∧ n = 0) := by omega
      rw [if_neg e, if_neg e2]; rfl
    · rename_i hs
      simp only [List.cons_append, readF]
      rw [if_neg (by omega)]
      rw [Nat.pow_succ] at hn
      have h1 := ih (i + 1) (n / 128) (acc + (n % 128 + 128 - 128) * 128 ^ i) r (by omega) (by omega) (by omega)
      rw [h1]
      have e1 : n % 128 + 128 - 128 = n % 128 := by omega
      rw [e1, Nat.pow_succ]
      have e2 : n = 128 * (n / 128) + n % 128 := (Nat.div_add_mod n 128).symm
      have e3 : acc + n % 128 * 128 ^ i + n / 128 * (128 ^ i * 128) = acc + n * 128 ^ i := by
        conv => rhs; rw [e2]
        rw [Nat.add_mul, Nat.mul_comm (128 ^ i) 128, ← Nat.mul_assoc, Nat.mul_comm (n / 128) 128]
        omega
      rw [e3, List.length_cons, show i + 1 + (numF k (n / 128)).length = i + ((numF k (n / 128)).length + 1) from by omega]
theorem rd_num {n : Nat} (h : n < 18446744073709551616) (r : List Nat) : rd (num n ++ r) = (n, (num n).length, 0) := by
  have := readF_numF 9 0 n 0 r rfl (by omega) (by omega)
  simpa [rd, num] using this
/-- cut ahead of its end a number is too short -/
theorem readF_cut : ∀ k i n acc m, k + i = 9 → m < (numF k n).length → readF (k + 1) i acc ((numF k n).take m) = (0, 0, 5) := by
  intro k
  induction k with
  | zero => intro i n acc m _ hm; simp [numF] at hm; subst hm; simp [readF]
  | succ k ih =>
    intro i n acc m hk hm
    unfold numF at hm ⊢
    split at hm
    · rename_i hs; rw [if_pos hs]
      simp at hm; subst hm; simp [readF]
    · rename_i hs; rw [if_neg hs]
      cases m with
      | zero => simp [readF]
      | succ m =>
        simp only [List.take_succ_cons, readF]
        rw [if_neg (by omega)]
        exact ih (i + 1) (n / 128) _ m (by omega) (by simpa using hm)
theorem rd_cut (n m : Nat) (h : m < (num n).length) : rd ((num n).take m) = (0, 0, 5) := readF_cut 9 0 n 0 m rfl h
theorem ended_size (n i x : Nat) : (ended n i x).2.1 ≤ i + 1 := by unfold ended; split <;> (try split) <;> simp
/-- a size is within the bytes that are there -/
theorem readF_size : ∀ f i acc l, (readF f i acc l).2.1 ≤ i + l.length := by
  intro f
  induction f with
  | zero => intro i acc l; simp [readF]
  | succ f ih =>
    intro i acc l
    cases l with
    | nil => simp [readF]
    | cons x r =>
      simp only [readF]
      split
      · have := ended_size (acc + x * 128 ^ i) i x; simp; omega
      · have := ih (i + 1) (acc + (x - 128) * 128 ^ i) r; simp; omega
theorem rd_size (l : List Nat) : (rd l).2.1 ≤ l.length := by have := readF_size 10 0 0 l; simpa [rd] using this
theorem readF_size10 : ∀ f i acc l, i + f = 10 → (readF f i acc l).2.1 ≤ 10 := by
  intro f
  induction f with
  | zero => intro i acc l _; simp [readF]
  | succ f ih =>
    intro i acc l h
    cases l with
    | nil => simp [readF]
    | cons x r =>
      simp only [readF]
      split
      · have := ended_size (acc + x * 128 ^ i) i x; omega
      · exact ih (i + 1) _ r (by omega)
theorem readF_lt : ∀ f i acc (l : List Nat), i + f = 10 → acc < 128 ^ i → (∀ x ∈ l, x < 256) → (readF f i acc l).1 < 18446744073709551616 := by
  intro f
  induction f with
  | zero => intro i acc l _ _ _; simp [readF]
  | succ f ih =>
    intro i acc l h ha hb
    cases l with
    | nil => simp [readF]
    | cons x r =>
      simp only [readF]
      split
      · rename_i hx
        unfold ended
        split
        · simp
        · split
          · simp
          · rename_i h9 _
            show acc + x * 128 ^ i < _
            have hp : 128 ^ i ≤ 128 ^ 9 := Nat.pow_le_pow_right (by omega) (by omega)
            by_cases hi : i = 9
            · subst hi
              have hx1 : x ≤ 1 := by omega
              have : x * 128 ^ 9 ≤ 1 * 128 ^ 9 := Nat.mul_le_mul_right _ hx1
              omega
            · have hp8 : 128 ^ i ≤ 128 ^ 8 := Nat.pow_le_pow_right (by omega) (by omega)
              have : x * 128 ^ i ≤ 127 * 128 ^ i := Nat.mul_le_mul_right _ (by omega)
              omega
      · rename_i hx
        by_cases hi : i = 9
        · have : f = 0 := by omega
          subst this; simp [readF]
        · have hx8 := hb x (by simp)
          refine ih (i + 1) _ r (by omega) ?_ (fun y hy => hb y (by simp [hy]))
          have : (x - 128) * 128 ^ i ≤ 127 * 128 ^ i := Nat.mul_le_mul_right _ (by omega)
          rw [Nat.pow_succ]; omega
theorem rd_lt {l : List Nat} (h : ∀ x ∈ l, x < 256) : (rd l).1 < 18446744073709551616 := readF_lt 10 0 0 l rfl (by decide) h
theorem rd_size10 (l : List Nat) : (rd l).2.1 ≤ 10 := readF_size10 10 0 0 l rfl
/-- beside an error there is nothing -/
theorem readF_err : ∀ f i acc (l : List Nat), (readF f i acc l).2.2 ≠ 0 → (readF f i acc l).1 = 0 ∧ (readF f i acc l).2.1 = 0 := by
  intro f
  induction f with
  | zero => intro i acc l _; simp [readF]
  | succ f ih =>
    intro i acc l h
    cases l with
    | nil => simp [readF]
    | cons x r =>
      simp only [readF] at h ⊢
      split
      · rename_i hx
        rw [if_pos hx] at h
        unfold ended at h ⊢
        split
        · simp
        · split
          · simp
          · rename_i h1 h2; rw [if_neg h1, if_neg h2] at h; exact absurd rfl h
      · rename_i hx
        rw [if_neg hx] at h
        exact ih _ _ _ h
theorem rd_err {l : List Nat} (h : (rd l).2.2 ≠ 0) : (rd l).1 = 0 ∧ (rd l).2.1 = 0 := readF_err 10 0 0 l h
/-- the number that stands for a whole one -/
def uns (m : Int) : Nat := if m < 0 then (2 * (-m - 1) + 1).toNat else (2 * m).toNat
def sgn (n : Nat) : Int := if n % 2 = 1 then -(n / 2 : Nat) - 1 else (n / 2 : Nat)
theorem sgn_uns (m : Int) : sgn (uns m) = m := by
  unfold uns sgn
  split
  · rw [if_pos (by omega)]; omega
  · rw [if_neg (by omega)]; omega
theorem uns_lt {m : Int} (h1 : -9223372036854775808 ≤ m) (h2 : m ≤ 9223372036854775807) : uns m < 18446744073709551616 := by
  unfold uns; split <;> omega
theorem sgn_bd {n : Nat} (h : n < 18446744073709551616) : -9223372036854775808 ≤ sgn n ∧ sgn n ≤ 9223372036854775807 := by
  unfold sgn; split <;> omega
/-- the text that bytes begin with: its bytes, how many bytes there are in all, the error -/
def rdText (l : List Nat) (most : Int) : List Nat × Nat × Nat :=
  if (rd l).2.2 ≠ 0 then ([], 0, (rd l).2.2) else if (max most 0).toNat < (rd l).1 then ([], 0, 3) else if l.length - (rd l).2.1 < (rd l).1 then ([], 0, 5)
  else ((l.drop (rd l).2.1).take (rd l).1, (rd l).2.1 + (rd l).1, 0)
theorem rdText_text (s r : List Nat) (most : Int) (hm : (s.length : Int) ≤ most) (hs : s.length < 18446744073709551616) : rdText (num s.length ++ (s ++ r)) most = (s, (num s.length).length + s.length, 0) := by
  unfold rdText
  have h := rd_num hs (s ++ r)
  rw [h]
  simp only
  rw [if_neg (by simp), if_neg (by omega), if_neg (by simp)]
  simp
def frame (sum : List Nat → List Nat) (b : List Nat) : List Nat := (num b.length ++ b) ++ sum (num b.length ++ b)
/-- the frame that bytes begin with: its body, how many bytes, the error -/
def unframe (ends : List Nat → Bool) (l : List Nat) : List Nat × Nat × Nat :=
  if (rd l).2.2 ≠ 0 then ([], 0, (rd l).2.2) else if 1048576 < (rd l).1 then ([], 0, 3) else if l.length < (rd l).2.1 + (rd l).1 + 4 then ([], 0, 5)
  else if ends (l.take ((rd l).2.1 + (rd l).1 + 4)) then ((l.drop (rd l).2.1).take (rd l).1, (rd l).2.1 + (rd l).1 + 4, 0) else ([], 0, 6)
end Cd
end Go.Proofs.Ytpkfjgoimaomfaa
