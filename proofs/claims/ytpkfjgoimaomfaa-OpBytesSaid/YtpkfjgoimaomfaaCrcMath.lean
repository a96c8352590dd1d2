/- Plain mathematics of CRC-32: the register's step, eight of them, their linearity and injectivity. No Go. -/
namespace Go.Proofs.Ytpkfjgoimaomfaa
namespace Crc

def st (r : Nat) : Nat := if r % 2 = 1 then (r / 2) ^^^ 3988292384 else r / 2
def stn : Nat → Nat → Nat
  | 0, r => r
  | n + 1, r => stn n (st r)
def st8 (r : Nat) : Nat := st (st (st (st (st (st (st (st r)))))))
def byteStep (reg x : Nat) : Nat := st8 ((reg % 256) ^^^ x) ^^^ (reg / 256)
def run (reg : Nat) (l : List Nat) : Nat := l.foldl byteStep reg
def more (sum : Nat) (l : List Nat) : Nat := 4294967295 - run (4294967295 - sum) l
def sum (l : List Nat) : Nat := more 0 l

theorem xor_mod2 (a b : Nat) : (a ^^^ b) % 2 = (a % 2) ^^^ (b % 2) := by
  have := @Nat.xor_mod_two_pow a b 1
  simpa using this
theorem xor_div2 (a b : Nat) : (a ^^^ b) / 2 = (a / 2) ^^^ (b / 2) := by
  have := @Nat.xor_div_two_pow a b 1
  simpa using this
theorem st_xor (a b : Nat) : st (a ^^^ b) = st a ^^^ st b := by
  unfold st
  rw [xor_mod2, xor_div2]
  rcases Nat.mod_two_eq_zero_or_one a with h | h <;> rcases Nat.mod_two_eq_zero_or_one b with k | k <;> simp [h, k]
  · rw [Nat.xor_assoc]
  · rw [Nat.xor_assoc, Nat.xor_assoc, Nat.xor_comm (b / 2)]
  · have : a / 2 ^^^ 3988292384 ^^^ (b / 2 ^^^ 3988292384) = a / 2 ^^^ b / 2 ^^^ (3988292384 ^^^ 3988292384) := by ac_rfl
    rw [this]; simp
theorem st8_xor (a b : Nat) : st8 (a ^^^ b) = st8 a ^^^ st8 b := by simp [st8, st_xor]
theorem st_lt {r : Nat} (h : r < 4294967296) : st r < 4294967296 := by
  unfold st
  split
  · exact Nat.xor_lt_two_pow (n := 32) (by omega) (by omega)
  · omega
theorem st8_lt {r : Nat} (h : r < 4294967296) : st8 r < 4294967296 := by
  unfold st8; exact st_lt (st_lt (st_lt (st_lt (st_lt (st_lt (st_lt (st_lt h)))))))
theorem st_even (r : Nat) : st (2 * r) = r := by unfold st; rw [if_neg (by omega)]; omega
theorem st8_shift (h : Nat) : st8 (256 * h) = h := by
  have e : 256 * h = 2 * (2 * (2 * (2 * (2 * (2 * (2 * (2 * h))))))) := by omega
  rw [e]; simp [st8, st_even]
theorem split256 (r : Nat) : r = (r % 256) ^^^ (256 * (r / 256)) := by
  have e : (256 * (r / 256)) ||| (r % 256) = 256 * (r / 256) + r % 256 := by
    have := Nat.two_pow_add_eq_or_of_lt (i := 8) (b := r % 256) (Nat.mod_lt _ (by decide)) (r / 256)
    simpa using this.symm
  have e2 : (256 * (r / 256)) ^^^ (r % 256) = (256 * (r / 256)) ||| (r % 256) := by
    apply Nat.eq_of_testBit_eq
    intro i
    simp only [Nat.testBit_xor, Nat.testBit_or]
    have h1 : (256 * (r / 256)).testBit i = (decide (8 ≤ i) && (r / 256).testBit (i - 8)) := by
      have := Nat.testBit_two_pow_mul (i := 8) (a := r / 256) (j := i)
      simpa using this
    have h2 : (r % 256).testBit i = (decide (i < 8) && r.testBit i) := by
      have := Nat.testBit_mod_two_pow r 8 i
      simpa using this
    rw [h1, h2]
    by_cases hi : i < 8
    · simp [hi, show ¬ 8 ≤ i from by omega]
    · simp [hi]
  rw [Nat.xor_comm, e2, e]; omega
theorem byteStep_eq (reg x : Nat) : byteStep reg x = st8 (reg ^^^ x) := by
  unfold byteStep
  have e : reg ^^^ x = (reg % 256 ^^^ x) ^^^ (256 * (reg / 256)) := by
    conv => lhs; rw [split256 reg]
    ac_rfl
  rw [e, st8_xor (reg % 256 ^^^ x), st8_shift]
theorem byteStep_lt {reg x : Nat} (h : reg < 4294967296) (hx : x < 256) : byteStep reg x < 4294967296 := by
  rw [byteStep_eq]; exact st8_lt (Nat.xor_lt_two_pow (n := 32) h (by omega))

/-- The highest bit of the polynomial tells which bit fell out: a step loses nothing. -/
theorem st_inj {a b : Nat} (ha : a < 4294967296) (hb : b < 4294967296) (h : st a = st b) : a = b := by
  have key : ∀ r : Nat, r < 4294967296 → (st r).testBit 31 = decide (r % 2 = 1) := by
    intro r hr
    unfold st
    have h31 : (r / 2).testBit 31 = false := Nat.testBit_lt_two_pow (by omega)
    split
    · rename_i hh; rw [Nat.testBit_xor, h31, hh]; decide
    · rename_i hh; rw [h31]; simp [hh]
  have k := key a ha
  rw [h, key b hb] at k
  have hm : a % 2 = 1 ↔ b % 2 = 1 := by
    constructor
    · intro h1; rw [h1] at k; simpa using k
    · intro h1; rw [h1] at k; simpa using k.symm
  have hd : a / 2 = b / 2 := by
    unfold st at h
    by_cases h1 : b % 2 = 1
    · rw [if_pos (hm.2 h1), if_pos h1] at h
      have := congrArg (· ^^^ 3988292384) h
      simpa [Nat.xor_assoc] using this
    · rw [if_neg (fun c => h1 (hm.1 c)), if_neg h1] at h
      exact h
  omega
theorem st8_inj {a b : Nat} (ha : a < 4294967296) (hb : b < 4294967296) (h : st8 a = st8 b) : a = b := by
  unfold st8 at h
  have l1a := st_lt ha; have l2a := st_lt l1a; have l3a := st_lt l2a; have l4a := st_lt l3a; have l5a := st_lt l4a; have l6a := st_lt l5a; have l7a := st_lt l6a
  have l1b := st_lt hb; have l2b := st_lt l1b; have l3b := st_lt l2b; have l4b := st_lt l3b; have l5b := st_lt l4b; have l6b := st_lt l5b; have l7b := st_lt l6b
  exact st_inj ha hb (st_inj l1a l1b (st_inj l2a l2b (st_inj l3a l3b (st_inj l4a l4b (st_inj l5a l5b (st_inj l6a l6b (st_inj l7a l7b h)))))))
theorem xor_cancel {a b c : Nat} (h : a ^^^ c = b ^^^ c) : a = b := by
  have := congrArg (· ^^^ c) h
  simpa [Nat.xor_assoc] using this
theorem xor_cancel_left {a b c : Nat} (h : c ^^^ a = c ^^^ b) : a = b := by
  rw [Nat.xor_comm c, Nat.xor_comm c] at h; exact xor_cancel h
theorem run_lt : ∀ (l : List Nat) (reg : Nat), reg < 4294967296 → (∀ x ∈ l, x < 256) → run reg l < 4294967296
  | [], _, h, _ => h
  | x :: l, reg, h, hl => run_lt l _ (byteStep_lt h (hl x (by simp))) (fun y hy => hl y (by simp [hy]))
theorem run_append (reg : Nat) (l m : List Nat) : run reg (l ++ m) = run (run reg l) m := by simp [run]
theorem run_snoc (reg : Nat) (l : List Nat) (x : Nat) : run reg (l ++ [x]) = byteStep (run reg l) x := by simp [run]
theorem run_inj : ∀ (l : List Nat) (a b : Nat), a < 4294967296 → b < 4294967296 → (∀ x ∈ l, x < 256) → run a l = run b l → a = b
  | [], _, _, _, _, _, h => h
  | x :: l, a, b, ha, hb, hl, h => by
    have hx := hl x (by simp)
    have h' := run_inj l _ _ (byteStep_lt ha hx) (byteStep_lt hb hx) (fun y hy => hl y (by simp [hy])) h
    rw [byteStep_eq, byteStep_eq] at h'
    exact xor_cancel (st8_inj (Nat.xor_lt_two_pow (n := 32) ha (by omega)) (Nat.xor_lt_two_pow (n := 32) hb (by omega)) h')
theorem more_lt (s : Nat) (l : List Nat) : more s l < 4294967296 := by unfold more; omega
theorem more_nil (s : Nat) (h : s < 4294967296) : more s [] = s := by simp [more, run]; omega
theorem more_append (s : Nat) (l m : List Nat) (hs : s < 4294967296) (hl : ∀ x ∈ l, x < 256) : more (more s l) m = more s (l ++ m) := by
  unfold more
  have h := run_lt l (4294967295 - s) (by omega) hl
  rw [run_append, show 4294967295 - (4294967295 - run (4294967295 - s) l) = run (4294967295 - s) l from by omega]
/-- One byte another one: the sum is another one. -/
theorem sum_set_ne (l : List Nat) (i x : Nat) (hi : i < l.length) (hl : ∀ y ∈ l, y < 256) (hx : x < 256) (hne : x ≠ l.getD i 0) : sum (l.set i x) ≠ sum l := by
  intro h
  have hlt : ∀ m : List Nat, (∀ y ∈ m, y < 256) → run 4294967295 m < 4294967296 := fun m hm => run_lt m _ (by omega) hm
  have e1 : l = l.take i ++ l.getD i 0 :: l.drop (i + 1) := by
    have h0 : l.getD i 0 = l[i] := by simp [List.getD, hi]
    rw [h0]
    have := List.take_append_drop i l
    rw [List.drop_eq_getElem_cons hi] at this
    exact this.symm
  have e2 : l.set i x = l.take i ++ x :: l.drop (i + 1) := by
    rw [List.set_eq_take_append_cons_drop, if_pos hi]
  have hset : ∀ y ∈ l.set i x, y < 256 := fun y hy => by
    rcases List.mem_or_eq_of_mem_set hy with h1 | h1
    · exact hl y h1
    · omega
  have ha := hlt l hl
  have hb := hlt _ hset
  have hr : run 4294967295 (l.set i x) = run 4294967295 l := by
    unfold sum more at h
    simp only [Nat.sub_zero] at h
    omega
  have hg : l.getD i 0 < 256 := by
    have : l.getD i 0 ∈ l := by simp [List.getD, hi]
    exact hl _ this
  have hp : run 4294967295 (l.take i) < 4294967296 := hlt _ (fun y hy => hl y (List.mem_of_mem_take hy))
  rw [e2] at hr
  conv at hr => rhs; rw [e1]
  rw [run_append, run_append] at hr
  have hr2 : run (byteStep (run 4294967295 (l.take i)) x) (l.drop (i + 1)) = run (byteStep (run 4294967295 (l.take i)) (l.getD i 0)) (l.drop (i + 1)) := hr
  have h3 := run_inj _ _ _ (byteStep_lt hp hx) (byteStep_lt hp hg) (fun y hy => hl y (List.mem_of_mem_drop hy)) hr2
  rw [byteStep_eq, byteStep_eq] at h3
  have h4 := st8_inj (Nat.xor_lt_two_pow (n := 32) hp (by omega)) (Nat.xor_lt_two_pow (n := 32) hp (by omega)) h3
  exact hne (xor_cancel_left h4)

/-- The sum's four bytes, the lowest one first. -/
def four (s : Nat) : List Nat := [s % 256, s / 256 % 256, s / 65536 % 256, s / 16777216 % 256]
theorem four_inj {a b : Nat} (ha : a < 4294967296) (hb : b < 4294967296) (h : four a = four b) : a = b := by
  simp [four] at h; omega
def ends (l : List Nat) : Bool := decide (4 ≤ l.length) && (l.drop (l.length - 4) == four (sum (l.take (l.length - 4))))
theorem known1 : sum [49, 50, 51, 52, 53, 54, 55, 56, 57] = 3421780262 := by decide +kernel
theorem known2 : sum [] = 0 := by decide +kernel
theorem known4 : ends [0, 0, 0, 0] = true := by decide +kernel
theorem known3 : more (sum [49, 50, 51, 52]) [53, 54, 55, 56, 57] = 3421780262 := by decide +kernel
theorem four_length (s : Nat) : (four s).length = 4 := rfl
theorem ends_append (l : List Nat) : ends (l ++ four (sum l)) = true := by
  have : (l ++ four (sum l)).length - 4 = l.length := by simp [four_length]
  simp only [ends, this]
  simp [four_length]
theorem ends_set (l : List Nat) (i x : Nat) (hl : ∀ y ∈ l, y < 256) (hx : x < 256) (hi : i < l.length + 4) :
    ends ((l ++ four (sum l)).set i x) = (x == (l ++ four (sum l)).getD i 0) := by
  obtain ⟨g, hg0⟩ : ∃ g, g = (l ++ four (sum l)).getD i 0 := ⟨_, rfl⟩
  rw [← hg0]
  by_cases he : x = g
  · have hs : (l ++ four (sum l)).set i x = l ++ four (sum l) := by
      rw [he, hg0]
      apply List.ext_getElem (by simp)
      intro j h1 h2
      by_cases hj : i = j
      · subst hj
        rw [List.getElem_set_self, List.getD_eq_getElem?_getD, List.getElem?_eq_getElem h2]; rfl
      · rw [List.getElem_set_ne hj]
    rw [hs, ends_append, he]; simp
  · have hb : (x == g) = false := by simp [he]
    rw [hb]
    have hlen : ((l ++ four (sum l)).set i x).length - 4 = l.length := by simp [four_length]
    have hge : 4 ≤ ((l ++ four (sum l)).set i x).length := by simp [four_length]
    simp only [ends, hlen, hge, decide_true, Bool.true_and]
    by_cases hlt : i < l.length
    · have e : (l ++ four (sum l)).set i x = l.set i x ++ four (sum l) := by rw [List.set_append, if_pos hlt]
      rw [e]
      have t : (l.set i x ++ four (sum l)).take l.length = l.set i x := by
        rw [← List.length_set (as := l) (i := i) (a := x)]; simp
      have d : (l.set i x ++ four (sum l)).drop l.length = four (sum l) := by
        rw [← List.length_set (as := l) (i := i) (a := x)]; simp
      rw [t, d]
      have hg : (l ++ four (sum l)).getD i 0 = l.getD i 0 := by simp [List.getD, List.getElem?_append, hlt]
      have hne := sum_set_ne l i x hlt hl hx (by rw [← hg, ← hg0]; exact he)
      rw [beq_eq_false_iff_ne]
      intro hf
      exact hne (four_inj (more_lt 0 l) (more_lt 0 _) hf).symm
    · have e : (l ++ four (sum l)).set i x = l ++ (four (sum l)).set (i - l.length) x := by rw [List.set_append, if_neg hlt]
      rw [e]
      simp only [List.take_left, List.drop_left]
      rw [beq_eq_false_iff_ne]
      intro hf
      apply he
      rw [hg0]
      have h1 : ((four (sum l)).set (i - l.length) x).getD (i - l.length) 0 = (four (sum l)).getD (i - l.length) 0 := by rw [hf]
      have h2 : ((four (sum l)).set (i - l.length) x).getD (i - l.length) 0 = x := by
        simp [List.getD, four_length, show i - l.length < 4 from by omega]
      rw [h2] at h1
      rw [h1]
      simp [List.getD, List.getElem?_append_right (Nat.le_of_not_lt hlt)]
end Crc
end Go.Proofs.Ytpkfjgoimaomfaa
