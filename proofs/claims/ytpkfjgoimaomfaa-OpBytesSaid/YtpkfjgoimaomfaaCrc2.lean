import Derived.Test.YtpkfjgoimaomfaaCrc1
namespace Go.Proofs.Ytpkfjgoimaomfaa
open Go.RowKit
theorem xor8 {r x : Nat} (hx : x < 256) : (r % 256) ^^^ x < 256 := Nat.xor_lt_two_pow (n := 8) (by omega) (by omega)
theorem max_xor (s : Nat) (hs : s < 4294967296) : (4294967295 : Nat) ^^^ s = 4294967295 - s := by
  apply Nat.eq_of_testBit_eq
  intro i
  rw [Nat.testBit_xor]
  have h1 : (4294967295 : Nat).testBit i = decide (i < 32) := by
    have := Nat.testBit_two_pow_sub_one 32 i
    simpa using this
  have h2 : (4294967295 - s).testBit i = (decide (i < 32) && !s.testBit i) := by
    have := @Nat.testBit_two_pow_sub_succ s 32 (by simpa using hs) i
    have e : 2 ^ 32 - (s + 1) = 4294967295 - s := by omega
    rw [e] at this; exact this
  rw [h1, h2]
  by_cases hi : i < 32
  · simp [hi]
  · have : s.testBit i = false := Nat.testBit_lt_two_pow (Nat.lt_of_lt_of_le hs (by
      have := Nat.pow_le_pow_right (n := 2) (by decide) (Nat.le_of_not_lt hi); simpa using this))
    simp [hi, this]
end Go.Proofs.Ytpkfjgoimaomfaa
