import Derived.Test.YtpkfjgoimaomfaaCode1
namespace Go.Proofs.Ytpkfjgoimaomfaa
open Go.RowKit Go.Buf
theorem i64_not_all (m : Int) (h1 : -9223372036854775808 ≤ m) (h2 : m ≤ 9223372036854775807) : bits .xor .i64 (-1) m = -1 - m := by
  show IntKind.i64.wrap ((BitVec.ofInt 64 (-1) ^^^ BitVec.ofInt 64 m).toNat : Int) = _
  have h3 : BitVec.ofInt 64 (-1) = BitVec.allOnes 64 := by decide
  rw [h3, BitVec.allOnes_xor, BitVec.toNat_not, BitVec.toNat_ofInt]
  simp [IntKind.wrap, IntKind.bits, IntKind.signed]
  omega
theorem u64_or_one (x : Nat) (h : 2 * x + 1 < 18446744073709551616) : bits .or .u64 ((2 * x : Nat) : Int) 1 = ((2 * x + 1 : Nat) : Int) := by
  have h1 := u64_or_nat (2 * x) 1 (by omega) (by omega)
  rw [nat_join 1 (2 * x) 1 (by omega) (by omega)] at h1
  exact h1
theorem u64_and_one (x : Nat) (h : x < 18446744073709551616) : bits .and .u64 (x : Int) 1 = ((x % 2 : Nat) : Int) := by
  have h1 := u64_and_nat x 1 h (by omega)
  rw [nat_mask1] at h1; exact h1
set_option maxHeartbeats 400000 in
theorem unsigned_any (m : Int) (w : World) (h1 : -9223372036854775808 ≤ m) (h2 : m ≤ 9223372036854775807) :
    Calls Try.prog 54 #[.int .i64 m] w fun e w' => e = .returned (.int .u64 (Cd.uns m : Nat)) ∧ w = w' := by
  by_cases hm : m < 0
  · obtain ⟨x, rfl⟩ : ∃ x : Nat, m = -1 - (x : Int) := ⟨(-1 - m).toNat, by omega⟩
    have e1 := i64_not_all (-1 - (x : Int)) h1 h2
    have e2 : -1 - (-1 - (x : Int)) = (x : Int) := by omega
    rw [e2] at e1
    have e3 : IntKind.u64.wrap (IntKind.u64.wrap (x : Int) * 2) = ((2 * x : Nat) : Int) := by simp [IntKind.wrap, IntKind.bits, IntKind.signed]; omega
    have e4 := u64_or_one x (by omega)
    have hu : Cd.uns (-1 - (x : Int)) = 2 * x + 1 := by unfold Cd.uns; rw [if_pos hm]; omega
    have H1 := Lib.hid e1; have H3 := Lib.hid e3; have H4 := Lib.hid e4; have HU := Lib.hid hu
    clear e1 e2 e3 e4 hu
    go_enter Try.func54, Try.ntmps54
    go_wp2
    go_ret
    exact ⟨ret_int (by rw [H1.out, H3.out, H4.out, HU.out]), rfl⟩
  · have hm' : 0 ≤ m := by omega
    have hu : Cd.uns m = (2 * m).toNat := by unfold Cd.uns; rw [if_neg hm]
    have HU := Lib.hid hu; clear hu
    go_enter Try.func54, Try.ntmps54
    go_wp2
    go_ret
    exact ⟨ret_int (by rw [HU.out]; omega), rfl⟩
set_option maxHeartbeats 400000 in
theorem signed_any (n : Nat) (w : World) (h1 : n < 18446744073709551616) :
    Calls Try.prog 75 #[.int .u64 n] w fun e w' => e = .returned (.int .i64 (Cd.sgn n)) ∧ w = w' := by
  have e1 := u64_and_one n h1
  have e2 := i64_not_all (n / 2 : Nat) (by omega) (by omega)
  have e3 : ((n / 2 : Nat) : Int) = (n : Int) / 2 := by omega
  rw [e3] at e2
  by_cases hm : n % 2 = 1
  · have ht : (bits .and .u64 (n : Int) 1 == 1) = true := by rw [e1, hm]; rfl
    have hs : Cd.sgn n = -(n / 2 : Nat) - 1 := by unfold Cd.sgn; rw [if_pos hm]
    have H2 := Lib.hid e2; have HS := Lib.hid hs
    clear e1 e2 e3 hs hm
    go_enter Try.func75, Try.ntmps75
    go_wp2
    go_ret
    exact ⟨ret_int (by rw [H2.out, HS.out]; omega), rfl⟩
  · have ht : (bits .and .u64 (n : Int) 1 == 1) = false := by rw [e1, show n % 2 = 0 from by omega]; rfl
    have hs : Cd.sgn n = (n / 2 : Nat) := by unfold Cd.sgn; rw [if_neg hm]
    have HS := Lib.hid hs
    clear e1 e2 e3 hs hm
    go_enter Try.func75, Try.ntmps75
    go_wp2
    go_ret
    exact ⟨ret_int (by rw [HS.out]; omega), rfl⟩
def num3 (r : Nat × Nat × Nat) : Value := .tuple #[.int .u64 (r.1 : Nat), .int .i64 (r.2.1 : Nat), .int .i64 (r.2.2 : Nat)]
theorem ret3 {n m k : Nat} {r : Nat × Nat × Nat} (h : r = (n, m, k)) {a b c : Int} (ha : a = n) (hb : b = m) (hc : c = k) : Ending.returned (.tuple #[.int .u64 a, .int .i64 b, .int .i64 c]) = .returned (num3 r) := by
  subst h; subst ha; subst hb; subst hc; rfl
set_option maxHeartbeats 400000 in
theorem ended_any (n i x : Nat) (w : World) (hi : i < 10) (hx : x < 256) :
    Calls Try.prog 74 #[.int .u64 n, .int .i64 i, .int .u8 x] w fun e w' => e = .returned (num3 (Cd.ended n i x)) ∧ w = w' := by
  by_cases h9 : i = 9
  · subst h9
    by_cases h1 : 1 < x
    · have hr : Cd.ended n 9 x = (0, 0, 14) := by unfold Cd.ended; rw [if_pos ⟨rfl, h1⟩]
      have HR := Lib.hid hr; clear hr
      go_enter Try.func74, Try.ntmps74
      go_wp2
      go_ret3
      exact ⟨ret3 HR.out rfl rfl rfl, rfl⟩
    · by_cases h0 : x = 0
      · subst h0
        go_enter Try.func74, Try.ntmps74
        go_wp2
        go_ret3
        exact ⟨rfl, rfl⟩
      · obtain rfl : x = 1 := by omega
        have hr : Cd.ended n 9 1 = (n, 10, 0) := by unfold Cd.ended; rw [if_neg (by omega), if_neg (by omega)]
        have HR := Lib.hid hr; clear hr
        go_enter Try.func74, Try.ntmps74
        go_wp2
        go_ret3
        exact ⟨ret3 HR.out rfl rfl rfl, rfl⟩
  · have t9 : ((i : Int) == 9) = false := by simp; omega
    by_cases h0 : 0 < i ∧ x = 0
    · obtain ⟨hp, rfl⟩ := h0
      have hr : Cd.ended n i 0 = (0, 0, 4) := by unfold Cd.ended; rw [if_neg (by omega), if_pos ⟨hp, rfl⟩]
      have HR := Lib.hid hr; clear hr h9
      go_enter Try.func74, Try.ntmps74
      go_wp2
      go_ret3
      exact ⟨ret3 HR.out rfl rfl rfl, rfl⟩
    · have hr : Cd.ended n i x = (n, i + 1, 0) := by unfold Cd.ended; rw [if_neg (by omega), if_neg h0]
      have HR := Lib.hid hr; clear hr h9
      by_cases hp : 0 < i
      · have tx : ((x : Int) == 0) = false := by simp; omega
        clear h0
        go_enter Try.func74, Try.ntmps74
        go_wp2
        go_ret3
        exact ⟨ret3 HR.out rfl (by simp) rfl, rfl⟩
      · obtain rfl : i = 0 := by omega
        clear h0 hp t9
        go_enter Try.func74, Try.ntmps74
        go_wp2
        go_ret3
        exact ⟨ret3 HR.out rfl rfl rfl, rfl⟩
end Go.Proofs.Ytpkfjgoimaomfaa
