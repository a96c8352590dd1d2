import Derived.Test.YtpkfjgoimaomfaaBytes
import Derived.Test.YtpkfjgoimaomfaaDotMath
namespace Go.Proofs.Ytpkfjgoimaomfaa
open Go.RowKit
abbrev acV (a : Dt.Ac) : Value := .agg #[.int .u8 (a.1 : Int), .int .u32 (a.2 : Int)]
abbrev dotV (d : Dt.Dot) : Value := .agg #[.int .u8 (d.1.1 : Int), .int .u32 (d.1.2 : Int), .int .u64 (d.2 : Int)]
theorem ret_bool {a b : Bool} (h : a = b) : Ending.returned (.bool a) = .returned (.bool b) := by rw [h]
theorem bcell {W w1 : World} (hb : Below W.heap.size W w1) : (∀ b o, b < W.heap.size → w1.cell? ⟨b, o, none⟩ = W.cell? ⟨b, o, none⟩) ∧ (∀ b o, b < W.heap.size → w1.frozen? ⟨b, o, none⟩ = W.frozen? ⟨b, o, none⟩) :=
  ⟨fun b o h => hb.cell (p := ⟨b, o, none⟩) h, fun b o h => hb.frozen (p := ⟨b, o, none⟩) h⟩
set_option maxHeartbeats 400000 in
theorem mayActor_any (r i : Nat) (w : World) :
    Calls Try.prog 53 #[acV (r, i)] w fun e w' => e = .returned (.bool (Dt.mayA (r, i))) ∧ Below w.heap.size w w' := by
  go_enter Try.func53, Try.ntmps53
  go_wp2
  all_goals
    go_ret
    exact ⟨ret_bool (by simp only [Dt.mayA]; rw [Bool.eq_iff_iff]; simp; try omega), (Below.refl _ _).alloc (Nat.le_refl _) _⟩
set_option maxHeartbeats 400000 in
theorem may_any (r i s : Nat) (w : World) :
    Calls Try.prog 31 #[dotV ((r, i), s)] w fun e w' => e = .returned (.bool (Dt.may ((r, i), s))) ∧ Below w.heap.size w w' := by
  cases hm : Dt.mayA (r, i)
  · go_enter Try.func31, Try.ntmps31
    go_wp2_with fail
    refine (mayActor_any r i _).mono ?_
    rintro e w1 ⟨rfl, hb⟩
    obtain ⟨hc, hf⟩ := bcell hb
    go_wp2_with fail
    go_ret
    exact ⟨ret_bool (by simp [Dt.may, hm]), ((Below.refl _ _).alloc (Nat.le_refl _) _).trans (hb.mono (by simp))⟩
  · go_enter Try.func31, Try.ntmps31
    go_wp2_with fail
    refine (mayActor_any r i _).mono ?_
    rintro e w1 ⟨rfl, hb⟩
    obtain ⟨hc, hf⟩ := bcell hb
    go_wp2_with fail
    all_goals
      go_ret
      exact ⟨ret_bool (by simp only [Dt.may, hm]; rw [Bool.eq_iff_iff]; simp; try omega), ((Below.refl _ _).alloc (Nat.le_refl _) _).trans (hb.mono (by simp))⟩
set_option maxHeartbeats 400000 in
theorem refmayActor_any (r i : Nat) (w : World) :
    Calls Try.prog 52 #[acV (r, i)] w fun e w' => e = .returned (.bool (Dt.mayA (r, i))) ∧ Below w.heap.size w w' := by
  go_enter Try.func52, Try.ntmps52
  go_wp2
  all_goals
    go_ret
    exact ⟨ret_bool (by simp only [Dt.mayA]; rw [Bool.eq_iff_iff]; simp; try omega), (Below.refl _ _).alloc (Nat.le_refl _) _⟩
set_option maxHeartbeats 400000 in
theorem refmay_any (r i s : Nat) (w : World) :
    Calls Try.prog 29 #[dotV ((r, i), s)] w fun e w' => e = .returned (.bool (Dt.may ((r, i), s))) ∧ Below w.heap.size w w' := by
  cases hm : Dt.mayA (r, i)
  · go_enter Try.func29, Try.ntmps29
    go_wp2_with fail
    refine (refmayActor_any r i _).mono ?_
    rintro e w1 ⟨rfl, hb⟩
    obtain ⟨hc, hf⟩ := bcell hb
    go_wp2_with fail
    go_ret
    exact ⟨ret_bool (by simp [Dt.may, hm]), ((Below.refl _ _).alloc (Nat.le_refl _) _).trans (hb.mono (by simp))⟩
  · go_enter Try.func29, Try.ntmps29
    go_wp2_with fail
    refine (refmayActor_any r i _).mono ?_
    rintro e w1 ⟨rfl, hb⟩
    obtain ⟨hc, hf⟩ := bcell hb
    go_wp2_with fail
    all_goals
      go_ret
      exact ⟨ret_bool (by simp only [Dt.may, hm]; rw [Bool.eq_iff_iff]; simp; try omega), ((Below.refl _ _).alloc (Nat.le_refl _) _).trans (hb.mono (by simp))⟩
set_option maxHeartbeats 400000 in
theorem isNaN_u8 (x : Nat) (w : World) : Calls Try.prog 84 #[.int .u8 (x : Int)] w fun e w' => e = .returned (.bool false) ∧ w = w' := by
  go_enter Try.func84, Try.ntmps84
  go_wp2
  go_ret
  exact ⟨rfl, rfl⟩
set_option maxHeartbeats 400000 in
theorem cmp_u8 (x y : Nat) (w : World) : Calls Try.prog 81 #[.int .u8 (x : Int), .int .u8 (y : Int)] w fun e w' => e = .returned (.int .i64 (Dt.cmpN x y)) ∧ w = w' := by
  by_cases h1 : x < y
  · go_enter Try.func81, Try.ntmps81
    go_wp2_with (first | (go_at_call 84; refine (isNaN_u8 _ _).mono ?_; rintro e w' ⟨rfl, rfl⟩))
    go_ret
    exact ⟨ret_int (by simp [Dt.cmpN, h1]), rfl⟩
  · by_cases h2 : y < x
    · go_enter Try.func81, Try.ntmps81
      go_wp2_with (first | (go_at_call 84; refine (isNaN_u8 _ _).mono ?_; rintro e w' ⟨rfl, rfl⟩))
      go_ret
      exact ⟨ret_int (by simp [Dt.cmpN, h1, h2]), rfl⟩
    · go_enter Try.func81, Try.ntmps81
      go_wp2_with (first | (go_at_call 84; refine (isNaN_u8 _ _).mono ?_; rintro e w' ⟨rfl, rfl⟩))
      go_ret
      exact ⟨ret_int (by simp [Dt.cmpN, h1, h2]), rfl⟩
set_option maxHeartbeats 400000 in
theorem isNaN_u32 (x : Nat) (w : World) : Calls Try.prog 85 #[.int .u32 (x : Int)] w fun e w' => e = .returned (.bool false) ∧ w = w' := by
  go_enter Try.func85, Try.ntmps85
  go_wp2
  go_ret
  exact ⟨rfl, rfl⟩
set_option maxHeartbeats 400000 in
theorem cmp_u32 (x y : Nat) (w : World) : Calls Try.prog 82 #[.int .u32 (x : Int), .int .u32 (y : Int)] w fun e w' => e = .returned (.int .i64 (Dt.cmpN x y)) ∧ w = w' := by
  by_cases h1 : x < y
  · go_enter Try.func82, Try.ntmps82
    go_wp2_with (first | (go_at_call 85; refine (isNaN_u32 _ _).mono ?_; rintro e w' ⟨rfl, rfl⟩))
    go_ret
    exact ⟨ret_int (by simp [Dt.cmpN, h1]), rfl⟩
  · by_cases h2 : y < x
    · go_enter Try.func82, Try.ntmps82
      go_wp2_with (first | (go_at_call 85; refine (isNaN_u32 _ _).mono ?_; rintro e w' ⟨rfl, rfl⟩))
      go_ret
      exact ⟨ret_int (by simp [Dt.cmpN, h1, h2]), rfl⟩
    · go_enter Try.func82, Try.ntmps82
      go_wp2_with (first | (go_at_call 85; refine (isNaN_u32 _ _).mono ?_; rintro e w' ⟨rfl, rfl⟩))
      go_ret
      exact ⟨ret_int (by simp [Dt.cmpN, h1, h2]), rfl⟩
set_option maxHeartbeats 400000 in
theorem isNaN_u64 (x : Nat) (w : World) : Calls Try.prog 83 #[.int .u64 (x : Int)] w fun e w' => e = .returned (.bool false) ∧ w = w' := by
  go_enter Try.func83, Try.ntmps83
  go_wp2
  go_ret
  exact ⟨rfl, rfl⟩
set_option maxHeartbeats 400000 in
theorem cmp_u64 (x y : Nat) (w : World) : Calls Try.prog 80 #[.int .u64 (x : Int), .int .u64 (y : Int)] w fun e w' => e = .returned (.int .i64 (Dt.cmpN x y)) ∧ w = w' := by
  by_cases h1 : x < y
  · go_enter Try.func80, Try.ntmps80
    go_wp2_with (first | (go_at_call 83; refine (isNaN_u64 _ _).mono ?_; rintro e w' ⟨rfl, rfl⟩))
    go_ret
    exact ⟨ret_int (by simp [Dt.cmpN, h1]), rfl⟩
  · by_cases h2 : y < x
    · go_enter Try.func80, Try.ntmps80
      go_wp2_with (first | (go_at_call 83; refine (isNaN_u64 _ _).mono ?_; rintro e w' ⟨rfl, rfl⟩))
      go_ret
      exact ⟨ret_int (by simp [Dt.cmpN, h1, h2]), rfl⟩
    · go_enter Try.func80, Try.ntmps80
      go_wp2_with (first | (go_at_call 83; refine (isNaN_u64 _ _).mono ?_; rintro e w' ⟨rfl, rfl⟩))
      go_ret
      exact ⟨ret_int (by simp [Dt.cmpN, h1, h2]), rfl⟩
set_option maxHeartbeats 1000000 in
theorem refless_any (r i s r' i' s' : Nat) (w : World) :
    Calls Try.prog 30 #[dotV ((r, i), s), dotV ((r', i'), s')] w fun e w' => e = .returned (.bool (Dt.less ((r, i), s) ((r', i'), s'))) ∧ Below w.heap.size w w' := by
  by_cases h1 : r = r'
  · subst h1
    by_cases h2 : i = i'
    · subst h2
      go_enter Try.func30, Try.ntmps30
      go_wp2
      go_ret
      exact ⟨ret_bool (by unfold Dt.less; simp [Dt.lt_iff]), ((Below.refl _ _).alloc (Nat.le_refl _) _).alloc (by simp) _⟩
    · have d1 : ((i : Int) == (i' : Int)) = false := by simp; omega
      have d2 : ((i : Int) != (i' : Int)) = true := by simp; omega
      go_enter Try.func30, Try.ntmps30
      go_wp2
      go_ret
      exact ⟨ret_bool (by unfold Dt.less; rw [Bool.eq_iff_iff]; simp [Dt.lt_iff]; try omega), ((Below.refl _ _).alloc (Nat.le_refl _) _).alloc (by simp) _⟩
  · have d1 : ((r : Int) == (r' : Int)) = false := by simp; omega
    have d2 : ((r : Int) != (r' : Int)) = true := by simp; omega
    go_enter Try.func30, Try.ntmps30
    go_wp2
    go_ret
    exact ⟨ret_bool (by unfold Dt.less; rw [Bool.eq_iff_iff]; simp [Dt.lt_iff]; try omega), ((Below.refl _ _).alloc (Nat.le_refl _) _).alloc (by simp) _⟩
end Go.Proofs.Ytpkfjgoimaomfaa
