import Derived.Test.YteakbfbacfhhoaaGreatZBytes
import Derived.Test.YteakbfbacfhhoaaGreatZDotMath
namespace Go.Proofs.YteakbfbacfhhoaaGreat
open Go.RowKit
abbrev acV (a : Dt.Ac) : Value := .agg #[.int .u8 (a.1 : Int), .int .u32 (a.2 : Int)]
abbrev dotV (d : Dt.Dot) : Value := .agg #[.int .u8 (d.1.1 : Int), .int .u32 (d.1.2 : Int), .int .u64 (d.2 : Int)]
theorem ret_bool {a b : Bool} (h : a = b) : Ending.returned (.bool a) = .returned (.bool b) := by rw [h]
theorem bcell {W w1 : World} (hb : Below W.heap.size W w1) : (∀ b o, b < W.heap.size → w1.cell? ⟨b, o, none⟩ = W.cell? ⟨b, o, none⟩) ∧ (∀ b o, b < W.heap.size → w1.frozen? ⟨b, o, none⟩ = W.frozen? ⟨b, o, none⟩) :=
 ⟨fun b o h => hb.cell (p := ⟨b, o, none⟩) h, fun b o h => hb.frozen (p := ⟨b, o, none⟩) h⟩
set_option maxHeartbeats 400000 in
theorem mayActor_any (r i : Nat) (w : World) :
  Calls Tryz.prog 63 #[acV (r, i)] w fun e w' => e = .returned (.bool (Dt.mayA (r, i))) ∧ Below w.heap.size w w' := by
 go_enter Tryz.func63, Tryz.ntmps63
 go_wp2
 all_goals
  go_ret
  exact ⟨ret_bool (by simp only [Dt.mayA]; rw [Bool.eq_iff_iff]; simp; try omega), (Below.refl _ _).alloc (Nat.le_refl _) _⟩
set_option maxHeartbeats 400000 in
theorem may_any (r i s : Nat) (w : World) :
  Calls Tryz.prog 48 #[dotV ((r, i), s)] w fun e w' => e = .returned (.bool (Dt.may ((r, i), s))) ∧ Below w.heap.size w w' := by
 cases hm : Dt.mayA (r, i)
 ·go_enter Tryz.func48, Tryz.ntmps48
  go_wp2_with fail
  refine (mayActor_any r i _).mono ?_
  rintro e w1 ⟨rfl, hb⟩
  obtain ⟨hc, hf⟩ := bcell hb
  go_wp2_with fail
  go_ret
  exact ⟨ret_bool (by simp [Dt.may, hm]), ((Below.refl _ _).alloc (Nat.le_refl _) _).trans (hb.mono (by simp))⟩
 ·go_enter Tryz.func48, Tryz.ntmps48
  go_wp2_with fail
  refine (mayActor_any r i _).mono ?_
  rintro e w1 ⟨rfl, hb⟩
  obtain ⟨hc, hf⟩ := bcell hb
  go_wp2_with fail
  all_goals
   go_ret
   exact ⟨ret_bool (by simp only [Dt.may, hm]; rw [Bool.eq_iff_iff]; simp; try omega), ((Below.refl _ _).alloc (Nat.le_refl _) _).trans (hb.mono (by simp))⟩
set_option maxHeartbeats 400000 in
theorem refmayActor_any (r i : Nat) (w : World) :
  Calls Tryz.prog 44 #[acV (r, i)] w fun e w' => e = .returned (.bool (Dt.mayA (r, i))) ∧ Below w.heap.size w w' := by
 go_enter Tryz.func44, Tryz.ntmps44
 go_wp2
 all_goals
  go_ret
  exact ⟨ret_bool (by simp only [Dt.mayA]; rw [Bool.eq_iff_iff]; simp; try omega), (Below.refl _ _).alloc (Nat.le_refl _) _⟩
set_option maxHeartbeats 400000 in
theorem refmay_any (r i s : Nat) (w : World) :
  Calls Tryz.prog 20 #[dotV ((r, i), s)] w fun e w' => e = .returned (.bool (Dt.may ((r, i), s))) ∧ Below w.heap.size w w' := by
 cases hm : Dt.mayA (r, i)
 ·go_enter Tryz.func20, Tryz.ntmps20
  go_wp2_with fail
  refine (refmayActor_any r i _).mono ?_
  rintro e w1 ⟨rfl, hb⟩
  obtain ⟨hc, hf⟩ := bcell hb
  go_wp2_with fail
  go_ret
  exact ⟨ret_bool (by simp [Dt.may, hm]), ((Below.refl _ _).alloc (Nat.le_refl _) _).trans (hb.mono (by simp))⟩
 ·go_enter Tryz.func20, Tryz.ntmps20
  go_wp2_with fail
  refine (refmayActor_any r i _).mono ?_
  rintro e w1 ⟨rfl, hb⟩
  obtain ⟨hc, hf⟩ := bcell hb
  go_wp2_with fail
  all_goals
   go_ret
   exact ⟨ret_bool (by simp only [Dt.may, hm]; rw [Bool.eq_iff_iff]; simp; try omega), ((Below.refl _ _).alloc (Nat.le_refl _) _).trans (hb.mono (by simp))⟩
set_option maxHeartbeats 400000 in
theorem isNaN_u8 (x : Nat) (w : World) : Calls Tryz.prog 75 #[.int .u8 (x : Int)] w fun e w' => e = .returned (.bool false) ∧ w = w' := by
 go_enter Tryz.func75, Tryz.ntmps75
 go_wp2
 go_ret
 exact ⟨rfl, rfl⟩
set_option maxHeartbeats 400000 in
theorem cmp_u8 (x y : Nat) (w : World) : Calls Tryz.prog 60 #[.int .u8 (x : Int), .int .u8 (y : Int)] w fun e w' => e = .returned (.int .i64 (Dt.cmpN x y)) ∧ w = w' := by
 by_cases h1 : x < y
 ·go_enter Tryz.func60, Tryz.ntmps60
  go_wp2_with (first | (go_at_call 75; refine (isNaN_u8 _ _).mono ?_; rintro e w' ⟨rfl, rfl⟩))
  go_ret
  exact ⟨ret_int (by simp [Dt.cmpN, h1]), rfl⟩
 ·by_cases h2 : y < x
  ·go_enter Tryz.func60, Tryz.ntmps60
   go_wp2_with (first | (go_at_call 75; refine (isNaN_u8 _ _).mono ?_; rintro e w' ⟨rfl, rfl⟩))
   go_ret
   exact ⟨ret_int (by simp [Dt.cmpN, h1, h2]), rfl⟩
  ·go_enter Tryz.func60, Tryz.ntmps60
   go_wp2_with (first | (go_at_call 75; refine (isNaN_u8 _ _).mono ?_; rintro e w' ⟨rfl, rfl⟩))
   go_ret
   exact ⟨ret_int (by simp [Dt.cmpN, h1, h2]), rfl⟩
set_option maxHeartbeats 400000 in
theorem isNaN_u32 (x : Nat) (w : World) : Calls Tryz.prog 76 #[.int .u32 (x : Int)] w fun e w' => e = .returned (.bool false) ∧ w = w' := by
 go_enter Tryz.func76, Tryz.ntmps76
 go_wp2
 go_ret
 exact ⟨rfl, rfl⟩
set_option maxHeartbeats 400000 in
theorem cmp_u32 (x y : Nat) (w : World) : Calls Tryz.prog 61 #[.int .u32 (x : Int), .int .u32 (y : Int)] w fun e w' => e = .returned (.int .i64 (Dt.cmpN x y)) ∧ w = w' := by
 by_cases h1 : x < y
 ·go_enter Tryz.func61, Tryz.ntmps61
  go_wp2_with (first | (go_at_call 76; refine (isNaN_u32 _ _).mono ?_; rintro e w' ⟨rfl, rfl⟩))
  go_ret
  exact ⟨ret_int (by simp [Dt.cmpN, h1]), rfl⟩
 ·by_cases h2 : y < x
  ·go_enter Tryz.func61, Tryz.ntmps61
   go_wp2_with (first | (go_at_call 76; refine (isNaN_u32 _ _).mono ?_; rintro e w' ⟨rfl, rfl⟩))
   go_ret
   exact ⟨ret_int (by simp [Dt.cmpN, h1, h2]), rfl⟩
  ·go_enter Tryz.func61, Tryz.ntmps61
   go_wp2_with (first | (go_at_call 76; refine (isNaN_u32 _ _).mono ?_; rintro e w' ⟨rfl, rfl⟩))
   go_ret
   exact ⟨ret_int (by simp [Dt.cmpN, h1, h2]), rfl⟩
set_option maxHeartbeats 400000 in
theorem isNaN_u64 (x : Nat) (w : World) : Calls Tryz.prog 62 #[.int .u64 (x : Int)] w fun e w' => e = .returned (.bool false) ∧ w = w' := by
 go_enter Tryz.func62, Tryz.ntmps62
 go_wp2
 go_ret
 exact ⟨rfl, rfl⟩
set_option maxHeartbeats 400000 in
theorem cmp_u64 (x y : Nat) (w : World) : Calls Tryz.prog 47 #[.int .u64 (x : Int), .int .u64 (y : Int)] w fun e w' => e = .returned (.int .i64 (Dt.cmpN x y)) ∧ w = w' := by
 by_cases h1 : x < y
 ·go_enter Tryz.func47, Tryz.ntmps47
  go_wp2_with (first | (go_at_call 62; refine (isNaN_u64 _ _).mono ?_; rintro e w' ⟨rfl, rfl⟩))
  go_ret
  exact ⟨ret_int (by simp [Dt.cmpN, h1]), rfl⟩
 ·by_cases h2 : y < x
  ·go_enter Tryz.func47, Tryz.ntmps47
   go_wp2_with (first | (go_at_call 62; refine (isNaN_u64 _ _).mono ?_; rintro e w' ⟨rfl, rfl⟩))
   go_ret
   exact ⟨ret_int (by simp [Dt.cmpN, h1, h2]), rfl⟩
  ·go_enter Tryz.func47, Tryz.ntmps47
   go_wp2_with (first | (go_at_call 62; refine (isNaN_u64 _ _).mono ?_; rintro e w' ⟨rfl, rfl⟩))
   go_ret
   exact ⟨ret_int (by simp [Dt.cmpN, h1, h2]), rfl⟩
set_option maxHeartbeats 1000000 in
theorem refless_any (r i s r' i' s' : Nat) (w : World) :
  Calls Tryz.prog 23 #[dotV ((r, i), s), dotV ((r', i'), s')] w fun e w' => e = .returned (.bool (Dt.less ((r, i), s) ((r', i'), s'))) ∧ Below w.heap.size w w' := by
 by_cases h1 : r = r'
 ·subst h1
  by_cases h2 : i = i'
  ·subst h2
   go_enter Tryz.func23, Tryz.ntmps23
   go_wp2
   go_ret
   exact ⟨ret_bool (by unfold Dt.less; simp [Dt.lt_iff]), ((Below.refl _ _).alloc (Nat.le_refl _) _).alloc (by simp) _⟩
  ·have d1 : ((i : Int) == (i' : Int)) = false := by simp; omega
   have d2 : ((i : Int) != (i' : Int)) = true := by simp; omega
   go_enter Tryz.func23, Tryz.ntmps23
   go_wp2
   go_ret
   exact ⟨ret_bool (by unfold Dt.less; rw [Bool.eq_iff_iff]; simp [Dt.lt_iff]; try omega), ((Below.refl _ _).alloc (Nat.le_refl _) _).alloc (by simp) _⟩
 ·have d1 : ((r : Int) == (r' : Int)) = false := by simp; omega
  have d2 : ((r : Int) != (r' : Int)) = true := by simp; omega
  go_enter Tryz.func23, Tryz.ntmps23
  go_wp2
  go_ret
  exact ⟨ret_bool (by unfold Dt.less; rw [Bool.eq_iff_iff]; simp [Dt.lt_iff]; try omega), ((Below.refl _ _).alloc (Nat.le_refl _) _).alloc (by simp) _⟩
end Go.Proofs.YteakbfbacfhhoaaGreat
