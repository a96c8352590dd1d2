import Derived.Test.YtfebbdnibimmmaaDot7
import Derived.Test.YtfebbdnibimmmaaShelf
namespace Go.Proofs.Ytfebbdnibimmmaa
open Go.Shelf Go.RowKit Go.Lib Go.Sort
open Go.RegG (Gr)
def encD (d : Dt.Dot) : List Value := [.int .u8 (d.1.1 : Int), .int .u32 (d.1.2 : Int), .int .u64 (d.2 : Int)]
theorem encD_len (d : Dt.Dot) : (encD d).length = 3 := rfl
theorem encD_one (d : Dt.Dot) : ∀ v ∈ encD d, v.oneCell' = true := by intro v hv; simp [encD] at hv; rcases hv with rfl | rfl | rfl <;> rfl
theorem ltOf_cmp (x y : Dt.Dot) : ltOf Dt.cmp x y = Dt.less x y := by
  unfold ltOf Dt.cmp Dt.less
  by_cases h1 : Dt.lt x y
  · simp [h1]
  · by_cases h2 : Dt.lt y x <;> simp [h1, h2]
theorem lt_ntrans {x y z : Dt.Dot} (h : ¬ Dt.lt x y) (g : ¬ Dt.lt y z) : ¬ Dt.lt x z := by rw [Dt.lt_iff] at *; omega
theorem swoDot : SWO (ltOf Dt.cmp) where
  irrefl x := by rw [ltOf_cmp]; exact decide_eq_false (Dt.lt_irrefl x)
  trans x y z h1 h2 := by rw [ltOf_cmp] at *; exact decide_eq_true (Dt.lt_trans (of_decide_eq_true h1) (of_decide_eq_true h2))
  ntrans x y z h1 h2 := by rw [ltOf_cmp] at *; exact decide_eq_false (lt_ntrans (of_decide_eq_false h1) (of_decide_eq_false h2))
theorem dotLays (blk off size : Nat) (w : World) : CmpLays Try.prog 10 #[] encD 3 Dt.cmp blk off size w := by
  intro m os dk _ x y
  obtain ⟨⟨r, i⟩, s⟩ := x
  obtain ⟨⟨r', i'⟩, s'⟩ := y
  refine (compare_any r i s r' i' s' _).mono ?_
  rintro e w' ⟨rfl, h⟩
  exact ⟨rfl, grow_of_gr h⟩
set_option maxHeartbeats 2000000 in
theorem insertion_none (p : Option Addr) (cap : Nat) (fv : Value) (w : World) :
    Calls Try.prog 54 #[.slice p 0 cap, .int .i64 0, .int .i64 0, fv] w fun e w' => e = .returned (.tuple #[]) ∧ w = w' := by
  go_enter Try.func54, Try.ntmps54
  go_wp2
  refine wp_loop_rounds 1 ?_
  rw [rounds_succ]
  go_wp2
  go_end0
  exact ⟨rfl, rfl⟩
set_option maxHeartbeats 2000000 in
theorem pdq_none (p : Option Addr) (cap : Nat) (lim : Int) (fv : Value) (w : World) :
    Calls Try.prog 52 #[.slice p 0 cap, .int .i64 0, .int .i64 0, .int .i64 lim, fv] w fun e w' => e = .returned (.tuple #[]) ∧ w = w' := by
  go_enter Try.func52, Try.ntmps52
  go_wp2
  refine wp_loop_rounds 1 ?_
  rw [rounds_succ]
  go_wp2_with (go_at_call 54; refine (insertion_none _ _ _ _).mono ?_; rintro e w' ⟨rfl, rfl⟩)
  (try simp only [Exit.inBlock, Exit.then])
  first | go_end0 | (refine bodyPost_ret (results_none rfl _ _ _) rfl ?_)
  exact ⟨rfl, rfl⟩
end Go.Proofs.Ytfebbdnibimmmaa
