import Derived.Test.YteakbfbacfhhoaaGreatZDot6
import Derived.Test.YteakbfbacfhhoaaGreatShelf
namespace Go.Proofs.YteakbfbacfhhoaaGreat
open Go.Shelf Go.RowKit Go.Lib Go.Sort
open Go.RegG (Gr)
def encD (d : Dt.Dot) : List Value := [.int .u8 (d.1.1 : Int), .int .u32 (d.1.2 : Int), .int .u64 (d.2 : Int)]
theorem encD_len (d : Dt.Dot) : (encD d).length = 3 := rfl
theorem encD_one (d : Dt.Dot) : ∀ v ∈ encD d, v.oneCell' = true := by intro v hv; simp [encD] at hv; rcases hv with rfl | rfl | rfl <;> rfl
theorem ltOf_cmp (x y : Dt.Dot) : ltOf Dt.cmp x y = Dt.less x y := by
 unfold ltOf Dt.cmp Dt.less
 by_cases h1 : Dt.lt x y
 ·simp [h1]
 ·by_cases h2 : Dt.lt y x <;> simp [h1, h2]
theorem lt_ntrans {x y z : Dt.Dot} (h : ¬ Dt.lt x y) (g : ¬ Dt.lt y z) : ¬ Dt.lt x z := by rw [Dt.lt_iff] at *; omega
theorem swoDot : SWO (ltOf Dt.cmp) where
 irrefl x := by rw [ltOf_cmp]; exact decide_eq_false (Dt.lt_irrefl x)
 trans x y z h1 h2 := by rw [ltOf_cmp] at *; exact decide_eq_true (Dt.lt_trans (of_decide_eq_true h1) (of_decide_eq_true h2))
 ntrans x y z h1 h2 := by rw [ltOf_cmp] at *; exact decide_eq_false (lt_ntrans (of_decide_eq_false h1) (of_decide_eq_false h2))
theorem dotLays (blk off size : Nat) (w : World) : CmpLays Tryz.prog 26 #[] encD 3 Dt.cmp blk off size w := by
 intro m os dk _ x y
 obtain ⟨⟨r, i⟩, s⟩ := x
 obtain ⟨⟨r', i'⟩, s'⟩ := y
 refine (compare_any r i s r' i' s' _).mono ?_
 rintro e w' ⟨rfl, h⟩
 exact ⟨rfl, grow_of_gr h⟩
set_option maxHeartbeats 2000000 in
theorem insertion_none (p : Option Addr) (cap : Nat) (fv : Value) (w : World) :
  Calls Tryz.prog 97 #[.slice p 0 cap, .int .i64 0, .int .i64 0, fv] w fun e w' => e = .returned (.tuple #[]) ∧ w = w' := by
 go_enter Tryz.func97, Tryz.ntmps97
 go_wp2
 refine wp_loop_rounds 1 ?_
 rw [rounds_succ]
 go_wp2
 go_end0
 exact ⟨rfl, rfl⟩
set_option maxHeartbeats 2000000 in
theorem pdq_none (p : Option Addr) (cap : Nat) (lim : Int) (fv : Value) (w : World) :
  Calls Tryz.prog 89 #[.slice p 0 cap, .int .i64 0, .int .i64 0, .int .i64 lim, fv] w fun e w' => e = .returned (.tuple #[]) ∧ w = w' := by
 go_enter Tryz.func89, Tryz.ntmps89
 go_wp2
 refine wp_loop_rounds 1 ?_
 rw [rounds_succ]
 go_wp2_with (go_at_call 97; refine (insertion_none _ _ _ _).mono ?_; rintro e w' ⟨rfl, rfl⟩)
 (try simp only [Exit.inBlock, Exit.then])
 first | go_end0 | (refine bodyPost_ret (results_none rfl _ _ _) rfl ?_)
 exact ⟨rfl, rfl⟩
end Go.Proofs.YteakbfbacfhhoaaGreat
namespace Go.Proofs.YteakbfbacfhhoaaGreat
open Go.Shelf Go.RowKit Go.Lib Go.Sort
def SortPost (w : World) (blk : Nat) (xs : List Dt.Dot) (e : Ending) (w' : World) : Prop :=
 e = .returned (.tuple #[]) ∧ ∃ ys : List Dt.Dot, ys.Perm xs ∧ ys.Pairwise (fun x y => ¬ Dt.lt y x) ∧ HoldsK encD 3 w' blk 0 ys.toArray ∧ w.grownBy w' (some blk)
theorem mapBlock_grown (w : World) (blk : Nat) (f : Array Value → Array Value) : w.grownBy (mapBlock w blk f) (some blk) := by
 refine ⟨rfl, rfl, rfl, by simp [mapBlock], fun k _ hne => ?_⟩
 simp only [mapBlock, Array.getElem?_modify]
 rw [if_neg (fun e => hne (by rw [e]))]
theorem sortWorld_grown (w : World) (blk n : Nat) (d : Array Dt.Dot) (os : Array Obj) : w.grownBy (sortWorldK encD 3 w blk 0 n d os) (some blk) := by
 have h : w.grownBy (putRowK encD 3 (Sort.ahead w n) blk 0 d) (some blk) := by
  have := mapBlock_grown (Sort.ahead w n) blk (putCells id 0 (flatK encD 3 d))
  exact ⟨this.os, this.tape, this.output, this.size, this.block⟩
 unfold sortWorldK
 refine ⟨h.os, h.tape, h.output, Nat.le_trans h.size (by simp), fun k hk hne => ?_⟩
 rw [← h.block k hk hne]
 exact heap_grow_old _ _ (Nat.lt_of_lt_of_le hk h.size)
theorem sorted_list {d : Array Dt.Dot} (h : SortedIn (ltOf Dt.cmp) 0 d.size d) : d.toList.Pairwise (fun x y => ¬ Dt.lt y x) := by
 rw [List.pairwise_iff_getElem]
 intro i j hi hj hij
 have hi' : i < d.size := by simpa using hi
 have hj' : j < d.size := by simpa using hj
 have := h i j (Nat.zero_le _) hij hj'
 rw [ltOf_cmp, getElem!_pos d i hi', getElem!_pos d j hj'] at this
 simpa using of_decide_eq_false this
theorem perm_list {d d' : Array Dt.Dot} (h : PermIn 0 d.size d d') : d'.toList.Perm d.toList := by
 obtain ⟨h1, _, h2⟩ := h
 have e1 : d'.extract 0 d.size = d' := by rw [← h1]; simp
 have e2 : d.extract 0 d.size = d := by simp
 rw [e1, e2] at h2; exact h2
end Go.Proofs.YteakbfbacfhhoaaGreat
namespace Go.Proofs.YteakbfbacfhhoaaGreat
open Go.Shelf Go.RowKit Go.Maps
def RetVec (W : World) (L : List Dt.Dot) (e : Ending) (w' : World) : Prop := ∃ a c, e = .returned (.slice a L.length c) ∧ VRow w' a c L ∧ Below W.heap.size W w'
def dotsV (l : List Dt.Dot) : List Value := l.flatMap encD
theorem info_dot : (Tryz.prog.info? 27).map (fun i => (i.zero, i.size, i.bytes)) = some (some (.agg #[.int .u8 0, .int .u32 0, .int .u64 0]), 3, 16) := by kernel_rfl
def VecInv (f : Dt.Ac → Nat) (D : DataW Unit) (left : Lit → Bool) (xs : List Dt.Dot) : Prop :=
 xs.Pairwise (fun x y => x.1 ≠ y.1) ∧ ∀ d, d ∈ xs ↔ (okAc d.1 ∧ 0 < d.2 ∧ d.2 = f d.1 ∧ Maps.has D (kl d.1) = true ∧ left (kl d.1) = false)
end Go.Proofs.YteakbfbacfhhoaaGreat
