import Derived.Test.YtfebbdnibimmmaaDot8
namespace Go.Proofs.Ytfebbdnibimmmaa
open Go.Shelf Go.RowKit Go.Lib Go.Sort
def SortPost (w : World) (blk : Nat) (xs : List Dt.Dot) (e : Ending) (w' : World) : Prop :=
  e = .returned (.tuple #[]) ∧ ∃ ys : List Dt.Dot, ys.Perm xs ∧ ys.Pairwise (fun x y => ¬ Dt.lt y x) ∧ HoldsK encD 3 w' blk 0 ys.toArray ∧ w.grownBy w' (some blk)
theorem mapBlock_grown (w : World) (blk : Nat) (f : Array Value → Array Value) : w.grownBy (mapBlock w blk f) (some blk) := by
  refine ⟨rfl, rfl, rfl, by simp [mapBlock], fun k _ hne => ?_⟩
  simp only [mapBlock, Array.getElem?_modify]
  rw [if_neg (fun e => hne (by rw [e]))]
theorem sortWorld_grown (w : World) (blk n : Nat) (d : Array Dt.Dot) (os : Array Obj) : w.grownBy (sortWorldK encD 3 w blk 0 n d os) (some blk) := by
  have h : w.grownBy (putRowK encD 3 (Sort.ahead w n) blk 0 d) (some blk) := by
    have := mapBlock_grown (Sort.ahead w n) blk (putCells id 0 (flatK encD 3 d))
    exact ⟨this.os, this.tape, this.output, this.size, this.block⟩
  unfold sortWorldK
  refine ⟨h.os, h.tape, h.output, Nat.le_trans h.size (by simp), fun k hk hne => ?_⟩
  rw [← h.block k hk hne]
  exact heap_grow_old _ _ (Nat.lt_of_lt_of_le hk h.size)
theorem sorted_list {d : Array Dt.Dot} (h : SortedIn (ltOf Dt.cmp) 0 d.size d) : d.toList.Pairwise (fun x y => ¬ Dt.lt y x) := by
  rw [List.pairwise_iff_getElem]
  intro i j hi hj hij
  have hi' : i < d.size := by simpa using hi
  have hj' : j < d.size := by simpa using hj
  have := h i j (Nat.zero_le _) hij hj'
  rw [ltOf_cmp, getElem!_pos d i hi', getElem!_pos d j hj'] at this
  simpa using of_decide_eq_false this
theorem perm_list {d d' : Array Dt.Dot} (h : PermIn 0 d.size d d') : d'.toList.Perm d.toList := by
  obtain ⟨h1, _, h2⟩ := h
  have e1 : d'.extract 0 d.size = d' := by rw [← h1]; simp
  have e2 : d.extract 0 d.size = d := by simp
  rw [e1, e2] at h2; exact h2
set_option maxRecDepth 100000 in
set_option maxHeartbeats 2000000 in
theorem sortDot (blk cap : Nat) (xs : List Dt.Dot) (w : World) (hH : HoldsK encD 3 w blk 0 xs.toArray) (hblk : blk < w.heap.size) (hsz : xs.length < 1000000000) :
    Calls Try.prog 49 #[.slice (some ⟨blk, 0, none⟩) xs.length cap, .func (.func 10) #[] #[]] w (SortPost w blk xs) := by
  have eg : ∀ args w, (callFunc 10 args).run Try.prog w = .ok (.enter 10 args) w := enters_of Try.func10 (by kernel_rfl) rfl
  have hlim : Lib.bitLen xs.length < 4611686018427387904 := Nat.lt_of_le_of_lt (Lib.bitLen_le xs.length 62 (by omega) (by omega)) (by omega)
  have hp := AnyQ.pdqsortCmpFunc_all (P := Try.prog) Try.pdqDot 3 Try.isAgg29 Try.sizeOf29 encD Dt.cmp 10 #[] swoDot blk 0 cap xs.toArray w eg (dotLays blk 0 _ w) ⟨encD_len, encD_one, hH, hblk⟩ (xs.length + 1) 0 xs.length (Lib.bitLen xs.length) xs.toArray w (by omega) rfl (SWK.start hH) (Nat.zero_le _) (by simp) (by simp; omega) hlim (Or.inl rfl)
  have hl : Calls Try.prog 53 #[.int .u64 (xs.length : Int)] w fun e w' => e = .returned (.int .i64 (Lib.bitLen xs.length : Nat)) ∧ w = w' := by
    have h := Any.bits_Len (SlLaysF0.n15.bits Try.lenU) (xs.length : Int) w (by omega) (by omega)
    rw [Int.toNat_natCast] at h
    exact h.mono fun _ _ ⟨h1, h2⟩ => ⟨h1, h2.symm⟩
  have hpost : ∀ w', SWK encD 3 w blk 0 (pdq (ltOf Dt.cmp) xs.toArray 0 xs.length (Lib.bitLen xs.length) true true) w' → SortPost w blk xs (.returned (.tuple #[])) w' := by
    rintro w' ⟨n, os, rfl⟩
    have h := pdq_sorts (ltOf Dt.cmp) swoDot xs.toArray 0 xs.toArray.size (Lib.bitLen xs.length) true true (Nat.zero_le _) (Nat.le_refl _) (Or.inl rfl)
    refine ⟨rfl, (pdq (ltOf Dt.cmp) xs.toArray 0 xs.length (Lib.bitLen xs.length) true true).toList, by simpa using perm_list h.1, sorted_list (by have h1 := h.1.1; have h2 := h.2; simp only [List.size_toArray] at h1 h2; rw [h1]; exact h2), ?_, sortWorld_grown _ _ _ _ _⟩
    exact holdsK_sortWorldK_c encD 3 w blk 0 xs.toArray _ n os hH hblk h.1.1
  have hp2 : Calls Try.prog 52 #[.slice (some ⟨blk, 0, none⟩) xs.length cap, .int .i64 0, .int .i64 (xs.length : Nat), .int .i64 (Lib.bitLen xs.length : Nat), .func (.func 10) #[] #[]] w (SortPost w blk xs) := by
    refine Calls.mono ?_ (fun e w' (h : e = .returned (.tuple #[]) ∧ SWK encD 3 w blk 0 (pdq (ltOf Dt.cmp) xs.toArray 0 xs.length (Lib.bitLen xs.length) true true) w') => by rw [h.1]; exact hpost w' h.2)
    simp only [List.size_toArray] at hp
    exact hp
  have Hp := Lib.hid hp2; have Hl := Lib.hid hl
  clear hp hl hpost hH hp2 hlim
  go_enter Try.func49, Try.ntmps49
  go_wp2_with fail
  refine Hl.out.mono ?_
  rintro e w' ⟨rfl, rfl⟩
  go_wp2_with fail
  refine Hp.out.mono ?_
  rintro e w' ⟨rfl, h⟩
  have H := Lib.hid h; clear h
  go_wp2_with fail
  go_end0
  exact ⟨rfl, H.out⟩
set_option maxHeartbeats 400000 in
theorem sort_none (p : Option Addr) (cap : Nat) (fv : Value) (w : World) :
    Calls Try.prog 49 #[.slice p 0 cap, fv] w fun e w' => e = .returned (.tuple #[]) ∧ w = w' := by
  have hl : Calls Try.prog 53 #[.int .u64 0] w fun e w' => e = .returned (.int .i64 (Lib.bitLen 0 : Nat)) ∧ w = w' :=
    (Any.bits_Len (SlLaysF0.n15.bits Try.lenU) 0 w (by omega) (by omega)).mono fun _ _ ⟨h1, h2⟩ => ⟨h1, h2.symm⟩
  have Hl := Lib.hid hl; clear hl
  go_enter Try.func49, Try.ntmps49
  go_wp2_with fail
  refine Hl.out.mono ?_
  rintro e w' ⟨rfl, rfl⟩
  go_wp2_with fail
  refine (pdq_none _ _ _ _ _).mono ?_
  rintro e w' ⟨rfl, rfl⟩
  go_wp2_with fail
  go_end0
  exact ⟨rfl, rfl⟩
end Go.Proofs.Ytfebbdnibimmmaa
