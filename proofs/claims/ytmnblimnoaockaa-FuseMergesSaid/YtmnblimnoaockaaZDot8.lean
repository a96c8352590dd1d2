import Derived.Test.YtmnblimnoaockaaZLeaf8
import Derived.Test.YtmnblimnoaockaaShelf
import Derived.Test.YtmnblimnoaockaaZOwn
namespace Go.Proofs.Ytmnblimnoaockaa
open Go.Shelf Go.RowKit Go.Lib Go.Sort
open Go.RegG (Gr)
def encD (d : Dt.Dot) : List Value := [.int .u8 (d.1.1 : Int), .int .u32 (d.1.2 : Int), .int .u64 (d.2 : Int)]
theorem encD_len (d : Dt.Dot) : (encD d).length = 3 := rfl
theorem encD_one (d : Dt.Dot) : ∀ v ∈ encD d, v.oneCell' = true := by intro v hv; simp [encD] at hv; rcases hv with rfl | rfl | rfl <;> rfl
theorem ltOf_cmp (x y : Dt.Dot) : ltOf Dt.cmp x y = Dt.less x y := by
 unfold ltOf Dt.cmp Dt.less
 by_cases h1 : Dt.lt x y
 ·simp [h1]
 ·by_cases h2 : Dt.lt y x <;> simp [h1, h2]
theorem lt_ntrans {x y z : Dt.Dot} (h : ¬ Dt.lt x y) (g : ¬ Dt.lt y z) : ¬ Dt.lt x z := by rw [Dt.lt_iff] at *; omega
theorem swoDot : SWO (ltOf Dt.cmp) where
 irrefl x := by rw [ltOf_cmp]; exact decide_eq_false (Dt.lt_irrefl x)
 trans x y z h1 h2 := by rw [ltOf_cmp] at *; exact decide_eq_true (Dt.lt_trans (of_decide_eq_true h1) (of_decide_eq_true h2))
 ntrans x y z h1 h2 := by rw [ltOf_cmp] at *; exact decide_eq_false (lt_ntrans (of_decide_eq_false h1) (of_decide_eq_false h2))
set_option maxHeartbeats 2000000 in
theorem insertion_none (p : Option Addr) (cap : Nat) (fv : Value) (w : World) :
  Calls Try.prog 66 #[.slice p 0 cap, .int .i64 0, .int .i64 0, fv] w fun e w' => e = .returned (.tuple #[]) ∧ w = w' := by
 go_enter Try.func66, Try.ntmps66
 go_wp2
 refine wp_loop_rounds 1 ?_
 rw [rounds_succ]
 go_wp2
 go_end0
 exact ⟨rfl, rfl⟩
set_option maxHeartbeats 2000000 in
theorem pdq_none (p : Option Addr) (cap : Nat) (lim : Int) (fv : Value) (w : World) :
  Calls Try.prog 57 #[.slice p 0 cap, .int .i64 0, .int .i64 0, .int .i64 lim, fv] w fun e w' => e = .returned (.tuple #[]) ∧ w = w' := by
 go_enter Try.func57, Try.ntmps57
 go_wp2
 refine wp_loop_rounds 1 ?_
 rw [rounds_succ]
 go_wp2_with (go_at_call 66; refine (insertion_none _ _ _ _).mono ?_; rintro e w' ⟨rfl, rfl⟩)
 (try simp only [Exit.inBlock, Exit.then])
 first | go_end0 | (refine bodyPost_ret (results_none rfl _ _ _) rfl ?_)
 exact ⟨rfl, rfl⟩
end Go.Proofs.Ytmnblimnoaockaa
namespace Go.Proofs.Ytmnblimnoaockaa
open Go.Shelf Go.RowKit Go.Lib Go.Sort
def SortPost (w : World) (blk : Nat) (xs : List Dt.Dot) (e : Ending) (w' : World) : Prop :=
 e = .returned (.tuple #[]) ∧ ∃ ys : List Dt.Dot, ys.Perm xs ∧ ys.Pairwise (fun x y => ¬ Dt.lt y x) ∧ HoldsK encD 3 w' blk 0 ys.toArray ∧ w.grownBy w' (some blk)
theorem mapBlock_grown (w : World) (blk : Nat) (f : Array Value → Array Value) : w.grownBy (mapBlock w blk f) (some blk) := by
 refine ⟨rfl, rfl, rfl, by simp [mapBlock], fun k _ hne => ?_⟩
 simp only [mapBlock, Array.getElem?_modify]
 rw [if_neg (fun e => hne (by rw [e]))]
theorem sortWorld_grown (w : World) (blk n : Nat) (d : Array Dt.Dot) (os : Array Obj) : w.grownBy (sortWorldK encD 3 w blk 0 n d os) (some blk) := by
 have h : w.grownBy (putRowK encD 3 (Sort.ahead w n) blk 0 d) (some blk) := by
  have := mapBlock_grown (Sort.ahead w n) blk (putCells id 0 (flatK encD 3 d))
  exact ⟨this.os, this.tape, this.output, this.size, this.block⟩
 unfold sortWorldK
 refine ⟨h.os, h.tape, h.output, Nat.le_trans h.size (by simp), fun k hk hne => ?_⟩
 rw [← h.block k hk hne]
 exact heap_grow_old _ _ (Nat.lt_of_lt_of_le hk h.size)
theorem sorted_list {d : Array Dt.Dot} (h : SortedIn (ltOf Dt.cmp) 0 d.size d) : d.toList.Pairwise (fun x y => ¬ Dt.lt y x) := by
 rw [List.pairwise_iff_getElem]
 intro i j hi hj hij
 have hi' : i < d.size := by simpa using hi
 have hj' : j < d.size := by simpa using hj
 have := h i j (Nat.zero_le _) hij hj'
 rw [ltOf_cmp, getElem!_pos d i hi', getElem!_pos d j hj'] at this
 simpa using of_decide_eq_false this
theorem perm_list {d d' : Array Dt.Dot} (h : PermIn 0 d.size d d') : d'.toList.Perm d.toList := by
 obtain ⟨h1, _, h2⟩ := h
 have e1 : d'.extract 0 d.size = d' := by rw [← h1]; simp
 have e2 : d.extract 0 d.size = d := by simp
 rw [e1, e2] at h2; exact h2
end Go.Proofs.Ytmnblimnoaockaa
namespace Go.Proofs.Ytmnblimnoaockaa
open Go.Shelf Go.RowKit Go.Maps
def RetVec (W : World) (L : List Dt.Dot) (e : Ending) (w' : World) : Prop := ∃ a c, e = .returned (.slice a L.length c) ∧ VRow w' a c L ∧ Below W.heap.size W w'
def dotsV (l : List Dt.Dot) : List Value := l.flatMap encD
theorem info_dot : (Try.prog.info? 27).map (fun i => (i.zero, i.size, i.bytes)) = some (some (.agg #[.int .u8 0, .int .u32 0, .int .u64 0]), 3, 16) := by kernel_rfl
def VecInv (f : Dt.Ac → Nat) (D : DataW Unit) (left : Lit → Bool) (xs : List Dt.Dot) : Prop :=
 xs.Pairwise (fun x y => x.1 ≠ y.1) ∧ ∀ d, d ∈ xs ↔ (okAc d.1 ∧ 0 < d.2 ∧ d.2 = f d.1 ∧ Maps.has D (kl d.1) = true ∧ left (kl d.1) = false)
end Go.Proofs.Ytmnblimnoaockaa
namespace Go.Proofs.Ytmnblimnoaockaa
open Go.RowKit Go.Buf Go.LB Go.Lib
set_option linter.unusedSimpArgs false
set_option linter.unusedVariables false
theorem encI_len (d : Lm.It) : (encI d).length = 5 := rfl
theorem encI_one (d : Lm.It) : ∀ v ∈ encI d, v.oneCell' = true := by intro v hv; simp [encI] at hv; rcases hv with rfl | rfl | rfl | rfl | rfl <;> rfl
abbrev OwnI (B : Nat) (w : World) (v : Value) (l : List Lm.It) (row : Option Nat) : Prop := Own 41 5 encI B w v l row
abbrev OwnD (B : Nat) (w : World) (v : Value) (l : List Dt.Dot) (row : Option Nat) : Prop := Own 27 3 encD B w v l row
theorem ownI_row {B : Nat} {w : World} {v : Value} {l : List Lm.It} {row : Option Nat} (h : OwnI B w v l row) (hok : ∀ x ∈ l, okI x) : ∃ a c, v = .slice a l.length c ∧ IRow w a c l := by
 obtain ⟨a, c, h1, h2, h3, h4, h5⟩ := h.reads encI_len
 refine ⟨a, c, h1, h2, h3, hok, h4, fun i d hd => ?_⟩
 obtain ⟨q, hq, hc⟩ := h5 i d hd
 exact ⟨q, hq, hc 0 _ rfl, hc 1 _ rfl, hc 2 _ rfl, hc 3 _ rfl, hc 4 _ rfl⟩
theorem ownD_row {B : Nat} {w : World} {v : Value} {l : List Dt.Dot} {row : Option Nat} (h : OwnD B w v l row) (hok : ∀ x ∈ l, Dt.okD x) : ∃ a c, v = .slice a l.length c ∧ VRow w a c l := by
 obtain ⟨a, c, h1, h2, h3, h4, h5⟩ := h.reads encD_len
 refine ⟨a, c, h1, h2, h3, hok, h4, fun i d hd => ?_⟩
 obtain ⟨q, hq, hc⟩ := h5 i d hd
 exact ⟨q, hq, hc 0 _ rfl, hc 1 _ rfl, hc 2 _ rfl⟩
theorem flatI_one (l : List Lm.It) : ∀ u ∈ l.flatMap encI, u.oneCell' = true := by
 intro u hu
 rw [List.mem_flatMap] at hu
 obtain ⟨d, _, hd⟩ := hu
 exact encI_one d u hd
theorem flatD_one (l : List Dt.Dot) : ∀ u ∈ l.flatMap encD, u.oneCell' = true := by
 intro u hu
 rw [List.mem_flatMap] at hu
 obtain ⟨d, _, hd⟩ := hu
 exact encD_one d u hd
theorem IRow.holds {w : World} {p : Addr} {cap : Nat} {l : List Lm.It} (h : IRow w (some p) cap l) : ∀ j u, (l.flatMap encI)[j]? = some u → w.cell? (p.add j) = some u := by
 intro j u hu
 obtain ⟨i, d, r, h1, h2, rfl, h4⟩ := flat_get encI_len (by omega) hu
 obtain ⟨q, hq, c0, c1, c2, c3, c4⟩ := h.2.2.2.2 i d h1
 cases hq
 have : r = 0 ∨ r = 1 ∨ r = 2 ∨ r = 3 ∨ r = 4 := by omega
 rcases this with rfl | rfl | rfl | rfl | rfl <;> simp [encI] at h4 <;> subst h4
 ·simpa using c0
 ·exact c1
 ·exact c2
 ·exact c3
 ·exact c4
theorem VRow.holds {w : World} {p : Addr} {cap : Nat} {l : List Dt.Dot} (h : VRow w (some p) cap l) : ∀ j u, (l.flatMap encD)[j]? = some u → w.cell? (p.add j) = some u := by
 intro j u hu
 obtain ⟨i, d, r, h1, h2, rfl, h4⟩ := flat_get encD_len (by omega) hu
 obtain ⟨q, hq, c0, c1, c2⟩ := h.2.2.2.2 i d h1
 cases hq
 have : r = 0 ∨ r = 1 ∨ r = 2 := by omega
 rcases this with rfl | rfl | rfl <;> simp [encD] at h4 <;> subst h4
 ·simpa using c0
 ·exact c1
 ·exact c2
theorem srcI {w : World} {a : Option Addr} {cap : Nat} {l : List Lm.It} (h : IRow w a cap l) : Src Try.prog 5 28 (.slice a l.length cap) l.length (l.flatMap encI) w := by
 cases a with
 | none =>
  have := h.2.2.2.1 rfl
  have hle := h.le
  have hl : l = [] := List.eq_nil_of_length_eq_zero (by omega)
  subst hl
  exact Src.ofNil w Try.underlying28 cap
 | some p => exact Src.ofSlice w Try.underlying28 p l.length cap _ (enc_length encI_len l) h.holds (flatI_one l)
theorem srcD {w : World} {a : Option Addr} {cap : Nat} {l : List Dt.Dot} (h : VRow w a cap l) : Src Try.prog 3 29 (.slice a l.length cap) l.length (l.flatMap encD) w := by
 cases a with
 | none =>
  have := h.2.2.2.1 rfl
  have hle := h.le
  have hl : l = [] := List.eq_nil_of_length_eq_zero (by omega)
  subst hl
  exact Src.ofNil w Try.underlying29 cap
 | some p => exact Src.ofSlice w Try.underlying29 p l.length cap _ (enc_length encD_len l) h.holds (flatD_one l)
theorem info_item : (Try.prog.info? 41).map (fun i => (i.zero, i.size, i.bytes)) = some (some (.agg #[.int .u64 0, .int .u8 0, .int .u32 0, .int .u64 0, .string ⟨#[]⟩]), 5, 40) := by kernel_rfl
set_option maxRecDepth 100000 in
set_option maxHeartbeats 1000000 in
theorem cloneI_any (a : Option Addr) (n cap : Nat) (l : List Lm.It) (W : World) (hr : IRow W a cap l) (hl : l.length = n) (hn : n ≤ 1000000000) :
  Calls Try.prog 21 #[.slice a n cap] W fun e w' => (∃ v row, e = .returned v ∧ OwnI W.heap.size w' v l row) ∧ Below W.heap.size W w' := by
 have ke := fun (w : World) (a : Option Addr) (n c : Nat) => Lib.run_eql_slice_nil (P := Try.prog) w 28 41 a n c 0 0 Try.underlying28
 cases a with
 | none =>
  have h1 := hr.2.2.2.1 rfl
  have hle := hr.le
  obtain rfl : l = [] := List.eq_nil_of_length_eq_zero (by omega)
  simp at hl
  subst hl
  subst h1
  clear hr hle
  go_enter Try.func21, Try.ntmps21
  go_wp2_with fail
  go_ret
  exact ⟨⟨_, none, rfl, Own.empty (Nat.le_refl _) none⟩, Below.refl _ _⟩
 | some p =>
  have HR := Lib.hid hr; have HL := Lib.hid hl
  clear hr hl
  obtain ⟨i0, hi, hz0, hz1, hz2⟩ := info_parts info_item
  have hrun : ∀ ty, ∃ v' w' row', (Builtin.append_ #[28, 28] ty #[.slice (some ⟨W.heap.size, 0, none⟩) 0 0, .slice (some p) n cap]).run Try.prog (W.alloc (.cells #[] 41)) = .ok v' w' ∧ OwnI (W.alloc (.cells #[] 41)).heap.size w' v' l row' ∧ (W.alloc (.cells #[] 41)).grownBy w' none ∧ New (W.alloc (.cells #[] 41)) none row' := fun ty => by
   have hs := srcI (HR.out.below ((Below.refl _ _).alloc (Nat.le_refl _) (.cells #[] 41)))
   rw [HL.out] at hs
   have := LB.run_append_owned (P := Try.prog) encI_len (W.alloc (.cells #[] 41)) (W.alloc (.cells #[] 41)).heap.size 28 28 ty i0 _ 40 Try.underlying28 hi hz0 hz1 hz2 rfl (Own.empty (Nat.le_refl _) (some ⟨W.heap.size, 0, none⟩)) (.slice (some p) n cap) l (by rw [HL.out]; exact hs) (by simp [maxLen]; have := HL.out; omega) (by simp; have := HL.out; omega)
   simpa using this
  have HRun := Lib.hid hrun; clear hrun hi hz0 hz1 hz2
  obtain ⟨v, w1, row, h1, h2, h3, h4⟩ := HRun.out 28
  have H2 := Lib.hid h2; have H3 := Lib.hid h3
  clear h2 h3 h4
  go_enter Try.func21, Try.ntmps21
  go_wp2_with (at_builtin; refine Lib.wpList_append_run _ rfl _ _ _ _ rfl _ _ rfl rfl _ _ h1 ?_)
  go_ret
  refine ⟨⟨_, row, rfl, H2.out.base (by simp)⟩, ?_⟩
  exact ((Below.refl W.heap.size W).alloc (Nat.le_refl _) _).trans ((below_of_grown H3.out (Nat.le_refl _) (fun k e => by cases e)).mono (by simp))
end Go.Proofs.Ytmnblimnoaockaa
namespace Go.Proofs.Ytmnblimnoaockaa
open Go.RowKit Go.Buf Go.LB Go.Lib
set_option linter.unusedSimpArgs false
set_option linter.unusedVariables false
theorem zeroDot (w : World) : (zeroValue 27).run Try.prog w = .ok (.agg #[.int .u8 0, .int .u32 0, .int .u64 0]) w := by kernel_rfl
theorem filter_take {p : Lm.It → Bool} {l : List Lm.It} {j : Nat} {x : Lm.It} (h : l[j]? = some x) : (l.take (j + 1)).filter p = (l.take j).filter p ++ (if p x then [x] else []) := by
 obtain ⟨hj, rfl⟩ := List.getElem?_eq_some_iff.1 h
 rw [List.take_succ_eq_append_getElem hj, List.filter_append]
 simp [List.filter_cons]
end Go.Proofs.Ytmnblimnoaockaa
