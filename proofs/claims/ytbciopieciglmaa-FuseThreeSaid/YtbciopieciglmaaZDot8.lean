import Derived.Test.YtbciopieciglmaaZLeaf8
import Derived.Test.YtbciopieciglmaaShelf
import Derived.Test.YtbciopieciglmaaZOwn
namespace Go.Proofs.Ytbciopieciglmaa
open Go.Shelf Go.RowKit Go.Lib Go.Sort
open Go.RegG (Gr)
def encD (d : Dt.Dot) : List Value := [.int .u8 (d.1.1 : Int), .int .u32 (d.1.2 : Int), .int .u64 (d.2 : Int)]
theorem encD_len (d : Dt.Dot) : (encD d).length = 3 := rfl
theorem encD_one (d : Dt.Dot) : ∀ v ∈ encD d, v.oneCell' = true := by intro v hv; simp [encD] at hv; rcases hv with rfl | rfl | rfl <;> rfl
theorem ltOf_cmp (x y : Dt.Dot) : ltOf Dt.cmp x y = Dt.less x y := by
 unfold ltOf Dt.cmp Dt.less
 by_cases h1 : Dt.lt x y
 ·simp [h1]
 ·by_cases h2 : Dt.lt y x <;> simp [h1, h2]
theorem lt_ntrans {x y z : Dt.Dot} (h : ¬ Dt.lt x y) (g : ¬ Dt.lt y z) : ¬ Dt.lt x z := by rw [Dt.lt_iff] at *; omega
theorem swoDot : SWO (ltOf Dt.cmp) where
 irrefl x := by rw [ltOf_cmp]; exact decide_eq_false (Dt.lt_irrefl x)
 trans x y z h1 h2 := by rw [ltOf_cmp] at *; exact decide_eq_true (Dt.lt_trans (of_decide_eq_true h1) (of_decide_eq_true h2))
 ntrans x y z h1 h2 := by rw [ltOf_cmp] at *; exact decide_eq_false (lt_ntrans (of_decide_eq_false h1) (of_decide_eq_false h2))
set_option maxHeartbeats 2000000 in
theorem insertion_none (p : Option Addr) (cap : Nat) (fv : Value) (w : World) :
  Calls Try.prog 67 #[.slice p 0 cap, .int .i64 0, .int .i64 0, fv] w fun e w' => e = .returned (.tuple #[]) ∧ w = w' := by
 go_enter Try.func67, Try.ntmps67
 go_wp2
 refine wp_loop_rounds 1 ?_
 rw [rounds_succ]
 go_wp2
 go_end0
 exact ⟨rfl, rfl⟩
set_option maxHeartbeats 2000000 in
theorem pdq_none (p : Option Addr) (cap : Nat) (lim : Int) (fv : Value) (w : World) :
  Calls Try.prog 57 #[.slice p 0 cap, .int .i64 0, .int .i64 0, .int .i64 lim, fv] w fun e w' => e = .returned (.tuple #[]) ∧ w = w' := by
 go_enter Try.func57, Try.ntmps57
 go_wp2
 refine wp_loop_rounds 1 ?_
 rw [rounds_succ]
 go_wp2_with (go_at_call 67; refine (insertion_none _ _ _ _).mono ?_; rintro e w' ⟨rfl, rfl⟩)
 (try simp only [Exit.inBlock, Exit.then])
 first | go_end0 | (refine bodyPost_ret (results_none rfl _ _ _) rfl ?_)
 exact ⟨rfl, rfl⟩
end Go.Proofs.Ytbciopieciglmaa
namespace Go.Proofs.Ytbciopieciglmaa
open Go.Shelf Go.RowKit Go.Lib Go.Sort
def SortPost (w : World) (blk : Nat) (xs : List Dt.Dot) (e : Ending) (w' : World) : Prop :=
 e = .returned (.tuple #[]) ∧ ∃ ys : List Dt.Dot, ys.Perm xs ∧ ys.Pairwise (fun x y => ¬ Dt.lt y x) ∧ HoldsK encD 3 w' blk 0 ys.toArray ∧ w.grownBy w' (some blk)
theorem mapBlock_grown (w : World) (blk : Nat) (f : Array Value → Array Value) : w.grownBy (mapBlock w blk f) (some blk) := by
 refine ⟨rfl, rfl, rfl, by simp [mapBlock], fun k _ hne => ?_⟩
 simp only [mapBlock, Array.getElem?_modify]
 rw [if_neg (fun e => hne (by rw [e]))]
theorem sortWorld_grown (w : World) (blk n : Nat) (d : Array Dt.Dot) (os : Array Obj) : w.grownBy (sortWorldK encD 3 w blk 0 n d os) (some blk) := by
 have h : w.grownBy (putRowK encD 3 (Sort.ahead w n) blk 0 d) (some blk) := by
  have := mapBlock_grown (Sort.ahead w n) blk (putCells id 0 (flatK encD 3 d))
  exact ⟨this.os, this.tape, this.output, this.size, this.block⟩
 unfold sortWorldK
 refine ⟨h.os, h.tape, h.output, Nat.le_trans h.size (by simp), fun k hk hne => ?_⟩
 rw [← h.block k hk hne]
 exact heap_grow_old _ _ (Nat.lt_of_lt_of_le hk h.size)
theorem sorted_list {d : Array Dt.Dot} (h : SortedIn (ltOf Dt.cmp) 0 d.size d) : d.toList.Pairwise (fun x y => ¬ Dt.lt y x) := by
 rw [List.pairwise_iff_getElem]
 intro i j hi hj hij
 have hi' : i < d.size := by simpa using hi
 have hj' : j < d.size := by simpa using hj
 have := h i j (Nat.zero_le _) hij hj'
 rw [ltOf_cmp, getElem!_pos d i hi', getElem!_pos d j hj'] at this
 simpa using of_decide_eq_false this
theorem perm_list {d d' : Array Dt.Dot} (h : PermIn 0 d.size d d') : d'.toList.Perm d.toList := by
 obtain ⟨h1, _, h2⟩ := h
 have e1 : d'.extract 0 d.size = d' := by rw [← h1]; simp
 have e2 : d.extract 0 d.size = d := by simp
 rw [e1, e2] at h2; exact h2
end Go.Proofs.Ytbciopieciglmaa
namespace Go.Proofs.Ytbciopieciglmaa
open Go.Shelf Go.RowKit Go.Maps
def RetVec (W : World) (L : List Dt.Dot) (e : Ending) (w' : World) : Prop := ∃ a c, e = .returned (.slice a L.length c) ∧ VRow w' a c L ∧ Below W.heap.size W w'
def dotsV (l : List Dt.Dot) : List Value := l.flatMap encD
theorem info_dot : (Try.prog.info? 31).map (fun i => (i.zero, i.size, i.bytes)) = some (some (.agg #[.int .u8 0, .int .u32 0, .int .u64 0]), 3, 16) := by kernel_rfl
def VecInv (f : Dt.Ac → Nat) (D : DataW Unit) (left : Lit → Bool) (xs : List Dt.Dot) : Prop :=
 xs.Pairwise (fun x y => x.1 ≠ y.1) ∧ ∀ d, d ∈ xs ↔ (okAc d.1 ∧ 0 < d.2 ∧ d.2 = f d.1 ∧ Maps.has D (kl d.1) = true ∧ left (kl d.1) = false)
end Go.Proofs.Ytbciopieciglmaa
namespace Go.Proofs.Ytbciopieciglmaa
open Go.RowKit Go.Buf Go.LB Go.Lib
set_option linter.unusedSimpArgs false
set_option linter.unusedVariables false
theorem encI_len (d : Lm.It) : (encI d).length = 5 := rfl
theorem encI_one (d : Lm.It) : ∀ v ∈ encI d, v.oneCell' = true := by intro v hv; simp [encI] at hv; rcases hv with rfl | rfl | rfl | rfl | rfl <;> rfl
abbrev OwnI (B : Nat) (w : World) (v : Value) (l : List Lm.It) (row : Option Nat) : Prop := Own 51 5 encI B w v l row
abbrev OwnD (B : Nat) (w : World) (v : Value) (l : List Dt.Dot) (row : Option Nat) : Prop := Own 31 3 encD B w v l row
theorem ownI_row {B : Nat} {w : World} {v : Value} {l : List Lm.It} {row : Option Nat} (h : OwnI B w v l row) (hok : ∀ x ∈ l, okI x) : ∃ a c, v = .slice a l.length c ∧ IRow w a c l := by
 obtain ⟨a, c, h1, h2, h3, h4, h5⟩ := h.reads encI_len
 refine ⟨a, c, h1, h2, h3, hok, h4, fun i d hd => ?_⟩
 obtain ⟨q, hq, hc⟩ := h5 i d hd
 exact ⟨q, hq, hc 0 _ rfl, hc 1 _ rfl, hc 2 _ rfl, hc 3 _ rfl, hc 4 _ rfl⟩
theorem ownD_row {B : Nat} {w : World} {v : Value} {l : List Dt.Dot} {row : Option Nat} (h : OwnD B w v l row) (hok : ∀ x ∈ l, Dt.okD x) : ∃ a c, v = .slice a l.length c ∧ VRow w a c l := by
 obtain ⟨a, c, h1, h2, h3, h4, h5⟩ := h.reads encD_len
 refine ⟨a, c, h1, h2, h3, hok, h4, fun i d hd => ?_⟩
 obtain ⟨q, hq, hc⟩ := h5 i d hd
 exact ⟨q, hq, hc 0 _ rfl, hc 1 _ rfl, hc 2 _ rfl⟩
theorem flatI_one (l : List Lm.It) : ∀ u ∈ l.flatMap encI, u.oneCell' = true := by
 intro u hu
 rw [List.mem_flatMap] at hu
 obtain ⟨d, _, hd⟩ := hu
 exact encI_one d u hd
theorem flatD_one (l : List Dt.Dot) : ∀ u ∈ l.flatMap encD, u.oneCell' = true := by
 intro u hu
 rw [List.mem_flatMap] at hu
 obtain ⟨d, _, hd⟩ := hu
 exact encD_one d u hd
theorem IRow.holds {w : World} {p : Addr} {cap : Nat} {l : List Lm.It} (h : IRow w (some p) cap l) : ∀ j u, (l.flatMap encI)[j]? = some u → w.cell? (p.add j) = some u := by
 intro j u hu
 obtain ⟨i, d, r, h1, h2, rfl, h4⟩ := flat_get encI_len (by omega) hu
 obtain ⟨q, hq, c0, c1, c2, c3, c4⟩ := h.2.2.2.2 i d h1
 cases hq
 have : r = 0 ∨ r = 1 ∨ r = 2 ∨ r = 3 ∨ r = 4 := by omega
 rcases this with rfl | rfl | rfl | rfl | rfl <;> simp [encI] at h4 <;> subst h4
 ·simpa using c0
 ·exact c1
 ·exact c2
 ·exact c3
 ·exact c4
theorem VRow.holds {w : World} {p : Addr} {cap : Nat} {l : List Dt.Dot} (h : VRow w (some p) cap l) : ∀ j u, (l.flatMap encD)[j]? = some u → w.cell? (p.add j) = some u := by
 intro j u hu
 obtain ⟨i, d, r, h1, h2, rfl, h4⟩ := flat_get encD_len (by omega) hu
 obtain ⟨q, hq, c0, c1, c2⟩ := h.2.2.2.2 i d h1
 cases hq
 have : r = 0 ∨ r = 1 ∨ r = 2 := by omega
 rcases this with rfl | rfl | rfl <;> simp [encD] at h4 <;> subst h4
 ·simpa using c0
 ·exact c1
 ·exact c2
theorem srcI {w : World} {a : Option Addr} {cap : Nat} {l : List Lm.It} (h : IRow w a cap l) : Src Try.prog 5 38 (.slice a l.length cap) l.length (l.flatMap encI) w := by
 cases a with
 | none =>
  have := h.2.2.2.1 rfl
  have hle := h.le
  have hl : l = [] := List.eq_nil_of_length_eq_zero (by omega)
  subst hl
  exact Src.ofNil w Try.underlying38 cap
 | some p => exact Src.ofSlice w Try.underlying38 p l.length cap _ (enc_length encI_len l) h.holds (flatI_one l)
theorem srcD {w : World} {a : Option Addr} {cap : Nat} {l : List Dt.Dot} (h : VRow w a cap l) : Src Try.prog 3 33 (.slice a l.length cap) l.length (l.flatMap encD) w := by
 cases a with
 | none =>
  have := h.2.2.2.1 rfl
  have hle := h.le
  have hl : l = [] := List.eq_nil_of_length_eq_zero (by omega)
  subst hl
  exact Src.ofNil w Try.underlying33 cap
 | some p => exact Src.ofSlice w Try.underlying33 p l.length cap _ (enc_length encD_len l) h.holds (flatD_one l)
theorem info_item : (Try.prog.info? 51).map (fun i => (i.zero, i.size, i.bytes)) = some (some (.agg #[.int .u64 0, .int .u8 0, .int .u32 0, .int .u64 0, .string ⟨#[]⟩]), 5, 40) := by kernel_rfl
end Go.Proofs.Ytbciopieciglmaa
namespace Go.Proofs.Ytbciopieciglmaa
open Go.RowKit Go.Buf Go.LB Go.Lib
set_option linter.unusedSimpArgs false
set_option linter.unusedVariables false
theorem zeroDot (w : World) : (zeroValue 31).run Try.prog w = .ok (.agg #[.int .u8 0, .int .u32 0, .int .u64 0]) w := by kernel_rfl
theorem filter_take {p : Lm.It → Bool} {l : List Lm.It} {j : Nat} {x : Lm.It} (h : l[j]? = some x) : (l.take (j + 1)).filter p = (l.take j).filter p ++ (if p x then [x] else []) := by
 obtain ⟨hj, rfl⟩ := List.getElem?_eq_some_iff.1 h
 rw [List.take_succ_eq_append_getElem hj, List.filter_append]
 simp [List.filter_cons]
end Go.Proofs.Ytbciopieciglmaa
namespace Go.Proofs.Ytbciopieciglmaa
open Go.RowKit Go.Buf Go.LB Go.Lib
set_option linter.unusedSimpArgs false
set_option linter.unusedVariables false
theorem elemD {w : World} {g : Nat} {l : List Dt.Dot} {tl : List Value} (h : Blk w g 31 (l.flatMap encD ++ tl)) {j : Nat} {x : Dt.Dot} (hx : l[j]? = some x) :
  w.cell? ⟨g, j * 3, none⟩ = some (.int .u8 (x.1.1 : Int)) ∧ w.cell? ⟨g, j * 3 + 1, none⟩ = some (.int .u32 (x.1.2 : Int)) ∧ w.cell? ⟨g, j * 3 + 2, none⟩ = some (.int .u64 (x.2 : Int)) := by
 have hj := (List.getElem?_eq_some_iff.1 hx).1
 have hc : ∀ r u, r < 3 → (encD x)[r]? = some u → w.cell? ⟨g, j * 3 + r, none⟩ = some u := fun r u hr hu => by
  rw [h.cell, List.getElem?_append_left (by rw [enc_length encD_len]; omega), enc_get encD_len l j x hx r hr]; exact hu
 exact ⟨hc 0 _ (by omega) rfl, hc 1 _ (by omega) rfl, hc 2 _ (by omega) rfl⟩
theorem setD {w : World} {g : Nat} {l : List Dt.Dot} {tl : List Value} (h : Blk w g 31 (l.flatMap encD ++ tl)) {k : Nat} (hk : k < l.length) (x : Dt.Dot) :
  Blk (w.setCells g (k * 3) (encD x)) g 31 ((l.set k x).flatMap encD ++ tl) := by
 have := h.setCells (encD x) (k * 3) (by rw [List.length_append, enc_length encD_len, encD_len]; omega)
 rwa [splice_elem encD_len hk] at this
theorem keptD_at {a l : List Dt.Dot} {j : Nat} (h : a.length ≤ j) : (a ++ l.drop a.length)[j]? = l[j]? := by
 rw [List.getElem?_append_right h, List.getElem?_drop]; congr 1; omega
theorem keptD_set {a l : List Dt.Dot} (h : a.length < l.length) (x : Dt.Dot) : (a ++ l.drop a.length).set a.length x = (a ++ [x]) ++ l.drop (a ++ [x]).length := by
 have e : (l.drop a.length).set 0 x = x :: l.drop (a.length + 1) := by rw [List.drop_eq_getElem_cons h]; rfl
 rw [List.set_append_right _ _ (Nat.le_refl _), Nat.sub_self, e]
 simp
theorem drewL {S : Nat → Prop} {w w' : World} (h : Chg S w w') (q : Nat) : Chg S w (w'.drewN q) := ⟨h.os, h.tape, h.output, h.size, h.block⟩
theorem blk_drewN {w : World} {b : Nat} {t : TypeId} {cs : List Value} (h : Blk w b t cs) (q : Nat) : Blk (w.drewN q) b t cs := h
theorem comp_eq {l : List Dt.Dot} {k : Nat} {d : Dt.Dot} (hk : 1 ≤ k) (hd : l[k]? = some d) (he : l[k - 1]? = some d) : Lm.compact (l.take (k + 1)) = Lm.compact (l.take k) := by
 obtain ⟨m, rfl⟩ : ∃ m, k = m + 1 := ⟨k - 1, by omega⟩
 exact Lm.compact_eq hd (by simpa using he)
theorem comp_ne {l : List Dt.Dot} {k : Nat} {d e : Dt.Dot} (hk : 1 ≤ k) (hd : l[k]? = some d) (he : l[k - 1]? = some e) (hne : d ≠ e) : Lm.compact (l.take (k + 1)) = Lm.compact (l.take k) ++ [d] := by
 obtain ⟨m, rfl⟩ : ∃ m, k = m + 1 := ⟨k - 1, by omega⟩
 exact Lm.compact_ne hd (by simpa using he) hne
theorem comp_small {l : List Dt.Dot} (h : l.length < 2) : Lm.compact l = l := by
 match l, h with
 | [], _ => rfl
 | [x], _ => rfl
theorem comp_first {l : List Dt.Dot} (h : 1 ≤ l.length) : Lm.compact (l.take 1) = l.take 1 := comp_small (by rw [List.length_take]; omega)
set_option maxRecDepth 100000 in
set_option maxHeartbeats 12800000 in
theorem compact_own (g n cap : Nat) (tl : List Value) (l : List Dt.Dot) (W : World) (hb : Blk W g 31 (l.flatMap encD ++ tl)) (hl : l.length = n) (hc : n ≤ cap) (hm : cap ≤ maxLen) (ht : (l.flatMap encD ++ tl).length = cap * 3) :
  Calls Try.prog 47 #[.slice (some ⟨g, 0, none⟩) n cap] W fun e w' => (∃ tl', e = .returned (.slice (some ⟨g, 0, none⟩) (Lm.compact l).length cap) ∧ Blk w' g 31 ((Lm.compact l).flatMap encD ++ tl') ∧ ((Lm.compact l).flatMap encD ++ tl').length = cap * 3) ∧ Chg (fun k => k = g) W w' := by
 have hm' : cap ≤ 9223372036854775807 := by unfold maxLen at hm; omega
 have hg := hb.lt
 have HBk := Lib.hid hb; have HL := Lib.hid hl; have HT := Lib.hid ht
 clear hb hl ht hm
 by_cases h2 : n < 2
 ·have hs := comp_small (l := l) (by rw [HL.out]; exact h2)
  have HS := Lib.hid hs; clear hs
  go_enter Try.func47, Try.ntmps47
  go_wp2_with fail
  go_ret
  exact ⟨⟨tl, by rw [HS.out, HL.out]; rfl, by rw [HS.out]; exact HBk.out, by rw [HS.out]; exact HT.out⟩, Chg.refl _ _⟩
 go_enter Try.func47, Try.ntmps47
 go_wp2_with fail
 go_loopw [3] (fun x wr => ∃ k : Nat, x = .int .i64 k ∧ 1 ≤ k ∧ k ≤ n ∧ Lm.compact (l.take k) = l.take k ∧ Blk wr g 31 (l.flatMap encD ++ tl) ∧ Chg (fun k => k = g) W wr) (fun x _ => n - (intOf x).toNat)
 case atStart => exact ⟨1, rfl, by omega, by omega, comp_first (by rw [HL.out]; omega), HBk.out, Chg.refl _ _⟩
 case round =>
  obtain ⟨k, rfl, hk1, hkn, hcomp, hblk, hchg⟩ := hrel
  have HCo := Lib.hid hcomp; have HBr := Lib.hid hblk; have HC := Lib.hid hchg
  clear hcomp hblk hchg
  by_cases hlt : k < n
  ·obtain ⟨d, hd⟩ := getD_some (l := l) (i := k) (by rw [HL.out]; exact hlt)
   obtain ⟨e, he⟩ := getD_some (l := l) (i := k - 1) (by rw [HL.out]; omega)
   obtain ⟨q0, q1, q2⟩ := elemD HBr.out hd
   obtain ⟨p0, p1, p2⟩ := elemD HBr.out he
   have hkz : ((k : Int) - 1) = ((k - 1 : Nat) : Int) := by omega
   have hwz : IntKind.i64.wrap ((k : Int) - 1) = ((k - 1 : Nat) : Int) := by simp [IntKind.wrap, IntKind.bits, IntKind.signed]; omega
   have HD := Lib.hid hd; have HE := Lib.hid he
   clear hd he
   have k0 : (0 : Int) ≤ (k : Int) := by omega
   have k1 : (k : Int) < (n : Int) := by omega
   have k2 : (0 : Int) ≤ ((k - 1 : Nat) : Int) := by omega
   have k3 : ((k - 1 : Nat) : Int) < (n : Int) := by omega
   have k4 : k - 1 < n := by omega
   have hwk : IntKind.i64.wrap ((k : Int) + 1) = (k : Int) + 1 := by simp [IntKind.wrap, IntKind.bits, IntKind.signed]; omega
   clear hkz
   by_cases hde : d = e
   ·subst hde
    have hcz : Lm.compact (l.take (k + 1)) = l.take k := by rw [comp_eq hk1 HD.out HE.out]; exact HCo.out
    have HCz := Lib.hid hcz; clear hcz
    obtain ⟨⟨r, i⟩, s⟩ := d
    simp only at q0 q1 q2 p0 p1 p2
    have hcpk : ¬ (cap = k) := by omega
    have kc : (k : Int) ≤ (cap : Int) := by omega
    have kl : (k : Int) ≤ (n : Int) := by omega
    go_wp2
    go_quiet (fail)
    go_wp2
    clear q0 q1 q2 p0 p1 p2
    go_loopw [3, 5] (fun x y wr => ∃ (m j : Nat) (kept : List Dt.Dot), x = .int .i64 m ∧ y = .int .i64 j ∧ 1 ≤ j ∧ k + j ≤ n ∧ m < k + j ∧ kept = Lm.compact (l.take (k + j)) ∧ kept.length = m ∧ Blk wr g 31 ((kept ++ l.drop kept.length).flatMap encD ++ tl) ∧ Chg (fun k => k = g) W wr) (fun _ y _ => n - (intOf y).toNat)
    case atStart =>
     have hx : (l.take k).length = k := by rw [List.length_take, Nat.min_eq_left (by rw [HL.out]; omega)]
     exact ⟨k, 1, l.take k, rfl, rfl, by omega, by omega, by omega, HCz.out.symm, hx, by rw [hx, List.take_append_drop]; exact blk_drewN HBr.out _, drewL HC.out _⟩
    case round =>
     obtain ⟨m, j, kept, rfl, rfl, hj1, hjn, hmj, hkept, hkl, hblk, hchg⟩ := hrel
     have HKe := Lib.hid hkept; have HKl := Lib.hid hkl; have HBs := Lib.hid hblk; have HD3 := Lib.hid hchg
     clear hkept hkl hblk hchg
     have hlen : (kept ++ l.drop kept.length).length = n := by rw [List.length_append, List.length_drop, HL.out, HKl.out]; omega
     have HLen := Lib.hid hlen; clear hlen
     have hwj : IntKind.i64.wrap ((j : Int) + 1) = (j : Int) + 1 := by simp [IntKind.wrap, IntKind.bits, IntKind.signed]; omega
     have hwm : IntKind.i64.wrap ((m : Int) + 1) = (m : Int) + 1 := by simp [IntKind.wrap, IntKind.bits, IntKind.signed]; omega
     by_cases hlt2 : k + j < n
     ·obtain ⟨d, hd⟩ := getD_some (l := l) (i := k + j) (by rw [HL.out]; exact hlt2)
      obtain ⟨e, he⟩ := getD_some (l := l) (i := k + j - 1) (by rw [HL.out]; omega)
      have hd2 : (kept ++ l.drop kept.length)[k + j]? = some d := by rw [keptD_at (by rw [HKl.out]; omega)]; exact hd
      have he2 : (kept ++ l.drop kept.length)[k + j - 1]? = some e := by rw [keptD_at (by rw [HKl.out]; omega)]; exact he
      obtain ⟨q0, q1, q2⟩ := elemD HBs.out hd2
      obtain ⟨p0, p1, p2⟩ := elemD HBs.out he2
      have HD := Lib.hid hd; have HE := Lib.hid he
      clear hd he hd2 he2
      have hwz : IntKind.i64.wrap ((j : Int) - 1) = ((j - 1 : Nat) : Int) := by simp [IntKind.wrap, IntKind.bits, IntKind.signed]; omega
      have x0 : (k + j) * 3 = k * 3 + j * 3 := by omega
      have x1 : (k + j - 1) * 3 = k * 3 + (j - 1) * 3 := by omega
      rw [x0] at q0 q1 q2
      rw [x1] at p0 p1 p2
      have j0 : (0 : Int) ≤ (j : Int) := by omega
      have j1 : (j : Int) < (n : Int) - (k : Int) := by omega
      have j2 : (0 : Int) ≤ ((j - 1 : Nat) : Int) := by omega
      have j3 : ((j - 1 : Nat) : Int) < (n : Int) - (k : Int) := by omega
      have j4 : j < n - k := by omega
      have j5 : j - 1 < n - k := by omega
      have j6 : (j : Int) < ((n - k : Nat) : Int) := by omega
      have j7 : ((j - 1 : Nat) : Int) < ((n - k : Nat) : Int) := by omega
      have m0 : (0 : Int) ≤ (m : Int) := by omega
      have m1 : (m : Int) < (n : Int) := by omega
      clear x0 x1
      by_cases hde : d = e
      ·subst hde
       have hcz : Lm.compact (l.take (k + (j + 1))) = kept := by rw [HKe.out]; exact comp_eq (k := k + j) (by omega) HD.out HE.out
       have HCy := Lib.hid hcz; clear hcz
       obtain ⟨⟨r, i⟩, s⟩ := d
       simp only at q0 q1 q2 p0 p1 p2
       go_wp2
       go_quiet (fail)
       go_wp2
       clear q0 q1 q2 p0 p1 p2
       go_roundw
       case rel => exact ⟨m, j + 1, kept, rfl, by go_num, by omega, by omega, by omega, HCy.out.symm, HKl.out, blk_drewN HBs.out _, drewL HD3.out _⟩
       case measure => simp [intOf]; omega
      ·have hcz : Lm.compact (l.take (k + (j + 1))) = kept ++ [d] := by rw [HKe.out]; exact comp_ne (k := k + j) (by omega) HD.out HE.out hde
       have HCy := Lib.hid hcz; clear hcz
       have hms : (kept ++ l.drop kept.length).set m d = (kept ++ [d]) ++ l.drop (kept ++ [d]).length := by
        have h := keptD_set (a := kept) (l := l) (by rw [HKl.out, HL.out]; omega) d
        have e := HKl.out.symm
        rw [e]; exact h
       have HMs := Lib.hid hms; clear hms
       have HSt := Lib.hid (fun q => setD (blk_drewN HBs.out q) (k := m) (by rw [HLen.out]; omega) d)
       obtain ⟨y, hy⟩ := getD_some (l := kept ++ l.drop kept.length) (i := m) (by rw [HLen.out]; omega)
       obtain ⟨z0, z1, z2⟩ := elemD HBs.out hy
       have f0 := HBs.out.frozen (m * 3); have f1 := HBs.out.frozen (m * 3 + 1); have f2 := HBs.out.frozen (m * 3 + 2)
       clear hy
       have hne := dot_neO hde
       obtain ⟨⟨r, i⟩, s⟩ := d
       obtain ⟨⟨r', i'⟩, s'⟩ := e
       simp only at q0 q1 q2 p0 p1 p2 hne
       clear hde
       rcases hne with h1 | ⟨rfl, h1⟩ | ⟨rfl, rfl, h1⟩
       ·have d1 : ((r : Int) == (r' : Int)) = false := by simp; omega
        clear h1
        go_wp2
        go_quiet (fail)
        go_wp2
        clear q0 q1 q2 p0 p1 p2 z0 z1 z2 f0 f1 f2
        go_roundw
        case rel => exact ⟨m + 1, j + 1, _, by go_num, by go_num, by omega, by omega, by omega, HCy.out.symm, by rw [List.length_append, HKl.out]; rfl, by rw [← HMs.out]; exact HSt.out _, (drewL HD3.out _).sets (Or.inr rfl) (m * 3) (encD ((r, i), s))⟩
        case measure => simp [intOf]; omega
       ·have d1 : ((i : Int) == (i' : Int)) = false := by simp; omega
        clear h1
        go_wp2
        go_quiet (fail)
        go_wp2
        clear q0 q1 q2 p0 p1 p2 z0 z1 z2 f0 f1 f2
        go_roundw
        case rel => exact ⟨m + 1, j + 1, _, by go_num, by go_num, by omega, by omega, by omega, HCy.out.symm, by rw [List.length_append, HKl.out]; rfl, by rw [← HMs.out]; exact HSt.out _, (drewL HD3.out _).sets (Or.inr rfl) (m * 3) (encD ((r, i), s))⟩
        case measure => simp [intOf]; omega
       ·have d1 : ((s : Int) == (s' : Int)) = false := by simp; omega
        clear h1
        go_wp2
        go_quiet (fail)
        go_wp2
        clear q0 q1 q2 p0 p1 p2 z0 z1 z2 f0 f1 f2
        go_roundw
        case rel => exact ⟨m + 1, j + 1, _, by go_num, by go_num, by omega, by omega, by omega, HCy.out.symm, by rw [List.length_append, HKl.out]; rfl, by rw [← HMs.out]; exact HSt.out _, (drewL HD3.out _).sets (Or.inr rfl) (m * 3) (encD ((r, i), s))⟩
        case measure => simp [intOf]; omega
     ·obtain rfl : n = k + j := by omega
      have hfin : kept = Lm.compact l := by rw [HKe.out, List.take_of_length_le (by rw [HL.out]; omega)]
      have HFin := Lib.hid hfin; clear hfin
      have hsz3 : (Value.agg #[.int .u8 0, .int .u32 0, .int .u64 0]).cells.size = 3 := rfl
      have hlc : ((kept ++ l.drop kept.length).flatMap encD ++ tl).length = cap * 3 := by
       have := HT.out
       rw [List.length_append, enc_length encD_len] at this ⊢
       rw [HLen.out]; rw [HL.out] at this; exact this
      obtain ⟨N, hN⟩ : ∃ N, N = k + j := ⟨_, rfl⟩
      obtain ⟨vs, hvl, hcl⟩ := run_clear_any (P := Try.prog) wr 33 31 0 _ Try.underlying33 zeroDot (by intro u hu; simp [Value.cells] at hu; rcases hu with rfl | rfl | rfl <;> rfl) (by simp [Value.cells]) g (m * 3) (k + j - m) (cap - m) (by
       intro q hq
       rw [hsz3] at hq
       exact HBs.out.some (by rw [hlc]; omega)) (by intro q hq; exact HBs.out.frozen _)
      have hcl2 : ∀ ty, (Builtin.clear_ #[33] ty #[.slice (some ⟨g, m * 3, none⟩) (k + j - m) (cap - m)]).run Try.prog wr = .ok (.tuple #[]) (wr.setCells g (m * 3) vs) := fun ty => by
       have : (Builtin.clear_ #[33] ty #[.slice (some ⟨g, m * 3, none⟩) (k + j - m) (cap - m)]) = (Builtin.clear_ #[33] 0 #[.slice (some ⟨g, m * 3, none⟩) (k + j - m) (cap - m)]) := rfl
       rw [this]; exact hcl
      have hfl : (kept.flatMap encD).length = m * 3 := by rw [enc_length encD_len, HKl.out]
      obtain ⟨b', hb'⟩ := splice_behind (kept.flatMap encD) ((l.drop kept.length).flatMap encD ++ tl) vs (m * 3) (by rw [hfl]; omega)
      have hblk2 : Blk (wr.setCells g (m * 3) vs) g 31 (kept.flatMap encD ++ b') ∧ (kept.flatMap encD ++ b').length = cap * 3 := by
       have h1 := HBs.out.setCells vs (m * 3) (by rw [hvl, hsz3, hlc]; omega)
       have h2 : ((kept ++ l.drop kept.length).flatMap encD ++ tl) = kept.flatMap encD ++ ((l.drop kept.length).flatMap encD ++ tl) := by rw [List.flatMap_append, List.append_assoc]
       rw [h2, hb'] at h1
       refine ⟨h1, ?_⟩
       rw [← hb', splice_len _ _ _ (by rw [← h2, hvl, hsz3, hlc]; omega), ← h2, hlc]
      have HB4 := Lib.hid hblk2
      clear hblk2 hb' hfl hcl hvl hlc
      have hC4 : Chg (fun k => k = g) W (wr.setCells g (m * 3) vs) := HD3.out.sets (Or.inr rfl) _ _
      have HC4 := Lib.hid hC4; clear hC4
      have hcm : ¬ (cap = m) := by omega
      have m0 : (0 : Int) ≤ (m : Int) := by omega
      have m1 : (m : Int) ≤ ((k + j : Nat) : Int) := by omega
      have m1' : (m : Int) ≤ (k : Int) + (j : Int) := by omega
      have m2 : (m : Int) ≤ (cap : Int) := by omega
      have jz : (j : Int) = ((k + j - k : Nat) : Int) := by omega
      have jn : ¬ (j < k + j - k) := by omega
      have jn2 : k + j - k = j := by omega
      go_wp2_with (simp only [hcl2])
      go_ret
      refine ⟨⟨b', ?_, by rw [← HFin.out]; exact HB4.out.1, by rw [← HFin.out]; exact HB4.out.2⟩, HC4.out⟩
      rw [← HFin.out, HKl.out]; rfl
   ·have hcz : Lm.compact (l.take (k + 1)) = l.take (k + 1) := by
     rw [comp_ne hk1 HD.out HE.out hde, HCo.out, Lm.take_snoc HD.out]
    have HCz := Lib.hid hcz; clear hcz
    have hne := dot_neO hde
    obtain ⟨⟨r, i⟩, s⟩ := d
    obtain ⟨⟨r', i'⟩, s'⟩ := e
    simp only at q0 q1 q2 p0 p1 p2 hne
    clear hde
    rcases hne with h1 | ⟨rfl, h1⟩ | ⟨rfl, rfl, h1⟩
    ·have d1 : ((r : Int) == (r' : Int)) = false := by simp; omega
     clear h1
     go_wp2
     go_quiet (fail)
     go_wp2
     clear q0 q1 q2 p0 p1 p2
     go_roundw
     case rel => exact ⟨k + 1, by go_num, by omega, by omega, HCz.out, blk_drewN HBr.out _, drewL HC.out _⟩
     case measure => simp [intOf]; omega
    ·have d1 : ((i : Int) == (i' : Int)) = false := by simp; omega
     clear h1
     go_wp2
     go_quiet (fail)
     go_wp2
     clear q0 q1 q2 p0 p1 p2
     go_roundw
     case rel => exact ⟨k + 1, by go_num, by omega, by omega, HCz.out, blk_drewN HBr.out _, drewL HC.out _⟩
     case measure => simp [intOf]; omega
    ·have d1 : ((s : Int) == (s' : Int)) = false := by simp; omega
     clear h1
     go_wp2
     go_quiet (fail)
     go_wp2
     clear q0 q1 q2 p0 p1 p2
     go_roundw
     case rel => exact ⟨k + 1, by go_num, by omega, by omega, HCz.out, blk_drewN HBr.out _, drewL HC.out _⟩
     case measure => simp [intOf]; omega
  ·obtain rfl : k = n := by omega
   have hfin : Lm.compact l = l := by have := HCo.out; rwa [List.take_of_length_le (by rw [HL.out]; omega)] at this
   have HFin := Lib.hid hfin; clear hfin
   go_wp2
   go_ret
   exact ⟨⟨tl, by rw [HFin.out, HL.out]; rfl, by rw [HFin.out]; exact HBr.out, by rw [HFin.out]; exact HT.out⟩, HC.out⟩
section
open Go.Shelf Go.Sort
def SortPostB (w : World) (blk : Nat) (xs : List Dt.Dot) (e : Ending) (w' : World) : Prop :=
 SortPost w blk xs e w' ∧ ∀ (cs : List Value) (t : TypeId), Blk w blk t cs → ∃ cs', Blk w' blk t cs' ∧ cs'.length = cs.length
theorem sortWorld_blk {w : World} {blk : Nat} {cs : List Value} {t : TypeId} (h : Blk w blk t cs) (n : Nat) (d : Array Dt.Dot) (os : Array Obj) : ∃ cs', Blk (sortWorldK encD 3 w blk 0 n d os) blk t cs' ∧ cs'.length = cs.length := by
 refine ⟨(putCells id 0 (flatK encD 3 d) cs.toArray).toList, ?_, by simp [putCells]⟩
 unfold Blk at h ⊢
 have hlt := (Array.getElem?_eq_some_iff.1 h).1
 have h1 : (putRowK encD 3 (Sort.ahead w n) blk 0 d).heap[blk]? = some (.cells (putCells id 0 (flatK encD 3 d) cs.toArray) t (0, 0)) := by
  simp only [putRowK, putRow, mapBlock, Sort.ahead, Array.getElem?_modify, if_pos, h, Option.map_some, onCells]
 have h2 : blk < (putRowK encD 3 (Sort.ahead w n) blk 0 d).heap.size := (Array.getElem?_eq_some_iff.1 h1).1
 unfold sortWorldK
 rw [heap_grow_old _ _ h2, h1]
set_option maxHeartbeats 400000 in
theorem sort_nones (p : Option Addr) (cap : Nat) (fv : Value) (w : World) :
  Calls Try.prog 45 #[.slice p 0 cap, fv] w fun e w' => e = .returned (.tuple #[]) ∧ w = w' := by
 have hl : Calls Try.prog 58 #[.int .u64 0] w fun e w' => e = .returned (.int .i64 (Lib.bitLen 0 : Nat)) ∧ w = w' :=
  (Any.bits_Len (SlLaysF0.n15.bits Try.lenU) 0 w (by omega) (by omega)).mono fun _ _ ⟨h1, h2⟩ => ⟨h1, h2.symm⟩
 have Hl := Lib.hid hl; clear hl
 go_enter Try.func45, Try.ntmps45
 go_wp2_with fail
 refine Hl.out.mono ?_
 rintro e w' ⟨rfl, rfl⟩
 go_wp2_with fail
 refine (pdq_none _ _ _ _ _).mono ?_
 rintro e w' ⟨rfl, rfl⟩
 go_wp2_with fail
 go_end0
 exact ⟨rfl, rfl⟩
end
end Go.Proofs.Ytbciopieciglmaa
