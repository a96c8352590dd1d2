import Derived.Test.YtiiidmphmojlgaaGreatZCmt3
import Derived.Test.YtiiidmphmojlgaaGreatZDot4
import Derived.Test.YtiiidmphmojlgaaGreatZLeaf6
import Derived.Test.YtiiidmphmojlgaaGreatZIdx
import Derived.Test.YtiiidmphmojlgaaGreatZOwn
import Derived.Test.YtiiidmphmojlgaaGreatZDot7
import Derived.Test.YtiiidmphmojlgaaGreatZRegC
import Derived.StillTailTactics
import Derived.Test.YtiiidmphmojlgaaGreatZRegD
namespace Go.Proofs.YtiiidmphmojlgaaGreat
open Go.RowKit Go.Buf
set_option linter.unusedSimpArgs false
set_option linter.unusedVariables false
end Go.Proofs.YtiiidmphmojlgaaGreat
namespace Go.Proofs.YtiiidmphmojlgaaGreat
open Go.RowKit Go.Buf
set_option linter.unusedSimpArgs false
set_option linter.unusedVariables false
def FindV (b : Bool) (e : Ending) : Prop := ∃ i : Nat, e = .returned (.tuple #[.int .i64 (i : Int), .bool b])
def Lows (ds : List Dt.Dot) (d : Dt.Dot) (lo hi : Nat) : Prop := (∀ j x, j < lo → ds[j]? = some x → Dt.lt x d) ∧ ∀ j x, hi ≤ j → ds[j]? = some x → ¬ Dt.lt x d
theorem Lows.start {ds : List Dt.Dot} {d : Dt.Dot} {n : Nat} (h : ds.length ≤ n) : Lows ds d 0 n := ⟨fun j x hj => by omega, fun j x hj hx => by have := (List.getElem?_eq_some_iff.1 hx).1; omega⟩
theorem Lows.none {ds : List Dt.Dot} {d : Dt.Dot} {k : Nat} (h : Lows ds d k k) (hk : ds.length ≤ k) : Lm.hasD ds d = false := by
 rw [← Bool.not_eq_true, Lm.hasD_iff]
 intro hm
 obtain ⟨j, hj, hx⟩ := List.getElem_of_mem hm
 exact Dt.lt_irrefl _ (h.1 j d (by omega) (by rw [List.getElem?_eq_getElem hj, hx]))
end Go.Proofs.YtiiidmphmojlgaaGreat
namespace Go.Proofs.YtiiidmphmojlgaaGreat
open Go.RowKit Go.Buf Go.LB
set_option linter.unusedSimpArgs false
set_option linter.unusedVariables false
end Go.Proofs.YtiiidmphmojlgaaGreat
namespace Go.Proofs.YtiiidmphmojlgaaGreat
open Go.RowKit Go.Buf Go.LB
set_option linter.unusedSimpArgs false
set_option linter.unusedVariables false
abbrev itVd (x : Lm.It) : Value := .agg #[.int .u64 (x.1 : Int), .int .u8 (x.2.1.1.1 : Int), .int .u32 (x.2.1.1.2 : Int), .int .u64 (x.2.1.2 : Int), .string x.2.2]
end Go.Proofs.YtiiidmphmojlgaaGreat
namespace Go.Proofs.YtiiidmphmojlgaaGreat
open Go.RowKit Go.Buf Go.LB
set_option linter.unusedSimpArgs false
set_option linter.unusedVariables false
end Go.Proofs.YtiiidmphmojlgaaGreat
namespace Go.Proofs.YtiiidmphmojlgaaGreat
open Go.RowKit Go.Buf Go.LB Go.Lib
set_option linter.unusedSimpArgs false
set_option linter.unusedVariables false
theorem encI_len (d : Lm.It) : (encI d).length = 5 := rfl
abbrev OwnI (B : Nat) (w : World) (v : Value) (l : List Lm.It) (row : Option Nat) : Prop := Own 137 5 encI B w v l row
abbrev OwnD (B : Nat) (w : World) (v : Value) (l : List Dt.Dot) (row : Option Nat) : Prop := Own 27 3 encD B w v l row
theorem ownD_row {B : Nat} {w : World} {v : Value} {l : List Dt.Dot} {row : Option Nat} (h : OwnD B w v l row) (hok : ∀ x ∈ l, Dt.okD x) : ∃ a c, v = .slice a l.length c ∧ VRow w a c l := by
 obtain ⟨a, c, h1, h2, h3, h4, h5⟩ := h.reads encD_len
 refine ⟨a, c, h1, h2, h3, hok, h4, fun i d hd => ?_⟩
 obtain ⟨q, hq, hc⟩ := h5 i d hd
 exact ⟨q, hq, hc 0 _ rfl, hc 1 _ rfl, hc 2 _ rfl⟩
theorem IRow.holds {w : World} {p : Addr} {cap : Nat} {l : List Lm.It} (h : IRow w (some p) cap l) : ∀ j u, (l.flatMap encI)[j]? = some u → w.cell? (p.add j) = some u := by
 intro j u hu
 obtain ⟨i, d, r, h1, h2, rfl, h4⟩ := flat_get encI_len (by omega) hu
 obtain ⟨q, hq, c0, c1, c2, c3, c4⟩ := h.2.2.2.2 i d h1
 cases hq
 have : r = 0 ∨ r = 1 ∨ r = 2 ∨ r = 3 ∨ r = 4 := by omega
 rcases this with rfl | rfl | rfl | rfl | rfl <;> simp [encI] at h4 <;> subst h4
 ·simpa using c0
 ·exact c1
 ·exact c2
 ·exact c3
 ·exact c4
theorem VRow.holds {w : World} {p : Addr} {cap : Nat} {l : List Dt.Dot} (h : VRow w (some p) cap l) : ∀ j u, (l.flatMap encD)[j]? = some u → w.cell? (p.add j) = some u := by
 intro j u hu
 obtain ⟨i, d, r, h1, h2, rfl, h4⟩ := flat_get encD_len (by omega) hu
 obtain ⟨q, hq, c0, c1, c2⟩ := h.2.2.2.2 i d h1
 cases hq
 have : r = 0 ∨ r = 1 ∨ r = 2 := by omega
 rcases this with rfl | rfl | rfl <;> simp [encD] at h4 <;> subst h4
 ·simpa using c0
 ·exact c1
 ·exact c2
end Go.Proofs.YtiiidmphmojlgaaGreat
namespace Go.Proofs.YtiiidmphmojlgaaGreat
open Go.RowKit Go.Buf Go.LB Go.Lib
set_option linter.unusedSimpArgs false
set_option linter.unusedVariables false
end Go.Proofs.YtiiidmphmojlgaaGreat
namespace Go.Proofs.YtiiidmphmojlgaaGreat
open Go.RowKit Go.Buf Go.LB Go.Lib
set_option linter.unusedSimpArgs false
set_option linter.unusedVariables false
section
open Go.Shelf Go.Sort
def SortPostB (w : World) (blk : Nat) (xs : List Dt.Dot) (e : Ending) (w' : World) : Prop :=
 SortPost w blk xs e w' ∧ ∀ (cs : List Value) (t : TypeId), Blk w blk t cs → ∃ cs', Blk w' blk t cs' ∧ cs'.length = cs.length
theorem sortWorld_blk {w : World} {blk : Nat} {cs : List Value} {t : TypeId} (h : Blk w blk t cs) (n : Nat) (d : Array Dt.Dot) (os : Array Obj) : ∃ cs', Blk (sortWorldK encD 3 w blk 0 n d os) blk t cs' ∧ cs'.length = cs.length := by
 refine ⟨(putCells id 0 (flatK encD 3 d) cs.toArray).toList, ?_, by simp [putCells]⟩
 unfold Blk at h ⊢
 have hlt := (Array.getElem?_eq_some_iff.1 h).1
 have h1 : (putRowK encD 3 (Sort.ahead w n) blk 0 d).heap[blk]? = some (.cells (putCells id 0 (flatK encD 3 d) cs.toArray) t (0, 0)) := by
  simp only [putRowK, putRow, mapBlock, Sort.ahead, Array.getElem?_modify, if_pos, h, Option.map_some, onCells]
 have h2 : blk < (putRowK encD 3 (Sort.ahead w n) blk 0 d).heap.size := (Array.getElem?_eq_some_iff.1 h1).1
 unfold sortWorldK
 rw [heap_grow_old _ _ h2, h1]
set_option maxRecDepth 100000 in
set_option maxHeartbeats 2000000 in
theorem sortDots (blk cap : Nat) (xs : List Dt.Dot) (w : World) (hH : HoldsK encD 3 w blk 0 xs.toArray) (hblk : blk < w.heap.size) (hsz : xs.length < 1000000000) :
  Calls Tryz.prog 31 #[.slice (some ⟨blk, 0, none⟩) xs.length cap, .func (.func 25) #[] #[]] w (SortPostB w blk xs) := by
 have eg : ∀ args w, (callFunc 25 args).run Tryz.prog w = .ok (.enter 25 args) w := enters_of Tryz.func25 (by kernel_rfl) (by kernel_rfl)
 have hlim : Lib.bitLen xs.length < 4611686018427387904 := Nat.lt_of_le_of_lt (Lib.bitLen_le xs.length 62 (by omega) (by omega)) (by omega)
 have hp := AnyQ.pdqsortCmpFunc_all (P := Tryz.prog) Tryz.pdqDot 3 Tryz.isAgg27 Tryz.sizeOf27 encD Dt.cmp 25 #[] swoDot blk 0 cap xs.toArray w eg (dotLays blk 0 _ w) ⟨encD_len, encD_one, hH, hblk⟩ (xs.length + 1) 0 xs.length (Lib.bitLen xs.length) xs.toArray w (by omega) rfl (SWK.start hH) (Nat.zero_le _) (by simp) (by simp; omega) hlim (Or.inl rfl)
 have hl : Calls Tryz.prog 45 #[.int .u64 (xs.length : Int)] w fun e w' => e = .returned (.int .i64 (Lib.bitLen xs.length : Nat)) ∧ w = w' := by
  have h := Any.bits_Len (SlLaysF0.n15.bits Tryz.lenU) (xs.length : Int) w (by omega) (by omega)
  rw [Int.toNat_natCast] at h
  exact h.mono fun _ _ ⟨h1, h2⟩ => ⟨h1, h2.symm⟩
 have hpost : ∀ w', SWK encD 3 w blk 0 (pdq (ltOf Dt.cmp) xs.toArray 0 xs.length (Lib.bitLen xs.length) true true) w' → SortPostB w blk xs (.returned (.tuple #[])) w' := by
  rintro w' ⟨n, os, rfl⟩
  have h := pdq_sorts (ltOf Dt.cmp) swoDot xs.toArray 0 xs.toArray.size (Lib.bitLen xs.length) true true (Nat.zero_le _) (Nat.le_refl _) (Or.inl rfl)
  refine ⟨⟨rfl, (pdq (ltOf Dt.cmp) xs.toArray 0 xs.length (Lib.bitLen xs.length) true true).toList, by simpa using perm_list h.1, sorted_list (by have h1 := h.1.1; have h2 := h.2; simp only [List.size_toArray] at h1 h2; rw [h1]; exact h2), ?_, sortWorld_grown _ _ _ _ _⟩, fun cs t hb => sortWorld_blk hb _ _ _⟩
  exact holdsK_sortWorldK_c encD 3 w blk 0 xs.toArray _ n os hH hblk h.1.1
 have hp2 : Calls Tryz.prog 50 #[.slice (some ⟨blk, 0, none⟩) xs.length cap, .int .i64 0, .int .i64 (xs.length : Nat), .int .i64 (Lib.bitLen xs.length : Nat), .func (.func 25) #[] #[]] w (SortPostB w blk xs) := by
  refine Calls.mono ?_ (fun e w' (h : e = .returned (.tuple #[]) ∧ SWK encD 3 w blk 0 (pdq (ltOf Dt.cmp) xs.toArray 0 xs.length (Lib.bitLen xs.length) true true) w') => by rw [h.1]; exact hpost w' h.2)
  simp only [List.size_toArray] at hp
  exact hp
 have Hp := Lib.hid hp2; have Hl := Lib.hid hl
 clear hp hl hpost hH hp2 hlim
 go_enter Tryz.func31, Tryz.ntmps31
 go_wp2_with fail
 refine Hl.out.mono ?_
 rintro e w' ⟨rfl, rfl⟩
 go_wp2_with fail
 refine Hp.out.mono ?_
 rintro e w' ⟨⟨rfl, h⟩, h2⟩
 have H := Lib.hid h; have H2 := Lib.hid h2; clear h h2
 go_wp2_with fail
 go_end0
 exact ⟨⟨rfl, H.out⟩, H2.out⟩
set_option maxHeartbeats 400000 in
theorem sort_nones (p : Option Addr) (cap : Nat) (fv : Value) (w : World) :
  Calls Tryz.prog 31 #[.slice p 0 cap, fv] w fun e w' => e = .returned (.tuple #[]) ∧ w = w' := by
 have hl : Calls Tryz.prog 45 #[.int .u64 0] w fun e w' => e = .returned (.int .i64 (Lib.bitLen 0 : Nat)) ∧ w = w' :=
  (Any.bits_Len (SlLaysF0.n15.bits Tryz.lenU) 0 w (by omega) (by omega)).mono fun _ _ ⟨h1, h2⟩ => ⟨h1, h2.symm⟩
 have Hl := Lib.hid hl; clear hl
 go_enter Tryz.func31, Tryz.ntmps31
 go_wp2_with fail
 refine Hl.out.mono ?_
 rintro e w' ⟨rfl, rfl⟩
 go_wp2_with fail
 refine (pdq_none _ _ _ _ _).mono ?_
 rintro e w' ⟨rfl, rfl⟩
 go_wp2_with fail
 go_end0
 exact ⟨rfl, rfl⟩
end
end Go.Proofs.YtiiidmphmojlgaaGreat
namespace Go.Proofs.YtiiidmphmojlgaaGreat
open Go.RowKit Go.Buf Go.LB Go.Lib
set_option linter.unusedSimpArgs false
set_option linter.unusedVariables false
theorem holds_of_blk {w : World} {g : Nat} {t : TypeId} {xs : List Dt.Dot} {tl : List Value} (h : Blk w g t (xs.flatMap encD ++ tl)) : Go.Sort.HoldsK encD 3 w g 0 xs.toArray := by
 intro j hj
 simp only [Go.Sort.size_flatK, List.size_toArray] at hj
 refine ⟨?_, by rw [Nat.zero_add]; exact h.frozen j⟩
 have hi : j / 3 < xs.length := by omega
 have h3 : j % 3 < 3 := Nat.mod_lt _ (by omega)
 rw [Nat.zero_add, h.cell, List.getElem?_append_left (by rw [enc_length encD_len]; omega), Go.Sort.get_flatK encD 3 xs.toArray j (by simpa using hj)]
 have := enc_get encD_len xs (j / 3) xs[j / 3] (List.getElem?_eq_getElem hi) (j % 3) h3
 rw [show j / 3 * 3 + j % 3 = j from by omega] at this
 rw [this, getElem!_pos xs.toArray (j / 3) (by simpa using hi)]
 rw [getElem!_pos (encD _) (j % 3) (by rw [encD_len]; exact h3)]
 simp
theorem blk_of_holds {w : World} {g : Nat} {t : TypeId} {ys : List Dt.Dot} {cs : List Value} (h : Blk w g t cs) (hl : ys.length * 3 ≤ cs.length) (hh : Go.Sort.HoldsK encD 3 w g 0 ys.toArray) : ∃ tl, cs = ys.flatMap encD ++ tl := by
 refine ⟨cs.drop (ys.length * 3), ?_⟩
 have hfl : (ys.flatMap encD).length = ys.length * 3 := enc_length encD_len ys
 have : cs.take (ys.length * 3) = ys.flatMap encD := by
  apply List.ext_getElem?
  intro j
  by_cases hj : j < ys.length * 3
  ·rw [List.getElem?_take, if_pos hj]
   have h1 := (hh j (by simpa using hj)).1
   have hi : j / 3 < ys.length := by omega
   have h3 : j % 3 < 3 := Nat.mod_lt _ (by omega)
   rw [Nat.zero_add, h.cell, Go.Sort.get_flatK encD 3 ys.toArray j (by simpa using hj)] at h1
   rw [h1]
   have := enc_get encD_len ys (j / 3) ys[j / 3] (List.getElem?_eq_getElem hi) (j % 3) h3
   rw [show j / 3 * 3 + j % 3 = j from by omega] at this
   rw [this, getElem!_pos ys.toArray (j / 3) (by simpa using hi)]
   rw [getElem!_pos (encD _) (j % 3) (by rw [encD_len]; exact h3)]
   simp
  ·rw [List.getElem?_take, if_neg hj, List.getElem?_eq_none (by rw [hfl]; omega)]
 rw [← this, List.take_append_drop]
set_option maxHeartbeats 1000000 in
theorem sortD_any (v : Value) (row : Option Nat) (l : List Dt.Dot) (B : Nat) (W : World) (h : OwnD B W v l row) (hn : l.length < 1000000000) :
  Calls Tryz.prog 31 #[v, .func (.func 25) #[] #[]] W fun e w' => e = .returned (.tuple #[]) ∧ (∃ s : List Dt.Dot, s.Perm l ∧ s.Pairwise (fun x y => ¬ Dt.lt y x) ∧ OwnD B w' v s row) ∧ Chg (fun k => some k = row) W w' := by
 rcases h.2 with ⟨rfl, rfl, a, rfl⟩ | ⟨g, cap, tl, rfl, rfl, h3, h4, h5, h6, h7⟩
 ·refine (sort_nones a 0 _ W).mono ?_
  rintro e w' ⟨rfl, rfl⟩
  exact ⟨rfl, ⟨[], List.Perm.refl _, List.Pairwise.nil, h⟩, Chg.refl _ _⟩
 ·refine (sortDots g cap l W (holds_of_blk h4) h4.lt hn).mono ?_
  rintro e w' ⟨⟨rfl, ys, hp, hs, hh, hg⟩, hb⟩
  obtain ⟨cs', hb', hl'⟩ := hb _ _ h4
  have hlen := hp.length_eq
  have hc3 : l.length * 3 ≤ cap * 3 := by omega
  obtain ⟨tl', rfl⟩ := blk_of_holds hb' (by rw [hl', h7, hlen]; exact hc3) hh
  refine ⟨rfl, ⟨ys, hp, hs, Nat.le_trans h.1 hg.size, Or.inr ⟨g, cap, tl', rfl, by rw [hlen], h3, hb', by rw [hlen]; exact h5, h6, by rw [hl', h7]⟩⟩, (Chg.of_grown hg).mono (fun k _ e => e)⟩
end Go.Proofs.YtiiidmphmojlgaaGreat
namespace Go.Proofs.YtiiidmphmojlgaaGreat
open Go.RowKit Go.Buf Go.LB Go.Lib
set_option linter.unusedSimpArgs false
set_option linter.unusedVariables false
abbrev gcs (kk : Nat) (n : Int) (t r i s : Nat) (x : ByteArray) (vI vD : Value) : List Value := [.int .u8 (kk : Int), .int .i64 n, .int .u64 (t : Int), .int .u8 (r : Int), .int .u32 (i : Int), .int .u64 (s : Int), .string x, vI, vD]
theorem Own.slice {α : Type} {enc : α → List Value} {e : TypeId} {size B : Nat} {w : World} {v : Value} {l : List α} {row : Option Nat} (h : Own e size enc B w v l row) : ∃ a n c, v = .slice a n c := by
 rcases h.2 with ⟨_, _, a, rfl⟩ | ⟨g, cap, tl, _, rfl, _⟩
 ·exact ⟨a, 0, 0, rfl⟩
 ·exact ⟨_, _, _, rfl⟩
end Go.Proofs.YtiiidmphmojlgaaGreat
namespace Go.Proofs.YtiiidmphmojlgaaGreat
open Go.RowKit Go.Buf Go.LB Go.Lib
set_option linter.unusedSimpArgs false
set_option linter.unusedVariables false
theorem src1D (w : World) (b : Nat) (z : Dt.Dot) (h : Blk w b 27 (encD z)) : Src Tryz.prog 3 28 (.slice (some ⟨b, 0, none⟩) 1 1) [z].length ([z].flatMap encD) w := by
 have e : [z].flatMap encD = encD z := by simp
 rw [e]
 exact Src.ofSlice w Tryz.underlying28 ⟨b, 0, none⟩ 1 1 (encD z) rfl (fun j u hj => by rw [Addr.add_lit, Nat.zero_add, h.cell]; exact hj) (encD_one z)
theorem appsD (v : Value) (row : Option Nat) (l l2 : List Dt.Dot) (x : Value) (B : Nat) (w : World) (h : OwnD B w v l row) (hs : Src Tryz.prog 3 28 x l2.length (l2.flatMap encD) w) (hn : l.length + l2.length ≤ 100000000) (ty : TypeId) :
  ∃ v' w' row', (Builtin.append_ #[28, 28] ty #[v, x]).run Tryz.prog w = .ok v' w' ∧ OwnD B w' v' (l ++ l2) row' ∧ w.grownBy w' row ∧ New w row row' := by
 obtain ⟨i0, hi, hz0, hz1, hz2⟩ := info_parts info_dot
 exact LB.run_append_owned (P := Tryz.prog) encD_len w B 28 28 ty i0 _ 16 Tryz.underlying28 hi hz0 hz1 hz2 rfl h x l2 hs (by simp [maxLen]; omega) (by omega)
theorem app1D (v : Value) (row : Option Nat) (l : List Dt.Dot) (z : Dt.Dot) (B : Nat) (w : World) (h : OwnD B w v l row) (hn : l.length ≤ 1000000) (ty : TypeId) :
  ∃ v' w' row', (Builtin.append_ #[28, 28] ty #[v, .slice (some ⟨w.heap.size, 0, none⟩) 1 1]).run Tryz.prog (w.alloc (.cells #[.int .u8 (z.1.1 : Int), .int .u32 (z.1.2 : Int), .int .u64 (z.2 : Int)] 27)) = .ok v' w' ∧ OwnD B w' v' (l ++ [z]) row' ∧ (w.alloc (.cells #[.int .u8 (z.1.1 : Int), .int .u32 (z.1.2 : Int), .int .u64 (z.2 : Int)] 27)).grownBy w' row ∧ New (w.alloc (.cells #[.int .u8 (z.1.1 : Int), .int .u32 (z.1.2 : Int), .int .u64 (z.2 : Int)] 27)) row row' :=
 appsD v row l [z] _ B _ (h.below ((Below.refl _ _).alloc (Nat.le_refl _) _)) (src1D _ _ z (Blk.new w _ _)) (by simp; omega) ty
end Go.Proofs.YtiiidmphmojlgaaGreat
