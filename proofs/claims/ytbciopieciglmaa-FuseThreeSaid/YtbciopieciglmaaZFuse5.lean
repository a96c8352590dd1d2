import Derived.Test.YtbciopieciglmaaZLeaf23
import Derived.Test.YtbciopieciglmaaZThree2
import Derived.Test.YtbciopieciglmaaZFuse3
namespace Go.Proofs.Ytbciopieciglmaa
open Go.Shelf Go.RowKit Go.Lib Go.Sort Go.LB
open Go.RegG (Gr)
set_option linter.unusedSimpArgs false
set_option linter.unusedVariables false
theorem ltOf_cmpI (x y : Lm.It) : ltOf cmpI x y = Lm.aheadI x y := by
 unfold ltOf cmpI
 cases h1 : Lm.aheadI x y
 ·cases h2 : Lm.aheadI y x <;> simp
 ·simp
theorem ahead_ntrans {x y z : Lm.It} (h : Lm.aheadI x y = false) (g : Lm.aheadI y z = false) : Lm.aheadI x z = false := by
 cases hq : Lm.aheadI x z with
 | false => rfl
 | true =>
  have h1 : ¬ Lm.aheadI x y = true := by rw [h]; simp
  have g1 : ¬ Lm.aheadI y z = true := by rw [g]; simp
  rw [Lm.aheadI_iff, Dt.lt_iff] at *
  omega
theorem swoItem : SWO (ltOf cmpI) where
 irrefl x := by rw [ltOf_cmpI]; exact Lm.aheadI_irrefl x
 trans x y z h1 h2 := by rw [ltOf_cmpI] at *; exact Lm.aheadI_trans h1 h2
 ntrans x y z h1 h2 := by rw [ltOf_cmpI] at *; exact ahead_ntrans h1 h2
theorem dotLaysI (blk off size : Nat) (w : World) : CmpLays Try.prog 59 #[] encI 5 cmpI blk off size w := by
 intro m os dk _ x y
 obtain ⟨t, ⟨⟨r, i⟩, s⟩, a⟩ := x
 obtain ⟨t', ⟨⟨r', i'⟩, s'⟩, a'⟩ := y
 refine (compareItems_any t r i s a t' r' i' s' a' _).mono ?_
 rintro e w' ⟨rfl, h⟩
 exact ⟨rfl, grow_of_gr h⟩
set_option maxHeartbeats 2000000 in
theorem insertion_noneI (p : Option Addr) (cap : Nat) (fv : Value) (w : World) :
  Calls Try.prog 86 #[.slice p 0 cap, .int .i64 0, .int .i64 0, fv] w fun e w' => e = .returned (.tuple #[]) ∧ w = w' := by
 go_enter Try.func86, Try.ntmps86
 go_wp2
 refine wp_loop_rounds 1 ?_
 rw [rounds_succ]
 go_wp2
 go_end0
 exact ⟨rfl, rfl⟩
set_option maxHeartbeats 2000000 in
theorem pdq_noneI (p : Option Addr) (cap : Nat) (lim : Int) (fv : Value) (w : World) :
  Calls Try.prog 77 #[.slice p 0 cap, .int .i64 0, .int .i64 0, .int .i64 lim, fv] w fun e w' => e = .returned (.tuple #[]) ∧ w = w' := by
 go_enter Try.func77, Try.ntmps77
 go_wp2
 refine wp_loop_rounds 1 ?_
 rw [rounds_succ]
 go_wp2_with (go_at_call 86; refine (insertion_noneI _ _ _ _).mono ?_; rintro e w' ⟨rfl, rfl⟩)
 (try simp only [Exit.inBlock, Exit.then])
 first | go_end0 | (refine bodyPost_ret (results_none rfl _ _ _) rfl ?_)
 exact ⟨rfl, rfl⟩
def SortPostI (w : World) (blk : Nat) (xs : List Lm.It) (e : Ending) (w' : World) : Prop :=
 e = .returned (.tuple #[]) ∧ ∃ ys : List Lm.It, ys.Perm xs ∧ ys.Pairwise (fun x y => ¬ Lm.aheadI y x = true) ∧ HoldsK encI 5 w' blk 0 ys.toArray ∧ w.grownBy w' (some blk)
theorem sortWorld_grownI (w : World) (blk n : Nat) (d : Array Lm.It) (os : Array Obj) : w.grownBy (sortWorldK encI 5 w blk 0 n d os) (some blk) := by
 have h : w.grownBy (putRowK encI 5 (Sort.ahead w n) blk 0 d) (some blk) := by
  have := mapBlock_grown (Sort.ahead w n) blk (putCells id 0 (flatK encI 5 d))
  exact ⟨this.os, this.tape, this.output, this.size, this.block⟩
 unfold sortWorldK
 refine ⟨h.os, h.tape, h.output, Nat.le_trans h.size (by simp), fun k hk hne => ?_⟩
 rw [← h.block k hk hne]
 exact heap_grow_old _ _ (Nat.lt_of_lt_of_le hk h.size)
theorem sorted_listI {d : Array Lm.It} (h : SortedIn (ltOf cmpI) 0 d.size d) : d.toList.Pairwise (fun x y => ¬ Lm.aheadI y x = true) := by
 rw [List.pairwise_iff_getElem]
 intro i j hi hj hij
 have hi' : i < d.size := by simpa using hi
 have hj' : j < d.size := by simpa using hj
 have := h i j (Nat.zero_le _) hij hj'
 rw [ltOf_cmpI, getElem!_pos d i hi', getElem!_pos d j hj'] at this
 simpa using this
theorem perm_listI {d d' : Array Lm.It} (h : PermIn 0 d.size d d') : d'.toList.Perm d.toList := by
 obtain ⟨h1, _, h2⟩ := h
 have e1 : d'.extract 0 d.size = d' := by rw [← h1]; simp
 have e2 : d.extract 0 d.size = d := by simp
 rw [e1, e2] at h2; exact h2
def SortPostBI (w : World) (blk : Nat) (xs : List Lm.It) (e : Ending) (w' : World) : Prop :=
 SortPostI w blk xs e w' ∧ ∀ (cs : List Value) (t : TypeId), Blk w blk t cs → ∃ cs', Blk w' blk t cs' ∧ cs'.length = cs.length
theorem sortWorld_blkI {w : World} {blk : Nat} {cs : List Value} {t : TypeId} (h : Blk w blk t cs) (n : Nat) (d : Array Lm.It) (os : Array Obj) : ∃ cs', Blk (sortWorldK encI 5 w blk 0 n d os) blk t cs' ∧ cs'.length = cs.length := by
 refine ⟨(putCells id 0 (flatK encI 5 d) cs.toArray).toList, ?_, by simp [putCells]⟩
 unfold Blk at h ⊢
 have hlt := (Array.getElem?_eq_some_iff.1 h).1
 have h1 : (putRowK encI 5 (Sort.ahead w n) blk 0 d).heap[blk]? = some (.cells (putCells id 0 (flatK encI 5 d) cs.toArray) t (0, 0)) := by
  simp only [putRowK, putRow, mapBlock, Sort.ahead, Array.getElem?_modify, if_pos, h, Option.map_some, onCells]
 have h2 : blk < (putRowK encI 5 (Sort.ahead w n) blk 0 d).heap.size := (Array.getElem?_eq_some_iff.1 h1).1
 unfold sortWorldK
 rw [heap_grow_old _ _ h2, h1]
set_option maxRecDepth 100000 in
set_option maxHeartbeats 2000000 in
theorem sortItems (blk cap : Nat) (xs : List Lm.It) (w : World) (hH : HoldsK encI 5 w blk 0 xs.toArray) (hblk : blk < w.heap.size) (hsz : xs.length < 1000000000) :
  Calls Try.prog 61 #[.slice (some ⟨blk, 0, none⟩) xs.length cap, .func (.func 59) #[] #[]] w (SortPostBI w blk xs) := by
 have eg : ∀ args w, (callFunc 59 args).run Try.prog w = .ok (.enter 59 args) w := enters_of Try.func59 (by kernel_rfl) (by kernel_rfl)
 have hlim : Lib.bitLen xs.length < 4611686018427387904 := Nat.lt_of_le_of_lt (Lib.bitLen_le xs.length 62 (by omega) (by omega)) (by omega)
 have hp := AnyQ.pdqsortCmpFunc_all (P := Try.prog) Try.pdqItem 5 Try.isAgg51 Try.sizeOf51 encI cmpI 59 #[] swoItem blk 0 cap xs.toArray w eg (dotLaysI blk 0 _ w) ⟨encI_len, encI_one, hH, hblk⟩ (xs.length + 1) 0 xs.length (Lib.bitLen xs.length) xs.toArray w (by omega) rfl (SWK.start hH) (Nat.zero_le _) (by simp) (by simp; omega) hlim (Or.inl rfl)
 have hl : Calls Try.prog 58 #[.int .u64 (xs.length : Int)] w fun e w' => e = .returned (.int .i64 (Lib.bitLen xs.length : Nat)) ∧ w = w' := by
  have h := Any.bits_Len (SlLaysF0.n15.bits Try.lenU) (xs.length : Int) w (by omega) (by omega)
  rw [Int.toNat_natCast] at h
  exact h.mono fun _ _ ⟨h1, h2⟩ => ⟨h1, h2.symm⟩
 have hpost : ∀ w', SWK encI 5 w blk 0 (pdq (ltOf cmpI) xs.toArray 0 xs.length (Lib.bitLen xs.length) true true) w' → SortPostBI w blk xs (.returned (.tuple #[])) w' := by
  rintro w' ⟨n, os, rfl⟩
  have h := pdq_sorts (ltOf cmpI) swoItem xs.toArray 0 xs.toArray.size (Lib.bitLen xs.length) true true (Nat.zero_le _) (Nat.le_refl _) (Or.inl rfl)
  refine ⟨⟨rfl, (pdq (ltOf cmpI) xs.toArray 0 xs.length (Lib.bitLen xs.length) true true).toList, by simpa using perm_listI h.1, sorted_listI (by have h1 := h.1.1; have h2 := h.2; simp only [List.size_toArray] at h1 h2; rw [h1]; exact h2), ?_, sortWorld_grownI _ _ _ _ _⟩, fun cs t hb => sortWorld_blkI hb _ _ _⟩
  exact holdsK_sortWorldK_c encI 5 w blk 0 xs.toArray _ n os hH hblk h.1.1
 have hp2 : Calls Try.prog 77 #[.slice (some ⟨blk, 0, none⟩) xs.length cap, .int .i64 0, .int .i64 (xs.length : Nat), .int .i64 (Lib.bitLen xs.length : Nat), .func (.func 59) #[] #[]] w (SortPostBI w blk xs) := by
  refine Calls.mono ?_ (fun e w' (h : e = .returned (.tuple #[]) ∧ SWK encI 5 w blk 0 (pdq (ltOf cmpI) xs.toArray 0 xs.length (Lib.bitLen xs.length) true true) w') => by rw [h.1]; exact hpost w' h.2)
  simp only [List.size_toArray] at hp
  exact hp
 have Hp := Lib.hid hp2; have Hl := Lib.hid hl
 clear hp hl hpost hH hp2 hlim
 go_enter Try.func61, Try.ntmps61
 go_wp2_with fail
 refine Hl.out.mono ?_
 rintro e w' ⟨rfl, rfl⟩
 go_wp2_with fail
 refine Hp.out.mono ?_
 rintro e w' ⟨⟨rfl, h⟩, h2⟩
 have H := Lib.hid h; have H2 := Lib.hid h2; clear h h2
 go_wp2_with fail
 go_end0
 exact ⟨⟨rfl, H.out⟩, H2.out⟩
set_option maxHeartbeats 400000 in
theorem sort_nonesI (p : Option Addr) (cap : Nat) (fv : Value) (w : World) :
  Calls Try.prog 61 #[.slice p 0 cap, fv] w fun e w' => e = .returned (.tuple #[]) ∧ w = w' := by
 have hl : Calls Try.prog 58 #[.int .u64 0] w fun e w' => e = .returned (.int .i64 (Lib.bitLen 0 : Nat)) ∧ w = w' :=
  (Any.bits_Len (SlLaysF0.n15.bits Try.lenU) 0 w (by omega) (by omega)).mono fun _ _ ⟨h1, h2⟩ => ⟨h1, h2.symm⟩
 have Hl := Lib.hid hl; clear hl
 go_enter Try.func61, Try.ntmps61
 go_wp2_with fail
 refine Hl.out.mono ?_
 rintro e w' ⟨rfl, rfl⟩
 go_wp2_with fail
 refine (pdq_noneI _ _ _ _ _).mono ?_
 rintro e w' ⟨rfl, rfl⟩
 go_wp2_with fail
 go_end0
 exact ⟨rfl, rfl⟩
theorem holds_of_blkI {w : World} {g : Nat} {t : TypeId} {xs : List Lm.It} {tl : List Value} (h : Blk w g t (xs.flatMap encI ++ tl)) : Go.Sort.HoldsK encI 5 w g 0 xs.toArray := by
 intro j hj
 simp only [Go.Sort.size_flatK, List.size_toArray] at hj
 refine ⟨?_, by rw [Nat.zero_add]; exact h.frozen j⟩
 have hi : j / 5 < xs.length := by omega
 have h3 : j % 5 < 5 := Nat.mod_lt _ (by omega)
 rw [Nat.zero_add, h.cell, List.getElem?_append_left (by rw [enc_length encI_len]; omega), Go.Sort.get_flatK encI 5 xs.toArray j (by simpa using hj)]
 have := enc_get encI_len xs (j / 5) xs[j / 5] (List.getElem?_eq_getElem hi) (j % 5) h3
 rw [show j / 5 * 5 + j % 5 = j from by omega] at this
 rw [this, getElem!_pos xs.toArray (j / 5) (by simpa using hi)]
 rw [getElem!_pos (encI _) (j % 5) (by rw [encI_len]; exact h3)]
 simp
theorem blk_of_holdsI {w : World} {g : Nat} {t : TypeId} {ys : List Lm.It} {cs : List Value} (h : Blk w g t cs) (hl : ys.length * 5 ≤ cs.length) (hh : Go.Sort.HoldsK encI 5 w g 0 ys.toArray) : ∃ tl, cs = ys.flatMap encI ++ tl := by
 refine ⟨cs.drop (ys.length * 5), ?_⟩
 have hfl : (ys.flatMap encI).length = ys.length * 5 := enc_length encI_len ys
 have : cs.take (ys.length * 5) = ys.flatMap encI := by
  apply List.ext_getElem?
  intro j
  by_cases hj : j < ys.length * 5
  ·rw [List.getElem?_take, if_pos hj]
   have h1 := (hh j (by simpa using hj)).1
   have hi : j / 5 < ys.length := by omega
   have h3 : j % 5 < 5 := Nat.mod_lt _ (by omega)
   rw [Nat.zero_add, h.cell, Go.Sort.get_flatK encI 5 ys.toArray j (by simpa using hj)] at h1
   rw [h1]
   have := enc_get encI_len ys (j / 5) ys[j / 5] (List.getElem?_eq_getElem hi) (j % 5) h3
   rw [show j / 5 * 5 + j % 5 = j from by omega] at this
   rw [this, getElem!_pos ys.toArray (j / 5) (by simpa using hi)]
   rw [getElem!_pos (encI _) (j % 5) (by rw [encI_len]; exact h3)]
   simp
  ·rw [List.getElem?_take, if_neg hj, List.getElem?_eq_none (by rw [hfl]; omega)]
 rw [← this, List.take_append_drop]
set_option maxHeartbeats 1000000 in
theorem sortD_anyI (v : Value) (row : Option Nat) (l : List Lm.It) (B : Nat) (W : World) (h : OwnI B W v l row) (hn : l.length < 1000000000) :
  Calls Try.prog 61 #[v, .func (.func 59) #[] #[]] W fun e w' => e = .returned (.tuple #[]) ∧ (∃ s : List Lm.It, s.Perm l ∧ s.Pairwise (fun x y => ¬ Lm.aheadI y x = true) ∧ OwnI B w' v s row) ∧ Chg (fun k => some k = row) W w' := by
 rcases h.2 with ⟨rfl, rfl, a, rfl⟩ | ⟨g, cap, tl, rfl, rfl, h3, h4, h5, h6, h7⟩
 ·refine (sort_nonesI a 0 _ W).mono ?_
  rintro e w' ⟨rfl, rfl⟩
  exact ⟨rfl, ⟨[], List.Perm.refl _, List.Pairwise.nil, h⟩, Chg.refl _ _⟩
 ·refine (sortItems g cap l W (holds_of_blkI h4) h4.lt hn).mono ?_
  rintro e w' ⟨⟨rfl, ys, hp, hs, hh, hg⟩, hb⟩
  obtain ⟨cs', hb', hl'⟩ := hb _ _ h4
  have hlen := hp.length_eq
  have hc3 : l.length * 5 ≤ cap * 5 := by omega
  obtain ⟨tl', rfl⟩ := blk_of_holdsI hb' (by rw [hl', h7, hlen]; exact hc3) hh
  refine ⟨rfl, ⟨ys, hp, hs, Nat.le_trans h.1 hg.size, Or.inr ⟨g, cap, tl', rfl, by rw [hlen], h3, hb', by rw [hlen]; exact h5, h6, by rw [hl', h7]⟩⟩, (Chg.of_grown hg).mono (fun k _ e => e)⟩
end Go.Proofs.Ytbciopieciglmaa
namespace Go.Proofs.Ytbciopieciglmaa
open Go.RowKit Go.Buf Go.LB Go.Lib
set_option linter.unusedSimpArgs false
set_option linter.unusedVariables false
theorem _root_.Go.LB.Blk.ne_of {w : World} {b c : Nat} {t u : TypeId} {cs ds : List Value} (h : Blk w b t cs) (g : Blk w c u ds) (hne : t ≠ u) : b ≠ c := by
 rintro rfl
 unfold Blk at h g
 rw [h] at g
 simp only [Option.some.injEq, Obj.cells.injEq] at g
 exact hne g.2.1
theorem ownI_ne {B c : Nat} {w : World} {v : Value} {l : List Lm.It} {row : Option Nat} {u : TypeId} {ds : List Value} (h : OwnI B w v l row) (g : Blk w c u ds) (hne : 51 ≠ u) : row ≠ some c := by
 rintro rfl
 rcases h.2 with ⟨h1, _⟩ | ⟨g', cap, tl, h1, h2, h3, h4, _⟩
 ·cases h1
 ·cases h1; exact h4.ne_of g hne rfl
theorem ownI_nem {B c : Nat} {w : World} {v : Value} {l : List Lm.It} {row : Option Nat} {ds : List Dt.Dot} (h : OwnI B w v l row) (g : Numd w c ds) : row ≠ some c := by
 rintro rfl
 rcases h.2 with ⟨h1, _⟩ | ⟨g', cap, tl, h1, h2, h3, h4, _⟩
 ·cases h1
 ·cases h1; exact g.ne h4 rfl
def Took (W0 w : World) (bs bi bm : Nat) (s : List Dt.Dot × List Lm.It) : Prop := ∃ v row, Blk w bs 24 [.map (some bm)] ∧ Blk w bi 38 [v] ∧ OwnI W0.heap.size w v s.2 row ∧ Numd w bm s.1 ∧ Below W0.heap.size W0 w
theorem takeS_len : ∀ (l : List Lm.It) (s : List Dt.Dot × List Lm.It), (l.foldl Lm.takeS s).1.length = s.1.length + l.length ∧ (l.foldl Lm.takeS s).2.length ≤ s.2.length + l.length
 | [], s => by simp
 | x :: l, s => by
  have h := takeS_len l (Lm.takeS s x)
  rw [List.foldl_cons]
  have h1 : (Lm.takeS s x).1.length = s.1.length + 1 := by simp [Lm.takeS]
  have h2 : (Lm.takeS s x).2.length ≤ s.2.length + 1 := by unfold Lm.takeS; split <;> simp
  rw [List.length_cons]; omega
theorem takeS_at {l : List Lm.It} {k : Nat} {d : Lm.It} (h : l[k]? = some d) (s : List Dt.Dot × List Lm.It) : (l.take (k + 1)).foldl Lm.takeS s = Lm.takeS ((l.take k).foldl Lm.takeS s) d := by
 rw [List.take_add_one, h, List.foldl_append]; rfl
theorem took_of {W0 W2 w3 : World} {bs bi bm : Nat} {v : Value} {row : Option Nat} {acc : List Lm.It} {ds ds' : List Dt.Dot} (FS : Blk W2 bs 24 [.map (some bm)]) (FI : Blk W2 bi 38 [v]) (FO : OwnI W0.heap.size W2 v acc row) (FM : Numd W2 bm ds) (FW : Below W0.heap.size W0 W2) (hbm : W0.heap.size ≤ bm) (hM : Numd w3 bm ds') (hg : W2.drew.grownBy w3 (some bm)) : Took W0 w3 bs bi bm (ds', acc) := by
 have hg2 : W2.grownBy w3 (some bm) := ⟨hg.os, hg.tape, hg.output, hg.size, hg.block⟩
 refine ⟨v, row, FS.grown hg2 (fun e => by cases e; exact FM.ne FS rfl), FI.grown hg2 (fun e => by cases e; exact FM.ne FI rfl), FO.chg (Chg.of_grown hg2) (fun g e e2 => ownI_nem FO FM (e.trans e2)), hM, FW.grown hg2 FW.size (fun b e => by cases e; exact hbm)⟩
theorem count_zero {d : Dt.Dot} {ds : List Dt.Dot} (h : 0 = ds.count d) : d ∉ ds := List.count_eq_zero.1 h.symm
theorem count_pos {d : Dt.Dot} {ds : List Dt.Dot} {c : Nat} (h : c = ds.count d) (hc : ¬ c = 0) : d ∈ ds := by
 by_cases g : d ∈ ds
 ·exact g
 ·exact absurd (h.trans (List.count_eq_zero.2 g)) hc
set_option maxRecDepth 100000 in
set_option maxHeartbeats 6400000 in
theorem take_any (a : Option Addr) (n cap : Nat) (l : List Lm.It) (W0 W : World) (bs bi bm : Nat) (s : List Dt.Dot × List Lm.It) (hr : IRow W0 a cap l) (hl : l.length = n) (hn : n ≤ 100000) (hs1 : s.1.length ≤ 100000) (hs2 : s.2.length ≤ 100000) (hbs : W0.heap.size ≤ bs) (hbi : W0.heap.size ≤ bi) (hbm : W0.heap.size ≤ bm) (hT : Took W0 W bs bi bm s) :
  Calls Try.prog 60 #[.slice a n cap, .pointer (some ⟨bs, 0, none⟩), .pointer (some ⟨bi, 0, none⟩)] W fun e w' => e = .returned (.tuple #[]) ∧ Took W0 w' bs bi bm (l.foldl Lm.takeS s) := by
 have HR := Lib.hid hr; have HL := Lib.hid hl
 have hle := hr.le
 have hcap := hr.cap
 rw [hl] at hle
 have HT := Lib.hid hT
 clear hr hl hT
 go_enter Try.func60, Try.ntmps60
 go_wp2_with fail
 go_loopw [5, 8] (fun _ x wr => ∃ k : Nat, x = .int .i64 k ∧ k ≤ n ∧ Took W0 wr bs bi bm ((l.take k).foldl Lm.takeS s)) (fun _ x _ => n - (intOf x).toNat)
 case atStart => exact ⟨0, rfl, by omega, HT.out⟩
 case round =>
  obtain ⟨k, rfl, hkn, hk⟩ := hrel
  by_cases hlt : k < n
  ·obtain ⟨d, hd⟩ := geti_some (l := l) (i := k) (by rw [HL.out]; exact hlt)
   obtain ⟨hlen1, hlen2⟩ := takeS_len (l.take k) s
   rw [List.length_take, HL.out, Nat.min_eq_left hkn] at hlen1 hlen2
   have HS := Lib.hid (takeS_at hd s)
   obtain ⟨S, hS⟩ : ∃ S, S = (l.take k).foldl Lm.takeS s := ⟨_, rfl⟩
   rw [← hS] at hk hlen1 hlen2 HS
   clear hS
   obtain ⟨v, row, hbS, hbI, hO, hM, hW⟩ := hk
   have hokd := HR.out.ok d (List.mem_of_getElem? hd)
   obtain ⟨blk, off, rfl, hblk, hcells⟩ := HR.out.at (by rw [HL.out]; omega)
   obtain ⟨g0, g1, g2, g3, g4⟩ := hcells k d hd
   have q0 := (hW.cell (p := ⟨blk, off + k * 5, none⟩) hblk).trans g0
   have q1 := (hW.cell (p := ⟨blk, off + k * 5 + 1, none⟩) hblk).trans g1
   have q2 := (hW.cell (p := ⟨blk, off + k * 5 + 2, none⟩) hblk).trans g2
   have q3 := (hW.cell (p := ⟨blk, off + k * 5 + 3, none⟩) hblk).trans g3
   have q4 := (hW.cell (p := ⟨blk, off + k * 5 + 4, none⟩) hblk).trans g4
   have k0 : (0 : Int) ≤ (k : Int) := by omega
   have k1 : (k : Int) < (n : Int) := by omega
   have hw1 : IntKind.i64.wrap ((k : Int) + 1) = (k : Int) + 1 := by simp [IntKind.wrap, IntKind.bits, IntKind.signed]; omega
   have HOk := Lib.hid hokd
   clear hcells g0 g1 g2 g3 g4 hd hokd
   -- the element's copy
   have hup : Below wr.heap.size wr (wr.alloc (.cells #[.int .u64 (d.1 : Int), .int .u8 (d.2.1.1.1 : Int), .int .u32 (d.2.1.1.2 : Int), .int .u64 (d.2.1.2 : Int), .string d.2.2] 51)) := (Below.refl _ _).alloc (Nat.le_refl _) _
   have hSz := hW.size
   have hbS1 := hbS.below hup; have hbI1 := hbI.below hup; have hO1 := hO.below hup; have hM1 := hM.below hup
   have hW1 : Below W0.heap.size W0 (wr.alloc (.cells #[.int .u64 (d.1 : Int), .int .u8 (d.2.1.1.1 : Int), .int .u32 (d.2.1.1.2 : Int), .int .u64 (d.2.1.2 : Int), .string d.2.2] 51)) := hW.alloc hSz _
   have s0 : (wr.alloc (.cells #[.int .u64 (d.1 : Int), .int .u8 (d.2.1.1.1 : Int), .int .u32 (d.2.1.1.2 : Int), .int .u64 (d.2.1.2 : Int), .string d.2.2] 51)).cell? ⟨bs, 0, none⟩ = some (.map (some bm)) := hbS1.cell 0
   have i0 : (wr.alloc (.cells #[.int .u64 (d.1 : Int), .int .u8 (d.2.1.1.1 : Int), .int .u32 (d.2.1.1.2 : Int), .int .u64 (d.2.1.2 : Int), .string d.2.2] 51)).cell? ⟨bi, 0, none⟩ = some v := hbI1.cell 0
   have hlk := hM1.look HOk.out.2.1
   obtain ⟨c, hc⟩ : ∃ c : Nat, c = S.1.count d.2.1 := ⟨_, rfl⟩
   rw [← hc] at hlk
   have hrow : ∀ g, row = some g → g < wr.heap.size := fun g e => (hO.lt g e).2
   have hCp : Blk (wr.alloc (.cells #[.int .u64 (d.1 : Int), .int .u8 (d.2.1.1.1 : Int), .int .u32 (d.2.1.1.2 : Int), .int .u64 (d.2.1.2 : Int), .string d.2.2] 51)) wr.heap.size 51 (encI d) := Blk.new _ _ _
   have hup2 := (Below.refl (wr.alloc (.cells #[.int .u64 (d.1 : Int), .int .u8 (d.2.1.1.1 : Int), .int .u32 (d.2.1.1.2 : Int), .int .u64 (d.2.1.2 : Int), .string d.2.2] 51)).heap.size (wr.alloc (.cells #[.int .u64 (d.1 : Int), .int .u8 (d.2.1.1.1 : Int), .int .u32 (d.2.1.1.2 : Int), .int .u64 (d.2.1.2 : Int), .string d.2.2] 51))).alloc (Nat.le_refl _) (.cells #[.int .u64 (d.1 : Int), .int .u8 (d.2.1.1.1 : Int), .int .u32 (d.2.1.1.2 : Int), .int .u64 (d.2.1.2 : Int), .string d.2.2] 51)
   have HRow := Lib.hid hrow
   have HCp := Lib.hid hCp
   clear hrow hCp
   have HS0 := Lib.hid hbS; have HI0 := Lib.hid hbI; have HS1 := Lib.hid hbS1; have HI1 := Lib.hid hbI1; have HO1 := Lib.hid hO1; have HM1 := Lib.hid hM1; have HW1 := Lib.hid hW1; have HC := Lib.hid hc
   clear hbS hbI hO hM hW hbS1 hbI1 hO1 hM1 hW1 hc hup
   by_cases hz : c = 0
   ·subst hz
    obtain ⟨v', w2, row', h1, h2, h3, h4⟩ := app1I v row S.2 d W0.heap.size _ HO1.out (by omega) 38
    have eS := (HS1.out.below hup2).grown h3 (fun e => ownI_ne HO1.out HS1.out (by decide) e.symm)
    have eI := (HI1.out.below hup2).grown h3 (fun e => ownI_ne HO1.out HI1.out (by decide) e.symm)
    have eC := (HCp.out.below hup2).grown h3 (fun e => by have := HRow.out _ e.symm; omega)
    have eM := (HM1.out.below hup2).kept h3 (fun e => ownI_nem HO1.out HM1.out e.symm)
    have eW := (HW1.out.alloc HW1.out.size _).grown h3 (Nat.le_trans HW1.out.size (by simp)) (fun b e => (HO1.out.lt b e).1)
    obtain ⟨va, vc, rfl, _⟩ := h2.reads encI_len
    obtain ⟨N, hN⟩ : ∃ N, N = (S.2 ++ [d]).length := ⟨_, rfl⟩
    rw [← hN] at h1 h2
    simp only [World.size_alloc] at h1
    have z0 : w2.cell? ⟨bi, 0, none⟩ = some v := eI.cell 0
    have zf : w2.frozen? ⟨bi, 0, none⟩ = false := eI.frozen 0
    have fS := eS.other (eS.ne_of eI (by decide)) 0 (.slice va N vc)
    have fC := eC.other (eC.ne_of eI (by decide)) 0 (.slice va N vc)
    have fI := eI.set 0 (.slice va N vc)
    have fM := eM.kept (setCell_grown w2 bi 0 (.slice va N vc)) (fun e => by cases e; exact eM.ne eI rfl)
    have fO := h2.chg (Chg.of_grown (setCell_grown w2 bi 0 (.slice va N vc))) (fun g e e2 => ownI_ne h2 eI (by decide) (e.trans e2))
    have fW := eW.setCell (p := ⟨bi, 0, none⟩) hbi (.slice va N vc)
    clear eS eI eC eM eW h2 h3 h4 hup2 hN
    have HT : Lm.takeS S d = (S.1 ++ [d.2.1], S.2 ++ [d]) := by unfold Lm.takeS; rw [if_neg (count_zero HC.out)]
    have HTk := Lib.hid HT; clear HT
    obtain ⟨W2, hW2⟩ : ∃ W2, W2 = w2.setCell ⟨bi, 0, none⟩ (.slice va N vc) := ⟨_, rfl⟩
    rw [← hW2] at fS fC fI fM fO fW
    obtain ⟨c2, st, w1, w3, hc2, hc3, e1, e2, e3, e4, hN3, hg3⟩ := fM.drew.bump HOk.out.2.1 (by omega)
    have HN3 := Lib.hid hN3; have HG3 := Lib.hid hg3
    have p0 : W2.cell? ⟨bs, 0, none⟩ = some (.map (some bm)) := fS.cell 0
    have y1 : W2.cell? ⟨wr.heap.size, 1, none⟩ = some (.int .u8 (d.2.1.1.1 : Int)) := fC.cell 1
    have y2 : W2.cell? ⟨wr.heap.size, 2, none⟩ = some (.int .u32 (d.2.1.1.2 : Int)) := fC.cell 2
    have y3 : W2.cell? ⟨wr.heap.size, 3, none⟩ = some (.int .u64 (d.2.1.2 : Int)) := fC.cell 3
    have hwc : IntKind.i64.wrap ((c2 : Int) + 1) = (c2 : Int) + 1 := by simp [IntKind.wrap, IntKind.bits, IntKind.signed]; omega
    simp only [goInt] at e2 e4
    clear hc2
    have FS := Lib.hid fS; have FC := Lib.hid fC; have FI := Lib.hid fI; have FM := Lib.hid fM; have FO := Lib.hid fO; have FW := Lib.hid fW
    clear fS fC fI fM fO fW hN3 hg3
    go_wp2_with (at_builtin; refine Lib.wpList_append_run _ rfl _ _ _ _ rfl _ _ rfl rfl _ _ h1 ?_)
    rw [← hW2]
    clear hW2 h1 z0 zf i0 s0 hlk q0 q1 q2 q3 q4
    go_region
    all_goals
     go_wp2_with fail
     clear p0 y1 y2 y3 e1 e2 e3 e4
     go_roundw
     case rel => exact ⟨k + 1, by go_num, by omega, by rw [HS.out, HTk.out]; exact took_of FS.out FI.out FO.out FM.out FW.out hbm HN3.out HG3.out⟩
     case measure => simp [intOf]; omega
   ·have HT : Lm.takeS S d = (S.1 ++ [d.2.1], S.2) := by unfold Lm.takeS; rw [if_pos (count_pos HC.out hz)]
    have HTk := Lib.hid HT; clear HT
    obtain ⟨W2, hW2⟩ : ∃ W2, W2 = wr.alloc (.cells #[.int .u64 (d.1 : Int), .int .u8 (d.2.1.1.1 : Int), .int .u32 (d.2.1.1.2 : Int), .int .u64 (d.2.1.2 : Int), .string d.2.2] 51) := ⟨_, rfl⟩
    have fS := HS1.out; have fC := HCp.out; have fI := HI1.out; have fM := HM1.out; have fO := HO1.out; have fW := HW1.out
    rw [← hW2] at fS fC fI fM fO fW
    obtain ⟨c2, st, w1, w3, hc2, hc3, e1, e2, e3, e4, hN3, hg3⟩ := fM.drew.bump HOk.out.2.1 (by omega)
    have HN3 := Lib.hid hN3; have HG3 := Lib.hid hg3
    have p0 : W2.cell? ⟨bs, 0, none⟩ = some (.map (some bm)) := fS.cell 0
    have y1 : W2.cell? ⟨wr.heap.size, 1, none⟩ = some (.int .u8 (d.2.1.1.1 : Int)) := fC.cell 1
    have y2 : W2.cell? ⟨wr.heap.size, 2, none⟩ = some (.int .u32 (d.2.1.1.2 : Int)) := fC.cell 2
    have y3 : W2.cell? ⟨wr.heap.size, 3, none⟩ = some (.int .u64 (d.2.1.2 : Int)) := fC.cell 3
    have hwc : IntKind.i64.wrap ((c2 : Int) + 1) = (c2 : Int) + 1 := by simp [IntKind.wrap, IntKind.bits, IntKind.signed]; omega
    simp only [goInt] at e2 e4
    clear hc2
    have FS := Lib.hid fS; have FC := Lib.hid fC; have FI := Lib.hid fI; have FM := Lib.hid fM; have FO := Lib.hid fO; have FW := Lib.hid fW
    clear fS fC fI fM fO fW hN3 hg3 hup2
    go_wp2_with fail
    rw [← hW2]
    clear hW2 i0 s0 hlk q0 q1 q2 q3 q4
    go_region
    all_goals
     go_wp2_with fail
     clear p0 y1 y2 y3 e1 e2 e3 e4
     go_roundw
     case rel => exact ⟨k + 1, by go_num, by omega, by rw [HS.out, HTk.out]; exact took_of FS.out FI.out FO.out FM.out FW.out hbm HN3.out HG3.out⟩
     case measure => simp [intOf]; omega
  ·obtain rfl : k = n := by omega
   have hfin : (l.take k).foldl Lm.takeS s = l.foldl Lm.takeS s := by rw [List.take_of_length_le (by rw [HL.out]; omega)]
   rw [hfin] at hk
   have HK := Lib.hid hk; clear hk hfin
   go_wp2_with fail
   go_end0
   exact ⟨rfl, HK.out⟩
end Go.Proofs.Ytbciopieciglmaa
