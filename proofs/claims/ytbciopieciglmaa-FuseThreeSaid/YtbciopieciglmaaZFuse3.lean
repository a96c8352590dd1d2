import Derived.Test.YtbciopieciglmaaZThree2
import Derived.Test.YtbciopieciglmaaZLeaf23
import Derived.Lib.AppendZeros
import Derived.Test.YtbciopieciglmaaZLeaf6
import Derived.Test.YtbciopieciglmaaZOwn
namespace Go.Proofs.Ytbciopieciglmaa
open Go.RowKit Go.Buf Go.LB Go.Lib
set_option linter.unusedSimpArgs false
set_option linter.unusedVariables false
abbrev mergesV : Value := .agg #[Value.nilFunc, .func (.func 25) #[] #[], .func (.func 26) #[] #[], .func (.func 27) #[] #[], .func (.func 28) #[] #[]]
theorem res_merges {fn : Func} {k : Tmp} {tmps : Array Value} {w : World} {b : Nat} {c0 c1 c2 c3 c4 : Value} (hr : fn.results = #[.cell k 56]) (ht : tmps.getD k undef = .pointer (some ⟨b, 0, none⟩)) (h : Blk w b 56 [c0, c1, c2, c3, c4]) :
  (results fn tmps).run Try.prog w = .ok (.agg #[c0, c1, c2, c3, c4]) w := by
 have h0 := h.cell 0; have h1 := h.cell 1; have h2 := h.cell 2; have h3 := h.cell 3; have h4 := h.cell 4
 simp at h0 h1 h2 h3 h4
 have ht2 : tmps[k]?.getD undef = .pointer (some ⟨b, 0, none⟩) := by simpa using ht
 simp [results, hr, go_sem, ht2, h0, h1, h2, h3, h4]
set_option maxHeartbeats 1000000 in
theorem merges_any (W : World) : Calls Try.prog 12 #[] W fun e w' => e = .returned mergesV ∧ Below W.heap.size W w' := by
 go_enter Try.func12, Try.ntmps12
 go_wp2_with fail
 refine bodyPost_ret (v := mergesV) (res_merges Try.results12 (by simp) (Blk.new _ _ _)) rfl ⟨rfl, (Below.refl _ _).alloc (Nat.le_refl _) _⟩
theorem below_box4 (W : World) (c d e f : Array Value) (t u v x : TypeId) : Below W.heap.size W ((((W.alloc (.cells c t)).alloc (.cells d u)).alloc (.cells e v)).alloc (.cells f x)) := ((((Below.refl _ _).alloc (Nat.le_refl _) _).alloc (by simp) _).alloc (by simp; omega) _).alloc (by simp; omega) _
theorem blk_new3 (W : World) (c d e f : Array Value) (t u v x : TypeId) : Blk ((((W.alloc (.cells c t)).alloc (.cells d u)).alloc (.cells e v)).alloc (.cells f x)) (W.heap.size + 1 + 1 + 1) x f.toList := by
 have := Blk.new (((W.alloc (.cells c t)).alloc (.cells d u)).alloc (.cells e v)) f x
 simpa using this
set_option maxHeartbeats 1600000 in
theorem mergeCounters_any (kk : Nat) (n : Int) (t r i s : Nat) (x : ByteArray) (ia : Option Addr) (il ic : Nat) (da : Option Addr) (dl dc : Nat) (kk' : Nat) (n' : Int) (t' r' i' s' : Nat) (x' : ByteArray) (ia' : Option Addr) (il' ic' : Nat) (da' : Option Addr) (dl' dc' : Nat) (kk'' : Nat) (n'' : Int) (t'' r'' i'' s'' : Nat) (x'' : ByteArray) (ia'' : Option Addr) (il'' ic'' : Nat) (da'' : Option Addr) (dl'' dc'' : Nat) (W : World) :
  Calls Try.prog 25 #[leafV kk n t r i s x ia il ic da dl dc, leafV kk' n' t' r' i' s' x' ia' il' ic' da' dl' dc', leafV kk'' n'' t'' r'' i'' s'' x'' ia'' il'' ic'' da'' dl'' dc''] W fun e w' => e = .returned (leafV kk (wrap64 (wrap64 (n' + n'') - n)) 0 0 0 0 ⟨#[]⟩ none 0 0 none 0 0) ∧ Below W.heap.size W w' := by
 go_enter Try.func25, Try.ntmps25
 go_wp2_with fail
 refine bodyPost_ret (v := leafV kk (wrap64 (wrap64 (n' + n'') - n)) 0 0 0 0 ⟨#[]⟩ none 0 0 none 0 0) (res_leaf Try.results25 (by simp) (blk_new3 _ _ _ _ _ _ _ _ _)) rfl ⟨rfl, below_box4 _ _ _ _ _ _ _ _ _⟩
theorem leafblk {w : World} {b : Nat} {t : TypeId} {c0 c1 c2 c3 c4 c5 c6 c7 c8 : Value} (h : Blk w b t [c0, c1, c2, c3, c4, c5, c6, c7, c8]) :
  w.cell? ⟨b, 0, none⟩ = some c0 ∧ w.cell? ⟨b, 1, none⟩ = some c1 ∧ w.cell? ⟨b, 2, none⟩ = some c2 ∧ w.cell? ⟨b, 3, none⟩ = some c3 ∧ w.cell? ⟨b, 4, none⟩ = some c4 ∧ w.cell? ⟨b, 5, none⟩ = some c5 ∧ w.cell? ⟨b, 6, none⟩ = some c6 ∧ w.cell? ⟨b, 7, none⟩ = some c7 ∧ w.cell? ⟨b, 8, none⟩ = some c8 :=
 ⟨h.cell 0, h.cell 1, h.cell 2, h.cell 3, h.cell 4, h.cell 5, h.cell 6, h.cell 7, h.cell 8⟩
theorem blk5 {W w1 : World} {c d e f g : Array Value} {t u v x y : TypeId} (hb : Below (((((W.alloc (.cells c t)).alloc (.cells d u)).alloc (.cells e v)).alloc (.cells f x)).alloc (.cells g y)).heap.size (((((W.alloc (.cells c t)).alloc (.cells d u)).alloc (.cells e v)).alloc (.cells f x)).alloc (.cells g y)) w1) :
  Blk w1 W.heap.size t c.toList ∧ Blk w1 (W.heap.size + 1) u d.toList ∧ Blk w1 (W.heap.size + 1 + 1) v e.toList ∧ Blk w1 (W.heap.size + 1 + 1 + 1) x f.toList ∧ Blk w1 (W.heap.size + 1 + 1 + 1 + 1) y g.toList := by
 have up : ∀ (w : World) (o : Obj), Below w.heap.size w (w.alloc o) := fun w o => (Below.refl _ _).alloc (Nat.le_refl _) o
 have h1 := (((((Blk.new W c t).below (up _ (.cells d u))).below (up _ (.cells e v))).below (up _ (.cells f x))).below (up _ (.cells g y))).below hb
 have h2 := ((((Blk.new (W.alloc (.cells c t)) d u).below (up _ (.cells e v))).below (up _ (.cells f x))).below (up _ (.cells g y))).below hb
 have h3 := (((Blk.new ((W.alloc (.cells c t)).alloc (.cells d u)) e v).below (up _ (.cells f x))).below (up _ (.cells g y))).below hb
 have h4 := ((Blk.new (((W.alloc (.cells c t)).alloc (.cells d u)).alloc (.cells e v)) f x).below (up _ (.cells g y))).below hb
 have h5 := (Blk.new ((((W.alloc (.cells c t)).alloc (.cells d u)).alloc (.cells e v)).alloc (.cells f x)) g y).below hb
 simp only [World.size_alloc] at h1 h2 h3 h4 h5
 exact ⟨h1, h2, h3, h4, h5⟩
set_option maxHeartbeats 1600000 in
theorem mergeRegisters_any (kk : Nat) (n : Int) (t r i s : Nat) (x : ByteArray) (ia : Option Addr) (il ic : Nat) (da : Option Addr) (dl dc : Nat) (kk' : Nat) (n' : Int) (t' r' i' s' : Nat) (x' : ByteArray) (ia' : Option Addr) (il' ic' : Nat) (da' : Option Addr) (dl' dc' : Nat) (kk'' : Nat) (n'' : Int) (t'' r'' i'' s'' : Nat) (x'' : ByteArray) (ia'' : Option Addr) (il'' ic'' : Nat) (da'' : Option Addr) (dl'' dc'' : Nat) (W : World) (z : Bool) (hz : Lm.ahead t'' ((r'', i''), s'') t' ((r', i'), s') = z) :
  Calls Try.prog 26 #[leafV kk n t r i s x ia il ic da dl dc, leafV kk' n' t' r' i' s' x' ia' il' ic' da' dl' dc', leafV kk'' n'' t'' r'' i'' s'' x'' ia'' il'' ic'' da'' dl'' dc''] W fun e w' => e = .returned (if z = true then leafV kk' 0 t' r' i' s' x' none 0 0 none 0 0 else leafV kk'' 0 t'' r'' i'' s'' x'' none 0 0 none 0 0) ∧ Below W.heap.size W w' := by
 have HC := Lib.hid (ahead_any t'' r'' i'' s'' t' r' i' s')
 rw [hz] at HC
 have HBox := Lib.hid (below_box4 W #[.int .u8 (kk : Int), .int .i64 n, .int .u64 (t : Int), .int .u8 (r : Int), .int .u32 (i : Int), .int .u64 (s : Int), .string x, .slice ia il ic, .slice da dl dc] #[.int .u8 (kk' : Int), .int .i64 n', .int .u64 (t' : Int), .int .u8 (r' : Int), .int .u32 (i' : Int), .int .u64 (s' : Int), .string x', .slice ia' il' ic', .slice da' dl' dc'] #[.int .u8 (kk'' : Int), .int .i64 n'', .int .u64 (t'' : Int), .int .u8 (r'' : Int), .int .u32 (i'' : Int), .int .u64 (s'' : Int), .string x'', .slice ia'' il'' ic'', .slice da'' dl'' dc''] #[.int .u8 0, .int .i64 0, .int .u64 0, .int .u8 0, .int .u32 0, .int .u64 0, .string ⟨#[]⟩, .slice none 0 0, .slice none 0 0] 40 40 40 40)
 clear hz
 go_enter Try.func26, Try.ntmps26
 go_wp2_with fail
 refine (HC.out _).mono ?_
 rintro e w1 ⟨rfl, hb⟩
 obtain ⟨b1, b2, b3, b4, b5⟩ := blk5 hb
 have HB := Lib.hid hb
 have H4 := Lib.hid b4; have H5 := Lib.hid b5
 have hfr : ∀ j, w1.frozen? ⟨W.heap.size + 1 + 1 + 1 + 1, j, none⟩ = false := fun j => b5.frozen j
 have hfq : ∀ j, w1.frozen? ⟨W.heap.size + 1 + 1 + 1, j, none⟩ = false := fun j => b4.frozen j
 obtain ⟨p0, p1, p2, p3, p4, p5, p6, p7, p8⟩ := leafblk b2
 obtain ⟨q0, q1, q2, q3, q4, q5, q6, q7, q8⟩ := leafblk b5
 obtain ⟨o0, o1, o2, o3, o4, o5, o6, o7, o8⟩ := leafblk b4
 clear hb b1 b2 b3 b4 b5
 cases z with
 | true =>
  go_wp2_with fail
  refine bodyPost_ret (v := leafV kk' 0 t' r' i' s' x' none 0 0 none 0 0) (res_leaf Try.results26 (by simp) (Blk.set9 (((((((((H4.out.other (show W.heap.size + 1 + 1 + 1 ≠ W.heap.size + 1 + 1 + 1 + 1 by omega) 0 _).other (show W.heap.size + 1 + 1 + 1 ≠ W.heap.size + 1 + 1 + 1 + 1 by omega) 1 _).other (show W.heap.size + 1 + 1 + 1 ≠ W.heap.size + 1 + 1 + 1 + 1 by omega) 2 _).other (show W.heap.size + 1 + 1 + 1 ≠ W.heap.size + 1 + 1 + 1 + 1 by omega) 3 _).other (show W.heap.size + 1 + 1 + 1 ≠ W.heap.size + 1 + 1 + 1 + 1 by omega) 4 _).other (show W.heap.size + 1 + 1 + 1 ≠ W.heap.size + 1 + 1 + 1 + 1 by omega) 5 _).other (show W.heap.size + 1 + 1 + 1 ≠ W.heap.size + 1 + 1 + 1 + 1 by omega) 6 _).other (show W.heap.size + 1 + 1 + 1 ≠ W.heap.size + 1 + 1 + 1 + 1 by omega) 7 _).other (show W.heap.size + 1 + 1 + 1 ≠ W.heap.size + 1 + 1 + 1 + 1 by omega) 8 _) _ _ _ _ _ _ _ _ _)) rfl ⟨rfl, set9 (set9 ((HBox.out.alloc HBox.out.size _).trans (HB.out.mono (HBox.out.alloc HBox.out.size _).size)) (by omega) _ _ _ _ _ _ _ _ _) (by omega) _ _ _ _ _ _ _ _ _⟩
 | false =>
  go_wp2_with fail
  refine bodyPost_ret (v := leafV kk'' 0 t'' r'' i'' s'' x'' none 0 0 none 0 0) (res_leaf Try.results26 (by simp) (Blk.set9 H4.out _ _ _ _ _ _ _ _ _)) rfl ⟨rfl, set9 ((HBox.out.alloc HBox.out.size _).trans (HB.out.mono (HBox.out.alloc HBox.out.size _).size)) (by omega) _ _ _ _ _ _ _ _ _⟩
end Go.Proofs.Ytbciopieciglmaa
namespace Go.Proofs.Ytbciopieciglmaa
open Go.Shelf Go.RowKit Go.Lib Go.Sort Go.LB
open Go.RegG (Gr)
set_option linter.unusedSimpArgs false
set_option linter.unusedVariables false
theorem dotLays2 (blk off size : Nat) (w : World) : CmpLays Try.prog 46 #[] encD 3 Dt.cmp blk off size w := by
 intro m os dk _ x y
 obtain ⟨⟨r, i⟩, s⟩ := x
 obtain ⟨⟨r', i'⟩, s'⟩ := y
 refine (compareDots_any r i s r' i' s' _).mono ?_
 rintro e w' ⟨rfl, h⟩
 exact ⟨rfl, grow_of_gr h⟩
set_option maxRecDepth 100000 in
set_option maxHeartbeats 2000000 in
theorem sortDots2 (blk cap : Nat) (xs : List Dt.Dot) (w : World) (hH : HoldsK encD 3 w blk 0 xs.toArray) (hblk : blk < w.heap.size) (hsz : xs.length < 1000000000) :
  Calls Try.prog 45 #[.slice (some ⟨blk, 0, none⟩) xs.length cap, .func (.func 46) #[] #[]] w (SortPostB w blk xs) := by
 have eg : ∀ args w, (callFunc 46 args).run Try.prog w = .ok (.enter 46 args) w := enters_of Try.func46 (by kernel_rfl) (by kernel_rfl)
 have hlim : Lib.bitLen xs.length < 4611686018427387904 := Nat.lt_of_le_of_lt (Lib.bitLen_le xs.length 62 (by omega) (by omega)) (by omega)
 have hp := AnyQ.pdqsortCmpFunc_all (P := Try.prog) Try.pdqDot 3 Try.isAgg31 Try.sizeOf31 encD Dt.cmp 46 #[] swoDot blk 0 cap xs.toArray w eg (dotLays2 blk 0 _ w) ⟨encD_len, encD_one, hH, hblk⟩ (xs.length + 1) 0 xs.length (Lib.bitLen xs.length) xs.toArray w (by omega) rfl (SWK.start hH) (Nat.zero_le _) (by simp) (by simp; omega) hlim (Or.inl rfl)
 have hl : Calls Try.prog 58 #[.int .u64 (xs.length : Int)] w fun e w' => e = .returned (.int .i64 (Lib.bitLen xs.length : Nat)) ∧ w = w' := by
  have h := Any.bits_Len (SlLaysF0.n15.bits Try.lenU) (xs.length : Int) w (by omega) (by omega)
  rw [Int.toNat_natCast] at h
  exact h.mono fun _ _ ⟨h1, h2⟩ => ⟨h1, h2.symm⟩
 have hpost : ∀ w', SWK encD 3 w blk 0 (pdq (ltOf Dt.cmp) xs.toArray 0 xs.length (Lib.bitLen xs.length) true true) w' → SortPostB w blk xs (.returned (.tuple #[])) w' := by
  rintro w' ⟨n, os, rfl⟩
  have h := pdq_sorts (ltOf Dt.cmp) swoDot xs.toArray 0 xs.toArray.size (Lib.bitLen xs.length) true true (Nat.zero_le _) (Nat.le_refl _) (Or.inl rfl)
  refine ⟨⟨rfl, (pdq (ltOf Dt.cmp) xs.toArray 0 xs.length (Lib.bitLen xs.length) true true).toList, by simpa using perm_list h.1, sorted_list (by have h1 := h.1.1; have h2 := h.2; simp only [List.size_toArray] at h1 h2; rw [h1]; exact h2), ?_, sortWorld_grown _ _ _ _ _⟩, fun cs t hb => sortWorld_blk hb _ _ _⟩
  exact holdsK_sortWorldK_c encD 3 w blk 0 xs.toArray _ n os hH hblk h.1.1
 have hp2 : Calls Try.prog 57 #[.slice (some ⟨blk, 0, none⟩) xs.length cap, .int .i64 0, .int .i64 (xs.length : Nat), .int .i64 (Lib.bitLen xs.length : Nat), .func (.func 46) #[] #[]] w (SortPostB w blk xs) := by
  refine Calls.mono ?_ (fun e w' (h : e = .returned (.tuple #[]) ∧ SWK encD 3 w blk 0 (pdq (ltOf Dt.cmp) xs.toArray 0 xs.length (Lib.bitLen xs.length) true true) w') => by rw [h.1]; exact hpost w' h.2)
  simp only [List.size_toArray] at hp
  exact hp
 have Hp := Lib.hid hp2; have Hl := Lib.hid hl
 clear hp hl hpost hH hp2 hlim
 go_enter Try.func45, Try.ntmps45
 go_wp2_with fail
 refine Hl.out.mono ?_
 rintro e w' ⟨rfl, rfl⟩
 go_wp2_with fail
 refine Hp.out.mono ?_
 rintro e w' ⟨⟨rfl, h⟩, h2⟩
 have H := Lib.hid h; have H2 := Lib.hid h2; clear h h2
 go_wp2_with fail
 go_end0
 exact ⟨⟨rfl, H.out⟩, H2.out⟩
set_option maxHeartbeats 1000000 in
theorem sortDD_any (v : Value) (row : Option Nat) (l : List Dt.Dot) (B : Nat) (W : World) (h : OwnD B W v l row) (hn : l.length < 1000000000) :
  Calls Try.prog 45 #[v, .func (.func 46) #[] #[]] W fun e w' => e = .returned (.tuple #[]) ∧ (∃ s : List Dt.Dot, s.Perm l ∧ s.Pairwise (fun x y => ¬ Dt.lt y x) ∧ OwnD B w' v s row) ∧ Chg (fun k => some k = row) W w' := by
 rcases h.2 with ⟨rfl, rfl, a, rfl⟩ | ⟨g, cap, tl, rfl, rfl, h3, h4, h5, h6, h7⟩
 ·refine (sort_nones a 0 _ W).mono ?_
  rintro e w' ⟨rfl, rfl⟩
  exact ⟨rfl, ⟨[], List.Perm.refl _, List.Pairwise.nil, h⟩, Chg.refl _ _⟩
 ·refine (sortDots2 g cap l W (holds_of_blk h4) h4.lt hn).mono ?_
  rintro e w' ⟨⟨rfl, ys, hp, hs, hh, hg⟩, hb⟩
  obtain ⟨cs', hb', hl'⟩ := hb _ _ h4
  have hlen := hp.length_eq
  have hc3 : l.length * 3 ≤ cap * 3 := by omega
  obtain ⟨tl', rfl⟩ := blk_of_holds hb' (by rw [hl', h7, hlen]; exact hc3) hh
  refine ⟨rfl, ⟨ys, hp, hs, Nat.le_trans h.1 hg.size, Or.inr ⟨g, cap, tl', rfl, by rw [hlen], h3, hb', by rw [hlen]; exact h5, h6, by rw [hl', h7]⟩⟩, (Chg.of_grown hg).mono (fun k _ e => e)⟩
end Go.Proofs.Ytbciopieciglmaa
namespace Go.Proofs.Ytbciopieciglmaa
open Go.RowKit Go.Buf Go.LB Go.Lib
set_option linter.unusedSimpArgs false
set_option linter.unusedVariables false
set_option maxHeartbeats 1600000 in
theorem growD_nil (n : Nat) (hn : n ≤ 1000000) (W : World) :
  Calls Try.prog 56 #[.slice none 0 0, .int .i64 (n : Int)] W fun e w' => (∃ v row, e = .returned v ∧ OwnD W.heap.size w' v [] row) ∧ Below W.heap.size W w' := by
 by_cases h0 : n = 0
 ·subst h0
  go_enter Try.func56, Try.ntmps56
  go_wp2_with fail
  go_ret
  exact ⟨⟨_, none, rfl, Own.empty (Nat.le_refl _) none⟩, Below.refl _ _⟩
 ·obtain ⟨i0, hi0, hz0, hzs, hzb⟩ := info_parts info_dot
  have hrz : ∀ ty, (Builtin.append_ #[33, 3] ty #[.slice none 0 0, .int .i64 (n : Int)]).run Try.prog W =
    .ok (.slice (some ⟨W.heap.size, 0, none⟩) n (grownCap W n 0 31)) (W.drew.alloc (.cells (Builtin.zeroCells (Value.agg #[.int .u8 0, .int .u32 0, .int .u64 0]).cells n ++ Builtin.zeroCells (Value.agg #[.int .u8 0, .int .u32 0, .int .u64 0]).cells (grownCap W n 0 31 - n)) 31)) := fun ty =>
   Lib.run_append_nil_zeros W 33 3 ty 31 i0 _ .i64 .i64 Try.underlying33 Try.underlying3 hi0 hz0 n (by omega) (by omega) (by omega) (by rw [hzb]; omega)
  obtain ⟨G, hG⟩ : ∃ G, G = grownCap W n 0 31 := ⟨_, rfl⟩
  have hGn : n ≤ G := by rw [hG]; exact grownCap_ge W _ _ _
  have hG63 : G ≤ maxLen := by rw [hG]; exact grownCap_le_maxLen W n 0 31 (by unfold maxLen; omega)
  rw [← hG] at hrz
  obtain ⟨Z, hZ⟩ : ∃ Z, Z = Builtin.zeroCells (Value.agg #[.int .u8 0, .int .u32 0, .int .u64 0]).cells n ++ Builtin.zeroCells (Value.agg #[.int .u8 0, .int .u32 0, .int .u64 0]).cells (G - n) := ⟨_, rfl⟩
  rw [← hZ] at hrz
  have hZl : Z.toList.length = G * 3 := by rw [hZ]; simp [Builtin.zeroCells, Value.cells]; omega
  have hN : Blk (W.drew.alloc (.cells Z 31)) W.heap.size 31 Z.toList := Blk.new W.drew Z 31
  have hO : OwnD W.heap.size (W.drew.alloc (.cells Z 31)) (.slice (some ⟨W.heap.size, 0, none⟩) 0 G) [] (some W.heap.size) :=
   ⟨by simp, Or.inr ⟨W.heap.size, G, Z.toList, rfl, rfl, Nat.le_refl _, by simpa using hN, by simp, hG63, by simpa using hZl⟩⟩
  have HO := Lib.hid hO
  have HB := Lib.hid (((Below.refl W.heap.size W).drew).alloc (Nat.le_refl _) (.cells Z 31))
  clear hO hN hZl hZ hG hi0 hz0 hzs hzb
  have hG0 : (0 : Int) ≤ (G : Int) := by omega
  have hp : (0 : Int) < (n : Int) := by omega
  go_enter Try.func56, Try.ntmps56
  go_wp2_with (at_builtin; refine Lib.wpList_append_run _ rfl _ _ _ _ rfl _ _ rfl rfl _ _ (hrz _) ?_)
  go_ret
  exact ⟨⟨_, _, rfl, HO.out⟩, HB.out⟩
def cat2 (l l' : List Dt.Dot) (k : Nat) : List Dt.Dot := if k = 0 then [] else if k = 1 then l else l ++ l'
set_option maxRecDepth 100000 in
set_option maxHeartbeats 3200000 in
theorem concatD_any (b : Nat) (a : Option Addr) (n cap : Nat) (a' : Option Addr) (n' cap' : Nat) (l l' : List Dt.Dot) (W : World) (hb : Blk W b 33 [.slice a n cap, .slice a' n' cap']) (hr : VRow W a cap l) (hl : l.length = n) (hr' : VRow W a' cap' l') (hl' : l'.length = n') (hn : n ≤ 100000) (hn' : n' ≤ 100000) :
  Calls Try.prog 44 #[.slice (some ⟨b, 0, none⟩) 2 2] W fun e w' => (∃ v row, e = .returned v ∧ OwnD W.heap.size w' v (l ++ l') row) ∧ Below W.heap.size W w' := by
 have HR := Lib.hid hr; have HL := Lib.hid hl; have HR' := Lib.hid hr'; have HL' := Lib.hid hl'; have HBk := Lib.hid hb
 have q0 : W.cell? ⟨b, 0, none⟩ = some (.slice a n cap) := hb.cell 0
 have q1 : W.cell? ⟨b, 1, none⟩ = some (.slice a' n' cap') := hb.cell 1
 have hbl := hb.lt
 clear hr hl hr' hl' hb
 go_enter Try.func44, Try.ntmps44
 go_wp2_with fail
 go_loopw [3, 5, 11] (fun z x i wr => ∃ k : Nat, i = .int .i64 k ∧ k ≤ 2 ∧ W = wr ∧ z = .int .i64 ((if k = 0 then 0 else if k = 1 then n else n + n' : Nat) : Int)) (fun _ _ i _ => 2 - (intOf i).toNat)
 case atStart => exact ⟨0, rfl, by omega, rfl, rfl⟩
 case round =>
  obtain ⟨k, rfl, hk, rfl, rfl⟩ := hrel
  by_cases hlt : k < 2
  ·rcases (show k = 0 ∨ k = 1 by omega) with rfl | rfl
   ·simp only [if_true]
    go_wp2_with fail
    go_roundw
    case rel => exact ⟨1, by go_num, by omega, trivial, by simp⟩
    case measure => simp [intOf]
   ·simp only [if_true, if_neg (show ¬ (1 = 0) by omega)]
    go_wp2_with fail
    go_roundw
    case rel => exact ⟨2, by go_num, by omega, trivial, by simp⟩
    case measure => simp [intOf]
  ·obtain rfl : k = 2 := by omega
   simp only [if_neg (show ¬ (2 = 0) by omega), if_neg (show ¬ (2 = 1) by omega)]
   have HG := Lib.hid (growD_nil (n + n') (by omega))
   go_wp2_with fail
   refine (HG.out _).mono ?_
   rintro e w1 ⟨⟨v1, row1, rfl, hv1⟩, hb1⟩
   have HV1 := Lib.hid hv1; have HB1 := Lib.hid hb1
   have p0 := (hb1.cell (p := ⟨b, 0, none⟩) hbl).trans q0
   have p1 := (hb1.cell (p := ⟨b, 1, none⟩) hbl).trans q1
   clear hv1 hb1 HG
   go_wp2_with fail
   go_loopw [6, 8, 27] (fun z x i w2 => ∃ (k : Nat) (row : Option Nat), i = .int .i64 k ∧ k ≤ 2 ∧ OwnD W.heap.size w2 z (cat2 l l' k) row ∧ Below W.heap.size W w2) (fun _ _ i _ => 2 - (intOf i).toNat)
   case atStart => exact ⟨0, row1, rfl, by omega, HV1.out, HB1.out⟩
   case round =>
    obtain ⟨k, row, rfl, hk, hown, hbel⟩ := hrel
    have HO := Lib.hid hown; have HW := Lib.hid hbel
    have o0 := (hbel.cell (p := ⟨b, 0, none⟩) hbl).trans q0
    have o1 := (hbel.cell (p := ⟨b, 1, none⟩) hbl).trans q1
    clear hown hbel p0 p1
    by_cases hlt : k < 2
    ·rcases (show k = 0 ∨ k = 1 by omega) with rfl | rfl
     ·have hs := srcD (HR.out.below HW.out)
      obtain ⟨v', w2, row', h1, h2, h3, h4⟩ := appsD _ row _ l (.slice a n cap) W.heap.size wr HO.out (by rw [HL.out] at hs; rw [HL.out]; exact hs) (by rw [HL.out]; simp [cat2]; omega) 33
      have H2 := Lib.hid h2; have H3 := Lib.hid h3
      clear hs h2 h3 h4
      go_wp2_with (at_builtin; refine Lib.wpList_append_run _ rfl _ _ _ _ rfl _ _ rfl rfl _ _ h1 ?_)
      clear h1
      go_roundw
      case rel => exact ⟨1, row', by go_num, by omega, H2.out, HW.out.grown H3.out HW.out.size (fun b e => (HO.out.lt b e).1)⟩
      case measure => simp [intOf]
     ·have hs := srcD (HR'.out.below HW.out)
      obtain ⟨v', w2, row', h1, h2, h3, h4⟩ := appsD _ row _ l' (.slice a' n' cap') W.heap.size wr HO.out (by rw [HL'.out] at hs; rw [HL'.out]; exact hs) (by rw [HL'.out]; simp [cat2]; rw [HL.out]; omega) 33
      have H2 := Lib.hid h2; have H3 := Lib.hid h3
      clear hs h2 h3 h4
      go_wp2_with (at_builtin; refine Lib.wpList_append_run _ rfl _ _ _ _ rfl _ _ rfl rfl _ _ h1 ?_)
      clear h1
      go_roundw
      case rel => exact ⟨2, row', by go_num, by omega, H2.out, HW.out.grown H3.out HW.out.size (fun b e => (HO.out.lt b e).1)⟩
      case measure => simp [intOf]
    ·obtain rfl : k = 2 := by omega
     go_wp2_with fail
     go_ret
     exact ⟨⟨_, row, rfl, HO.out⟩, HW.out⟩
end Go.Proofs.Ytbciopieciglmaa
namespace Go.Proofs.Ytbciopieciglmaa
open Go.RowKit Go.Maps Go.WideElems Go.ChangeShapes Go.WideShapes Go.MapKept Go.ChangeMaps Go.LB
open Go.WideMaps (KeyLaw)
set_option linter.unusedSimpArgs false
set_option linter.unusedVariables false
section
variable {H : Type} {P : Program} {w : World} {t k e : TypeId} {R : Value → Option (DataW H × List MemPlace)} {b : Nat} {es : Array MapEntry} {clock : Nat}
theorem entry_look (K : KeyLaw P k) (ht : P.underlying t = some (.map k e)) {z : Value} (hz : ∀ u : World, (zeroValue e).run P u = .ok z u) (hb : w.heap[b]? = some (.map es clock)) (F : Fit P k R es clock)
  {key : Value} {kl : Lit} (hkey : keyOf P k key = some kl) {v0 : Value} {st : Nat} {w1 : World} (h1 : (Instr.mapEntry t (.map (some b)) key).run P w = .ok (.tuple #[v0, goInt st]) w1) :
  (Instr.lookup t (.map (some b)) key false).run P w = .ok v0 w := by
 rcases K.find w hkey es.toList F.keys with ⟨f1, f2⟩ | ⟨j, e0, f1, f2, f3⟩
 ·have g := h1
  simp [Instr.mapEntry, run_underlying ht, MapKept.run_getObj_map hb, K.check w false hkey, f1, hz, MapKept.run_setObj_map _ hb, Result.andThen, setBlock] at g
  obtain ⟨⟨g1, _⟩, g2⟩ := g
  subst g1
  simp [Instr.lookup, run_underlying ht, MapKept.run_getObj_map hb, K.check w es.isEmpty hkey, f1, hz, Result.andThen]
 ·have hj : es[j]? = some e0 := by simpa using f2
  have g := h1
  simp [Instr.mapEntry, run_underlying ht, MapKept.run_getObj_map hb, K.check w false hkey, f1, hj, f3, K.stays w hkey, MapKept.run_setObj_map _ hb, Result.andThen, setBlock] at g
  obtain ⟨⟨g1, _⟩, g2⟩ := g
  subst g1
  simp [Instr.lookup, run_underlying ht, MapKept.run_getObj_map hb, K.check w es.isEmpty hkey, f1, hj, Result.andThen]
end
def Numd (w : World) (b : Nat) (ds : List Dt.Dot) : Prop := ∃ D, Cnt w b ds.length D ∧ ∀ d, Dt.okD d → D.atKey (kd d) (.lit (.int .i64 0)) = .lit (.int .i64 (ds.count d : Nat))
theorem Numd.made (w : World) : Numd (w.alloc (.map #[] 0)) w.heap.size [] := ⟨_, World.ownsMap_made _ _ _ _, fun d _ => rfl⟩
theorem Numd.kept {w w' : World} {b : Nat} {ds : List Dt.Dot} {row : Option Nat} (h : Numd w b ds) (hg : w.grownBy w' row) (hne : some b ≠ row) : Numd w' b ds := by obtain ⟨D, h, g⟩ := h; exact ⟨D, cnt_kept h hg hne, g⟩
theorem Numd.below {w w' : World} {b : Nat} {ds : List Dt.Dot} (h : Numd w b ds) (hb : Below w.heap.size w w') : Numd w' b ds := by obtain ⟨D, h, g⟩ := h; exact ⟨D, cnt_below h hb, g⟩
theorem Numd.lt {w : World} {b : Nat} {ds : List Dt.Dot} (h : Numd w b ds) : b < w.heap.size := by obtain ⟨D, h, g⟩ := h; exact h.lt
theorem Numd.drew {w : World} {b : Nat} {ds : List Dt.Dot} (h : Numd w b ds) : Numd w.drew b ds := h
theorem Numd.chg {S : Nat → Prop} {w w' : World} {b : Nat} {ds : List Dt.Dot} (h : Numd w b ds) (g : Chg S w w') (hn : ¬ S b) : Numd w' b ds := by
 obtain ⟨D, ⟨es, clock, hb, F, hs, hD⟩, h2⟩ := h
 exact ⟨D, ⟨es, clock, (g.block b (Array.getElem?_eq_some_iff.1 hb).1 hn).trans hb, F, hs, hD⟩, h2⟩
theorem Numd.ne {w : World} {b c : Nat} {ds : List Dt.Dot} {t : TypeId} {cs : List Value} (h : Numd w b ds) (hc : Blk w c t cs) : b ≠ c := by
 obtain ⟨D, ⟨es, clock, hb, _⟩, _⟩ := h
 rintro rfl
 unfold Blk at hc
 rw [hb] at hc; cases hc
theorem count_le_len (ds : List Dt.Dot) (d : Dt.Dot) : ds.count d ≤ ds.length := List.count_le_length
theorem Numd.look {w : World} {b : Nat} {ds : List Dt.Dot} (h : Numd w b ds) {d : Dt.Dot} (hd : Dt.okD d) :
  (Instr.lookup 24 (.map (some b)) (dotV d) false).run Try.prog w = .ok (.int .i64 (ds.count d : Nat)) w := by
 obtain ⟨D, h, g⟩ := h
 obtain ⟨c, hl, hat, _⟩ := h.lookup_int dotLaw Try.underlying24 Try.underlying3 (zeroI64 w) (keyOf_dot hd)
 rw [g d hd] at hat
 simp only [DataW.lit.injEq, Lit.int.injEq, true_and] at hat
 rw [hl, hat]
theorem Numd.bump {w : World} {b : Nat} {ds : List Dt.Dot} (h : Numd w b ds) {d : Dt.Dot} (hd : Dt.okD d) (hn : ds.length < 1000000000) :
  ∃ (c : Nat) (st : Nat) (w1 w2 : World), c = ds.count d ∧ c < 1000000000 ∧ (Instr.lookup 24 (.map (some b)) (dotV d) false).run Try.prog w = .ok (.int .i64 (c : Int)) w ∧
   (Instr.mapEntry 24 (.map (some b)) (dotV d)).run Try.prog w = .ok (.tuple #[.int .i64 (c : Int), goInt st]) w1 ∧
   (Instr.lookup 24 (.map (some b)) (dotV d) false).run Try.prog w1 = .ok (.int .i64 (c : Int)) w1 ∧
   (Instr.entryStore 24 (.map (some b)) (goInt st) (.int .i64 ((c : Int) + 1))).run Try.prog w1 = .ok () w2 ∧ Numd w2 b (ds ++ [d]) ∧ w.grownBy w2 (some b) := by
 have hlk := h.look hd
 have hcl := count_le_len ds d
 obtain ⟨D, h, g⟩ := h
 obtain ⟨es, clock, hb, F, hs, hD⟩ := id h
 obtain ⟨v0, st, es1, clock1, h1, h2, h3, h4⟩ := entry_now dotKeyLaw Try.underlying24 zeroI64 hb F (keyOf_dot hd)
 have hv := entry_look dotKeyLaw Try.underlying24 zeroI64 hb F (keyOf_dot hd) h1
 rw [hlk] at hv
 simp only [Result.ok.injEq, and_true] at hv
 subst hv
 have wf0 : (Lit.int .i64 ((ds.count d : Nat) : Int)).wf = true := by go_wf
 have wf1 : (Lit.int .i64 ((ds.count d : Nat) + 1 : Int)).wf = true := by go_wf
 obtain ⟨w', u1, u2, u3⟩ := h.update dotLaw Try.underlying24 (by unfold maxLen; omega) (keyOf_dot hd) (plainElem_int Try.underlying3 wf0)
 have ew : w' = setBlock w b (.map es1 clock1) := by rw [h2] at u1; simpa using u1.symm
 rw [ew] at u2
 have hm : IsMap D := by obtain ⟨es, e, _⟩ := h.canon dotLaw; exact ⟨es, e⟩
 obtain ⟨c1, hl1, hat1, _⟩ := u2.lookup_int dotLaw Try.underlying24 Try.underlying3 (zeroI64 _) (keyOf_dot hd)
 rw [atKey_put_same hm (dotLaw.key (keyOf_dot hd))] at hat1
 simp only [DataW.lit.injEq, Lit.int.injEq, true_and] at hat1
 subst hat1
 obtain ⟨es', clock', g1, g2⟩ := h4 (setBlock w b (.map es1 clock1)) (.int .i64 ((ds.count d : Nat) + 1 : Int)) (heap_setBlock_same hb _)
 obtain ⟨w'', v1, v2, v3⟩ := h.update dotLaw Try.underlying24 (by unfold maxLen; omega) (keyOf_dot hd) (plainElem_int Try.underlying3 wf1)
 have ew2 : w'' = setBlock w b (.map es' clock') := by rw [g2] at v1; simpa using v1.symm
 have e3 : setBlock (setBlock w b (.map es1 clock1)) b (.map es' clock') = setBlock w b (.map es' clock') := by simp [setBlock]
 rw [e3] at g1
 rw [ew2] at v2 v3
 refine ⟨ds.count d, st, setBlock w b (.map es1 clock1), _, rfl, by omega, hlk, h1, hl1, g1, ⟨_, by rw [List.length_append]; exact v2, fun c hc => ?_⟩, v3⟩
 by_cases e : c = d
 ·subst e
  rw [atKey_put_same hm (dotLaw.key (keyOf_dot hc))]
  simp
 ·rw [atKey_put_other (fun g => e (kd_inj hc hd g)), g c hc]
  have : ¬ d = c := fun h => e h.symm
  simp [List.count_cons, this]
end Go.Proofs.Ytbciopieciglmaa
