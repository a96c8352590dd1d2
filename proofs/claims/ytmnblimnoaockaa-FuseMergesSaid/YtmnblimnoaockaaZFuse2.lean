import Derived.Test.YtmnblimnoaockaaZLeaf6
import Derived.Test.YtmnblimnoaockaaZFuseMath
namespace Go.Proofs.Ytmnblimnoaockaa
open Go.RowKit Go.Buf Go.LB Go.Lib
open Go.RegG (Gr)
set_option linter.unusedSimpArgs false
set_option linter.unusedVariables false
theorem gr_box2 (W : World) (c d : Array Value) (t u : TypeId) : Gr W.heap.size W ((W.alloc (.cells c t)).alloc (.cells d u)) := ((Gr.refl _ _).alloc (Nat.le_refl _) _).alloc (by simp) _
set_option maxHeartbeats 1000000 in
theorem ahead_gr (t r i s u r' i' s' : Nat) (W : World) :
  Calls Try.prog 44 #[.int .u64 (t : Int), dotV ((r, i), s), .int .u64 (u : Int), dotV ((r', i'), s')] W fun e w' => e = .returned (.bool (Lm.ahead t ((r, i), s) u ((r', i'), s'))) ∧ Gr W.heap.size W w' := by
 have HBox := Lib.hid (gr_box2 W #[.int .u8 (r : Int), .int .u32 (i : Int), .int .u64 (s : Int)] #[.int .u8 (r' : Int), .int .u32 (i' : Int), .int .u64 (s' : Int)] 27 27)
 by_cases h1 : t < u
 ·go_enter Try.func44, Try.ntmps44
  go_wp2_with fail
  go_ret
  exact ⟨ret_bool (ahead_lt h1).symm, HBox.out⟩
 ·by_cases h2 : t = u
  ·subst h2
   have HL := Lib.hid (less_cmp ((r, i), s) ((r', i'), s'))
   go_enter Try.func44, Try.ntmps44
   go_wp2_with fail
   refine (compare_any r i s r' i' s' _).mono ?_
   rintro e w1 ⟨rfl, hb⟩
   have HB := Lib.hid hb; clear hb
   obtain ⟨C, HC⟩ : ∃ C, C = Dt.cmp ((r, i), s) ((r', i'), s') := ⟨_, rfl⟩
   rw [← HC]
   have HC2 := Lib.hid HC; clear HC
   go_wp2_with fail
   go_ret
   exact ⟨ret_bool (by rw [ahead_eq, ← HL.out, HC2.out]), HBox.out.trans (HB.out.mono HBox.out.size)⟩
  ·have d1 : ((t : Int) == (u : Int)) = false := by simp; omega
   go_enter Try.func44, Try.ntmps44
   go_wp2_with fail
   go_ret
   exact ⟨ret_bool (ahead_gt (by omega)).symm, HBox.out⟩
def cmpI (x y : Lm.It) : Int := if Lm.aheadI x y = true then -1 else if Lm.aheadI y x = true then 1 else 0
theorem itcells2 {W w1 : World} {c0 c1 c2 c3 c4 d0 d1 d2 d3 d4 : Value} (hb : Below ((W.alloc (.cells #[c0, c1, c2, c3, c4] 41)).alloc (.cells #[d0, d1, d2, d3, d4] 41)).heap.size ((W.alloc (.cells #[c0, c1, c2, c3, c4] 41)).alloc (.cells #[d0, d1, d2, d3, d4] 41)) w1) :
  (w1.cell? ⟨W.heap.size, 0, none⟩ = some c0 ∧ w1.cell? ⟨W.heap.size, 1, none⟩ = some c1 ∧ w1.cell? ⟨W.heap.size, 2, none⟩ = some c2 ∧ w1.cell? ⟨W.heap.size, 3, none⟩ = some c3) ∧
  (w1.cell? ⟨W.heap.size + 1, 0, none⟩ = some d0 ∧ w1.cell? ⟨W.heap.size + 1, 1, none⟩ = some d1 ∧ w1.cell? ⟨W.heap.size + 1, 2, none⟩ = some d2 ∧ w1.cell? ⟨W.heap.size + 1, 3, none⟩ = some d3) := by
 have hA : Blk (W.alloc (.cells #[c0, c1, c2, c3, c4] 41)) W.heap.size 41 [c0, c1, c2, c3, c4] := Blk.new _ _ _
 have hA2 := (hA.below ((Below.refl _ _).alloc (Nat.le_refl _) (.cells #[d0, d1, d2, d3, d4] 41))).below hb
 have hB : Blk ((W.alloc (.cells #[c0, c1, c2, c3, c4] 41)).alloc (.cells #[d0, d1, d2, d3, d4] 41)) (W.heap.size + 1) 41 [d0, d1, d2, d3, d4] := by
  have := Blk.new (W.alloc (.cells #[c0, c1, c2, c3, c4] 41)) #[d0, d1, d2, d3, d4] 41
  simpa using this
 have hB2 := hB.below hb
 exact ⟨⟨hA2.cell 0, hA2.cell 1, hA2.cell 2, hA2.cell 3⟩, ⟨hB2.cell 0, hB2.cell 1, hB2.cell 2, hB2.cell 3⟩⟩
set_option maxHeartbeats 1600000 in
theorem compareItems_any (t r i s : Nat) (x : ByteArray) (t' r' i' s' : Nat) (x' : ByteArray) (W : World) :
  Calls Try.prog 59 #[itV t r i s x, itV t' r' i' s' x'] W fun e w' => e = .returned (.int .i64 (cmpI (t, ((r, i), s), x) (t', ((r', i'), s'), x'))) ∧ Gr W.heap.size W w' := by
 have HBox := Lib.hid (gr_box2 W #[.int .u64 (t : Int), .int .u8 (r : Int), .int .u32 (i : Int), .int .u64 (s : Int), .string x] #[.int .u64 (t' : Int), .int .u8 (r' : Int), .int .u32 (i' : Int), .int .u64 (s' : Int), .string x'] 41 41)
 cases h1 : Lm.ahead t ((r, i), s) t' ((r', i'), s') with
 | true =>
  have HE := Lib.hid (show cmpI (t, ((r, i), s), x) (t', ((r', i'), s'), x') = -1 from by simp [cmpI, Lm.aheadI, h1])
  have HC := Lib.hid (ahead_gr t r i s t' r' i' s')
  rw [h1] at HC
  clear h1
  go_enter Try.func59, Try.ntmps59
  go_wp2_with fail
  refine (HC.out _).mono ?_
  rintro e w1 ⟨rfl, hb⟩
  have HB := Lib.hid hb; clear hb
  go_wp2_with fail
  go_ret
  exact ⟨by rw [HE.out]; rfl, HBox.out.trans (HB.out.mono HBox.out.size)⟩
 | false =>
  have HC := Lib.hid (ahead_gr t r i s t' r' i' s')
  have HD := Lib.hid (ahead_gr t' r' i' s' t r i s)
  have HE := Lib.hid (show cmpI (t, ((r, i), s), x) (t', ((r', i'), s'), x') = if Lm.ahead t' ((r', i'), s') t ((r, i), s) = true then 1 else 0 from by unfold cmpI Lm.aheadI; rw [h1]; rfl)
  rw [h1] at HC
  clear h1
  go_enter Try.func59, Try.ntmps59
  go_wp2_with fail
  refine (HC.out _).mono ?_
  rintro e w1 ⟨rfl, hb⟩
  obtain ⟨⟨q0, q1, q2, q3⟩, ⟨p0, p1, p2, p3⟩⟩ := itcells2 hb.below
  have HB := Lib.hid hb; clear hb
  go_wp2_with fail
  cases h2 : Lm.ahead t' ((r', i'), s') t ((r, i), s) with
  | true =>
   rw [h2] at HD
   simp only [h2, if_true] at HE
   clear h2
   refine (HD.out _).mono ?_
   rintro e w2 ⟨rfl, hb⟩
   have HB2 := Lib.hid hb; clear hb
   go_wp2_with fail
   go_ret
   exact ⟨by rw [HE.out]; rfl, (HBox.out.trans (HB.out.mono HBox.out.size)).trans (HB2.out.mono (HBox.out.trans (HB.out.mono HBox.out.size)).size)⟩
  | false =>
   rw [h2] at HD
   simp only [h2, Bool.false_eq_true, if_false] at HE
   clear h2
   refine (HD.out _).mono ?_
   rintro e w2 ⟨rfl, hb⟩
   have HB2 := Lib.hid hb; clear hb
   go_wp2_with fail
   go_ret
   exact ⟨by rw [HE.out]; rfl, (HBox.out.trans (HB.out.mono HBox.out.size)).trans (HB2.out.mono (HBox.out.trans (HB.out.mono HBox.out.size)).size)⟩
theorem cmpI_dots (x y : Dt.Dot) : cmpI (0, x, ⟨#[]⟩) (0, y, ⟨#[]⟩) = Dt.cmp x y := by
 simp [cmpI, Lm.aheadI, Lm.ahead, Dt.less, Dt.cmp]
set_option maxHeartbeats 1600000 in
theorem compareDots_any (r i s r' i' s' : Nat) (W : World) :
  Calls Try.prog 47 #[dotV ((r, i), s), dotV ((r', i'), s')] W fun e w' => e = .returned (.int .i64 (Dt.cmp ((r, i), s) ((r', i'), s'))) ∧ Gr W.heap.size W w' := by
 have HBox := Lib.hid (gr_box2 W #[.int .u8 (r : Int), .int .u32 (i : Int), .int .u64 (s : Int)] #[.int .u8 (r' : Int), .int .u32 (i' : Int), .int .u64 (s' : Int)] 27 27)
 have HC := Lib.hid (compareItems_any 0 r i s ⟨#[]⟩ 0 r' i' s' ⟨#[]⟩)
 rw [cmpI_dots] at HC
 go_enter Try.func47, Try.ntmps47
 go_wp2_with fail
 refine (HC.out _).mono ?_
 rintro e w1 ⟨rfl, hb⟩
 have HB := Lib.hid hb; clear hb
 go_wp2_with fail
 go_ret
 exact ⟨rfl, HBox.out.trans (HB.out.mono HBox.out.size)⟩
end Go.Proofs.Ytmnblimnoaockaa
namespace Go.Proofs.Ytmnblimnoaockaa
open Go.RowKit Go.Buf Go.LB Go.Lib
set_option linter.unusedSimpArgs false
set_option linter.unusedVariables false
abbrev mergesV : Value := .agg #[Value.nilFunc, .func (.func 26) #[] #[], .func (.func 27) #[] #[], .func (.func 28) #[] #[], .func (.func 29) #[] #[]]
theorem res_merges {fn : Func} {k : Tmp} {tmps : Array Value} {w : World} {b : Nat} {c0 c1 c2 c3 c4 : Value} (hr : fn.results = #[.cell k 46]) (ht : tmps.getD k undef = .pointer (some ⟨b, 0, none⟩)) (h : Blk w b 46 [c0, c1, c2, c3, c4]) :
  (results fn tmps).run Try.prog w = .ok (.agg #[c0, c1, c2, c3, c4]) w := by
 have h0 := h.cell 0; have h1 := h.cell 1; have h2 := h.cell 2; have h3 := h.cell 3; have h4 := h.cell 4
 simp at h0 h1 h2 h3 h4
 have ht2 : tmps[k]?.getD undef = .pointer (some ⟨b, 0, none⟩) := by simpa using ht
 simp [results, hr, go_sem, ht2, h0, h1, h2, h3, h4]
set_option maxHeartbeats 1000000 in
theorem merges_any (W : World) : Calls Try.prog 15 #[] W fun e w' => e = .returned mergesV ∧ Below W.heap.size W w' := by
 go_enter Try.func15, Try.ntmps15
 go_wp2_with fail
 refine bodyPost_ret (v := mergesV) (res_merges Try.results15 (by simp) (Blk.new _ _ _)) rfl ⟨rfl, (Below.refl _ _).alloc (Nat.le_refl _) _⟩
theorem below_box4 (W : World) (c d e f : Array Value) (t u v x : TypeId) : Below W.heap.size W ((((W.alloc (.cells c t)).alloc (.cells d u)).alloc (.cells e v)).alloc (.cells f x)) := ((((Below.refl _ _).alloc (Nat.le_refl _) _).alloc (by simp) _).alloc (by simp; omega) _).alloc (by simp; omega) _
theorem blk_new3 (W : World) (c d e f : Array Value) (t u v x : TypeId) : Blk ((((W.alloc (.cells c t)).alloc (.cells d u)).alloc (.cells e v)).alloc (.cells f x)) (W.heap.size + 1 + 1 + 1) x f.toList := by
 have := Blk.new (((W.alloc (.cells c t)).alloc (.cells d u)).alloc (.cells e v)) f x
 simpa using this
set_option maxHeartbeats 1600000 in
theorem mergeCounters_any (kk : Nat) (n : Int) (t r i s : Nat) (x : ByteArray) (ia : Option Addr) (il ic : Nat) (da : Option Addr) (dl dc : Nat) (kk' : Nat) (n' : Int) (t' r' i' s' : Nat) (x' : ByteArray) (ia' : Option Addr) (il' ic' : Nat) (da' : Option Addr) (dl' dc' : Nat) (kk'' : Nat) (n'' : Int) (t'' r'' i'' s'' : Nat) (x'' : ByteArray) (ia'' : Option Addr) (il'' ic'' : Nat) (da'' : Option Addr) (dl'' dc'' : Nat) (W : World) :
  Calls Try.prog 26 #[leafV kk n t r i s x ia il ic da dl dc, leafV kk' n' t' r' i' s' x' ia' il' ic' da' dl' dc', leafV kk'' n'' t'' r'' i'' s'' x'' ia'' il'' ic'' da'' dl'' dc''] W fun e w' => e = .returned (leafV kk (wrap64 (wrap64 (n' + n'') - n)) 0 0 0 0 ⟨#[]⟩ none 0 0 none 0 0) ∧ Below W.heap.size W w' := by
 go_enter Try.func26, Try.ntmps26
 go_wp2_with fail
 refine bodyPost_ret (v := leafV kk (wrap64 (wrap64 (n' + n'') - n)) 0 0 0 0 ⟨#[]⟩ none 0 0 none 0 0) (res_leaf Try.results26 (by simp) (blk_new3 _ _ _ _ _ _ _ _ _)) rfl ⟨rfl, below_box4 _ _ _ _ _ _ _ _ _⟩
theorem leafblk {w : World} {b : Nat} {t : TypeId} {c0 c1 c2 c3 c4 c5 c6 c7 c8 : Value} (h : Blk w b t [c0, c1, c2, c3, c4, c5, c6, c7, c8]) :
  w.cell? ⟨b, 0, none⟩ = some c0 ∧ w.cell? ⟨b, 1, none⟩ = some c1 ∧ w.cell? ⟨b, 2, none⟩ = some c2 ∧ w.cell? ⟨b, 3, none⟩ = some c3 ∧ w.cell? ⟨b, 4, none⟩ = some c4 ∧ w.cell? ⟨b, 5, none⟩ = some c5 ∧ w.cell? ⟨b, 6, none⟩ = some c6 ∧ w.cell? ⟨b, 7, none⟩ = some c7 ∧ w.cell? ⟨b, 8, none⟩ = some c8 :=
 ⟨h.cell 0, h.cell 1, h.cell 2, h.cell 3, h.cell 4, h.cell 5, h.cell 6, h.cell 7, h.cell 8⟩
theorem blk5 {W w1 : World} {c d e f g : Array Value} {t u v x y : TypeId} (hb : Below (((((W.alloc (.cells c t)).alloc (.cells d u)).alloc (.cells e v)).alloc (.cells f x)).alloc (.cells g y)).heap.size (((((W.alloc (.cells c t)).alloc (.cells d u)).alloc (.cells e v)).alloc (.cells f x)).alloc (.cells g y)) w1) :
  Blk w1 W.heap.size t c.toList ∧ Blk w1 (W.heap.size + 1) u d.toList ∧ Blk w1 (W.heap.size + 1 + 1) v e.toList ∧ Blk w1 (W.heap.size + 1 + 1 + 1) x f.toList ∧ Blk w1 (W.heap.size + 1 + 1 + 1 + 1) y g.toList := by
 have up : ∀ (w : World) (o : Obj), Below w.heap.size w (w.alloc o) := fun w o => (Below.refl _ _).alloc (Nat.le_refl _) o
 have h1 := (((((Blk.new W c t).below (up _ (.cells d u))).below (up _ (.cells e v))).below (up _ (.cells f x))).below (up _ (.cells g y))).below hb
 have h2 := ((((Blk.new (W.alloc (.cells c t)) d u).below (up _ (.cells e v))).below (up _ (.cells f x))).below (up _ (.cells g y))).below hb
 have h3 := (((Blk.new ((W.alloc (.cells c t)).alloc (.cells d u)) e v).below (up _ (.cells f x))).below (up _ (.cells g y))).below hb
 have h4 := ((Blk.new (((W.alloc (.cells c t)).alloc (.cells d u)).alloc (.cells e v)) f x).below (up _ (.cells g y))).below hb
 have h5 := (Blk.new ((((W.alloc (.cells c t)).alloc (.cells d u)).alloc (.cells e v)).alloc (.cells f x)) g y).below hb
 simp only [World.size_alloc] at h1 h2 h3 h4 h5
 exact ⟨h1, h2, h3, h4, h5⟩
set_option maxHeartbeats 1600000 in
theorem mergeRegisters_any (kk : Nat) (n : Int) (t r i s : Nat) (x : ByteArray) (ia : Option Addr) (il ic : Nat) (da : Option Addr) (dl dc : Nat) (kk' : Nat) (n' : Int) (t' r' i' s' : Nat) (x' : ByteArray) (ia' : Option Addr) (il' ic' : Nat) (da' : Option Addr) (dl' dc' : Nat) (kk'' : Nat) (n'' : Int) (t'' r'' i'' s'' : Nat) (x'' : ByteArray) (ia'' : Option Addr) (il'' ic'' : Nat) (da'' : Option Addr) (dl'' dc'' : Nat) (W : World) (z : Bool) (hz : Lm.ahead t'' ((r'', i''), s'') t' ((r', i'), s') = z) :
  Calls Try.prog 27 #[leafV kk n t r i s x ia il ic da dl dc, leafV kk' n' t' r' i' s' x' ia' il' ic' da' dl' dc', leafV kk'' n'' t'' r'' i'' s'' x'' ia'' il'' ic'' da'' dl'' dc''] W fun e w' => e = .returned (if z = true then leafV kk' 0 t' r' i' s' x' none 0 0 none 0 0 else leafV kk'' 0 t'' r'' i'' s'' x'' none 0 0 none 0 0) ∧ Below W.heap.size W w' := by
 have HC := Lib.hid (ahead_any t'' r'' i'' s'' t' r' i' s')
 rw [hz] at HC
 have HBox := Lib.hid (below_box4 W #[.int .u8 (kk : Int), .int .i64 n, .int .u64 (t : Int), .int .u8 (r : Int), .int .u32 (i : Int), .int .u64 (s : Int), .string x, .slice ia il ic, .slice da dl dc] #[.int .u8 (kk' : Int), .int .i64 n', .int .u64 (t' : Int), .int .u8 (r' : Int), .int .u32 (i' : Int), .int .u64 (s' : Int), .string x', .slice ia' il' ic', .slice da' dl' dc'] #[.int .u8 (kk'' : Int), .int .i64 n'', .int .u64 (t'' : Int), .int .u8 (r'' : Int), .int .u32 (i'' : Int), .int .u64 (s'' : Int), .string x'', .slice ia'' il'' ic'', .slice da'' dl'' dc''] #[.int .u8 0, .int .i64 0, .int .u64 0, .int .u8 0, .int .u32 0, .int .u64 0, .string ⟨#[]⟩, .slice none 0 0, .slice none 0 0] 31 31 31 31)
 clear hz
 go_enter Try.func27, Try.ntmps27
 go_wp2_with fail
 refine (HC.out _).mono ?_
 rintro e w1 ⟨rfl, hb⟩
 obtain ⟨b1, b2, b3, b4, b5⟩ := blk5 hb
 have HB := Lib.hid hb
 have H4 := Lib.hid b4; have H5 := Lib.hid b5
 have hfr : ∀ j, w1.frozen? ⟨W.heap.size + 1 + 1 + 1 + 1, j, none⟩ = false := fun j => b5.frozen j
 have hfq : ∀ j, w1.frozen? ⟨W.heap.size + 1 + 1 + 1, j, none⟩ = false := fun j => b4.frozen j
 obtain ⟨p0, p1, p2, p3, p4, p5, p6, p7, p8⟩ := leafblk b2
 obtain ⟨q0, q1, q2, q3, q4, q5, q6, q7, q8⟩ := leafblk b5
 obtain ⟨o0, o1, o2, o3, o4, o5, o6, o7, o8⟩ := leafblk b4
 clear hb b1 b2 b3 b4 b5
 cases z with
 | true =>
  go_wp2_with fail
  refine bodyPost_ret (v := leafV kk' 0 t' r' i' s' x' none 0 0 none 0 0) (res_leaf Try.results27 (by simp) (Blk.set9 (((((((((H4.out.other (show W.heap.size + 1 + 1 + 1 ≠ W.heap.size + 1 + 1 + 1 + 1 by omega) 0 _).other (show W.heap.size + 1 + 1 + 1 ≠ W.heap.size + 1 + 1 + 1 + 1 by omega) 1 _).other (show W.heap.size + 1 + 1 + 1 ≠ W.heap.size + 1 + 1 + 1 + 1 by omega) 2 _).other (show W.heap.size + 1 + 1 + 1 ≠ W.heap.size + 1 + 1 + 1 + 1 by omega) 3 _).other (show W.heap.size + 1 + 1 + 1 ≠ W.heap.size + 1 + 1 + 1 + 1 by omega) 4 _).other (show W.heap.size + 1 + 1 + 1 ≠ W.heap.size + 1 + 1 + 1 + 1 by omega) 5 _).other (show W.heap.size + 1 + 1 + 1 ≠ W.heap.size + 1 + 1 + 1 + 1 by omega) 6 _).other (show W.heap.size + 1 + 1 + 1 ≠ W.heap.size + 1 + 1 + 1 + 1 by omega) 7 _).other (show W.heap.size + 1 + 1 + 1 ≠ W.heap.size + 1 + 1 + 1 + 1 by omega) 8 _) _ _ _ _ _ _ _ _ _)) rfl ⟨rfl, set9 (set9 ((HBox.out.alloc HBox.out.size _).trans (HB.out.mono (HBox.out.alloc HBox.out.size _).size)) (by omega) _ _ _ _ _ _ _ _ _) (by omega) _ _ _ _ _ _ _ _ _⟩
 | false =>
  go_wp2_with fail
  refine bodyPost_ret (v := leafV kk'' 0 t'' r'' i'' s'' x'' none 0 0 none 0 0) (res_leaf Try.results27 (by simp) (Blk.set9 H4.out _ _ _ _ _ _ _ _ _)) rfl ⟨rfl, set9 ((HBox.out.alloc HBox.out.size _).trans (HB.out.mono (HBox.out.alloc HBox.out.size _).size)) (by omega) _ _ _ _ _ _ _ _ _⟩
end Go.Proofs.Ytmnblimnoaockaa
