import Derived.Test.YthbkieghkfpbhaaGreatZCut6
import Derived.Test.YthbkieghkfpbhaaGreatZOp20
namespace Go.Proofs.YthbkieghkfpbhaaGreat
open Go.RowKit Go.Buf Go.LB
set_option linter.unusedSimpArgs false
set_option linter.unusedVariables false
theorem text_of_may {c : Cm.C} (h : Cm.may c = true) : (∀ s ∈ c.op.path, s.size ≤ 9223372036854775807) ∧ c.op.text.size ≤ 9223372036854775807 := by
 obtain ⟨m1, m2, m3, m4⟩ := names_of_may (Cm.may_parts h).2.1
 exact ⟨fun s hs => by have := m1 s hs; omega, by omega⟩
set_option maxRecDepth 100000 in
set_option maxHeartbeats 6400000 in
theorem cread_x (r i s : Nat) (ql vl : Nat) (tm k : Nat) (pl : Nat) (n : Int) (t : ByteArray) (dl : Nat) (lq lv : List Dt.Dot) (lp : List ByteArray) (ld : List Dt.Dot) (hql : lq.length = ql) (hvl : lv.length = vl) (hpl : lp.length = pl) (hdl : ld.length = dl) (hok : Dt.okD ((r, i), s)) (hokq : ∀ x ∈ lq, Dt.okD x) (hokv : ∀ x ∈ lv, Dt.okD x) (hokd : ∀ x ∈ ld, Dt.okD x) (htm : tm < 18446744073709551616) (hk : k < 256) (hn1 : -9223372036854775808 ≤ n) (hn2 : n ≤ 9223372036854775807) (hm : Cm.may ⟨((r, i), s), lq, lv, tm, ⟨k, lp, n, t, ld⟩⟩ = true) (a : Option Addr) (bn cap : Nat) (l R z : List Nat) (hlz : l ++ z = cmtE ⟨((r, i), s), lq, lv, tm, ⟨k, lp, n, t, ld⟩⟩ ++ R) (W : World) (hrow : Row W a cap l) (hbn : l.length = bn) (hsm : bn ≤ 1000000) (hzR : z = [] ∨ R = []) :
  Calls Tryz.prog 8 #[.slice a bn cap] W fun e w' => ∃ r1 i1 s1 qa ql1 qc va vl1 vc tm1 k6 pa6 pl6 pc6 n6 t6 da6 dl6 dc6 er', e = .returned (.tuple #[cmV r1 i1 s1 qa ql1 qc va vl1 vc tm1 k6 pa6 pl6 pc6 n6 t6 da6 dl6 dc6, .int .i64 (er' : Nat)]) ∧ (z ≠ [] → er' ≠ 0) ∧ (z = [] → R ≠ [] → er' = 4) ∧ (z = [] → R = [] → er' = 0 ∧ IsC w' (cmV r1 i1 s1 qa ql1 qc va vl1 vc tm1 k6 pa6 pl6 pc6 n6 t6 da6 dl6 dc6) ⟨((r, i), s), lq, lv, tm, ⟨k, lp, n, t, ld⟩⟩) ∧ Below W.heap.size W w' := by
 have htx := text_of_may hm
 have HL := Lib.hid hlz; have HM := Lib.hid hm; have HRow := Lib.hid hrow; have HBn := Lib.hid hbn; have HTx := Lib.hid htx; have HZR := Lib.hid hzR
 have HQl := Lib.hid hql; have HVl := Lib.hid hvl; have HPl := Lib.hid hpl; have HDl := Lib.hid hdl; have HOq := Lib.hid hokq; have HOv := Lib.hid hokv; have HOd := Lib.hid hokd; have HTm := Lib.hid htm; have HN1 := Lib.hid hn1; have HN2 := Lib.hid hn2; have HOk := Lib.hid hok
 clear hlz hm hrow hbn hql hvl hpl hdl hokq hokv hokd htm hn1 hn2 hok htx hzR
 have HBx := Lib.hid (below_box W #[.int .u8 0, .int .u32 0, .int .u64 0, .slice none 0 0, .slice none 0 0, .int .u64 0, .int .u8 0, .slice none 0 0, .int .i64 0, .string ⟨#[]⟩, .slice none 0 0] 34)
 go_enter Tryz.func8, Tryz.ntmps8
 go_wp2_with fail
 refine (NewReader_any a bn cap l _ (HRow.out.below HBx.out) HBn.out (by omega)).mono ?_
 rintro e w1 ⟨q, rfl, hr1, hb1, hq1⟩
 have hq : W.heap.size + 1 ≤ q := by simpa using hq1
 have HR1 := Lib.hid (show RdX w1 q (cmtE ⟨((r, i), s), lq, lv, tm, ⟨k, lp, n, t, ld⟩⟩ ++ R) z 0 from ⟨l, hr1, Or.inl ⟨rfl, HL.out⟩⟩)
 have HB1 := Lib.hid hb1; have hz1 := hb1.size
 clear hr1 hb1 hq1
 go_wp2_with fail
 refine (ctake_x q r i s ql vl tm k pl n t dl lq lv lp ld HQl.out HVl.out HPl.out HDl.out HOk.out HOq.out HOv.out HOd.out HTm.out hk HN1.out HN2.out HM.out R z 0 _ HR1.out).mono ?_
 rintro e w4 ⟨r1, i1, s1, qa, ql1, qc, va, vl1, vc, tm1, k6, pa6, pl6, pc6, n6, t6, da6, dl6, dc6, e4, rfl, hx4, hr4, hg4⟩
 have hz4 : W.heap.size < w1.heap.size := by simp at hz1; omega
 have HX4 := Lib.hid hx4; have HB4 := Lib.hid (HB1.out.grown hg4 hz1 (fun j hj => by cases hj; simpa using hq))
 obtain ⟨l4, hrs, hcase⟩ := hr4
 have HRx := Lib.hid (show RdX w4 q R z e4 from ⟨l4, hrs, hcase⟩)
 have HRs := Lib.hid hrs
 clear hx4 hg4 hrs
 have hbox := below_box w4 #[.int .u8 (r1 : Int), .int .u32 (i1 : Int), .int .u64 (s1 : Int), .slice qa ql1 qc, .slice va vl1 vc, .int .u64 (tm1 : Int), .int .u8 (k6 : Int), .slice pa6 pl6 pc6, .int .i64 n6, .string t6, .slice da6 dl6 dc6] 34
 have HBox := Lib.hid hbox; have HB5 := Lib.hid (HB4.out.trans (hbox.mono HB4.out.size))
 clear hbox
 by_cases hz : z = []
 ·have HZ := Lib.hid hz
  have hE : e4 = 0 ∧ l4 = R := by
   rcases hcase with ⟨h1, h2⟩ | ⟨h1, _⟩
   ·exact ⟨h1, by rw [hz, List.append_nil] at h2; exact h2⟩
   ·exact absurd hz h1
  obtain ⟨rfl, rfl⟩ := hE
  clear hcase hz
  by_cases hR : l4 = []
  ·have HR := Lib.hid hR
   have hlen : l4.length = 0 := by rw [hR]; rfl
   have HRs5 := Lib.hid (HRs.out.below HBox.out)
   clear hR
   go_wp2_with fail
   refine (Left_at HRs5.out).mono ?_
   rintro e w6 ⟨rfl, rfl⟩
   go_wp2_with fail
   refine (Err_at HRs5.out).mono ?_
   rintro e w7 ⟨rfl, rfl⟩
   have hblk := boxBelow HB5.out
   have hz0a : (w4.alloc (.cells #[.int .u8 (r1 : Int), .int .u32 (i1 : Int), .int .u64 (s1 : Int), .slice qa ql1 qc, .slice va vl1 vc, .int .u64 (tm1 : Int), .int .u8 (k6 : Int), .slice pa6 pl6 pc6, .int .i64 n6, .string t6, .slice da6 dl6 dc6] 34)).cell? ⟨W.heap.size, 0, none⟩ = some (.int .u8 0) := by rw [cell_of_row (w4.alloc (.cells #[.int .u8 (r1 : Int), .int .u32 (i1 : Int), .int .u64 (s1 : Int), .slice qa ql1 qc, .slice va vl1 vc, .int .u64 (tm1 : Int), .int .u8 (k6 : Int), .slice pa6 pl6 pc6, .int .i64 n6, .string t6, .slice da6 dl6 dc6] 34)) W.heap.size 0 _ _ _ hblk]; rfl
   have hz1a : (w4.alloc (.cells #[.int .u8 (r1 : Int), .int .u32 (i1 : Int), .int .u64 (s1 : Int), .slice qa ql1 qc, .slice va vl1 vc, .int .u64 (tm1 : Int), .int .u8 (k6 : Int), .slice pa6 pl6 pc6, .int .i64 n6, .string t6, .slice da6 dl6 dc6] 34)).cell? ⟨W.heap.size, 1, none⟩ = some (.int .u32 0) := by rw [cell_of_row (w4.alloc (.cells #[.int .u8 (r1 : Int), .int .u32 (i1 : Int), .int .u64 (s1 : Int), .slice qa ql1 qc, .slice va vl1 vc, .int .u64 (tm1 : Int), .int .u8 (k6 : Int), .slice pa6 pl6 pc6, .int .i64 n6, .string t6, .slice da6 dl6 dc6] 34)) W.heap.size 1 _ _ _ hblk]; rfl
   have hz2a : (w4.alloc (.cells #[.int .u8 (r1 : Int), .int .u32 (i1 : Int), .int .u64 (s1 : Int), .slice qa ql1 qc, .slice va vl1 vc, .int .u64 (tm1 : Int), .int .u8 (k6 : Int), .slice pa6 pl6 pc6, .int .i64 n6, .string t6, .slice da6 dl6 dc6] 34)).cell? ⟨W.heap.size, 2, none⟩ = some (.int .u64 0) := by rw [cell_of_row (w4.alloc (.cells #[.int .u8 (r1 : Int), .int .u32 (i1 : Int), .int .u64 (s1 : Int), .slice qa ql1 qc, .slice va vl1 vc, .int .u64 (tm1 : Int), .int .u8 (k6 : Int), .slice pa6 pl6 pc6, .int .i64 n6, .string t6, .slice da6 dl6 dc6] 34)) W.heap.size 2 _ _ _ hblk]; rfl
   have hz3a : (w4.alloc (.cells #[.int .u8 (r1 : Int), .int .u32 (i1 : Int), .int .u64 (s1 : Int), .slice qa ql1 qc, .slice va vl1 vc, .int .u64 (tm1 : Int), .int .u8 (k6 : Int), .slice pa6 pl6 pc6, .int .i64 n6, .string t6, .slice da6 dl6 dc6] 34)).cell? ⟨W.heap.size, 3, none⟩ = some (.slice none 0 0) := by rw [cell_of_row (w4.alloc (.cells #[.int .u8 (r1 : Int), .int .u32 (i1 : Int), .int .u64 (s1 : Int), .slice qa ql1 qc, .slice va vl1 vc, .int .u64 (tm1 : Int), .int .u8 (k6 : Int), .slice pa6 pl6 pc6, .int .i64 n6, .string t6, .slice da6 dl6 dc6] 34)) W.heap.size 3 _ _ _ hblk]; rfl
   have hz4a : (w4.alloc (.cells #[.int .u8 (r1 : Int), .int .u32 (i1 : Int), .int .u64 (s1 : Int), .slice qa ql1 qc, .slice va vl1 vc, .int .u64 (tm1 : Int), .int .u8 (k6 : Int), .slice pa6 pl6 pc6, .int .i64 n6, .string t6, .slice da6 dl6 dc6] 34)).cell? ⟨W.heap.size, 4, none⟩ = some (.slice none 0 0) := by rw [cell_of_row (w4.alloc (.cells #[.int .u8 (r1 : Int), .int .u32 (i1 : Int), .int .u64 (s1 : Int), .slice qa ql1 qc, .slice va vl1 vc, .int .u64 (tm1 : Int), .int .u8 (k6 : Int), .slice pa6 pl6 pc6, .int .i64 n6, .string t6, .slice da6 dl6 dc6] 34)) W.heap.size 4 _ _ _ hblk]; rfl
   have hz5a : (w4.alloc (.cells #[.int .u8 (r1 : Int), .int .u32 (i1 : Int), .int .u64 (s1 : Int), .slice qa ql1 qc, .slice va vl1 vc, .int .u64 (tm1 : Int), .int .u8 (k6 : Int), .slice pa6 pl6 pc6, .int .i64 n6, .string t6, .slice da6 dl6 dc6] 34)).cell? ⟨W.heap.size, 5, none⟩ = some (.int .u64 0) := by rw [cell_of_row (w4.alloc (.cells #[.int .u8 (r1 : Int), .int .u32 (i1 : Int), .int .u64 (s1 : Int), .slice qa ql1 qc, .slice va vl1 vc, .int .u64 (tm1 : Int), .int .u8 (k6 : Int), .slice pa6 pl6 pc6, .int .i64 n6, .string t6, .slice da6 dl6 dc6] 34)) W.heap.size 5 _ _ _ hblk]; rfl
   have hz6a : (w4.alloc (.cells #[.int .u8 (r1 : Int), .int .u32 (i1 : Int), .int .u64 (s1 : Int), .slice qa ql1 qc, .slice va vl1 vc, .int .u64 (tm1 : Int), .int .u8 (k6 : Int), .slice pa6 pl6 pc6, .int .i64 n6, .string t6, .slice da6 dl6 dc6] 34)).cell? ⟨W.heap.size, 6, none⟩ = some (.int .u8 0) := by rw [cell_of_row (w4.alloc (.cells #[.int .u8 (r1 : Int), .int .u32 (i1 : Int), .int .u64 (s1 : Int), .slice qa ql1 qc, .slice va vl1 vc, .int .u64 (tm1 : Int), .int .u8 (k6 : Int), .slice pa6 pl6 pc6, .int .i64 n6, .string t6, .slice da6 dl6 dc6] 34)) W.heap.size 6 _ _ _ hblk]; rfl
   have hz7a : (w4.alloc (.cells #[.int .u8 (r1 : Int), .int .u32 (i1 : Int), .int .u64 (s1 : Int), .slice qa ql1 qc, .slice va vl1 vc, .int .u64 (tm1 : Int), .int .u8 (k6 : Int), .slice pa6 pl6 pc6, .int .i64 n6, .string t6, .slice da6 dl6 dc6] 34)).cell? ⟨W.heap.size, 7, none⟩ = some (.slice none 0 0) := by rw [cell_of_row (w4.alloc (.cells #[.int .u8 (r1 : Int), .int .u32 (i1 : Int), .int .u64 (s1 : Int), .slice qa ql1 qc, .slice va vl1 vc, .int .u64 (tm1 : Int), .int .u8 (k6 : Int), .slice pa6 pl6 pc6, .int .i64 n6, .string t6, .slice da6 dl6 dc6] 34)) W.heap.size 7 _ _ _ hblk]; rfl
   have hz8a : (w4.alloc (.cells #[.int .u8 (r1 : Int), .int .u32 (i1 : Int), .int .u64 (s1 : Int), .slice qa ql1 qc, .slice va vl1 vc, .int .u64 (tm1 : Int), .int .u8 (k6 : Int), .slice pa6 pl6 pc6, .int .i64 n6, .string t6, .slice da6 dl6 dc6] 34)).cell? ⟨W.heap.size, 8, none⟩ = some (.int .i64 0) := by rw [cell_of_row (w4.alloc (.cells #[.int .u8 (r1 : Int), .int .u32 (i1 : Int), .int .u64 (s1 : Int), .slice qa ql1 qc, .slice va vl1 vc, .int .u64 (tm1 : Int), .int .u8 (k6 : Int), .slice pa6 pl6 pc6, .int .i64 n6, .string t6, .slice da6 dl6 dc6] 34)) W.heap.size 8 _ _ _ hblk]; rfl
   have hz9a : (w4.alloc (.cells #[.int .u8 (r1 : Int), .int .u32 (i1 : Int), .int .u64 (s1 : Int), .slice qa ql1 qc, .slice va vl1 vc, .int .u64 (tm1 : Int), .int .u8 (k6 : Int), .slice pa6 pl6 pc6, .int .i64 n6, .string t6, .slice da6 dl6 dc6] 34)).cell? ⟨W.heap.size, 9, none⟩ = some (.string ⟨#[]⟩) := by rw [cell_of_row (w4.alloc (.cells #[.int .u8 (r1 : Int), .int .u32 (i1 : Int), .int .u64 (s1 : Int), .slice qa ql1 qc, .slice va vl1 vc, .int .u64 (tm1 : Int), .int .u8 (k6 : Int), .slice pa6 pl6 pc6, .int .i64 n6, .string t6, .slice da6 dl6 dc6] 34)) W.heap.size 9 _ _ _ hblk]; rfl
   have hz10a : (w4.alloc (.cells #[.int .u8 (r1 : Int), .int .u32 (i1 : Int), .int .u64 (s1 : Int), .slice qa ql1 qc, .slice va vl1 vc, .int .u64 (tm1 : Int), .int .u8 (k6 : Int), .slice pa6 pl6 pc6, .int .i64 n6, .string t6, .slice da6 dl6 dc6] 34)).cell? ⟨W.heap.size, 10, none⟩ = some (.slice none 0 0) := by rw [cell_of_row (w4.alloc (.cells #[.int .u8 (r1 : Int), .int .u32 (i1 : Int), .int .u64 (s1 : Int), .slice qa ql1 qc, .slice va vl1 vc, .int .u64 (tm1 : Int), .int .u8 (k6 : Int), .slice pa6 pl6 pc6, .int .i64 n6, .string t6, .slice da6 dl6 dc6] 34)) W.heap.size 10 _ _ _ hblk]; rfl
   have hf0 := frozen_of_row (w4.alloc (.cells #[.int .u8 (r1 : Int), .int .u32 (i1 : Int), .int .u64 (s1 : Int), .slice qa ql1 qc, .slice va vl1 vc, .int .u64 (tm1 : Int), .int .u8 (k6 : Int), .slice pa6 pl6 pc6, .int .i64 n6, .string t6, .slice da6 dl6 dc6] 34)) W.heap.size 0 _ _ hblk
   have hf1 := frozen_of_row (w4.alloc (.cells #[.int .u8 (r1 : Int), .int .u32 (i1 : Int), .int .u64 (s1 : Int), .slice qa ql1 qc, .slice va vl1 vc, .int .u64 (tm1 : Int), .int .u8 (k6 : Int), .slice pa6 pl6 pc6, .int .i64 n6, .string t6, .slice da6 dl6 dc6] 34)) W.heap.size 1 _ _ hblk
   have hf2 := frozen_of_row (w4.alloc (.cells #[.int .u8 (r1 : Int), .int .u32 (i1 : Int), .int .u64 (s1 : Int), .slice qa ql1 qc, .slice va vl1 vc, .int .u64 (tm1 : Int), .int .u8 (k6 : Int), .slice pa6 pl6 pc6, .int .i64 n6, .string t6, .slice da6 dl6 dc6] 34)) W.heap.size 2 _ _ hblk
   have hf3 := frozen_of_row (w4.alloc (.cells #[.int .u8 (r1 : Int), .int .u32 (i1 : Int), .int .u64 (s1 : Int), .slice qa ql1 qc, .slice va vl1 vc, .int .u64 (tm1 : Int), .int .u8 (k6 : Int), .slice pa6 pl6 pc6, .int .i64 n6, .string t6, .slice da6 dl6 dc6] 34)) W.heap.size 3 _ _ hblk
   have hf4 := frozen_of_row (w4.alloc (.cells #[.int .u8 (r1 : Int), .int .u32 (i1 : Int), .int .u64 (s1 : Int), .slice qa ql1 qc, .slice va vl1 vc, .int .u64 (tm1 : Int), .int .u8 (k6 : Int), .slice pa6 pl6 pc6, .int .i64 n6, .string t6, .slice da6 dl6 dc6] 34)) W.heap.size 4 _ _ hblk
   have hf5 := frozen_of_row (w4.alloc (.cells #[.int .u8 (r1 : Int), .int .u32 (i1 : Int), .int .u64 (s1 : Int), .slice qa ql1 qc, .slice va vl1 vc, .int .u64 (tm1 : Int), .int .u8 (k6 : Int), .slice pa6 pl6 pc6, .int .i64 n6, .string t6, .slice da6 dl6 dc6] 34)) W.heap.size 5 _ _ hblk
   have hf6 := frozen_of_row (w4.alloc (.cells #[.int .u8 (r1 : Int), .int .u32 (i1 : Int), .int .u64 (s1 : Int), .slice qa ql1 qc, .slice va vl1 vc, .int .u64 (tm1 : Int), .int .u8 (k6 : Int), .slice pa6 pl6 pc6, .int .i64 n6, .string t6, .slice da6 dl6 dc6] 34)) W.heap.size 6 _ _ hblk
   have hf7 := frozen_of_row (w4.alloc (.cells #[.int .u8 (r1 : Int), .int .u32 (i1 : Int), .int .u64 (s1 : Int), .slice qa ql1 qc, .slice va vl1 vc, .int .u64 (tm1 : Int), .int .u8 (k6 : Int), .slice pa6 pl6 pc6, .int .i64 n6, .string t6, .slice da6 dl6 dc6] 34)) W.heap.size 7 _ _ hblk
   have hf8 := frozen_of_row (w4.alloc (.cells #[.int .u8 (r1 : Int), .int .u32 (i1 : Int), .int .u64 (s1 : Int), .slice qa ql1 qc, .slice va vl1 vc, .int .u64 (tm1 : Int), .int .u8 (k6 : Int), .slice pa6 pl6 pc6, .int .i64 n6, .string t6, .slice da6 dl6 dc6] 34)) W.heap.size 8 _ _ hblk
   have hf9 := frozen_of_row (w4.alloc (.cells #[.int .u8 (r1 : Int), .int .u32 (i1 : Int), .int .u64 (s1 : Int), .slice qa ql1 qc, .slice va vl1 vc, .int .u64 (tm1 : Int), .int .u8 (k6 : Int), .slice pa6 pl6 pc6, .int .i64 n6, .string t6, .slice da6 dl6 dc6] 34)) W.heap.size 9 _ _ hblk
   have hf10 := frozen_of_row (w4.alloc (.cells #[.int .u8 (r1 : Int), .int .u32 (i1 : Int), .int .u64 (s1 : Int), .slice qa ql1 qc, .slice va vl1 vc, .int .u64 (tm1 : Int), .int .u8 (k6 : Int), .slice pa6 pl6 pc6, .int .i64 n6, .string t6, .slice da6 dl6 dc6] 34)) W.heap.size 10 _ _ hblk
   have HBW := Lib.hid (HBx.out.trans (HB5.out.mono HBx.out.size))
   clear hblk
   go_wp2_with fail
   refine bodyPost_ret (v := .tuple #[cmV r1 i1 s1 qa ql1 qc va vl1 vc tm1 k6 pa6 pl6 pc6 n6 t6 da6 dl6 dc6, .int .i64 ((0 : Nat) : Int)]) (by simp [results, Tryz.results8, go_sem, hz0a, hz1a, hz2a, hz3a, hz4a, hz5a, hz6a, hz7a, hz8a, hz9a, hz10a]) rfl ⟨r1, i1, s1, qa, ql1, qc, va, vl1, vc, tm1, k6, pa6, pl6, pc6, n6, t6, da6, dl6, dc6, 0, rfl, fun h => absurd HZ.out h, fun _ h => absurd HR.out h, fun _ _ => ⟨rfl, ?_⟩, ?_⟩
   ·obtain ⟨hcx, _⟩ := HX4.out (by trivial)
    obtain ⟨xqa, xqc, xva, xvc, xpa, xpc, xda, xdc, xql, xvl, xpl, xdl, hxe, g1, g2, g3, g4, o1, o2, o3, o4⟩ := hcx
    have hg := ((grown_of_below (row := some W.heap.size) HBox.out).trans (grown_set11 (w4.alloc (.cells #[.int .u8 (r1 : Int), .int .u32 (i1 : Int), .int .u64 (s1 : Int), .slice qa ql1 qc, .slice va vl1 vc, .int .u64 (tm1 : Int), .int .u8 (k6 : Int), .slice pa6 pl6 pc6, .int .i64 n6, .string t6, .slice da6 dl6 dc6] 34)) W.heap.size (.int .u8 (r1 : Int)) (.int .u32 (i1 : Int)) (.int .u64 (s1 : Int)) (.slice qa ql1 qc) (.slice va vl1 vc) (.int .u64 (tm1 : Int)) (.int .u8 (k6 : Int)) (.slice pa6 pl6 pc6) (.int .i64 n6) (.string t6) (.slice da6 dl6 dc6)))
    have hlow : ∀ k, some W.heap.size = some k → k < w1.heap.size := fun k hk => by cases hk; exact hz4
    rw [hxe]
    exact ⟨r, i, s, xqa, xql, xqc, xva, xvl, xvc, tm, k, xpa, xpl, xpc, n, t, xda, xdl, xdc, lq, lv, lp, ld, rfl, rfl, ob_vrow (o1.grown hg hlow) g1 HOq.out, g1, ob_vrow (o2.grown hg hlow) g2 HOv.out, g2, ob_srow (o3.grown hg hlow) g3 HTx.out.1, g3, ob_vrow (o4.grown hg hlow) g4 HOd.out, g4, HOk.out, HTm.out, hk, HN1.out, HN2.out, HTx.out.2⟩
   ·exact below_of_grown_at HBW.out (grown_set11 _ W.heap.size _ _ _ _ _ _ _ _ _ _ _)
  ·have HR := Lib.hid hR
   have hlen : 0 < l4.length := List.length_pos_iff.2 hR
   have HRs5 := Lib.hid (HRs.out.below HBox.out)
   clear hR
   go_wp2_with fail
   refine (Left_at HRs5.out).mono ?_
   rintro e w6 ⟨rfl, rfl⟩
   go_wp2_with fail
   refine (Fail_at HRs5.out 4).mono ?_
   rintro e w7 ⟨rfl, hr7, hg7⟩
   have HR7 := Lib.hid hr7
   have HB7 := Lib.hid (HB5.out.grown hg7 HB5.out.size (fun j hj => by cases hj; simpa using hq))
   clear hr7 hg7
   go_wp2_with fail
   refine (Err_at HR7.out).mono ?_
   rintro e w8 ⟨rfl, rfl⟩
   have hblk := boxBelow HB7.out
   have hz0a : w7.cell? ⟨W.heap.size, 0, none⟩ = some (.int .u8 0) := by rw [cell_of_row w7 W.heap.size 0 _ _ _ hblk]; rfl
   have hz1a : w7.cell? ⟨W.heap.size, 1, none⟩ = some (.int .u32 0) := by rw [cell_of_row w7 W.heap.size 1 _ _ _ hblk]; rfl
   have hz2a : w7.cell? ⟨W.heap.size, 2, none⟩ = some (.int .u64 0) := by rw [cell_of_row w7 W.heap.size 2 _ _ _ hblk]; rfl
   have hz3a : w7.cell? ⟨W.heap.size, 3, none⟩ = some (.slice none 0 0) := by rw [cell_of_row w7 W.heap.size 3 _ _ _ hblk]; rfl
   have hz4a : w7.cell? ⟨W.heap.size, 4, none⟩ = some (.slice none 0 0) := by rw [cell_of_row w7 W.heap.size 4 _ _ _ hblk]; rfl
   have hz5a : w7.cell? ⟨W.heap.size, 5, none⟩ = some (.int .u64 0) := by rw [cell_of_row w7 W.heap.size 5 _ _ _ hblk]; rfl
   have hz6a : w7.cell? ⟨W.heap.size, 6, none⟩ = some (.int .u8 0) := by rw [cell_of_row w7 W.heap.size 6 _ _ _ hblk]; rfl
   have hz7a : w7.cell? ⟨W.heap.size, 7, none⟩ = some (.slice none 0 0) := by rw [cell_of_row w7 W.heap.size 7 _ _ _ hblk]; rfl
   have hz8a : w7.cell? ⟨W.heap.size, 8, none⟩ = some (.int .i64 0) := by rw [cell_of_row w7 W.heap.size 8 _ _ _ hblk]; rfl
   have hz9a : w7.cell? ⟨W.heap.size, 9, none⟩ = some (.string ⟨#[]⟩) := by rw [cell_of_row w7 W.heap.size 9 _ _ _ hblk]; rfl
   have hz10a : w7.cell? ⟨W.heap.size, 10, none⟩ = some (.slice none 0 0) := by rw [cell_of_row w7 W.heap.size 10 _ _ _ hblk]; rfl
   have hf0 := frozen_of_row w7 W.heap.size 0 _ _ hblk
   have hf1 := frozen_of_row w7 W.heap.size 1 _ _ hblk
   have hf2 := frozen_of_row w7 W.heap.size 2 _ _ hblk
   have hf3 := frozen_of_row w7 W.heap.size 3 _ _ hblk
   have hf4 := frozen_of_row w7 W.heap.size 4 _ _ hblk
   have hf5 := frozen_of_row w7 W.heap.size 5 _ _ hblk
   have hf6 := frozen_of_row w7 W.heap.size 6 _ _ hblk
   have hf7 := frozen_of_row w7 W.heap.size 7 _ _ hblk
   have hf8 := frozen_of_row w7 W.heap.size 8 _ _ hblk
   have hf9 := frozen_of_row w7 W.heap.size 9 _ _ hblk
   have hf10 := frozen_of_row w7 W.heap.size 10 _ _ hblk
   have HBW := Lib.hid (HBx.out.trans (HB7.out.mono HBx.out.size))
   clear hblk
   go_wp2_with fail
   refine bodyPost_ret (v := .tuple #[cmV 0 0 0 none 0 0 none 0 0 0 0 none 0 0 0 ⟨#[]⟩ none 0 0, .int .i64 (4 : Nat)]) (by simp [results, Tryz.results8, go_sem, hz0a, hz1a, hz2a, hz3a, hz4a, hz5a, hz6a, hz7a, hz8a, hz9a, hz10a]) rfl ⟨0, 0, 0, none, 0, 0, none, 0, 0, 0, 0, none, 0, 0, 0, ⟨#[]⟩, none, 0, 0, 4, rfl, fun h => absurd HZ.out h, fun _ _ => rfl, fun _ h => absurd h HR.out, ?_⟩
   exact below_of_grown_at HBW.out (grown_set11 _ W.heap.size _ _ _ _ _ _ _ _ _ _ _)
 ·have HZ := Lib.hid hz
  have hRn : R = [] := HZR.out.resolve_left hz
  have he : e4 ≠ 0 := by
   have h := HRx.out
   rw [hRn] at h
   exact h.cut hz
  have HRx5 := Lib.hid (HRx.out.below HBox.out)
  have HRs5 := Lib.hid (HRs.out.below HBox.out)
  have t1 : ((e4 : Int) == 0) = false := by simp; omega
  have t2 : ((e4 : Int) != 0) = true := by simp; omega
  clear hcase hz hRn
  by_cases hlen : 0 < l4.length
  ·go_wp2_with fail
   refine (Left_at HRs5.out).mono ?_
   rintro e w6 ⟨rfl, rfl⟩
   go_wp2_with fail
   refine (Fail_x HRx5.out he 4).mono ?_
   rintro e w7 ⟨rfl, rfl⟩
   go_wp2_with fail
   refine (Err_x HRx5.out).mono ?_
   rintro e w8 ⟨rfl, rfl⟩
   have hblk := boxBelow HB5.out
   have hz0a : (w4.alloc (.cells #[.int .u8 (r1 : Int), .int .u32 (i1 : Int), .int .u64 (s1 : Int), .slice qa ql1 qc, .slice va vl1 vc, .int .u64 (tm1 : Int), .int .u8 (k6 : Int), .slice pa6 pl6 pc6, .int .i64 n6, .string t6, .slice da6 dl6 dc6] 34)).cell? ⟨W.heap.size, 0, none⟩ = some (.int .u8 0) := by rw [cell_of_row (w4.alloc (.cells #[.int .u8 (r1 : Int), .int .u32 (i1 : Int), .int .u64 (s1 : Int), .slice qa ql1 qc, .slice va vl1 vc, .int .u64 (tm1 : Int), .int .u8 (k6 : Int), .slice pa6 pl6 pc6, .int .i64 n6, .string t6, .slice da6 dl6 dc6] 34)) W.heap.size 0 _ _ _ hblk]; rfl
   have hz1a : (w4.alloc (.cells #[.int .u8 (r1 : Int), .int .u32 (i1 : Int), .int .u64 (s1 : Int), .slice qa ql1 qc, .slice va vl1 vc, .int .u64 (tm1 : Int), .int .u8 (k6 : Int), .slice pa6 pl6 pc6, .int .i64 n6, .string t6, .slice da6 dl6 dc6] 34)).cell? ⟨W.heap.size, 1, none⟩ = some (.int .u32 0) := by rw [cell_of_row (w4.alloc (.cells #[.int .u8 (r1 : Int), .int .u32 (i1 : Int), .int .u64 (s1 : Int), .slice qa ql1 qc, .slice va vl1 vc, .int .u64 (tm1 : Int), .int .u8 (k6 : Int), .slice pa6 pl6 pc6, .int .i64 n6, .string t6, .slice da6 dl6 dc6] 34)) W.heap.size 1 _ _ _ hblk]; rfl
   have hz2a : (w4.alloc (.cells #[.int .u8 (r1 : Int), .int .u32 (i1 : Int), .int .u64 (s1 : Int), .slice qa ql1 qc, .slice va vl1 vc, .int .u64 (tm1 : Int), .int .u8 (k6 : Int), .slice pa6 pl6 pc6, .int .i64 n6, .string t6, .slice da6 dl6 dc6] 34)).cell? ⟨W.heap.size, 2, none⟩ = some (.int .u64 0) := by rw [cell_of_row (w4.alloc (.cells #[.int .u8 (r1 : Int), .int .u32 (i1 : Int), .int .u64 (s1 : Int), .slice qa ql1 qc, .slice va vl1 vc, .int .u64 (tm1 : Int), .int .u8 (k6 : Int), .slice pa6 pl6 pc6, .int .i64 n6, .string t6, .slice da6 dl6 dc6] 34)) W.heap.size 2 _ _ _ hblk]; rfl
   have hz3a : (w4.alloc (.cells #[.int .u8 (r1 : Int), .int .u32 (i1 : Int), .int .u64 (s1 : Int), .slice qa ql1 qc, .slice va vl1 vc, .int .u64 (tm1 : Int), .int .u8 (k6 : Int), .slice pa6 pl6 pc6, .int .i64 n6, .string t6, .slice da6 dl6 dc6] 34)).cell? ⟨W.heap.size, 3, none⟩ = some (.slice none 0 0) := by rw [cell_of_row (w4.alloc (.cells #[.int .u8 (r1 : Int), .int .u32 (i1 : Int), .int .u64 (s1 : Int), .slice qa ql1 qc, .slice va vl1 vc, .int .u64 (tm1 : Int), .int .u8 (k6 : Int), .slice pa6 pl6 pc6, .int .i64 n6, .string t6, .slice da6 dl6 dc6] 34)) W.heap.size 3 _ _ _ hblk]; rfl
   have hz4a : (w4.alloc (.cells #[.int .u8 (r1 : Int), .int .u32 (i1 : Int), .int .u64 (s1 : Int), .slice qa ql1 qc, .slice va vl1 vc, .int .u64 (tm1 : Int), .int .u8 (k6 : Int), .slice pa6 pl6 pc6, .int .i64 n6, .string t6, .slice da6 dl6 dc6] 34)).cell? ⟨W.heap.size, 4, none⟩ = some (.slice none 0 0) := by rw [cell_of_row (w4.alloc (.cells #[.int .u8 (r1 : Int), .int .u32 (i1 : Int), .int .u64 (s1 : Int), .slice qa ql1 qc, .slice va vl1 vc, .int .u64 (tm1 : Int), .int .u8 (k6 : Int), .slice pa6 pl6 pc6, .int .i64 n6, .string t6, .slice da6 dl6 dc6] 34)) W.heap.size 4 _ _ _ hblk]; rfl
   have hz5a : (w4.alloc (.cells #[.int .u8 (r1 : Int), .int .u32 (i1 : Int), .int .u64 (s1 : Int), .slice qa ql1 qc, .slice va vl1 vc, .int .u64 (tm1 : Int), .int .u8 (k6 : Int), .slice pa6 pl6 pc6, .int .i64 n6, .string t6, .slice da6 dl6 dc6] 34)).cell? ⟨W.heap.size, 5, none⟩ = some (.int .u64 0) := by rw [cell_of_row (w4.alloc (.cells #[.int .u8 (r1 : Int), .int .u32 (i1 : Int), .int .u64 (s1 : Int), .slice qa ql1 qc, .slice va vl1 vc, .int .u64 (tm1 : Int), .int .u8 (k6 : Int), .slice pa6 pl6 pc6, .int .i64 n6, .string t6, .slice da6 dl6 dc6] 34)) W.heap.size 5 _ _ _ hblk]; rfl
   have hz6a : (w4.alloc (.cells #[.int .u8 (r1 : Int), .int .u32 (i1 : Int), .int .u64 (s1 : Int), .slice qa ql1 qc, .slice va vl1 vc, .int .u64 (tm1 : Int), .int .u8 (k6 : Int), .slice pa6 pl6 pc6, .int .i64 n6, .string t6, .slice da6 dl6 dc6] 34)).cell? ⟨W.heap.size, 6, none⟩ = some (.int .u8 0) := by rw [cell_of_row (w4.alloc (.cells #[.int .u8 (r1 : Int), .int .u32 (i1 : Int), .int .u64 (s1 : Int), .slice qa ql1 qc, .slice va vl1 vc, .int .u64 (tm1 : Int), .int .u8 (k6 : Int), .slice pa6 pl6 pc6, .int .i64 n6, .string t6, .slice da6 dl6 dc6] 34)) W.heap.size 6 _ _ _ hblk]; rfl
   have hz7a : (w4.alloc (.cells #[.int .u8 (r1 : Int), .int .u32 (i1 : Int), .int .u64 (s1 : Int), .slice qa ql1 qc, .slice va vl1 vc, .int .u64 (tm1 : Int), .int .u8 (k6 : Int), .slice pa6 pl6 pc6, .int .i64 n6, .string t6, .slice da6 dl6 dc6] 34)).cell? ⟨W.heap.size, 7, none⟩ = some (.slice none 0 0) := by rw [cell_of_row (w4.alloc (.cells #[.int .u8 (r1 : Int), .int .u32 (i1 : Int), .int .u64 (s1 : Int), .slice qa ql1 qc, .slice va vl1 vc, .int .u64 (tm1 : Int), .int .u8 (k6 : Int), .slice pa6 pl6 pc6, .int .i64 n6, .string t6, .slice da6 dl6 dc6] 34)) W.heap.size 7 _ _ _ hblk]; rfl
   have hz8a : (w4.alloc (.cells #[.int .u8 (r1 : Int), .int .u32 (i1 : Int), .int .u64 (s1 : Int), .slice qa ql1 qc, .slice va vl1 vc, .int .u64 (tm1 : Int), .int .u8 (k6 : Int), .slice pa6 pl6 pc6, .int .i64 n6, .string t6, .slice da6 dl6 dc6] 34)).cell? ⟨W.heap.size, 8, none⟩ = some (.int .i64 0) := by rw [cell_of_row (w4.alloc (.cells #[.int .u8 (r1 : Int), .int .u32 (i1 : Int), .int .u64 (s1 : Int), .slice qa ql1 qc, .slice va vl1 vc, .int .u64 (tm1 : Int), .int .u8 (k6 : Int), .slice pa6 pl6 pc6, .int .i64 n6, .string t6, .slice da6 dl6 dc6] 34)) W.heap.size 8 _ _ _ hblk]; rfl
   have hz9a : (w4.alloc (.cells #[.int .u8 (r1 : Int), .int .u32 (i1 : Int), .int .u64 (s1 : Int), .slice qa ql1 qc, .slice va vl1 vc, .int .u64 (tm1 : Int), .int .u8 (k6 : Int), .slice pa6 pl6 pc6, .int .i64 n6, .string t6, .slice da6 dl6 dc6] 34)).cell? ⟨W.heap.size, 9, none⟩ = some (.string ⟨#[]⟩) := by rw [cell_of_row (w4.alloc (.cells #[.int .u8 (r1 : Int), .int .u32 (i1 : Int), .int .u64 (s1 : Int), .slice qa ql1 qc, .slice va vl1 vc, .int .u64 (tm1 : Int), .int .u8 (k6 : Int), .slice pa6 pl6 pc6, .int .i64 n6, .string t6, .slice da6 dl6 dc6] 34)) W.heap.size 9 _ _ _ hblk]; rfl
   have hz10a : (w4.alloc (.cells #[.int .u8 (r1 : Int), .int .u32 (i1 : Int), .int .u64 (s1 : Int), .slice qa ql1 qc, .slice va vl1 vc, .int .u64 (tm1 : Int), .int .u8 (k6 : Int), .slice pa6 pl6 pc6, .int .i64 n6, .string t6, .slice da6 dl6 dc6] 34)).cell? ⟨W.heap.size, 10, none⟩ = some (.slice none 0 0) := by rw [cell_of_row (w4.alloc (.cells #[.int .u8 (r1 : Int), .int .u32 (i1 : Int), .int .u64 (s1 : Int), .slice qa ql1 qc, .slice va vl1 vc, .int .u64 (tm1 : Int), .int .u8 (k6 : Int), .slice pa6 pl6 pc6, .int .i64 n6, .string t6, .slice da6 dl6 dc6] 34)) W.heap.size 10 _ _ _ hblk]; rfl
   have hf0 := frozen_of_row (w4.alloc (.cells #[.int .u8 (r1 : Int), .int .u32 (i1 : Int), .int .u64 (s1 : Int), .slice qa ql1 qc, .slice va vl1 vc, .int .u64 (tm1 : Int), .int .u8 (k6 : Int), .slice pa6 pl6 pc6, .int .i64 n6, .string t6, .slice da6 dl6 dc6] 34)) W.heap.size 0 _ _ hblk
   have hf1 := frozen_of_row (w4.alloc (.cells #[.int .u8 (r1 : Int), .int .u32 (i1 : Int), .int .u64 (s1 : Int), .slice qa ql1 qc, .slice va vl1 vc, .int .u64 (tm1 : Int), .int .u8 (k6 : Int), .slice pa6 pl6 pc6, .int .i64 n6, .string t6, .slice da6 dl6 dc6] 34)) W.heap.size 1 _ _ hblk
   have hf2 := frozen_of_row (w4.alloc (.cells #[.int .u8 (r1 : Int), .int .u32 (i1 : Int), .int .u64 (s1 : Int), .slice qa ql1 qc, .slice va vl1 vc, .int .u64 (tm1 : Int), .int .u8 (k6 : Int), .slice pa6 pl6 pc6, .int .i64 n6, .string t6, .slice da6 dl6 dc6] 34)) W.heap.size 2 _ _ hblk
   have hf3 := frozen_of_row (w4.alloc (.cells #[.int .u8 (r1 : Int), .int .u32 (i1 : Int), .int .u64 (s1 : Int), .slice qa ql1 qc, .slice va vl1 vc, .int .u64 (tm1 : Int), .int .u8 (k6 : Int), .slice pa6 pl6 pc6, .int .i64 n6, .string t6, .slice da6 dl6 dc6] 34)) W.heap.size 3 _ _ hblk
   have hf4 := frozen_of_row (w4.alloc (.cells #[.int .u8 (r1 : Int), .int .u32 (i1 : Int), .int .u64 (s1 : Int), .slice qa ql1 qc, .slice va vl1 vc, .int .u64 (tm1 : Int), .int .u8 (k6 : Int), .slice pa6 pl6 pc6, .int .i64 n6, .string t6, .slice da6 dl6 dc6] 34)) W.heap.size 4 _ _ hblk
   have hf5 := frozen_of_row (w4.alloc (.cells #[.int .u8 (r1 : Int), .int .u32 (i1 : Int), .int .u64 (s1 : Int), .slice qa ql1 qc, .slice va vl1 vc, .int .u64 (tm1 : Int), .int .u8 (k6 : Int), .slice pa6 pl6 pc6, .int .i64 n6, .string t6, .slice da6 dl6 dc6] 34)) W.heap.size 5 _ _ hblk
   have hf6 := frozen_of_row (w4.alloc (.cells #[.int .u8 (r1 : Int), .int .u32 (i1 : Int), .int .u64 (s1 : Int), .slice qa ql1 qc, .slice va vl1 vc, .int .u64 (tm1 : Int), .int .u8 (k6 : Int), .slice pa6 pl6 pc6, .int .i64 n6, .string t6, .slice da6 dl6 dc6] 34)) W.heap.size 6 _ _ hblk
   have hf7 := frozen_of_row (w4.alloc (.cells #[.int .u8 (r1 : Int), .int .u32 (i1 : Int), .int .u64 (s1 : Int), .slice qa ql1 qc, .slice va vl1 vc, .int .u64 (tm1 : Int), .int .u8 (k6 : Int), .slice pa6 pl6 pc6, .int .i64 n6, .string t6, .slice da6 dl6 dc6] 34)) W.heap.size 7 _ _ hblk
   have hf8 := frozen_of_row (w4.alloc (.cells #[.int .u8 (r1 : Int), .int .u32 (i1 : Int), .int .u64 (s1 : Int), .slice qa ql1 qc, .slice va vl1 vc, .int .u64 (tm1 : Int), .int .u8 (k6 : Int), .slice pa6 pl6 pc6, .int .i64 n6, .string t6, .slice da6 dl6 dc6] 34)) W.heap.size 8 _ _ hblk
   have hf9 := frozen_of_row (w4.alloc (.cells #[.int .u8 (r1 : Int), .int .u32 (i1 : Int), .int .u64 (s1 : Int), .slice qa ql1 qc, .slice va vl1 vc, .int .u64 (tm1 : Int), .int .u8 (k6 : Int), .slice pa6 pl6 pc6, .int .i64 n6, .string t6, .slice da6 dl6 dc6] 34)) W.heap.size 9 _ _ hblk
   have hf10 := frozen_of_row (w4.alloc (.cells #[.int .u8 (r1 : Int), .int .u32 (i1 : Int), .int .u64 (s1 : Int), .slice qa ql1 qc, .slice va vl1 vc, .int .u64 (tm1 : Int), .int .u8 (k6 : Int), .slice pa6 pl6 pc6, .int .i64 n6, .string t6, .slice da6 dl6 dc6] 34)) W.heap.size 10 _ _ hblk
   have HBW := Lib.hid (HBx.out.trans (HB5.out.mono HBx.out.size))
   clear hblk
   go_wp2_with fail
   refine bodyPost_ret (v := .tuple #[cmV 0 0 0 none 0 0 none 0 0 0 0 none 0 0 0 ⟨#[]⟩ none 0 0, .int .i64 (e4 : Nat)]) (by simp [results, Tryz.results8, go_sem, hz0a, hz1a, hz2a, hz3a, hz4a, hz5a, hz6a, hz7a, hz8a, hz9a, hz10a]) rfl ⟨0, 0, 0, none, 0, 0, none, 0, 0, 0, 0, none, 0, 0, 0, ⟨#[]⟩, none, 0, 0, e4, rfl, fun _ => he, fun h => absurd h HZ.out, fun h => absurd h HZ.out, ?_⟩
   exact below_of_grown_at HBW.out (grown_set11 _ W.heap.size _ _ _ _ _ _ _ _ _ _ _)
  ·have hlen0 : l4.length = 0 := by omega
   go_wp2_with fail
   refine (Left_at HRs5.out).mono ?_
   rintro e w6 ⟨rfl, rfl⟩
   go_wp2_with fail
   refine (Err_x HRx5.out).mono ?_
   rintro e w8 ⟨rfl, rfl⟩
   have hblk := boxBelow HB5.out
   have hz0a : (w4.alloc (.cells #[.int .u8 (r1 : Int), .int .u32 (i1 : Int), .int .u64 (s1 : Int), .slice qa ql1 qc, .slice va vl1 vc, .int .u64 (tm1 : Int), .int .u8 (k6 : Int), .slice pa6 pl6 pc6, .int .i64 n6, .string t6, .slice da6 dl6 dc6] 34)).cell? ⟨W.heap.size, 0, none⟩ = some (.int .u8 0) := by rw [cell_of_row (w4.alloc (.cells #[.int .u8 (r1 : Int), .int .u32 (i1 : Int), .int .u64 (s1 : Int), .slice qa ql1 qc, .slice va vl1 vc, .int .u64 (tm1 : Int), .int .u8 (k6 : Int), .slice pa6 pl6 pc6, .int .i64 n6, .string t6, .slice da6 dl6 dc6] 34)) W.heap.size 0 _ _ _ hblk]; rfl
   have hz1a : (w4.alloc (.cells #[.int .u8 (r1 : Int), .int .u32 (i1 : Int), .int .u64 (s1 : Int), .slice qa ql1 qc, .slice va vl1 vc, .int .u64 (tm1 : Int), .int .u8 (k6 : Int), .slice pa6 pl6 pc6, .int .i64 n6, .string t6, .slice da6 dl6 dc6] 34)).cell? ⟨W.heap.size, 1, none⟩ = some (.int .u32 0) := by rw [cell_of_row (w4.alloc (.cells #[.int .u8 (r1 : Int), .int .u32 (i1 : Int), .int .u64 (s1 : Int), .slice qa ql1 qc, .slice va vl1 vc, .int .u64 (tm1 : Int), .int .u8 (k6 : Int), .slice pa6 pl6 pc6, .int .i64 n6, .string t6, .slice da6 dl6 dc6] 34)) W.heap.size 1 _ _ _ hblk]; rfl
   have hz2a : (w4.alloc (.cells #[.int .u8 (r1 : Int), .int .u32 (i1 : Int), .int .u64 (s1 : Int), .slice qa ql1 qc, .slice va vl1 vc, .int .u64 (tm1 : Int), .int .u8 (k6 : Int), .slice pa6 pl6 pc6, .int .i64 n6, .string t6, .slice da6 dl6 dc6] 34)).cell? ⟨W.heap.size, 2, none⟩ = some (.int .u64 0) := by rw [cell_of_row (w4.alloc (.cells #[.int .u8 (r1 : Int), .int .u32 (i1 : Int), .int .u64 (s1 : Int), .slice qa ql1 qc, .slice va vl1 vc, .int .u64 (tm1 : Int), .int .u8 (k6 : Int), .slice pa6 pl6 pc6, .int .i64 n6, .string t6, .slice da6 dl6 dc6] 34)) W.heap.size 2 _ _ _ hblk]; rfl
   have hz3a : (w4.alloc (.cells #[.int .u8 (r1 : Int), .int .u32 (i1 : Int), .int .u64 (s1 : Int), .slice qa ql1 qc, .slice va vl1 vc, .int .u64 (tm1 : Int), .int .u8 (k6 : Int), .slice pa6 pl6 pc6, .int .i64 n6, .string t6, .slice da6 dl6 dc6] 34)).cell? ⟨W.heap.size, 3, none⟩ = some (.slice none 0 0) := by rw [cell_of_row (w4.alloc (.cells #[.int .u8 (r1 : Int), .int .u32 (i1 : Int), .int .u64 (s1 : Int), .slice qa ql1 qc, .slice va vl1 vc, .int .u64 (tm1 : Int), .int .u8 (k6 : Int), .slice pa6 pl6 pc6, .int .i64 n6, .string t6, .slice da6 dl6 dc6] 34)) W.heap.size 3 _ _ _ hblk]; rfl
   have hz4a : (w4.alloc (.cells #[.int .u8 (r1 : Int), .int .u32 (i1 : Int), .int .u64 (s1 : Int), .slice qa ql1 qc, .slice va vl1 vc, .int .u64 (tm1 : Int), .int .u8 (k6 : Int), .slice pa6 pl6 pc6, .int .i64 n6, .string t6, .slice da6 dl6 dc6] 34)).cell? ⟨W.heap.size, 4, none⟩ = some (.slice none 0 0) := by rw [cell_of_row (w4.alloc (.cells #[.int .u8 (r1 : Int), .int .u32 (i1 : Int), .int .u64 (s1 : Int), .slice qa ql1 qc, .slice va vl1 vc, .int .u64 (tm1 : Int), .int .u8 (k6 : Int), .slice pa6 pl6 pc6, .int .i64 n6, .string t6, .slice da6 dl6 dc6] 34)) W.heap.size 4 _ _ _ hblk]; rfl
   have hz5a : (w4.alloc (.cells #[.int .u8 (r1 : Int), .int .u32 (i1 : Int), .int .u64 (s1 : Int), .slice qa ql1 qc, .slice va vl1 vc, .int .u64 (tm1 : Int), .int .u8 (k6 : Int), .slice pa6 pl6 pc6, .int .i64 n6, .string t6, .slice da6 dl6 dc6] 34)).cell? ⟨W.heap.size, 5, none⟩ = some (.int .u64 0) := by rw [cell_of_row (w4.alloc (.cells #[.int .u8 (r1 : Int), .int .u32 (i1 : Int), .int .u64 (s1 : Int), .slice qa ql1 qc, .slice va vl1 vc, .int .u64 (tm1 : Int), .int .u8 (k6 : Int), .slice pa6 pl6 pc6, .int .i64 n6, .string t6, .slice da6 dl6 dc6] 34)) W.heap.size 5 _ _ _ hblk]; rfl
   have hz6a : (w4.alloc (.cells #[.int .u8 (r1 : Int), .int .u32 (i1 : Int), .int .u64 (s1 : Int), .slice qa ql1 qc, .slice va vl1 vc, .int .u64 (tm1 : Int), .int .u8 (k6 : Int), .slice pa6 pl6 pc6, .int .i64 n6, .string t6, .slice da6 dl6 dc6] 34)).cell? ⟨W.heap.size, 6, none⟩ = some (.int .u8 0) := by rw [cell_of_row (w4.alloc (.cells #[.int .u8 (r1 : Int), .int .u32 (i1 : Int), .int .u64 (s1 : Int), .slice qa ql1 qc, .slice va vl1 vc, .int .u64 (tm1 : Int), .int .u8 (k6 : Int), .slice pa6 pl6 pc6, .int .i64 n6, .string t6, .slice da6 dl6 dc6] 34)) W.heap.size 6 _ _ _ hblk]; rfl
   have hz7a : (w4.alloc (.cells #[.int .u8 (r1 : Int), .int .u32 (i1 : Int), .int .u64 (s1 : Int), .slice qa ql1 qc, .slice va vl1 vc, .int .u64 (tm1 : Int), .int .u8 (k6 : Int), .slice pa6 pl6 pc6, .int .i64 n6, .string t6, .slice da6 dl6 dc6] 34)).cell? ⟨W.heap.size, 7, none⟩ = some (.slice none 0 0) := by rw [cell_of_row (w4.alloc (.cells #[.int .u8 (r1 : Int), .int .u32 (i1 : Int), .int .u64 (s1 : Int), .slice qa ql1 qc, .slice va vl1 vc, .int .u64 (tm1 : Int), .int .u8 (k6 : Int), .slice pa6 pl6 pc6, .int .i64 n6, .string t6, .slice da6 dl6 dc6] 34)) W.heap.size 7 _ _ _ hblk]; rfl
   have hz8a : (w4.alloc (.cells #[.int .u8 (r1 : Int), .int .u32 (i1 : Int), .int .u64 (s1 : Int), .slice qa ql1 qc, .slice va vl1 vc, .int .u64 (tm1 : Int), .int .u8 (k6 : Int), .slice pa6 pl6 pc6, .int .i64 n6, .string t6, .slice da6 dl6 dc6] 34)).cell? ⟨W.heap.size, 8, none⟩ = some (.int .i64 0) := by rw [cell_of_row (w4.alloc (.cells #[.int .u8 (r1 : Int), .int .u32 (i1 : Int), .int .u64 (s1 : Int), .slice qa ql1 qc, .slice va vl1 vc, .int .u64 (tm1 : Int), .int .u8 (k6 : Int), .slice pa6 pl6 pc6, .int .i64 n6, .string t6, .slice da6 dl6 dc6] 34)) W.heap.size 8 _ _ _ hblk]; rfl
   have hz9a : (w4.alloc (.cells #[.int .u8 (r1 : Int), .int .u32 (i1 : Int), .int .u64 (s1 : Int), .slice qa ql1 qc, .slice va vl1 vc, .int .u64 (tm1 : Int), .int .u8 (k6 : Int), .slice pa6 pl6 pc6, .int .i64 n6, .string t6, .slice da6 dl6 dc6] 34)).cell? ⟨W.heap.size, 9, none⟩ = some (.string ⟨#[]⟩) := by rw [cell_of_row (w4.alloc (.cells #[.int .u8 (r1 : Int), .int .u32 (i1 : Int), .int .u64 (s1 : Int), .slice qa ql1 qc, .slice va vl1 vc, .int .u64 (tm1 : Int), .int .u8 (k6 : Int), .slice pa6 pl6 pc6, .int .i64 n6, .string t6, .slice da6 dl6 dc6] 34)) W.heap.size 9 _ _ _ hblk]; rfl
   have hz10a : (w4.alloc (.cells #[.int .u8 (r1 : Int), .int .u32 (i1 : Int), .int .u64 (s1 : Int), .slice qa ql1 qc, .slice va vl1 vc, .int .u64 (tm1 : Int), .int .u8 (k6 : Int), .slice pa6 pl6 pc6, .int .i64 n6, .string t6, .slice da6 dl6 dc6] 34)).cell? ⟨W.heap.size, 10, none⟩ = some (.slice none 0 0) := by rw [cell_of_row (w4.alloc (.cells #[.int .u8 (r1 : Int), .int .u32 (i1 : Int), .int .u64 (s1 : Int), .slice qa ql1 qc, .slice va vl1 vc, .int .u64 (tm1 : Int), .int .u8 (k6 : Int), .slice pa6 pl6 pc6, .int .i64 n6, .string t6, .slice da6 dl6 dc6] 34)) W.heap.size 10 _ _ _ hblk]; rfl
   have hf0 := frozen_of_row (w4.alloc (.cells #[.int .u8 (r1 : Int), .int .u32 (i1 : Int), .int .u64 (s1 : Int), .slice qa ql1 qc, .slice va vl1 vc, .int .u64 (tm1 : Int), .int .u8 (k6 : Int), .slice pa6 pl6 pc6, .int .i64 n6, .string t6, .slice da6 dl6 dc6] 34)) W.heap.size 0 _ _ hblk
   have hf1 := frozen_of_row (w4.alloc (.cells #[.int .u8 (r1 : Int), .int .u32 (i1 : Int), .int .u64 (s1 : Int), .slice qa ql1 qc, .slice va vl1 vc, .int .u64 (tm1 : Int), .int .u8 (k6 : Int), .slice pa6 pl6 pc6, .int .i64 n6, .string t6, .slice da6 dl6 dc6] 34)) W.heap.size 1 _ _ hblk
   have hf2 := frozen_of_row (w4.alloc (.cells #[.int .u8 (r1 : Int), .int .u32 (i1 : Int), .int .u64 (s1 : Int), .slice qa ql1 qc, .slice va vl1 vc, .int .u64 (tm1 : Int), .int .u8 (k6 : Int), .slice pa6 pl6 pc6, .int .i64 n6, .string t6, .slice da6 dl6 dc6] 34)) W.heap.size 2 _ _ hblk
   have hf3 := frozen_of_row (w4.alloc (.cells #[.int .u8 (r1 : Int), .int .u32 (i1 : Int), .int .u64 (s1 : Int), .slice qa ql1 qc, .slice va vl1 vc, .int .u64 (tm1 : Int), .int .u8 (k6 : Int), .slice pa6 pl6 pc6, .int .i64 n6, .string t6, .slice da6 dl6 dc6] 34)) W.heap.size 3 _ _ hblk
   have hf4 := frozen_of_row (w4.alloc (.cells #[.int .u8 (r1 : Int), .int .u32 (i1 : Int), .int .u64 (s1 : Int), .slice qa ql1 qc, .slice va vl1 vc, .int .u64 (tm1 : Int), .int .u8 (k6 : Int), .slice pa6 pl6 pc6, .int .i64 n6, .string t6, .slice da6 dl6 dc6] 34)) W.heap.size 4 _ _ hblk
   have hf5 := frozen_of_row (w4.alloc (.cells #[.int .u8 (r1 : Int), .int .u32 (i1 : Int), .int .u64 (s1 : Int), .slice qa ql1 qc, .slice va vl1 vc, .int .u64 (tm1 : Int), .int .u8 (k6 : Int), .slice pa6 pl6 pc6, .int .i64 n6, .string t6, .slice da6 dl6 dc6] 34)) W.heap.size 5 _ _ hblk
   have hf6 := frozen_of_row (w4.alloc (.cells #[.int .u8 (r1 : Int), .int .u32 (i1 : Int), .int .u64 (s1 : Int), .slice qa ql1 qc, .slice va vl1 vc, .int .u64 (tm1 : Int), .int .u8 (k6 : Int), .slice pa6 pl6 pc6, .int .i64 n6, .string t6, .slice da6 dl6 dc6] 34)) W.heap.size 6 _ _ hblk
   have hf7 := frozen_of_row (w4.alloc (.cells #[.int .u8 (r1 : Int), .int .u32 (i1 : Int), .int .u64 (s1 : Int), .slice qa ql1 qc, .slice va vl1 vc, .int .u64 (tm1 : Int), .int .u8 (k6 : Int), .slice pa6 pl6 pc6, .int .i64 n6, .string t6, .slice da6 dl6 dc6] 34)) W.heap.size 7 _ _ hblk
   have hf8 := frozen_of_row (w4.alloc (.cells #[.int .u8 (r1 : Int), .int .u32 (i1 : Int), .int .u64 (s1 : Int), .slice qa ql1 qc, .slice va vl1 vc, .int .u64 (tm1 : Int), .int .u8 (k6 : Int), .slice pa6 pl6 pc6, .int .i64 n6, .string t6, .slice da6 dl6 dc6] 34)) W.heap.size 8 _ _ hblk
   have hf9 := frozen_of_row (w4.alloc (.cells #[.int .u8 (r1 : Int), .int .u32 (i1 : Int), .int .u64 (s1 : Int), .slice qa ql1 qc, .slice va vl1 vc, .int .u64 (tm1 : Int), .int .u8 (k6 : Int), .slice pa6 pl6 pc6, .int .i64 n6, .string t6, .slice da6 dl6 dc6] 34)) W.heap.size 9 _ _ hblk
   have hf10 := frozen_of_row (w4.alloc (.cells #[.int .u8 (r1 : Int), .int .u32 (i1 : Int), .int .u64 (s1 : Int), .slice qa ql1 qc, .slice va vl1 vc, .int .u64 (tm1 : Int), .int .u8 (k6 : Int), .slice pa6 pl6 pc6, .int .i64 n6, .string t6, .slice da6 dl6 dc6] 34)) W.heap.size 10 _ _ hblk
   have HBW := Lib.hid (HBx.out.trans (HB5.out.mono HBx.out.size))
   clear hblk
   go_wp2_with fail
   refine bodyPost_ret (v := .tuple #[cmV 0 0 0 none 0 0 none 0 0 0 0 none 0 0 0 ⟨#[]⟩ none 0 0, .int .i64 (e4 : Nat)]) (by simp [results, Tryz.results8, go_sem, hz0a, hz1a, hz2a, hz3a, hz4a, hz5a, hz6a, hz7a, hz8a, hz9a, hz10a]) rfl ⟨0, 0, 0, none, 0, 0, none, 0, 0, 0, 0, none, 0, 0, 0, ⟨#[]⟩, none, 0, 0, e4, rfl, fun _ => he, fun h => absurd h HZ.out, fun h => absurd h HZ.out, ?_⟩
   exact below_of_grown_at HBW.out (grown_set11 _ W.heap.size _ _ _ _ _ _ _ _ _ _ _)
end Go.Proofs.YthbkieghkfpbhaaGreat
