import Derived.Test.YtiiidmphmojlgaaGreatZGr23
namespace Go.Proofs.YtiiidmphmojlgaaGreat
open Go.RowKit Go.Buf Go.LB Go.Lib
set_option linter.unusedSimpArgs false
set_option linter.unusedVariables false
set_option maxRecDepth 100000 in
set_option maxHeartbeats 12800000 in
theorem lawNone_any (r i s : Nat) (qa : Option Addr) (ql qc : Nat) (va : Option Addr) (vl vc : Nat) (tm k : Nat) (pa : Option Addr) (pl pc : Nat) (n : Int) (t : ByteArray) (da : Option Addr) (dl dc : Nat) (W : World) (hok : Dt.okD ((r, i), s)) :
  Calls Tryz.prog 3 #[cmV r i s qa ql qc va vl vc tm k pa pl pc n t da dl dc] W fun e w' => e = .returned (.bool true) ∧ Below W.heap.size W w' := by
 obtain ⟨X, hX⟩ : ∃ X, X = (((W.alloc (.cells #[.int .u8 (r : Int), .int .u32 (i : Int), .int .u64 (s : Int), .slice qa ql qc, .slice va vl vc, .int .u64 (tm : Int), .int .u8 (k : Int), .slice pa pl pc, .int .i64 n, .string t, .slice da dl dc] 34)).alloc (.cells #[.int .u64 0, .slice none 0 0, .slice none 0 0, .int .u64 0, .slice none 0 0, .map none] 42)).alloc (.cells #[.pointer none, .pointer (some ⟨W.heap.size + 1, 0, none⟩)] 43)) := ⟨_, rfl⟩
 have hB : Below W.heap.size W X := by rw [hX]; exact (((Below.refl _ _).alloc (Nat.le_refl _) _).alloc (by simp) _).alloc (by simp; omega) _
 have hC : Blk X W.heap.size 34 [.int .u8 (r : Int), .int .u32 (i : Int), .int .u64 (s : Int), .slice qa ql qc, .slice va vl vc, .int .u64 (tm : Int), .int .u8 (k : Int), .slice pa pl pc, .int .i64 n, .string t, .slice da dl dc] := by
  have h := (Blk.new W #[.int .u8 (r : Int), .int .u32 (i : Int), .int .u64 (s : Int), .slice qa ql qc, .slice va vl vc, .int .u64 (tm : Int), .int .u8 (k : Int), .slice pa pl pc, .int .i64 n, .string t, .slice da dl dc] 34).below (w' := (((W.alloc (.cells #[.int .u8 (r : Int), .int .u32 (i : Int), .int .u64 (s : Int), .slice qa ql qc, .slice va vl vc, .int .u64 (tm : Int), .int .u8 (k : Int), .slice pa pl pc, .int .i64 n, .string t, .slice da dl dc] 34)).alloc (.cells #[.int .u64 0, .slice none 0 0, .slice none 0 0, .int .u64 0, .slice none 0 0, .map none] 42)).alloc (.cells #[.pointer none, .pointer (some ⟨W.heap.size + 1, 0, none⟩)] 43))) (((Below.refl _ _).alloc (Nat.le_refl _) _).alloc (by simp) _)
  rw [hX]; exact h
 have hZ : Blk X (W.heap.size + 1) 42 [.int .u64 0, .slice none 0 0, .slice none 0 0, .int .u64 0, .slice none 0 0, .map none] := by
  have h := (Blk.new (W.alloc (.cells #[.int .u8 (r : Int), .int .u32 (i : Int), .int .u64 (s : Int), .slice qa ql qc, .slice va vl vc, .int .u64 (tm : Int), .int .u8 (k : Int), .slice pa pl pc, .int .i64 n, .string t, .slice da dl dc] 34)) #[.int .u64 0, .slice none 0 0, .slice none 0 0, .int .u64 0, .slice none 0 0, .map none] 42).below (w' := (((W.alloc (.cells #[.int .u8 (r : Int), .int .u32 (i : Int), .int .u64 (s : Int), .slice qa ql qc, .slice va vl vc, .int .u64 (tm : Int), .int .u8 (k : Int), .slice pa pl pc, .int .i64 n, .string t, .slice da dl dc] 34)).alloc (.cells #[.int .u64 0, .slice none 0 0, .slice none 0 0, .int .u64 0, .slice none 0 0, .map none] 42)).alloc (.cells #[.pointer none, .pointer (some ⟨W.heap.size + 1, 0, none⟩)] 43))) ((Below.refl _ _).alloc (Nat.le_refl _) _)
  simp only [World.size_alloc] at h
  rw [hX]; exact h
 have hP : Blk X (W.heap.size + 1 + 1) 43 [.pointer none, .pointer (some ⟨W.heap.size + 1, 0, none⟩)] := by
  have h := Blk.new ((W.alloc (.cells #[.int .u8 (r : Int), .int .u32 (i : Int), .int .u64 (s : Int), .slice qa ql qc, .slice va vl vc, .int .u64 (tm : Int), .int .u8 (k : Int), .slice pa pl pc, .int .i64 n, .string t, .slice da dl dc] 34)).alloc (.cells #[.int .u64 0, .slice none 0 0, .slice none 0 0, .int .u64 0, .slice none 0 0, .map none] 42)) #[.pointer none, .pointer (some ⟨W.heap.size + 1, 0, none⟩)] 43
  simp only [World.size_alloc] at h
  rw [hX]; exact h
 have q0 := hP.cell 0; have q1 := hP.cell 1
 simp only [List.getElem?_cons_succ, List.getElem?_cons_zero] at q0 q1
 have HOk := Lib.hid hok; have HB := Lib.hid hB; have HC := Lib.hid hC; have HP0 := Lib.hid q0; have HP1 := Lib.hid q1; have HPb := Lib.hid hP.lt
 have HG0 := Lib.hid (show GAt X none none from Or.inl ⟨rfl, rfl⟩)
 have HG1 := Lib.hid (show GAt X (some ⟨W.heap.size + 1, 0, none⟩) none from Or.inr ⟨_, rfl, hZ⟩)
 have HX := Lib.hid hX
 clear hok hB hC hZ hP q0 q1 hX
 go_enter Tryz.func3, Tryz.ntmps3
 go_wp2_with fail
 rw [← HX.out]
 go_loopw [5, 6, 7, 10] (fun _ _ _ i wr => ∃ k : Nat, i = .int .i64 k ∧ k ≤ 2 ∧ Below X.heap.size X wr) (fun _ _ _ i _ => 2 - (intOf i).toNat)
 case atStart => exact ⟨0, rfl, by omega, Below.refl _ _⟩
 case round =>
  obtain ⟨k, rfl, hk2, hbel0⟩ := hrel
  by_cases hlt : k < 2
  ·rcases (show k = 0 ∨ k = 1 by omega) with rfl | rfl
   ·have hp0 := (hbel0.cell (p := ⟨W.heap.size + 1 + 1, 0, none⟩) HPb.out).trans HP0.out
    have hk := HC.out.below hbel0
    have hc0 := hk.cell 0; have hc1 := hk.cell 1; have hc2 := hk.cell 2
    simp only [List.getElem?_cons_succ, List.getElem?_cons_zero] at hc0 hc1 hc2
    have HW0 := Lib.hid hbel0
    clear hbel0 hk
    go_wp2_with fail
    refine (get_none none _ (HG0.out.below HW0.out) r i s HOk.out).mono ?_
    rintro e w1 ⟨⟨qx, qy, vx, vy, px, py, dx, dy, rfl⟩, hb⟩
    have hw1 := HW0.out.trans (hb.mono HW0.out.size)
    have HW1 := Lib.hid (hw1.alloc hw1.size (.cells #[.int .u8 0, .int .u32 0, .int .u64 0, .slice qx 0 qy, .slice vx 0 vy, .int .u64 0, .int .u8 0, .slice px 0 py, .int .i64 0, .string ⟨#[]⟩, .slice dx 0 dy] 34))
    clear hb hw1 hc0 hc1 hc2
    have hk := HC.out.below HW1.out
    have hc0 := hk.cell 0; have hc1 := hk.cell 1; have hc2 := hk.cell 2; have hc3 := hk.cell 3; have hc4 := hk.cell 4; have hc5 := hk.cell 5; have hc6 := hk.cell 6; have hc7 := hk.cell 7; have hc8 := hk.cell 8; have hc9 := hk.cell 9; have hc10 := hk.cell 10
    simp only [List.getElem?_cons_succ, List.getElem?_cons_zero] at hc0 hc1 hc2 hc3 hc4 hc5 hc6 hc7 hc8 hc9 hc10
    clear hk
    go_wp2_with fail
    refine (insert_none none _ (HG0.out.below HW1.out) r i s qa ql qc va vl vc tm k pa pl pc n t da dl dc).mono ?_
    rintro e w2 ⟨rfl, hb⟩
    have HW2 := Lib.hid (HW1.out.trans (hb.mono HW1.out.size)); clear hb hc0 hc1 hc2 hc3 hc4 hc5 hc6 hc7 hc8 hc9 hc10
    have hk := HC.out.below HW2.out
    have hc0 := hk.cell 0; have hc1 := hk.cell 1; have hc2 := hk.cell 2
    simp only [List.getElem?_cons_succ, List.getElem?_cons_zero] at hc0 hc1 hc2
    clear hk
    go_wp2_with fail
    refine (ghas_any none none r i s [] _ (HG0.out.below HW2.out) (Or.inl ⟨rfl, rfl⟩) HOk.out).mono ?_
    rintro e w3 ⟨rfl, hb⟩
    have HW3 := Lib.hid (HW2.out.trans (hb.mono HW2.out.size)); clear hb hc0 hc1 hc2
    rw [show gin [] ((r, i), s) = false from rfl]
    go_wp2_with fail
    refine (commits_none none _ (HG0.out.below HW3.out)).mono ?_
    rintro e w4 ⟨⟨sa, sb, rfl⟩, hb⟩
    have HW4 := Lib.hid (HW3.out.trans (hb.mono HW3.out.size)); clear hb
    go_wp2_with fail
    refine (heads_none none _ (HG0.out.below HW4.out)).mono ?_
    rintro e w5 ⟨⟨ta, tb, rfl⟩, hb⟩
    have HW5 := Lib.hid (HW4.out.trans (hb.mono HW4.out.size)); clear hb
    go_wp2_with fail
    refine (vv_none none _ (HG0.out.below HW5.out)).mono ?_
    rintro e w6 ⟨⟨ua, ub, rfl⟩, hb⟩
    have HW6 := Lib.hid (HW5.out.trans (hb.mono HW5.out.size)); clear hb
    go_wp2_with fail
    refine (time_none none _ (HG0.out.below HW6.out)).mono ?_
    rintro e w7 ⟨rfl, hb⟩
    have HW7 := Lib.hid (HW6.out.trans (hb.mono HW6.out.size)); clear hb
    go_wp2_with fail
    refine (base_none none none _ (HG0.out.below HW7.out)).mono ?_
    rintro e w8 ⟨rfl, hb⟩
    have HW8 := Lib.hid (HW7.out.trans (hb.mono HW7.out.size)); clear hb
    go_wp2_with fail
    refine (sameBase_none _).mono ?_
    rintro e w9 ⟨rfl, hb⟩
    have HW9 := Lib.hid (HW8.out.trans (hb.mono HW8.out.size)); clear hb
    go_wp2_with fail
    refine (copy_none none _ (HG0.out.below HW9.out)).mono ?_
    rintro e w10 ⟨rfl, hb⟩
    have HW10 := Lib.hid (HW9.out.trans (hb.mono HW9.out.size)); clear hb
    go_wp2_with fail
    go_roundw
    case rel => exact ⟨1, by go_num, by omega, HW10.out⟩
    case measure => simp [intOf]
   ·have hp0 := (hbel0.cell (p := ⟨W.heap.size + 1 + 1, 1, none⟩) HPb.out).trans HP1.out
    have hk := HC.out.below hbel0
    have hc0 := hk.cell 0; have hc1 := hk.cell 1; have hc2 := hk.cell 2
    simp only [List.getElem?_cons_succ, List.getElem?_cons_zero] at hc0 hc1 hc2
    have HW0 := Lib.hid hbel0
    clear hbel0 hk
    go_wp2_with fail
    refine (get_none (some ⟨W.heap.size + 1, 0, none⟩) _ (HG1.out.below HW0.out) r i s HOk.out).mono ?_
    rintro e w1 ⟨⟨qx, qy, vx, vy, px, py, dx, dy, rfl⟩, hb⟩
    have hw1 := HW0.out.trans (hb.mono HW0.out.size)
    have HW1 := Lib.hid (hw1.alloc hw1.size (.cells #[.int .u8 0, .int .u32 0, .int .u64 0, .slice qx 0 qy, .slice vx 0 vy, .int .u64 0, .int .u8 0, .slice px 0 py, .int .i64 0, .string ⟨#[]⟩, .slice dx 0 dy] 34))
    clear hb hw1 hc0 hc1 hc2
    have hk := HC.out.below HW1.out
    have hc0 := hk.cell 0; have hc1 := hk.cell 1; have hc2 := hk.cell 2; have hc3 := hk.cell 3; have hc4 := hk.cell 4; have hc5 := hk.cell 5; have hc6 := hk.cell 6; have hc7 := hk.cell 7; have hc8 := hk.cell 8; have hc9 := hk.cell 9; have hc10 := hk.cell 10
    simp only [List.getElem?_cons_succ, List.getElem?_cons_zero] at hc0 hc1 hc2 hc3 hc4 hc5 hc6 hc7 hc8 hc9 hc10
    clear hk
    go_wp2_with fail
    refine (insert_none (some ⟨W.heap.size + 1, 0, none⟩) _ (HG1.out.below HW1.out) r i s qa ql qc va vl vc tm k pa pl pc n t da dl dc).mono ?_
    rintro e w2 ⟨rfl, hb⟩
    have HW2 := Lib.hid (HW1.out.trans (hb.mono HW1.out.size)); clear hb hc0 hc1 hc2 hc3 hc4 hc5 hc6 hc7 hc8 hc9 hc10
    have hk := HC.out.below HW2.out
    have hc0 := hk.cell 0; have hc1 := hk.cell 1; have hc2 := hk.cell 2
    simp only [List.getElem?_cons_succ, List.getElem?_cons_zero] at hc0 hc1 hc2
    clear hk
    go_wp2_with fail
    refine (ghas_any (some ⟨W.heap.size + 1, 0, none⟩) none r i s [] _ (HG1.out.below HW2.out) (Or.inl ⟨rfl, rfl⟩) HOk.out).mono ?_
    rintro e w3 ⟨rfl, hb⟩
    have HW3 := Lib.hid (HW2.out.trans (hb.mono HW2.out.size)); clear hb hc0 hc1 hc2
    rw [show gin [] ((r, i), s) = false from rfl]
    go_wp2_with fail
    refine (commits_none (some ⟨W.heap.size + 1, 0, none⟩) _ (HG1.out.below HW3.out)).mono ?_
    rintro e w4 ⟨⟨sa, sb, rfl⟩, hb⟩
    have HW4 := Lib.hid (HW3.out.trans (hb.mono HW3.out.size)); clear hb
    go_wp2_with fail
    refine (heads_none (some ⟨W.heap.size + 1, 0, none⟩) _ (HG1.out.below HW4.out)).mono ?_
    rintro e w5 ⟨⟨ta, tb, rfl⟩, hb⟩
    have HW5 := Lib.hid (HW4.out.trans (hb.mono HW4.out.size)); clear hb
    go_wp2_with fail
    refine (vv_none (some ⟨W.heap.size + 1, 0, none⟩) _ (HG1.out.below HW5.out)).mono ?_
    rintro e w6 ⟨⟨ua, ub, rfl⟩, hb⟩
    have HW6 := Lib.hid (HW5.out.trans (hb.mono HW5.out.size)); clear hb
    go_wp2_with fail
    refine (time_none (some ⟨W.heap.size + 1, 0, none⟩) _ (HG1.out.below HW6.out)).mono ?_
    rintro e w7 ⟨rfl, hb⟩
    have HW7 := Lib.hid (HW6.out.trans (hb.mono HW6.out.size)); clear hb
    go_wp2_with fail
    refine (base_none (some ⟨W.heap.size + 1, 0, none⟩) none _ (HG1.out.below HW7.out)).mono ?_
    rintro e w8 ⟨rfl, hb⟩
    have HW8 := Lib.hid (HW7.out.trans (hb.mono HW7.out.size)); clear hb
    go_wp2_with fail
    refine (sameBase_none _).mono ?_
    rintro e w9 ⟨rfl, hb⟩
    have HW9 := Lib.hid (HW8.out.trans (hb.mono HW8.out.size)); clear hb
    go_wp2_with fail
    refine (copy_none (some ⟨W.heap.size + 1, 0, none⟩) _ (HG1.out.below HW9.out)).mono ?_
    rintro e w10 ⟨rfl, hb⟩
    have HW10 := Lib.hid (HW9.out.trans (hb.mono HW9.out.size)); clear hb
    go_wp2_with fail
    go_roundw
    case rel => exact ⟨2, by go_num, by omega, HW10.out⟩
    case measure => simp [intOf]
  ·obtain rfl : k = 2 := by omega
   have HW0 := Lib.hid hbel0
   clear hbel0
   go_wp2_with fail
   refine (known12_any _).mono ?_
   rintro e w9 ⟨rfl, hb⟩
   have HW9 := Lib.hid (HB.out.trans ((HW0.out.trans (hb.mono HW0.out.size)).mono HB.out.size)); clear hb
   go_wp2_with fail
   go_ret
   exact ⟨rfl, HW9.out⟩
end Go.Proofs.YtiiidmphmojlgaaGreat
