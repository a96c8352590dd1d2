import Derived.Test.YtbciopieciglmaaZLeaf27
namespace Go.Proofs.Ytbciopieciglmaa
open Go.RowKit Go.Buf Go.LB Go.Lib
set_option linter.unusedSimpArgs false
set_option linter.unusedVariables false
set_option maxRecDepth 100000 in
set_option maxHeartbeats 12800000 in
theorem refmayY4 (kk : Nat) (n : Int) (t r i s : Nat) (x : ByteArray) (ia : Option Addr) (il ic : Nat) (da : Option Addr) (dl dc : Nat) (li : List Lm.It) (ld : List Dt.Dot) (W : World) (hi : IRow W ia ic li) (hil : li.length = il) (hd : VRow W da dc ld) (hdl : ld.length = dl) (hx : x.size ≤ 9223372036854775807) (hn1 : il ≤ 1000000) (hn2 : dl ≤ 1000000) (hk : kk = 4) (hn : n = 0) (ht : t = 0) (z_r : r = 0) (z_i : i = 0) (z_s : s = 0) (hx0 : x = ⟨#[]⟩) (h1 : dl = 0) :
  Calls Try.prog 13 #[leafV kk n t r i s x ia il ic da dl dc] W fun e w' => e = .returned (.bool (Lm.refMay ⟨kk, n, t, ((r, i), s), x, li, ld⟩)) ∧ Below W.heap.size W w' := by
 subst hk hn ht z_r z_i z_s hx0 h1
 obtain ⟨X, hX⟩ : ∃ X, X = ((W.alloc (.cells #[.int .u8 (4 : Nat), .int .i64 0, .int .u64 (0 : Nat), .int .u8 (0 : Nat), .int .u32 (0 : Nat), .int .u64 (0 : Nat), .string ⟨#[]⟩, .slice ia il ic, .slice da 0 dc] 40)).alloc (.cells #[.int .u8 0, .int .u32 0, .int .u64 0] 31)) := ⟨_, rfl⟩
 have HBox := Lib.hid (below_box W #[.int .u8 (4 : Nat), .int .i64 0, .int .u64 (0 : Nat), .int .u8 (0 : Nat), .int .u32 (0 : Nat), .int .u64 (0 : Nat), .string ⟨#[]⟩, .slice ia il ic, .slice da 0 dc] 40)
 have HWX := Lib.hid (show Below W.heap.size W X by rw [hX]; exact HBox.out.alloc HBox.out.size _)
 have HCells := Lib.hid (show ∀ w1, Below X.heap.size X w1 → _ from fun w1 hb => leafcells2 (by rw [hX] at hb; exact hb))
 have hic := hi.cap; have hdc := hd.cap; have hile := hi.le; have hdle := hd.le
 rw [hil] at hile; rw [hdl] at hdle
 have HI := Lib.hid hi; have HIl := Lib.hid hil; have HD := Lib.hid hd; have HDl := Lib.hid hdl; have HX := Lib.hid hx
 clear hi hil hd hdl hx
 go_enter Try.func13, Try.ntmps13
 go_wp2_with fail
 go_loopw [4] (fun v wr => ∃ k : Nat, v = .int .i64 k ∧ k ≤ il ∧ Below X.heap.size X wr ∧ ∀ j, j < k → Lm.refAt 4 li ld j = true) (fun v _ => il - (intOf v).toNat)
 case atStart => exact ⟨0, rfl, by omega, by rw [hX]; exact Below.refl _ _, fun j h => by omega⟩
 case round =>
  obtain ⟨k, rfl, hkn, hbel, hall⟩ := hrel
  have HW := Lib.hid hbel; have HAll := Lib.hid hall
  have HWW := Lib.hid (HWX.out.trans (hbel.mono HWX.out.size))
  obtain ⟨hc0, hc1, hc2, hc3, hc4, hc5, hc6, hc7, hc8⟩ := HCells.out wr hbel
  clear hbel hall
  by_cases hlt : k < il
  ·obtain ⟨y, hy⟩ := geti_some (l := li) (i := k) (by rw [HIl.out]; exact hlt)
   have hok := HI.out.ok y (List.mem_of_getElem? hy)
   obtain ⟨blk, off, rfl, hblk, hcells⟩ := HI.out.at (by rw [HIl.out]; omega)
   obtain ⟨g0, g1, g2, g3, g4⟩ := hcells k y hy
   have q0 := (HWW.out.cell (p := ⟨blk, off + k * 5, none⟩) hblk).trans g0
   have q1 := (HWW.out.cell (p := ⟨blk, off + k * 5 + 1, none⟩) hblk).trans g1
   have q2 := (HWW.out.cell (p := ⟨blk, off + k * 5 + 2, none⟩) hblk).trans g2
   have q3 := (HWW.out.cell (p := ⟨blk, off + k * 5 + 3, none⟩) hblk).trans g3
   have q4 := (HWW.out.cell (p := ⟨blk, off + k * 5 + 4, none⟩) hblk).trans g4
   have HY := Lib.hid hy; have HOk := Lib.hid hok; have HCe := Lib.hid hcells
   have hx40 := HOk.out.2.2
   have k0 : (0 : Int) ≤ (k : Int) := by omega
   have k1 : (k : Int) < (il : Int) := by omega
   have hw1 : IntKind.i64.wrap ((k : Int) + 1) = (k : Int) + 1 := by simp [IntKind.wrap, IntKind.bits, IntKind.signed]; omega
   have hw2 : IntKind.i64.wrap ((k : Int) - 1) = (k : Int) - 1 := by simp [IntKind.wrap, IntKind.bits, IntKind.signed]; omega
   have HBoxI := Lib.hid (HW.out.alloc HW.out.size (.cells #[.int .u64 (y.1 : Int), .int .u8 (y.2.1.1.1 : Int), .int .u32 (y.2.1.1.2 : Int), .int .u64 (y.2.1.2 : Int), .string y.2.2] 51))
   clear hy hok hcells g0 g1 g2 g3 g4
   go_wp2_with fail
   refine (refmay_any y.2.1.1.1 y.2.1.1.2 y.2.1.2 _).mono ?_
   rintro e w1 ⟨rfl, hb⟩
   have HW1 := Lib.hid (HBoxI.out.trans (hb.mono HBoxI.out.size))
   have HWW1 := Lib.hid (HWX.out.trans (HW1.out.mono HWX.out.size))
   have HBI := Lib.hid ((Blk.new wr #[.int .u64 (y.1 : Int), .int .u8 (y.2.1.1.1 : Int), .int .u32 (y.2.1.1.2 : Int), .int .u64 (y.2.1.2 : Int), .string y.2.2] 51).below hb)
   obtain ⟨lc0, lc1, lc2, lc3, lc4, lc5, lc6, lc7, lc8⟩ := HCells.out w1 HW1.out
   have b0 := HBI.out.cell 0; have b1 := HBI.out.cell 1; have b2 := HBI.out.cell 2; have b3 := HBI.out.cell 3; have b4 := HBI.out.cell 4
   simp only [List.getElem?_cons_succ, List.getElem?_cons_zero] at b0 b1 b2 b3 b4
   clear hb q0 q1 q2 q3 q4 hc0 hc1 hc2 hc3 hc4 hc5 hc6 hc7 hc8
   cases hcm : Dt.may ((y.2.1.1.1, y.2.1.1.2), y.2.1.2)
   ·have HCm := Lib.hid (show Dt.may y.2.1 = false from hcm); clear hcm
    go_wp2_with fail
    go_ret
    exact ⟨ret_bool (refMay_item (i := k) (by show k < li.length; rw [HIl.out]; exact hlt) (by rw [refAt_of HY.out]; simp [HCm.out])).symm, HWW1.out⟩
   have HCm := Lib.hid (show Dt.may y.2.1 = true from hcm); clear hcm
   by_cases hsz : 40 < y.2.2.size
   ·have d1 : (40 : Int) < (y.2.2.size : Int) := by omega
    have HSz := Lib.hid (show ¬ y.2.2.size ≤ 40 by omega)
    clear hsz
    go_wp2_with fail
    go_ret
    exact ⟨ret_bool (refMay_item (i := k) (by show k < li.length; rw [HIl.out]; exact hlt) (by rw [refAt_of HY.out]; simp [HSz.out])).symm, HWW1.out⟩
   have dsz : ¬ (40 : Int) < (y.2.2.size : Int) := by omega
   have HSz := Lib.hid (show y.2.2.size ≤ 40 by omega)
   clear hsz
   by_cases htm : y.1 < 1
   ·have d1 : (y.1 : Int) < 1 := by omega
    have HTm := Lib.hid (show y.1 = 0 by omega)
    clear htm
    go_wp2_with fail
    go_ret
    exact ⟨ret_bool (refMay_item (i := k) (by show k < li.length; rw [HIl.out]; exact hlt) (by rw [refAt_of HY.out]; simp [HTm.out])).symm, HWW1.out⟩
   have dt1 : ¬ (y.1 : Int) < 1 := by omega
   have HTm := Lib.hid (show ¬ y.1 = 0 by omega)
   clear htm
   by_cases htx : 1099511627776 < y.1
   ·have d1 : (1099511627776 : Int) < (y.1 : Int) := by omega
    have HTx := Lib.hid htx
    clear htx
    go_wp2_with fail
    go_ret
    exact ⟨ret_bool (refMay_item (i := k) (by show k < li.length; rw [HIl.out]; exact hlt) (by rw [refAt_of HY.out]; simp [HTx.out])).symm, HWW1.out⟩
   have dt2 : ¬ (1099511627776 : Int) < (y.1 : Int) := by omega
   have HTx := Lib.hid htx
   clear htx
   go_wp2_with fail
   refine (refitem_any (some ⟨blk, off, none⟩) il ic y.2.1.1.1 y.2.1.1.2 y.2.1.2 li w1 (HI.out.below HWW1.out) HIl.out).mono ?_
   rintro e w2 ⟨rfl, hb⟩
   have HW2 := Lib.hid (HW1.out.trans (hb.mono HW1.out.size))
   have HWW2 := Lib.hid (HWX.out.trans (HW2.out.mono HWX.out.size))
   have HBI2 := Lib.hid (HBI.out.below hb)
   clear lc0 lc1 lc2 lc3 lc4 lc5 lc6 lc7 lc8 b0 b1 b2 b3 b4
   obtain ⟨lc0, lc1, lc2, lc3, lc4, lc5, lc6, lc7, lc8⟩ := HCells.out w2 HW2.out
   have b0 := HBI2.out.cell 0; have b1 := HBI2.out.cell 1; have b2 := HBI2.out.cell 2; have b3 := HBI2.out.cell 3; have b4 := HBI2.out.cell 4
   simp only [List.getElem?_cons_succ, List.getElem?_cons_zero] at b0 b1 b2 b3 b4
   clear hb
   obtain ⟨J, hJ⟩ : ∃ J, J = Lm.idx li ((y.2.1.1.1, y.2.1.1.2), y.2.1.2) := ⟨_, rfl⟩
   rw [← hJ]
   have HJ := Lib.hid (show Lm.idx li y.2.1 = J from hJ.symm)
   clear hJ
   by_cases hjk : J = (k : Int)
   case neg =>
    have d1 : (J == (k : Int)) = false := by simpa using hjk
    have d2 : (J != (k : Int)) = true := by simpa using hjk
    have HJk := Lib.hid hjk
    clear hjk
    go_wp2_with fail
    go_ret
    exact ⟨ret_bool (refMay_item (i := k) (by show k < li.length; rw [HIl.out]; exact hlt) (by rw [refAt_of HY.out]; simp [HJ.out, HJk.out])).symm, HWW2.out⟩
   have d1 : (J == (k : Int)) = true := by simpa using hjk
   have d2 : (J != (k : Int)) = false := by simpa using hjk
   have HJk := Lib.hid hjk
   clear hjk
   go_wp2_with fail
   refine (reftomb_any da 0 dc y.2.1.1.1 y.2.1.1.2 y.2.1.2 ld w2 (HD.out.below HWW2.out) HDl.out).mono ?_
   rintro e w3 ⟨rfl, hb⟩
   have HW3 := Lib.hid (HW2.out.trans (hb.mono HW2.out.size))
   have HWW3 := Lib.hid (HWX.out.trans (HW3.out.mono HWX.out.size))
   have HBI3 := Lib.hid (HBI2.out.below hb)
   clear lc0 lc1 lc2 lc3 lc4 lc5 lc6 lc7 lc8 b0 b1 b2 b3 b4 d1 d2
   cases hth : Lm.hasD ld ((y.2.1.1.1, y.2.1.1.2), y.2.1.2)
   case true =>
    have HTh := Lib.hid (show Lm.hasD ld y.2.1 = true from hth)
    clear hth hb
    go_wp2_with fail
    go_ret
    exact ⟨ret_bool (refMay_item (i := k) (by show k < li.length; rw [HIl.out]; exact hlt) (by rw [refAt_of HY.out]; simp [HTh.out])).symm, HWW3.out⟩
   have HTh := Lib.hid (show Lm.hasD ld y.2.1 = false from hth)
   clear hth hb
   have hB3 := HBI3.out
   obtain ⟨lc0, lc1, lc2, lc3, lc4, lc5, lc6, lc7, lc8⟩ := HCells.out w3 HW3.out
   have b0 := hB3.cell 0; have b1 := hB3.cell 1; have b2 := hB3.cell 2; have b3 := hB3.cell 3; have b4 := hB3.cell 4
   simp only [List.getElem?_cons_succ, List.getElem?_cons_zero] at b0 b1 b2 b3 b4
   clear hB3
   have hC : ∀ w4, Below w3.heap.size w3 w4 → w4.cell? ⟨W.heap.size, 0, none⟩ = some (.int .u8 (4 : Nat)) ∧ w4.cell? ⟨W.heap.size, 7, none⟩ = some (.slice (some ⟨blk, off, none⟩) il ic) ∧ w4.cell? ⟨wr.heap.size, 0, none⟩ = some (.int .u64 (y.1 : Int)) ∧ w4.cell? ⟨wr.heap.size, 1, none⟩ = some (.int .u8 (y.2.1.1.1 : Int)) ∧ w4.cell? ⟨wr.heap.size, 2, none⟩ = some (.int .u32 (y.2.1.1.2 : Int)) ∧ w4.cell? ⟨wr.heap.size, 3, none⟩ = some (.int .u64 (y.2.1.2 : Int)) ∧ w4.cell? ⟨wr.heap.size, 4, none⟩ = some (.string y.2.2) := fun w4 h =>
    ⟨(h.cell (World.block_lt_of_cell? _ _ lc0)).trans lc0, (h.cell (World.block_lt_of_cell? _ _ lc7)).trans lc7, (h.cell (World.block_lt_of_cell? _ _ b0)).trans b0, (h.cell (World.block_lt_of_cell? _ _ b1)).trans b1, (h.cell (World.block_lt_of_cell? _ _ b2)).trans b2, (h.cell (World.block_lt_of_cell? _ _ b3)).trans b3, (h.cell (World.block_lt_of_cell? _ _ b4)).trans b4⟩
   have HC := Lib.hid hC
   clear hC lc0 lc1 lc2 lc3 lc4 lc5 lc6 lc7 lc8 b0 b1 b2 b3 b4
   by_cases hk0 : k = 0
   ·have e0 : ¬ (0 : Int) < (k : Int) := by omega
    have HK0 := Lib.hid hk0
    clear hk0
    go_wp2_with fail
    refine Reg.region_list (by kernel_rfl) [fun v _ => v = .int .i64 (k : Int), fun v _ => v = .bool false, fun v _ => v = .bool false, fun v _ => v = undef, fun v _ => v = undef, fun v _ => v = undef, fun v _ => v = undef, fun v _ => v = undef, fun v _ => v = undef, fun v _ => v = undef, fun v _ => v = undef, fun v _ => v = undef, fun v _ => v = undef, fun v _ => v = undef, fun v _ => v = undef, fun v _ => v = undef, fun v _ => v = undef, fun v _ => v = undef, fun v _ => v = undef, fun v _ => v = undef, fun v _ => v = undef, fun v _ => v = undef, fun v _ => v = undef, fun v _ => v = .bool false] (by kernel_rfl) ?_ ?_ ?_
    ·refine ⟨k4, k4, k4, k4, k4, k4, k4, k4, k4, k4, k4, k4, k4, k4, k4, k4, k4, k4, k4, k4, k4, k4, k4, k4, trivial⟩
    ·refine ⟨?_, ?_, ?_, ?_, ?_, ?_, ?_, ?_, ?_, ?_, ?_, ?_, ?_, ?_, ?_, ?_, ?_, ?_, ?_, ?_, ?_, ?_, ?_, ?_, trivial⟩
     ·intro ev w hc hf hg hfix hdep hbel
      have e4 : ev (.tmp 4) = _ := hfix 4 (by decide)
      exact okb trivial rfl (by go_simp)
     ·intro ev w hc hf hg hfix hdep hbel
      have e148 : ev (.tmp 148) = _ := hdep 0 (by decide)
      exact Or.inl ⟨trivial, Or.inl ⟨.bool false, w, by (go_simp; have := HK0.out; omega), rfl, Below.refl _ _⟩⟩
     ·intro ev w hc hf hg hfix hdep hbel
      have e149 : ev (.tmp 149) = _ := hdep 1 (by decide)
      exact okb trivial rfl (by go_simp)
     ·intro ev w hc hf hg hfix hdep hbel
      have fg : ev (.tmp 150) = _ := hdep 2 (by decide)
      exact Or.inr ⟨Or.inl fg, rfl⟩
     ·intro ev w hc hf hg hfix hdep hbel
      have fg : ev (.tmp 150) = _ := hdep 2 (by decide)
      exact Or.inr ⟨Or.inl fg, rfl⟩
     ·intro ev w hc hf hg hfix hdep hbel
      have fg : ev (.tmp 150) = _ := hdep 2 (by decide)
      exact Or.inr ⟨Or.inl fg, rfl⟩
     ·intro ev w hc hf hg hfix hdep hbel
      have fg : ev (.tmp 150) = _ := hdep 2 (by decide)
      exact Or.inr ⟨Or.inl fg, rfl⟩
     ·intro ev w hc hf hg hfix hdep hbel
      have fg : ev (.tmp 150) = _ := hdep 2 (by decide)
      exact Or.inr ⟨Or.inl fg, rfl⟩
     ·intro ev w hc hf hg hfix hdep hbel
      have fg : ev (.tmp 150) = _ := hdep 2 (by decide)
      exact Or.inr ⟨Or.inl fg, rfl⟩
     ·intro ev w hc hf hg hfix hdep hbel
      have fg : ev (.tmp 150) = _ := hdep 2 (by decide)
      exact Or.inr ⟨Or.inl fg, rfl⟩
     ·intro ev w hc hf hg hfix hdep hbel
      have fg : ev (.tmp 150) = _ := hdep 2 (by decide)
      exact Or.inr ⟨Or.inl fg, rfl⟩
     ·intro ev w hc hf hg hfix hdep hbel
      have fg : ev (.tmp 150) = _ := hdep 2 (by decide)
      exact Or.inr ⟨Or.inl fg, rfl⟩
     ·intro ev w hc hf hg hfix hdep hbel
      have fg : ev (.tmp 150) = _ := hdep 2 (by decide)
      exact Or.inr ⟨Or.inl fg, rfl⟩
     ·intro ev w hc hf hg hfix hdep hbel
      have fg : ev (.tmp 150) = _ := hdep 2 (by decide)
      exact Or.inr ⟨Or.inl fg, rfl⟩
     ·intro ev w hc hf hg hfix hdep hbel
      have fg : ev (.tmp 150) = _ := hdep 2 (by decide)
      exact Or.inr ⟨Or.inl fg, rfl⟩
     ·intro ev w hc hf hg hfix hdep hbel
      have fg : ev (.tmp 150) = _ := hdep 2 (by decide)
      exact Or.inr ⟨Or.inl fg, rfl⟩
     ·intro ev w hc hf hg hfix hdep hbel
      have fg : ev (.tmp 150) = _ := hdep 2 (by decide)
      exact Or.inr ⟨Or.inl fg, rfl⟩
     ·intro ev w hc hf hg hfix hdep hbel
      have fg : ev (.tmp 150) = _ := hdep 2 (by decide)
      exact Or.inr ⟨Or.inl fg, rfl⟩
     ·intro ev w hc hf hg hfix hdep hbel
      have fg : ev (.tmp 150) = _ := hdep 2 (by decide)
      exact Or.inr ⟨Or.inl fg, rfl⟩
     ·intro ev w hc hf hg hfix hdep hbel
      have fg : ev (.tmp 150) = _ := hdep 2 (by decide)
      exact Or.inr ⟨Or.inl fg, rfl⟩
     ·intro ev w hc hf hg hfix hdep hbel
      have fg : ev (.tmp 150) = _ := hdep 2 (by decide)
      exact Or.inr ⟨Or.inl fg, rfl⟩
     ·intro ev w hc hf hg hfix hdep hbel
      have fg : ev (.tmp 150) = _ := hdep 2 (by decide)
      exact Or.inr ⟨Or.inl fg, rfl⟩
     ·intro ev w hc hf hg hfix hdep hbel
      have fg : ev (.tmp 150) = _ := hdep 2 (by decide)
      exact Or.inr ⟨Or.inl fg, rfl⟩
     ·intro ev w hc hf hg hfix hdep hbel
      have e150 : ev (.tmp 150) = _ := hdep 2 (by decide)
      have e170 : ev (.tmp 170) = _ := hdep 22 (by decide)
      exact okb trivial rfl (by go_simp)
    ·intro v w2 hv hb2
     have r0 : v 0 = _ := hv 0 (by decide)
     have r1 : v 1 = _ := hv 1 (by decide)
     have r2 : v 2 = _ := hv 2 (by decide)
     have r3 : v 3 = _ := hv 3 (by decide)
     have r4 : v 4 = _ := hv 4 (by decide)
     have r5 : v 5 = _ := hv 5 (by decide)
     have r6 : v 6 = _ := hv 6 (by decide)
     have r7 : v 7 = _ := hv 7 (by decide)
     have r8 : v 8 = _ := hv 8 (by decide)
     have r9 : v 9 = _ := hv 9 (by decide)
     have r10 : v 10 = _ := hv 10 (by decide)
     have r11 : v 11 = _ := hv 11 (by decide)
     have r12 : v 12 = _ := hv 12 (by decide)
     have r13 : v 13 = _ := hv 13 (by decide)
     have r14 : v 14 = _ := hv 14 (by decide)
     have r15 : v 15 = _ := hv 15 (by decide)
     have r16 : v 16 = _ := hv 16 (by decide)
     have r17 : v 17 = _ := hv 17 (by decide)
     have r18 : v 18 = _ := hv 18 (by decide)
     have r19 : v 19 = _ := hv 19 (by decide)
     have r20 : v 20 = _ := hv 20 (by decide)
     have r21 : v 21 = _ := hv 21 (by decide)
     have r22 : v 22 = _ := hv 22 (by decide)
     have r23 : v 23 = _ := hv 23 (by decide)
     simp only [Reg.putAll, Act.put, List.setIfInBounds_toArray, List.set_cons_zero, List.set_cons_succ, r0, r1, r2, r3, r4, r5, r6, r7, r8, r9, r10, r11, r12, r13, r14, r15, r16, r17, r18, r19, r20, r21, r22, r23]
     clear r0 r1 r2 r3 r4 r5 r6 r7 r8 r9 r10 r11 r12 r13 r14 r15 r16 r17 r18 r19 r20 r21 r22 r23 hv
     have HW4 := Lib.hid (HW3.out.trans (hb2.mono HW3.out.size)); clear hb2
     go_wp2_with fail
     go_roundw
     case rel => exact ⟨k + 1, by go_num, by omega, HW4.out, fun j hj => by
      by_cases e : j = k
      ·rw [e, refAt_of HY.out]; simp [HCm.out, HSz.out, HTm.out, HTx.out, HJ.out, HJk.out, HTh.out, HK0.out]
      ·exact HAll.out j (by omega)⟩
     case measure => simp [intOf]; omega
   ·obtain ⟨p, hp⟩ : ∃ p, k = p + 1 := ⟨k - 1, by omega⟩
    obtain ⟨y0, hy0⟩ := geti_some (l := li) (i := p) (by rw [HIl.out]; omega)
    obtain ⟨g0, g1, g2, g3, g4⟩ := HCe.out p y0 hy0
    have q0 := (HWW3.out.cell (p := ⟨blk, off + p * 5, none⟩) hblk).trans g0
    have q1 := (HWW3.out.cell (p := ⟨blk, off + p * 5 + 1, none⟩) hblk).trans g1
    have q2 := (HWW3.out.cell (p := ⟨blk, off + p * 5 + 2, none⟩) hblk).trans g2
    have q3 := (HWW3.out.cell (p := ⟨blk, off + p * 5 + 3, none⟩) hblk).trans g3
    have hC2 : ∀ w4, Below w3.heap.size w3 w4 → w4.cell? ⟨blk, off + p * 5, none⟩ = some (.int .u64 (y0.1 : Int)) ∧ w4.cell? ⟨blk, off + p * 5 + 1, none⟩ = some (.int .u8 (y0.2.1.1.1 : Int)) ∧ w4.cell? ⟨blk, off + p * 5 + 2, none⟩ = some (.int .u32 (y0.2.1.1.2 : Int)) ∧ w4.cell? ⟨blk, off + p * 5 + 3, none⟩ = some (.int .u64 (y0.2.1.2 : Int)) := fun w4 h =>
     ⟨(h.cell (World.block_lt_of_cell? _ _ q0)).trans q0, (h.cell (World.block_lt_of_cell? _ _ q1)).trans q1, (h.cell (World.block_lt_of_cell? _ _ q2)).trans q2, (h.cell (World.block_lt_of_cell? _ _ q3)).trans q3⟩
    have HC2 := Lib.hid hC2; have HY0 := Lib.hid hy0
    have e0 : (0 : Int) < (k : Int) := by omega
    have hkp : (k : Int) - 1 = (p : Int) := by omega
    have hwq : IntKind.i64.wrap (p : Int) = (p : Int) := by simp [IntKind.wrap, IntKind.bits, IntKind.signed]; omega
    have p0 : (0 : Int) ≤ (p : Int) := by omega
    have p1 : (p : Int) < (il : Int) := by omega
    have hgd : (li[k - 1]?).getD Lm.z = y0 := by rw [hp, Nat.add_sub_cancel, HY0.out]; rfl
    have HGd := Lib.hid hgd
    have HK0 := Lib.hid hk0
    clear hC2 hy0 g0 g1 g2 g3 g4 q0 q1 q2 q3 hgd hp hk0
    cases hAh : Lm.aheadI y0 y
    ·have HA := Lib.hid hAh
     clear hAh
     go_wp2_with fail
     refine Reg.region_list (by kernel_rfl) [fun v _ => v = .int .i64 (k : Int), fun v _ => v = .bool true, fun v _ => v = .bool true, fun v _ => v = .pointer (some ⟨W.heap.size, 7, none⟩), fun v _ => v = .slice (some ⟨blk, off, none⟩) il ic, fun v _ => v = .int .i64 (k : Int), fun v _ => v = .int .i64 (p : Int), fun v _ => v = .pointer (some ⟨blk, off + p * 5, none⟩), fun v _ => v = .pointer (some ⟨blk, off + p * 5, none⟩), fun v _ => v = .int .u64 (y0.1 : Int), fun v _ => v = .pointer (some ⟨W.heap.size, 7, none⟩), fun v _ => v = .slice (some ⟨blk, off, none⟩) il ic, fun v _ => v = .int .i64 (k : Int), fun v _ => v = .int .i64 (p : Int), fun v _ => v = .pointer (some ⟨blk, off + p * 5, none⟩), fun v _ => v = .pointer (some ⟨blk, off + p * 5 + 1, none⟩), fun v _ => v = .agg #[.int .u8 (y0.2.1.1.1 : Int), .int .u32 (y0.2.1.1.2 : Int), .int .u64 (y0.2.1.2 : Int)], fun v _ => v = .pointer (some ⟨wr.heap.size, 0, none⟩), fun v _ => v = .int .u64 (y.1 : Int), fun v _ => v = .pointer (some ⟨wr.heap.size, 1, none⟩), fun v _ => v = .agg #[.int .u8 (y.2.1.1.1 : Int), .int .u32 (y.2.1.1.2 : Int), .int .u64 (y.2.1.2 : Int)], fun v _ => v = .bool false, fun v _ => v = .bool true, fun v _ => v = .bool true] (by kernel_rfl) ?_ ?_ ?_
     ·refine ⟨k4, k4, k4, k4, k4, k4, k4, k4, k4, k4, k4, k4, k4, k4, k4, k4, k4, k4, k4, k4, k4, k4, k4, k4, trivial⟩
     ·refine ⟨?_, ?_, ?_, ?_, ?_, ?_, ?_, ?_, ?_, ?_, ?_, ?_, ?_, ?_, ?_, ?_, ?_, ?_, ?_, ?_, ?_, ?_, ?_, ?_, trivial⟩
      ·intro ev w hc hf hg hfix hdep hbel
       have e4 : ev (.tmp 4) = _ := hfix 4 (by decide)
       exact okb trivial rfl (by go_simp)
      ·intro ev w hc hf hg hfix hdep hbel
       have e148 : ev (.tmp 148) = _ := hdep 0 (by decide)
       exact Or.inl ⟨trivial, Or.inl ⟨.bool true, w, by (go_simp; have := HK0.out; omega), rfl, Below.refl _ _⟩⟩
      ·intro ev w hc hf hg hfix hdep hbel
       have e149 : ev (.tmp 149) = _ := hdep 1 (by decide)
       exact okb trivial rfl (by go_simp)
      ·intro ev w hc hf hg hfix hdep hbel
       have fg : ev (.tmp 150) = _ := hdep 2 (by decide)
       have e1 : ev (.tmp 1) = _ := hfix 1 (by decide)
       exact okb fg rfl (by go_simp)
      ·intro ev w hc hf hg hfix hdep hbel
       have fg : ev (.tmp 150) = _ := hdep 2 (by decide)
       have e151 : ev (.tmp 151) = _ := hdep 3 (by decide)
       obtain ⟨lc0, lc7, b0, b1, b2, b3, b4⟩ := HC.out w (undrew hbel)
       obtain ⟨q0, q1, q2, q3⟩ := HC2.out w (undrew hbel)
       exact okb fg rfl (by go_simp)
      ·intro ev w hc hf hg hfix hdep hbel
       have fg : ev (.tmp 150) = _ := hdep 2 (by decide)
       have e4 : ev (.tmp 4) = _ := hfix 4 (by decide)
       exact okb fg rfl (by go_simp)
      ·intro ev w hc hf hg hfix hdep hbel
       have fg : ev (.tmp 150) = _ := hdep 2 (by decide)
       have e153 : ev (.tmp 153) = _ := hdep 5 (by decide)
       exact Or.inl ⟨fg, Or.inl ⟨.int .i64 (p : Int), w, by (go_simp; try exact hwq), rfl, Below.refl _ _⟩⟩
      ·intro ev w hc hf hg hfix hdep hbel
       have fg : ev (.tmp 150) = _ := hdep 2 (by decide)
       have e152 : ev (.tmp 152) = _ := hdep 4 (by decide)
       have e154 : ev (.tmp 154) = _ := hdep 6 (by decide)
       exact okb fg rfl (by go_simp)
      ·intro ev w hc hf hg hfix hdep hbel
       have fg : ev (.tmp 150) = _ := hdep 2 (by decide)
       have e155 : ev (.tmp 155) = _ := hdep 7 (by decide)
       exact okb fg rfl (by go_simp)
      ·intro ev w hc hf hg hfix hdep hbel
       have fg : ev (.tmp 150) = _ := hdep 2 (by decide)
       have e156 : ev (.tmp 156) = _ := hdep 8 (by decide)
       obtain ⟨lc0, lc7, b0, b1, b2, b3, b4⟩ := HC.out w (undrew hbel)
       obtain ⟨q0, q1, q2, q3⟩ := HC2.out w (undrew hbel)
       exact okb fg rfl (by go_simp)
      ·intro ev w hc hf hg hfix hdep hbel
       have fg : ev (.tmp 150) = _ := hdep 2 (by decide)
       have e1 : ev (.tmp 1) = _ := hfix 1 (by decide)
       exact okb fg rfl (by go_simp)
      ·intro ev w hc hf hg hfix hdep hbel
       have fg : ev (.tmp 150) = _ := hdep 2 (by decide)
       have e158 : ev (.tmp 158) = _ := hdep 10 (by decide)
       obtain ⟨lc0, lc7, b0, b1, b2, b3, b4⟩ := HC.out w (undrew hbel)
       obtain ⟨q0, q1, q2, q3⟩ := HC2.out w (undrew hbel)
       exact okb fg rfl (by go_simp)
      ·intro ev w hc hf hg hfix hdep hbel
       have fg : ev (.tmp 150) = _ := hdep 2 (by decide)
       have e4 : ev (.tmp 4) = _ := hfix 4 (by decide)
       exact okb fg rfl (by go_simp)
      ·intro ev w hc hf hg hfix hdep hbel
       have fg : ev (.tmp 150) = _ := hdep 2 (by decide)
       have e160 : ev (.tmp 160) = _ := hdep 12 (by decide)
       exact Or.inl ⟨fg, Or.inl ⟨.int .i64 (p : Int), w, by (go_simp; try exact hwq), rfl, Below.refl _ _⟩⟩
      ·intro ev w hc hf hg hfix hdep hbel
       have fg : ev (.tmp 150) = _ := hdep 2 (by decide)
       have e159 : ev (.tmp 159) = _ := hdep 11 (by decide)
       have e161 : ev (.tmp 161) = _ := hdep 13 (by decide)
       exact okb fg rfl (by go_simp)
      ·intro ev w hc hf hg hfix hdep hbel
       have fg : ev (.tmp 150) = _ := hdep 2 (by decide)
       have e162 : ev (.tmp 162) = _ := hdep 14 (by decide)
       exact okb fg rfl (by go_simp)
      ·intro ev w hc hf hg hfix hdep hbel
       have fg : ev (.tmp 150) = _ := hdep 2 (by decide)
       have e163 : ev (.tmp 163) = _ := hdep 15 (by decide)
       obtain ⟨lc0, lc7, b0, b1, b2, b3, b4⟩ := HC.out w (undrew hbel)
       obtain ⟨q0, q1, q2, q3⟩ := HC2.out w (undrew hbel)
       exact okb fg rfl (by go_simp)
      ·intro ev w hc hf hg hfix hdep hbel
       have fg : ev (.tmp 150) = _ := hdep 2 (by decide)
       have e5 : ev (.tmp 5) = _ := hfix 5 (by decide)
       exact okb fg rfl (by go_simp)
      ·intro ev w hc hf hg hfix hdep hbel
       have fg : ev (.tmp 150) = _ := hdep 2 (by decide)
       have e165 : ev (.tmp 165) = _ := hdep 17 (by decide)
       obtain ⟨lc0, lc7, b0, b1, b2, b3, b4⟩ := HC.out w (undrew hbel)
       obtain ⟨q0, q1, q2, q3⟩ := HC2.out w (undrew hbel)
       exact okb fg rfl (by go_simp)
      ·intro ev w hc hf hg hfix hdep hbel
       have fg : ev (.tmp 150) = _ := hdep 2 (by decide)
       have e5 : ev (.tmp 5) = _ := hfix 5 (by decide)
       exact okb fg rfl (by go_simp)
      ·intro ev w hc hf hg hfix hdep hbel
       have fg : ev (.tmp 150) = _ := hdep 2 (by decide)
       have e167 : ev (.tmp 167) = _ := hdep 19 (by decide)
       obtain ⟨lc0, lc7, b0, b1, b2, b3, b4⟩ := HC.out w (undrew hbel)
       obtain ⟨q0, q1, q2, q3⟩ := HC2.out w (undrew hbel)
       exact okb fg rfl (by go_simp)
      ·intro ev w hc hf hg hfix hdep hbel
       have fg : ev (.tmp 150) = _ := hdep 2 (by decide)
       have e157 : ev (.tmp 157) = _ := hdep 9 (by decide)
       have e164 : ev (.tmp 164) = _ := hdep 16 (by decide)
       have e166 : ev (.tmp 166) = _ := hdep 18 (by decide)
       have e168 : ev (.tmp 168) = _ := hdep 20 (by decide)
       refine Or.inl ⟨fg, Or.inr ⟨16, #[.int .u64 (y0.1 : Int), .agg #[.int .u8 (y0.2.1.1.1 : Int), .int .u32 (y0.2.1.1.2 : Int), .int .u64 (y0.2.1.2 : Int)], .int .u64 (y.1 : Int), .agg #[.int .u8 (y.2.1.1.1 : Int), .int .u32 (y.2.1.1.2 : Int), .int .u64 (y.2.1.2 : Int)]], w, by go_simp, ?_⟩⟩
       refine (refahead_any y0.1 y0.2.1.1.1 y0.2.1.1.2 y0.2.1.2 y.1 y.2.1.1.1 y.2.1.1.2 y.2.1.2 w).mono ?_
       rintro e w5 ⟨rfl, hb⟩
       exact ⟨_, rfl, by rw [← HA.out]; rfl, hb⟩
      ·intro ev w hc hf hg hfix hdep hbel
       have fg : ev (.tmp 150) = _ := hdep 2 (by decide)
       have e169 : ev (.tmp 169) = _ := hdep 21 (by decide)
       exact okb fg rfl (by go_simp)
      ·intro ev w hc hf hg hfix hdep hbel
       have e150 : ev (.tmp 150) = _ := hdep 2 (by decide)
       have e170 : ev (.tmp 170) = _ := hdep 22 (by decide)
       exact okb trivial rfl (by go_simp)
     ·intro v w2 hv hb2
      have r0 : v 0 = _ := hv 0 (by decide)
      have r1 : v 1 = _ := hv 1 (by decide)
      have r2 : v 2 = _ := hv 2 (by decide)
      have r3 : v 3 = _ := hv 3 (by decide)
      have r4 : v 4 = _ := hv 4 (by decide)
      have r5 : v 5 = _ := hv 5 (by decide)
      have r6 : v 6 = _ := hv 6 (by decide)
      have r7 : v 7 = _ := hv 7 (by decide)
      have r8 : v 8 = _ := hv 8 (by decide)
      have r9 : v 9 = _ := hv 9 (by decide)
      have r10 : v 10 = _ := hv 10 (by decide)
      have r11 : v 11 = _ := hv 11 (by decide)
      have r12 : v 12 = _ := hv 12 (by decide)
      have r13 : v 13 = _ := hv 13 (by decide)
      have r14 : v 14 = _ := hv 14 (by decide)
      have r15 : v 15 = _ := hv 15 (by decide)
      have r16 : v 16 = _ := hv 16 (by decide)
      have r17 : v 17 = _ := hv 17 (by decide)
      have r18 : v 18 = _ := hv 18 (by decide)
      have r19 : v 19 = _ := hv 19 (by decide)
      have r20 : v 20 = _ := hv 20 (by decide)
      have r21 : v 21 = _ := hv 21 (by decide)
      have r22 : v 22 = _ := hv 22 (by decide)
      have r23 : v 23 = _ := hv 23 (by decide)
      simp only [Reg.putAll, Act.put, List.setIfInBounds_toArray, List.set_cons_zero, List.set_cons_succ, r0, r1, r2, r3, r4, r5, r6, r7, r8, r9, r10, r11, r12, r13, r14, r15, r16, r17, r18, r19, r20, r21, r22, r23]
      clear r0 r1 r2 r3 r4 r5 r6 r7 r8 r9 r10 r11 r12 r13 r14 r15 r16 r17 r18 r19 r20 r21 r22 r23 hv
      have HW4 := Lib.hid (HW3.out.trans (hb2.mono HW3.out.size))
      have HWW4 := Lib.hid (HWX.out.trans (HW4.out.mono HWX.out.size))
      clear hb2
      go_wp2_with fail
      go_ret
      exact ⟨ret_bool (refMay_item (i := k) (by show k < li.length; rw [HIl.out]; exact hlt) (by rw [refAt_of HY.out]; simp [HGd.out, HA.out, HK0.out])).symm, HWW4.out⟩
    ·have HA := Lib.hid hAh
     clear hAh
     go_wp2_with fail
     refine Reg.region_list (by kernel_rfl) [fun v _ => v = .int .i64 (k : Int), fun v _ => v = .bool true, fun v _ => v = .bool true, fun v _ => v = .pointer (some ⟨W.heap.size, 7, none⟩), fun v _ => v = .slice (some ⟨blk, off, none⟩) il ic, fun v _ => v = .int .i64 (k : Int), fun v _ => v = .int .i64 (p : Int), fun v _ => v = .pointer (some ⟨blk, off + p * 5, none⟩), fun v _ => v = .pointer (some ⟨blk, off + p * 5, none⟩), fun v _ => v = .int .u64 (y0.1 : Int), fun v _ => v = .pointer (some ⟨W.heap.size, 7, none⟩), fun v _ => v = .slice (some ⟨blk, off, none⟩) il ic, fun v _ => v = .int .i64 (k : Int), fun v _ => v = .int .i64 (p : Int), fun v _ => v = .pointer (some ⟨blk, off + p * 5, none⟩), fun v _ => v = .pointer (some ⟨blk, off + p * 5 + 1, none⟩), fun v _ => v = .agg #[.int .u8 (y0.2.1.1.1 : Int), .int .u32 (y0.2.1.1.2 : Int), .int .u64 (y0.2.1.2 : Int)], fun v _ => v = .pointer (some ⟨wr.heap.size, 0, none⟩), fun v _ => v = .int .u64 (y.1 : Int), fun v _ => v = .pointer (some ⟨wr.heap.size, 1, none⟩), fun v _ => v = .agg #[.int .u8 (y.2.1.1.1 : Int), .int .u32 (y.2.1.1.2 : Int), .int .u64 (y.2.1.2 : Int)], fun v _ => v = .bool true, fun v _ => v = .bool false, fun v _ => v = .bool false] (by kernel_rfl) ?_ ?_ ?_
     ·refine ⟨k4, k4, k4, k4, k4, k4, k4, k4, k4, k4, k4, k4, k4, k4, k4, k4, k4, k4, k4, k4, k4, k4, k4, k4, trivial⟩
     ·refine ⟨?_, ?_, ?_, ?_, ?_, ?_, ?_, ?_, ?_, ?_, ?_, ?_, ?_, ?_, ?_, ?_, ?_, ?_, ?_, ?_, ?_, ?_, ?_, ?_, trivial⟩
      ·intro ev w hc hf hg hfix hdep hbel
       have e4 : ev (.tmp 4) = _ := hfix 4 (by decide)
       exact okb trivial rfl (by go_simp)
      ·intro ev w hc hf hg hfix hdep hbel
       have e148 : ev (.tmp 148) = _ := hdep 0 (by decide)
       exact Or.inl ⟨trivial, Or.inl ⟨.bool true, w, by (go_simp; have := HK0.out; omega), rfl, Below.refl _ _⟩⟩
      ·intro ev w hc hf hg hfix hdep hbel
       have e149 : ev (.tmp 149) = _ := hdep 1 (by decide)
       exact okb trivial rfl (by go_simp)
      ·intro ev w hc hf hg hfix hdep hbel
       have fg : ev (.tmp 150) = _ := hdep 2 (by decide)
       have e1 : ev (.tmp 1) = _ := hfix 1 (by decide)
       exact okb fg rfl (by go_simp)
      ·intro ev w hc hf hg hfix hdep hbel
       have fg : ev (.tmp 150) = _ := hdep 2 (by decide)
       have e151 : ev (.tmp 151) = _ := hdep 3 (by decide)
       obtain ⟨lc0, lc7, b0, b1, b2, b3, b4⟩ := HC.out w (undrew hbel)
       obtain ⟨q0, q1, q2, q3⟩ := HC2.out w (undrew hbel)
       exact okb fg rfl (by go_simp)
      ·intro ev w hc hf hg hfix hdep hbel
       have fg : ev (.tmp 150) = _ := hdep 2 (by decide)
       have e4 : ev (.tmp 4) = _ := hfix 4 (by decide)
       exact okb fg rfl (by go_simp)
      ·intro ev w hc hf hg hfix hdep hbel
       have fg : ev (.tmp 150) = _ := hdep 2 (by decide)
       have e153 : ev (.tmp 153) = _ := hdep 5 (by decide)
       exact Or.inl ⟨fg, Or.inl ⟨.int .i64 (p : Int), w, by (go_simp; try exact hwq), rfl, Below.refl _ _⟩⟩
      ·intro ev w hc hf hg hfix hdep hbel
       have fg : ev (.tmp 150) = _ := hdep 2 (by decide)
       have e152 : ev (.tmp 152) = _ := hdep 4 (by decide)
       have e154 : ev (.tmp 154) = _ := hdep 6 (by decide)
       exact okb fg rfl (by go_simp)
      ·intro ev w hc hf hg hfix hdep hbel
       have fg : ev (.tmp 150) = _ := hdep 2 (by decide)
       have e155 : ev (.tmp 155) = _ := hdep 7 (by decide)
       exact okb fg rfl (by go_simp)
      ·intro ev w hc hf hg hfix hdep hbel
       have fg : ev (.tmp 150) = _ := hdep 2 (by decide)
       have e156 : ev (.tmp 156) = _ := hdep 8 (by decide)
       obtain ⟨lc0, lc7, b0, b1, b2, b3, b4⟩ := HC.out w (undrew hbel)
       obtain ⟨q0, q1, q2, q3⟩ := HC2.out w (undrew hbel)
       exact okb fg rfl (by go_simp)
      ·intro ev w hc hf hg hfix hdep hbel
       have fg : ev (.tmp 150) = _ := hdep 2 (by decide)
       have e1 : ev (.tmp 1) = _ := hfix 1 (by decide)
       exact okb fg rfl (by go_simp)
      ·intro ev w hc hf hg hfix hdep hbel
       have fg : ev (.tmp 150) = _ := hdep 2 (by decide)
       have e158 : ev (.tmp 158) = _ := hdep 10 (by decide)
       obtain ⟨lc0, lc7, b0, b1, b2, b3, b4⟩ := HC.out w (undrew hbel)
       obtain ⟨q0, q1, q2, q3⟩ := HC2.out w (undrew hbel)
       exact okb fg rfl (by go_simp)
      ·intro ev w hc hf hg hfix hdep hbel
       have fg : ev (.tmp 150) = _ := hdep 2 (by decide)
       have e4 : ev (.tmp 4) = _ := hfix 4 (by decide)
       exact okb fg rfl (by go_simp)
      ·intro ev w hc hf hg hfix hdep hbel
       have fg : ev (.tmp 150) = _ := hdep 2 (by decide)
       have e160 : ev (.tmp 160) = _ := hdep 12 (by decide)
       exact Or.inl ⟨fg, Or.inl ⟨.int .i64 (p : Int), w, by (go_simp; try exact hwq), rfl, Below.refl _ _⟩⟩
      ·intro ev w hc hf hg hfix hdep hbel
       have fg : ev (.tmp 150) = _ := hdep 2 (by decide)
       have e159 : ev (.tmp 159) = _ := hdep 11 (by decide)
       have e161 : ev (.tmp 161) = _ := hdep 13 (by decide)
       exact okb fg rfl (by go_simp)
      ·intro ev w hc hf hg hfix hdep hbel
       have fg : ev (.tmp 150) = _ := hdep 2 (by decide)
       have e162 : ev (.tmp 162) = _ := hdep 14 (by decide)
       exact okb fg rfl (by go_simp)
      ·intro ev w hc hf hg hfix hdep hbel
       have fg : ev (.tmp 150) = _ := hdep 2 (by decide)
       have e163 : ev (.tmp 163) = _ := hdep 15 (by decide)
       obtain ⟨lc0, lc7, b0, b1, b2, b3, b4⟩ := HC.out w (undrew hbel)
       obtain ⟨q0, q1, q2, q3⟩ := HC2.out w (undrew hbel)
       exact okb fg rfl (by go_simp)
      ·intro ev w hc hf hg hfix hdep hbel
       have fg : ev (.tmp 150) = _ := hdep 2 (by decide)
       have e5 : ev (.tmp 5) = _ := hfix 5 (by decide)
       exact okb fg rfl (by go_simp)
      ·intro ev w hc hf hg hfix hdep hbel
       have fg : ev (.tmp 150) = _ := hdep 2 (by decide)
       have e165 : ev (.tmp 165) = _ := hdep 17 (by decide)
       obtain ⟨lc0, lc7, b0, b1, b2, b3, b4⟩ := HC.out w (undrew hbel)
       obtain ⟨q0, q1, q2, q3⟩ := HC2.out w (undrew hbel)
       exact okb fg rfl (by go_simp)
      ·intro ev w hc hf hg hfix hdep hbel
       have fg : ev (.tmp 150) = _ := hdep 2 (by decide)
       have e5 : ev (.tmp 5) = _ := hfix 5 (by decide)
       exact okb fg rfl (by go_simp)
      ·intro ev w hc hf hg hfix hdep hbel
       have fg : ev (.tmp 150) = _ := hdep 2 (by decide)
       have e167 : ev (.tmp 167) = _ := hdep 19 (by decide)
       obtain ⟨lc0, lc7, b0, b1, b2, b3, b4⟩ := HC.out w (undrew hbel)
       obtain ⟨q0, q1, q2, q3⟩ := HC2.out w (undrew hbel)
       exact okb fg rfl (by go_simp)
      ·intro ev w hc hf hg hfix hdep hbel
       have fg : ev (.tmp 150) = _ := hdep 2 (by decide)
       have e157 : ev (.tmp 157) = _ := hdep 9 (by decide)
       have e164 : ev (.tmp 164) = _ := hdep 16 (by decide)
       have e166 : ev (.tmp 166) = _ := hdep 18 (by decide)
       have e168 : ev (.tmp 168) = _ := hdep 20 (by decide)
       refine Or.inl ⟨fg, Or.inr ⟨16, #[.int .u64 (y0.1 : Int), .agg #[.int .u8 (y0.2.1.1.1 : Int), .int .u32 (y0.2.1.1.2 : Int), .int .u64 (y0.2.1.2 : Int)], .int .u64 (y.1 : Int), .agg #[.int .u8 (y.2.1.1.1 : Int), .int .u32 (y.2.1.1.2 : Int), .int .u64 (y.2.1.2 : Int)]], w, by go_simp, ?_⟩⟩
       refine (refahead_any y0.1 y0.2.1.1.1 y0.2.1.1.2 y0.2.1.2 y.1 y.2.1.1.1 y.2.1.1.2 y.2.1.2 w).mono ?_
       rintro e w5 ⟨rfl, hb⟩
       exact ⟨_, rfl, by rw [← HA.out]; rfl, hb⟩
      ·intro ev w hc hf hg hfix hdep hbel
       have fg : ev (.tmp 150) = _ := hdep 2 (by decide)
       have e169 : ev (.tmp 169) = _ := hdep 21 (by decide)
       exact okb fg rfl (by go_simp)
      ·intro ev w hc hf hg hfix hdep hbel
       have e150 : ev (.tmp 150) = _ := hdep 2 (by decide)
       have e170 : ev (.tmp 170) = _ := hdep 22 (by decide)
       exact okb trivial rfl (by go_simp)
     ·intro v w2 hv hb2
      have r0 : v 0 = _ := hv 0 (by decide)
      have r1 : v 1 = _ := hv 1 (by decide)
      have r2 : v 2 = _ := hv 2 (by decide)
      have r3 : v 3 = _ := hv 3 (by decide)
      have r4 : v 4 = _ := hv 4 (by decide)
      have r5 : v 5 = _ := hv 5 (by decide)
      have r6 : v 6 = _ := hv 6 (by decide)
      have r7 : v 7 = _ := hv 7 (by decide)
      have r8 : v 8 = _ := hv 8 (by decide)
      have r9 : v 9 = _ := hv 9 (by decide)
      have r10 : v 10 = _ := hv 10 (by decide)
      have r11 : v 11 = _ := hv 11 (by decide)
      have r12 : v 12 = _ := hv 12 (by decide)
      have r13 : v 13 = _ := hv 13 (by decide)
      have r14 : v 14 = _ := hv 14 (by decide)
      have r15 : v 15 = _ := hv 15 (by decide)
      have r16 : v 16 = _ := hv 16 (by decide)
      have r17 : v 17 = _ := hv 17 (by decide)
      have r18 : v 18 = _ := hv 18 (by decide)
      have r19 : v 19 = _ := hv 19 (by decide)
      have r20 : v 20 = _ := hv 20 (by decide)
      have r21 : v 21 = _ := hv 21 (by decide)
      have r22 : v 22 = _ := hv 22 (by decide)
      have r23 : v 23 = _ := hv 23 (by decide)
      simp only [Reg.putAll, Act.put, List.setIfInBounds_toArray, List.set_cons_zero, List.set_cons_succ, r0, r1, r2, r3, r4, r5, r6, r7, r8, r9, r10, r11, r12, r13, r14, r15, r16, r17, r18, r19, r20, r21, r22, r23]
      clear r0 r1 r2 r3 r4 r5 r6 r7 r8 r9 r10 r11 r12 r13 r14 r15 r16 r17 r18 r19 r20 r21 r22 r23 hv
      have HW4 := Lib.hid (HW3.out.trans (hb2.mono HW3.out.size)); clear hb2
      go_wp2_with fail
      go_roundw
      case rel => exact ⟨k + 1, by go_num, by omega, HW4.out, fun j hj => by
       by_cases e : j = k
       ·rw [e, refAt_of HY.out]; simp [HCm.out, HSz.out, HTm.out, HTx.out, HJ.out, HJk.out, HTh.out, HGd.out, HA.out]
       ·exact HAll.out j (by omega)⟩
      case measure => simp [intOf]; omega
  ·obtain rfl : k = il := by omega
   have hallI := HAll.out
   have HAllI := Lib.hid hallI
   clear hallI
   go_wp2_with fail
   go_loopw [6] (fun v wr => v = .int .i64 0 ∧ Below X.heap.size X wr) (fun _ _ => 0)
   case atStart => exact ⟨rfl, HW.out⟩
   case round =>
    obtain ⟨rfl, hbel6⟩ := hrel
    have HW6t := Lib.hid hbel6
    obtain ⟨hc0, hc1, hc2, hc3, hc4, hc5, hc6, hc7, hc8⟩ := HCells.out wr hbel6
    clear hbel6
    have hyes : Lm.refMay ⟨4, 0, 0, ((0, 0), 0), ⟨#[]⟩, li, ld⟩ = true := by
     unfold Lm.refMay
     rw [Bool.and_eq_true, Bool.and_eq_true, Bool.and_eq_true]
     exact ⟨⟨⟨by have h1 := HIl.out; have h2 := HDl.out; simp [Lm.headA, h2, -List.length_eq_zero_iff], by simp [Lm.headB] <;> rfl⟩, Om.upTo_iff.2 (fun j hj => HAllI.out j (by have := HIl.out; simp only at hj; omega))⟩, Om.upTo_iff.2 (fun j hj => by have := HDl.out; simp only at hj; omega)⟩
    have HYes := Lib.hid hyes
    have HWE := Lib.hid (HWX.out.trans (HW6t.out.mono HWX.out.size))
    clear hyes
    go_wp2_with fail
    go_ret
    exact ⟨ret_bool HYes.out.symm, HWE.out⟩
end Go.Proofs.Ytbciopieciglmaa
