import Derived.Test.YtbciopieciglmaaZOp5
namespace Go.Proofs.Ytbciopieciglmaa
open Go.RowKit Go.Buf
set_option linter.unusedSimpArgs false
set_option maxRecDepth 100000 in
set_option maxHeartbeats 3200000 in
theorem refmay_drop (k : Nat) (pa : Option Addr) (pl pc : Nat) (n : Int) (t : ByteArray) (da : Option Addr) (dl dc : Nat) (p : List ByteArray) (d : List Dt.Dot) (W : World) (hp : SRow W pa pc p) (hpl : p.length = pl) (hr : VRow W da dc d) (hdl : d.length = dl) (T : Nat) (hT0 : T ≠ 0) (hT : Om.type 4 = T) (hm : Om.mayPath p = true) (ht : t.size ≤ 40) (hd : dl ≤ 64) (hk : k = 4) (hn : n = 0) :
  Calls Try.prog 32 #[opV k pa pl pc n t da dl dc] W fun e w' => e = .returned (.bool (Om.may ⟨k, p, n, t, d⟩)) ∧ Below W.heap.size W w' := by
 have HP := Lib.hid hp; have HPl := Lib.hid hpl; have HR := Lib.hid hr; have HDl := Lib.hid hdl
 have HBox := Lib.hid (below_box W #[.int .u8 (k : Int), .slice pa pl pc, .int .i64 n, .string t, .slice da dl dc] 35)
 clear hp hpl hr hdl
 subst hk
 subst hn
 have HM := Lib.hid (may_of_loop (k := 4) (p := p) (n := 0) (t := t) (d := d) (by omega) hm ht (by rw [HDl.out]; exact hd) (by omega) rfl (by rw [HDl.out]; omega))
 have hT1 : ((T : Int) == 0) = false := by simp; omega
 have HMp := Lib.hid hm; have HT := Lib.hid hT; clear hT hm hT0
 have hle := HR.out.le
 have hcap := HR.out.cap
 rw [HDl.out] at hle
 go_enter Try.func32, Try.ntmps32
 go_wp2_with fail
 refine (reftype_any 4 _).mono ?_
 rintro e w1 ⟨rfl, rfl⟩
 rw [HT.out]
 go_wp2_with fail
 refine (refmayPath_any pa pl pc p _ (HP.out.below HBox.out) HPl.out).mono ?_
 rintro e w1 ⟨rfl, rfl⟩
 rw [HMp.out]
 go_wp2_with fail
 go_loopw [3] (fun i wr => ∃ j : Nat, j ≤ dl ∧ i = .int .i64 j ∧ Om.upTo (Om.dropAt d) j = true ∧ Below (W.alloc (.cells #[.int .u8 4, .slice pa pl pc, .int .i64 0, .string t, .slice da dl dc] 35)).heap.size (W.alloc (.cells #[.int .u8 4, .slice pa pl pc, .int .i64 0, .string t, .slice da dl dc] 35)) wr) (fun i _ => dl - (intOf i).toNat)
 case atStart => exact ⟨0, Nat.zero_le _, rfl, Om.upTo_zero _, Below.refl _ _⟩
 case round =>
  obtain ⟨k0, hk0, rfl, hu, hbel⟩ := hrel
  have HU := Lib.hid hu; have HBel := Lib.hid hbel; clear hu
  obtain ⟨hc0, hc1, hc2, hc3, hc4⟩ := opcells hbel
  clear hbel
  by_cases hlt : k0 < dl
  ·obtain ⟨x, hx⟩ := getD_some (l := d) (i := k0) (by rw [HDl.out]; exact hlt)
   have HR2 := HR.out.below HBox.out
   obtain ⟨blk, off, rfl, hblk, hcells⟩ := HR2.at (by rw [HDl.out]; omega)
   clear HR2
   obtain ⟨g0, g1, g2⟩ := hcells k0 x hx
   have q0 := (HBel.out.cell (p := ⟨blk, off + k0 * 3, none⟩) hblk).trans g0
   have q1 := (HBel.out.cell (p := ⟨blk, off + k0 * 3 + 1, none⟩) hblk).trans g1
   have q2 := (HBel.out.cell (p := ⟨blk, off + k0 * 3 + 2, none⟩) hblk).trans g2
   have HD := Lib.hid hx; have HCs := Lib.hid hcells; have hbw : blk < wr.heap.size := Nat.lt_of_lt_of_le hblk HBel.out.size
   obtain ⟨⟨r, i⟩, s⟩ := x
   simp only at q0 q1 q2
   have HC : Hid (∀ w2, Below wr.drew.heap.size wr.drew w2 → _) := Lib.hid (fun w2 h => opcells (HBel.out.trans (((Below.refl wr.heap.size wr).drew.trans h).mono HBel.out.size)))
   have i0 : (0 : Int) ≤ (k0 : Int) := by omega
   have i1 : (k0 : Int) < (dl : Int) := by omega
   clear hcells g0 g1 g2 hx
   cases hmy : Dt.may ((r, i), s)
   ·have HMy := Lib.hid hmy; clear hmy
    have HX := Lib.hid (dropAt_no HD.out HMy.out)
    have hCD : ∀ w2, Below wr.drew.heap.size wr.drew w2 → w2.cell? ⟨blk, off + k0 * 3, none⟩ = some (.int .u8 (r : Int)) ∧ w2.cell? ⟨blk, off + k0 * 3 + 1, none⟩ = some (.int .u32 (i : Int)) ∧ w2.cell? ⟨blk, off + k0 * 3 + 2, none⟩ = some (.int .u64 (s : Int)) := fun w2 h =>
     ⟨((Below.refl wr.heap.size wr).drew.trans h).cell (p := ⟨blk, off + k0 * 3, none⟩) (by simp only; omega) |>.trans q0, ((Below.refl wr.heap.size wr).drew.trans h).cell (p := ⟨blk, off + k0 * 3 + 1, none⟩) (by simp only; omega) |>.trans q1, ((Below.refl wr.heap.size wr).drew.trans h).cell (p := ⟨blk, off + k0 * 3 + 2, none⟩) (by simp only; omega) |>.trans q2⟩
    have HCD := Lib.hid hCD; clear hCD
    go_wp2_with fail
    refine Reg.region_list (by kernel_rfl) [fun v _ => v = .pointer (some ⟨W.heap.size, 4, none⟩), fun v _ => v = .slice (some ⟨blk, off, none⟩) dl dc, fun v _ => v = .int .i64 ((k0 : Nat) : Int), fun v _ => v = .pointer (some ⟨blk, off + k0 * 3, none⟩), fun v _ => v = dotV ((r, i), s), fun v _ => v = .bool false, fun v _ => v = .bool true, fun v _ => v = .bool true, fun v _ => v = undef, fun v _ => v = undef, fun v _ => v = undef, fun v _ => v = undef, fun v _ => v = undef, fun v _ => v = undef, fun v _ => v = undef, fun v _ => v = undef, fun v _ => v = undef, fun v _ => v = undef, fun v _ => v = undef, fun v _ => v = undef, fun v _ => v = undef, fun v _ => v = undef, fun v _ => v = undef, fun v _ => v = undef, fun v _ => v = undef, fun v _ => v = .bool true] (by kernel_rfl) ?_ ?_ ?_
    ·refine ⟨k4, k4, k4, k4, k4, k4, k4, k4, k4, k4, k4, k4, k4, k4, k4, k4, k4, k4, k4, k4, k4, k4, k4, k4, k4, k4, trivial⟩
    ·refine ⟨?_, ?_, ?_, ?_, ?_, ?_, ?_, ?_, ?_, ?_, ?_, ?_, ?_, ?_, ?_, ?_, ?_, ?_, ?_, ?_, ?_, ?_, ?_, ?_, ?_, ?_, trivial⟩
     ·intro ev w hc hf hg hfix hdep hbel
      have e1 : ev (.tmp 1) = _ := hfix 1 (by decide)
      exact okb trivial rfl (by go_simp)
     ·intro ev w hc hf hg hfix hdep hbel
      have e69 : ev (.tmp 69) = _ := hdep 0 (by decide)
      obtain ⟨hc0, hc1, hc2, hc3, hc4⟩ := HC.out w hbel
      obtain ⟨hd0, hd1, hd2⟩ := HCD.out w hbel
      exact okb trivial rfl (by go_simp)
     ·intro ev w hc hf hg hfix hdep hbel
      have e3 : ev (.tmp 3) = _ := hfix 3 (by decide)
      exact okb trivial rfl (by go_simp)
     ·intro ev w hc hf hg hfix hdep hbel
      have e70 : ev (.tmp 70) = _ := hdep 1 (by decide)
      have e71 : ev (.tmp 71) = _ := hdep 2 (by decide)
      exact okb trivial rfl (by go_simp)
     ·intro ev w hc hf hg hfix hdep hbel
      have e72 : ev (.tmp 72) = _ := hdep 3 (by decide)
      obtain ⟨hc0, hc1, hc2, hc3, hc4⟩ := HC.out w hbel
      obtain ⟨hd0, hd1, hd2⟩ := HCD.out w hbel
      exact okb trivial rfl (by go_simp)
     ·intro ev w hc hf hg hfix hdep hbel
      have e73 : ev (.tmp 73) = _ := hdep 4 (by decide)
      refine Or.inl ⟨trivial, Or.inr ⟨29, #[dotV ((r, i), s)], w, by go_simp, ?_⟩⟩
      refine (refmay_any r i s w).mono ?_
      rintro e w1 ⟨rfl, hb1⟩
      exact ⟨_, rfl, by rw [HMy.out], hb1⟩
     ·intro ev w hc hf hg hfix hdep hbel
      have e74 : ev (.tmp 74) = _ := hdep 5 (by decide)
      exact okb trivial rfl (by go_simp)
     ·intro ev w hc hf hg hfix hdep hbel
      have e75 : ev (.tmp 75) = _ := hdep 6 (by decide)
      exact okb trivial rfl (by go_simp)
     ·intro ev w hc hf hg hfix hdep hbel
      have fg : ev (.tmp 76) = _ := hdep 7 (by decide)
      exact Or.inr ⟨Or.inl fg, rfl⟩
     ·intro ev w hc hf hg hfix hdep hbel
      have fg : ev (.tmp 76) = _ := hdep 7 (by decide)
      exact Or.inr ⟨Or.inl fg, rfl⟩
     ·intro ev w hc hf hg hfix hdep hbel
      have fg : ev (.tmp 76) = _ := hdep 7 (by decide)
      exact Or.inr ⟨Or.inl fg, rfl⟩
     ·intro ev w hc hf hg hfix hdep hbel
      have fg : ev (.tmp 79) = _ := hdep 10 (by decide)
      exact Or.inr ⟨Or.inr fg, rfl⟩
     ·intro ev w hc hf hg hfix hdep hbel
      have fg : ev (.tmp 79) = _ := hdep 10 (by decide)
      exact Or.inr ⟨Or.inr fg, rfl⟩
     ·intro ev w hc hf hg hfix hdep hbel
      have fg : ev (.tmp 79) = _ := hdep 10 (by decide)
      exact Or.inr ⟨Or.inr fg, rfl⟩
     ·intro ev w hc hf hg hfix hdep hbel
      have fg : ev (.tmp 79) = _ := hdep 10 (by decide)
      exact Or.inr ⟨Or.inr fg, rfl⟩
     ·intro ev w hc hf hg hfix hdep hbel
      have fg : ev (.tmp 79) = _ := hdep 10 (by decide)
      exact Or.inr ⟨Or.inr fg, rfl⟩
     ·intro ev w hc hf hg hfix hdep hbel
      have fg : ev (.tmp 79) = _ := hdep 10 (by decide)
      exact Or.inr ⟨Or.inr fg, rfl⟩
     ·intro ev w hc hf hg hfix hdep hbel
      have fg : ev (.tmp 79) = _ := hdep 10 (by decide)
      exact Or.inr ⟨Or.inr fg, rfl⟩
     ·intro ev w hc hf hg hfix hdep hbel
      have fg : ev (.tmp 79) = _ := hdep 10 (by decide)
      exact Or.inr ⟨Or.inr fg, rfl⟩
     ·intro ev w hc hf hg hfix hdep hbel
      have fg : ev (.tmp 79) = _ := hdep 10 (by decide)
      exact Or.inr ⟨Or.inr fg, rfl⟩
     ·intro ev w hc hf hg hfix hdep hbel
      have fg : ev (.tmp 79) = _ := hdep 10 (by decide)
      exact Or.inr ⟨Or.inr fg, rfl⟩
     ·intro ev w hc hf hg hfix hdep hbel
      have fg : ev (.tmp 79) = _ := hdep 10 (by decide)
      exact Or.inr ⟨Or.inr fg, rfl⟩
     ·intro ev w hc hf hg hfix hdep hbel
      have fg : ev (.tmp 79) = _ := hdep 10 (by decide)
      exact Or.inr ⟨Or.inr fg, rfl⟩
     ·intro ev w hc hf hg hfix hdep hbel
      have fg : ev (.tmp 79) = _ := hdep 10 (by decide)
      exact Or.inr ⟨Or.inr fg, rfl⟩
     ·intro ev w hc hf hg hfix hdep hbel
      have fg : ev (.tmp 76) = _ := hdep 7 (by decide)
      exact Or.inr ⟨Or.inl fg, rfl⟩
     ·intro ev w hc hf hg hfix hdep hbel
      have e76 : ev (.tmp 76) = _ := hdep 7 (by decide)
      have e93 : ev (.tmp 93) = _ := hdep 24 (by decide)
      exact okb trivial rfl (by go_simp)
    ·intro v w2 hv hb2
     have r0 : v 0 = _ := hv 0 (by decide)
     have r1 : v 1 = _ := hv 1 (by decide)
     have r2 : v 2 = _ := hv 2 (by decide)
     have r3 : v 3 = _ := hv 3 (by decide)
     have r4 : v 4 = _ := hv 4 (by decide)
     have r5 : v 5 = _ := hv 5 (by decide)
     have r6 : v 6 = _ := hv 6 (by decide)
     have r7 : v 7 = _ := hv 7 (by decide)
     have r8 : v 8 = _ := hv 8 (by decide)
     have r9 : v 9 = _ := hv 9 (by decide)
     have r10 : v 10 = _ := hv 10 (by decide)
     have r11 : v 11 = _ := hv 11 (by decide)
     have r12 : v 12 = _ := hv 12 (by decide)
     have r13 : v 13 = _ := hv 13 (by decide)
     have r14 : v 14 = _ := hv 14 (by decide)
     have r15 : v 15 = _ := hv 15 (by decide)
     have r16 : v 16 = _ := hv 16 (by decide)
     have r17 : v 17 = _ := hv 17 (by decide)
     have r18 : v 18 = _ := hv 18 (by decide)
     have r19 : v 19 = _ := hv 19 (by decide)
     have r20 : v 20 = _ := hv 20 (by decide)
     have r21 : v 21 = _ := hv 21 (by decide)
     have r22 : v 22 = _ := hv 22 (by decide)
     have r23 : v 23 = _ := hv 23 (by decide)
     have r24 : v 24 = _ := hv 24 (by decide)
     have r25 : v 25 = _ := hv 25 (by decide)
     simp only [Reg.putAll, Act.put, List.setIfInBounds_toArray, List.set_cons_zero, List.set_cons_succ, r0, r1, r2, r3, r4, r5, r6, r7, r8, r9, r10, r11, r12, r13, r14, r15, r16, r17, r18, r19, r20, r21, r22, r23, r24, r25]
     clear r0 r1 r2 r3 r4 r5 r6 r7 r8 r9 r10 r11 r12 r13 r14 r15 r16 r17 r18 r19 r20 r21 r22 r23 r24 r25 hv
     have HBw := Lib.hid (HBel.out.trans (hb2.mono HBel.out.size)); clear hb2
     go_wp2_with fail
     go_ret
     exact ⟨ret_bool (by rw [HM.out, Om.upTo_not (by rw [HDl.out]; exact hlt) HX.out]), HBox.out.trans (HBw.out.mono HBox.out.size)⟩
   ·have HMy := Lib.hid hmy; clear hmy
    by_cases hk0 : k0 = 0
    ·subst hk0
     simp only [Nat.zero_mul, Nat.add_zero] at q0 q1 q2
     have HX := Lib.hid ((dropAt_zero HD.out).trans HMy.out)
     have hCD : ∀ w2, Below wr.drew.heap.size wr.drew w2 → w2.cell? ⟨blk, off, none⟩ = some (.int .u8 (r : Int)) ∧ w2.cell? ⟨blk, off + 1, none⟩ = some (.int .u32 (i : Int)) ∧ w2.cell? ⟨blk, off + 2, none⟩ = some (.int .u64 (s : Int)) := fun w2 h =>
      ⟨((Below.refl wr.heap.size wr).drew.trans h).cell (p := ⟨blk, off, none⟩) (by simp only; omega) |>.trans q0, ((Below.refl wr.heap.size wr).drew.trans h).cell (p := ⟨blk, off + 1, none⟩) (by simp only; omega) |>.trans q1, ((Below.refl wr.heap.size wr).drew.trans h).cell (p := ⟨blk, off + 2, none⟩) (by simp only; omega) |>.trans q2⟩
     have HCD := Lib.hid hCD; clear hCD
     go_wp2_with fail
     refine Reg.region_list (by kernel_rfl) [fun v _ => v = .pointer (some ⟨W.heap.size, 4, none⟩), fun v _ => v = .slice (some ⟨blk, off, none⟩) dl dc, fun v _ => v = .int .i64 ((0 : Nat) : Int), fun v _ => v = .pointer (some ⟨blk, off, none⟩), fun v _ => v = dotV ((r, i), s), fun v _ => v = .bool true, fun v _ => v = .bool false, fun v _ => v = .bool false, fun v _ => v = .int .i64 ((0 : Nat) : Int), fun v _ => v = .bool false, fun v _ => v = .bool false, fun v _ => v = undef, fun v _ => v = undef, fun v _ => v = undef, fun v _ => v = undef, fun v _ => v = undef, fun v _ => v = undef, fun v _ => v = undef, fun v _ => v = undef, fun v _ => v = undef, fun v _ => v = undef, fun v _ => v = undef, fun v _ => v = undef, fun v _ => v = undef, fun v _ => v = .bool false, fun v _ => v = .bool false] (by kernel_rfl) ?_ ?_ ?_
     ·refine ⟨k4, k4, k4, k4, k4, k4, k4, k4, k4, k4, k4, k4, k4, k4, k4, k4, k4, k4, k4, k4, k4, k4, k4, k4, k4, k4, trivial⟩
     ·refine ⟨?_, ?_, ?_, ?_, ?_, ?_, ?_, ?_, ?_, ?_, ?_, ?_, ?_, ?_, ?_, ?_, ?_, ?_, ?_, ?_, ?_, ?_, ?_, ?_, ?_, ?_, trivial⟩
      ·intro ev w hc hf hg hfix hdep hbel
       have e1 : ev (.tmp 1) = _ := hfix 1 (by decide)
       exact okb trivial rfl (by go_simp)
      ·intro ev w hc hf hg hfix hdep hbel
       have e69 : ev (.tmp 69) = _ := hdep 0 (by decide)
       obtain ⟨hc0, hc1, hc2, hc3, hc4⟩ := HC.out w hbel
       obtain ⟨hd0, hd1, hd2⟩ := HCD.out w hbel
       exact okb trivial rfl (by go_simp)
      ·intro ev w hc hf hg hfix hdep hbel
       have e3 : ev (.tmp 3) = _ := hfix 3 (by decide)
       exact okb trivial rfl (by go_simp)
      ·intro ev w hc hf hg hfix hdep hbel
       have e70 : ev (.tmp 70) = _ := hdep 1 (by decide)
       have e71 : ev (.tmp 71) = _ := hdep 2 (by decide)
       exact okb trivial rfl (by go_simp)
      ·intro ev w hc hf hg hfix hdep hbel
       have e72 : ev (.tmp 72) = _ := hdep 3 (by decide)
       obtain ⟨hc0, hc1, hc2, hc3, hc4⟩ := HC.out w hbel
       obtain ⟨hd0, hd1, hd2⟩ := HCD.out w hbel
       exact okb trivial rfl (by go_simp)
      ·intro ev w hc hf hg hfix hdep hbel
       have e73 : ev (.tmp 73) = _ := hdep 4 (by decide)
       refine Or.inl ⟨trivial, Or.inr ⟨29, #[dotV ((r, i), s)], w, by go_simp, ?_⟩⟩
       refine (refmay_any r i s w).mono ?_
       rintro e w1 ⟨rfl, hb1⟩
       exact ⟨_, rfl, by rw [HMy.out], hb1⟩
      ·intro ev w hc hf hg hfix hdep hbel
       have e74 : ev (.tmp 74) = _ := hdep 5 (by decide)
       exact okb trivial rfl (by go_simp)
      ·intro ev w hc hf hg hfix hdep hbel
       have e75 : ev (.tmp 75) = _ := hdep 6 (by decide)
       exact okb trivial rfl (by go_simp)
      ·intro ev w hc hf hg hfix hdep hbel
       have fg : ev (.tmp 76) = _ := hdep 7 (by decide)
       have e3 : ev (.tmp 3) = _ := hfix 3 (by decide)
       exact okb fg rfl (by go_simp)
      ·intro ev w hc hf hg hfix hdep hbel
       have fg : ev (.tmp 76) = _ := hdep 7 (by decide)
       have e77 : ev (.tmp 77) = _ := hdep 8 (by decide)
       exact okb fg rfl (by go_simp)
      ·intro ev w hc hf hg hfix hdep hbel
       have fg : ev (.tmp 76) = _ := hdep 7 (by decide)
       have e78 : ev (.tmp 78) = _ := hdep 9 (by decide)
       exact okb fg rfl (by go_simp)
      ·intro ev w hc hf hg hfix hdep hbel
       have fg : ev (.tmp 79) = _ := hdep 10 (by decide)
       exact Or.inr ⟨Or.inl fg, rfl⟩
      ·intro ev w hc hf hg hfix hdep hbel
       have fg : ev (.tmp 79) = _ := hdep 10 (by decide)
       exact Or.inr ⟨Or.inl fg, rfl⟩
      ·intro ev w hc hf hg hfix hdep hbel
       have fg : ev (.tmp 79) = _ := hdep 10 (by decide)
       exact Or.inr ⟨Or.inl fg, rfl⟩
      ·intro ev w hc hf hg hfix hdep hbel
       have fg : ev (.tmp 79) = _ := hdep 10 (by decide)
       exact Or.inr ⟨Or.inl fg, rfl⟩
      ·intro ev w hc hf hg hfix hdep hbel
       have fg : ev (.tmp 79) = _ := hdep 10 (by decide)
       exact Or.inr ⟨Or.inl fg, rfl⟩
      ·intro ev w hc hf hg hfix hdep hbel
       have fg : ev (.tmp 79) = _ := hdep 10 (by decide)
       exact Or.inr ⟨Or.inl fg, rfl⟩
      ·intro ev w hc hf hg hfix hdep hbel
       have fg : ev (.tmp 79) = _ := hdep 10 (by decide)
       exact Or.inr ⟨Or.inl fg, rfl⟩
      ·intro ev w hc hf hg hfix hdep hbel
       have fg : ev (.tmp 79) = _ := hdep 10 (by decide)
       exact Or.inr ⟨Or.inl fg, rfl⟩
      ·intro ev w hc hf hg hfix hdep hbel
       have fg : ev (.tmp 79) = _ := hdep 10 (by decide)
       exact Or.inr ⟨Or.inl fg, rfl⟩
      ·intro ev w hc hf hg hfix hdep hbel
       have fg : ev (.tmp 79) = _ := hdep 10 (by decide)
       exact Or.inr ⟨Or.inl fg, rfl⟩
      ·intro ev w hc hf hg hfix hdep hbel
       have fg : ev (.tmp 79) = _ := hdep 10 (by decide)
       exact Or.inr ⟨Or.inl fg, rfl⟩
      ·intro ev w hc hf hg hfix hdep hbel
       have fg : ev (.tmp 79) = _ := hdep 10 (by decide)
       exact Or.inr ⟨Or.inl fg, rfl⟩
      ·intro ev w hc hf hg hfix hdep hbel
       have fg : ev (.tmp 79) = _ := hdep 10 (by decide)
       exact Or.inr ⟨Or.inl fg, rfl⟩
      ·intro ev w hc hf hg hfix hdep hbel
       have fg : ev (.tmp 76) = _ := hdep 7 (by decide)
       have e79 : ev (.tmp 79) = _ := hdep 10 (by decide)
       have e92 : ev (.tmp 92) = _ := hdep 23 (by decide)
       exact okb fg rfl (by go_simp)
      ·intro ev w hc hf hg hfix hdep hbel
       have e76 : ev (.tmp 76) = _ := hdep 7 (by decide)
       have e93 : ev (.tmp 93) = _ := hdep 24 (by decide)
       exact okb trivial rfl (by go_simp)
     ·intro v w2 hv hb2
      have r0 : v 0 = _ := hv 0 (by decide)
      have r1 : v 1 = _ := hv 1 (by decide)
      have r2 : v 2 = _ := hv 2 (by decide)
      have r3 : v 3 = _ := hv 3 (by decide)
      have r4 : v 4 = _ := hv 4 (by decide)
      have r5 : v 5 = _ := hv 5 (by decide)
      have r6 : v 6 = _ := hv 6 (by decide)
      have r7 : v 7 = _ := hv 7 (by decide)
      have r8 : v 8 = _ := hv 8 (by decide)
      have r9 : v 9 = _ := hv 9 (by decide)
      have r10 : v 10 = _ := hv 10 (by decide)
      have r11 : v 11 = _ := hv 11 (by decide)
      have r12 : v 12 = _ := hv 12 (by decide)
      have r13 : v 13 = _ := hv 13 (by decide)
      have r14 : v 14 = _ := hv 14 (by decide)
      have r15 : v 15 = _ := hv 15 (by decide)
      have r16 : v 16 = _ := hv 16 (by decide)
      have r17 : v 17 = _ := hv 17 (by decide)
      have r18 : v 18 = _ := hv 18 (by decide)
      have r19 : v 19 = _ := hv 19 (by decide)
      have r20 : v 20 = _ := hv 20 (by decide)
      have r21 : v 21 = _ := hv 21 (by decide)
      have r22 : v 22 = _ := hv 22 (by decide)
      have r23 : v 23 = _ := hv 23 (by decide)
      have r24 : v 24 = _ := hv 24 (by decide)
      have r25 : v 25 = _ := hv 25 (by decide)
      simp only [Reg.putAll, Act.put, List.setIfInBounds_toArray, List.set_cons_zero, List.set_cons_succ, r0, r1, r2, r3, r4, r5, r6, r7, r8, r9, r10, r11, r12, r13, r14, r15, r16, r17, r18, r19, r20, r21, r22, r23, r24, r25]
      clear r0 r1 r2 r3 r4 r5 r6 r7 r8 r9 r10 r11 r12 r13 r14 r15 r16 r17 r18 r19 r20 r21 r22 r23 r24 r25 hv
      have HBw := Lib.hid (HBel.out.trans (hb2.mono HBel.out.size)); clear hb2
      go_wp2_with fail
      go_roundw
      case rel => exact ⟨0 + 1, by omega, by go_num, Om.upTo_succ HU.out HX.out, HBw.out⟩
      case measure => simp [intOf]; omega
    ·obtain ⟨j, rfl⟩ : ∃ j, k0 = j + 1 := ⟨k0 - 1, by omega⟩
     obtain ⟨e, he⟩ := getD_some (l := d) (i := j) (by rw [HDl.out]; omega)
     obtain ⟨g0, g1, g2⟩ := HCs.out j e he
     have p0 := (HBel.out.cell (p := ⟨blk, off + j * 3, none⟩) hblk).trans g0
     have p1 := (HBel.out.cell (p := ⟨blk, off + j * 3 + 1, none⟩) hblk).trans g1
     have p2 := (HBel.out.cell (p := ⟨blk, off + j * 3 + 2, none⟩) hblk).trans g2
     have j0 : (0 : Int) ≤ (j : Int) := by omega
     have j3 : (0 : Int) ≤ (j : Int) + 1 := by omega
     have j4 : (j : Int) + 1 < (dl : Int) := by omega
     have j1 : (j : Int) < (dl : Int) := by omega
     have j2 : IntKind.i64.wrap (j : Int) = (j : Int) := by simp [IntKind.wrap, IntKind.bits, IntKind.signed]; omega
     have hls := dropAt_succ (l := d) (k := j + 1) (d := ((r, i), s)) (e := e) (by omega) HD.out he
     rw [HMy.out, Bool.true_and] at hls
     obtain ⟨⟨r', i'⟩, s'⟩ := e
     simp only at p0 p1 p2
     clear g0 g1 g2 he
     cases hl : Dt.less ((r', i'), s') ((r, i), s)
     ·have HLs := Lib.hid hl; have HX := Lib.hid (hls.trans hl); clear hl hls
      have hCD : ∀ w2, Below wr.drew.heap.size wr.drew w2 → w2.cell? ⟨blk, off + (j + 1) * 3, none⟩ = some (.int .u8 (r : Int)) ∧ w2.cell? ⟨blk, off + (j + 1) * 3 + 1, none⟩ = some (.int .u32 (i : Int)) ∧ w2.cell? ⟨blk, off + (j + 1) * 3 + 2, none⟩ = some (.int .u64 (s : Int)) ∧ w2.cell? ⟨blk, off + j * 3, none⟩ = some (.int .u8 (r' : Int)) ∧ w2.cell? ⟨blk, off + j * 3 + 1, none⟩ = some (.int .u32 (i' : Int)) ∧ w2.cell? ⟨blk, off + j * 3 + 2, none⟩ = some (.int .u64 (s' : Int)) := fun w2 h =>
       ⟨((Below.refl wr.heap.size wr).drew.trans h).cell (p := ⟨blk, off + (j + 1) * 3, none⟩) (by simp only; omega) |>.trans q0, ((Below.refl wr.heap.size wr).drew.trans h).cell (p := ⟨blk, off + (j + 1) * 3 + 1, none⟩) (by simp only; omega) |>.trans q1, ((Below.refl wr.heap.size wr).drew.trans h).cell (p := ⟨blk, off + (j + 1) * 3 + 2, none⟩) (by simp only; omega) |>.trans q2, ((Below.refl wr.heap.size wr).drew.trans h).cell (p := ⟨blk, off + j * 3, none⟩) (by simp only; omega) |>.trans p0, ((Below.refl wr.heap.size wr).drew.trans h).cell (p := ⟨blk, off + j * 3 + 1, none⟩) (by simp only; omega) |>.trans p1, ((Below.refl wr.heap.size wr).drew.trans h).cell (p := ⟨blk, off + j * 3 + 2, none⟩) (by simp only; omega) |>.trans p2⟩
      have HCD := Lib.hid hCD; clear hCD
      go_wp2_with fail
      refine Reg.region_list (by kernel_rfl) [fun v _ => v = .pointer (some ⟨W.heap.size, 4, none⟩), fun v _ => v = .slice (some ⟨blk, off, none⟩) dl dc, fun v _ => v = .int .i64 ((j + 1 : Nat) : Int), fun v _ => v = .pointer (some ⟨blk, off + (j + 1) * 3, none⟩), fun v _ => v = dotV ((r, i), s), fun v _ => v = .bool true, fun v _ => v = .bool false, fun v _ => v = .bool false, fun v _ => v = .int .i64 ((j + 1 : Nat) : Int), fun v _ => v = .bool true, fun v _ => v = .bool true, fun v _ => v = .pointer (some ⟨W.heap.size, 4, none⟩), fun v _ => v = .slice (some ⟨blk, off, none⟩) dl dc, fun v _ => v = .int .i64 ((j + 1 : Nat) : Int), fun v _ => v = .int .i64 (j : Int), fun v _ => v = .pointer (some ⟨blk, off + j * 3, none⟩), fun v _ => v = dotV ((r', i'), s'), fun v _ => v = .pointer (some ⟨W.heap.size, 4, none⟩), fun v _ => v = .slice (some ⟨blk, off, none⟩) dl dc, fun v _ => v = .int .i64 ((j + 1 : Nat) : Int), fun v _ => v = .pointer (some ⟨blk, off + (j + 1) * 3, none⟩), fun v _ => v = dotV ((r, i), s), fun v _ => v = .bool false, fun v _ => v = .bool true, fun v _ => v = .bool true, fun v _ => v = .bool true] (by kernel_rfl) ?_ ?_ ?_
      ·refine ⟨k4, k4, k4, k4, k4, k4, k4, k4, k4, k4, k4, k4, k4, k4, k4, k4, k4, k4, k4, k4, k4, k4, k4, k4, k4, k4, trivial⟩
      ·refine ⟨?_, ?_, ?_, ?_, ?_, ?_, ?_, ?_, ?_, ?_, ?_, ?_, ?_, ?_, ?_, ?_, ?_, ?_, ?_, ?_, ?_, ?_, ?_, ?_, ?_, ?_, trivial⟩
       ·intro ev w hc hf hg hfix hdep hbel
        have e1 : ev (.tmp 1) = _ := hfix 1 (by decide)
        exact okb trivial rfl (by go_simp)
       ·intro ev w hc hf hg hfix hdep hbel
        have e69 : ev (.tmp 69) = _ := hdep 0 (by decide)
        obtain ⟨hc0, hc1, hc2, hc3, hc4⟩ := HC.out w hbel
        obtain ⟨hd0, hd1, hd2, hd3, hd4, hd5⟩ := HCD.out w hbel
        exact okb trivial rfl (by go_simp)
       ·intro ev w hc hf hg hfix hdep hbel
        have e3 : ev (.tmp 3) = _ := hfix 3 (by decide)
        exact okb trivial rfl (by go_simp)
       ·intro ev w hc hf hg hfix hdep hbel
        have e70 : ev (.tmp 70) = _ := hdep 1 (by decide)
        have e71 : ev (.tmp 71) = _ := hdep 2 (by decide)
        exact okb trivial rfl (by go_simp)
       ·intro ev w hc hf hg hfix hdep hbel
        have e72 : ev (.tmp 72) = _ := hdep 3 (by decide)
        obtain ⟨hc0, hc1, hc2, hc3, hc4⟩ := HC.out w hbel
        obtain ⟨hd0, hd1, hd2, hd3, hd4, hd5⟩ := HCD.out w hbel
        exact okb trivial rfl (by go_simp)
       ·intro ev w hc hf hg hfix hdep hbel
        have e73 : ev (.tmp 73) = _ := hdep 4 (by decide)
        refine Or.inl ⟨trivial, Or.inr ⟨29, #[dotV ((r, i), s)], w, by go_simp, ?_⟩⟩
        refine (refmay_any r i s w).mono ?_
        rintro e w1 ⟨rfl, hb1⟩
        exact ⟨_, rfl, by rw [HMy.out], hb1⟩
       ·intro ev w hc hf hg hfix hdep hbel
        have e74 : ev (.tmp 74) = _ := hdep 5 (by decide)
        exact okb trivial rfl (by go_simp)
       ·intro ev w hc hf hg hfix hdep hbel
        have e75 : ev (.tmp 75) = _ := hdep 6 (by decide)
        exact okb trivial rfl (by go_simp)
       ·intro ev w hc hf hg hfix hdep hbel
        have fg : ev (.tmp 76) = _ := hdep 7 (by decide)
        have e3 : ev (.tmp 3) = _ := hfix 3 (by decide)
        exact okb fg rfl (by go_simp)
       ·intro ev w hc hf hg hfix hdep hbel
        have fg : ev (.tmp 76) = _ := hdep 7 (by decide)
        have e77 : ev (.tmp 77) = _ := hdep 8 (by decide)
        exact okb fg rfl (by go_simp)
       ·intro ev w hc hf hg hfix hdep hbel
        have fg : ev (.tmp 76) = _ := hdep 7 (by decide)
        have e78 : ev (.tmp 78) = _ := hdep 9 (by decide)
        exact okb fg rfl (by go_simp)
       ·intro ev w hc hf hg hfix hdep hbel
        have fg : ev (.tmp 79) = _ := hdep 10 (by decide)
        have e1 : ev (.tmp 1) = _ := hfix 1 (by decide)
        exact okb fg rfl (by go_simp)
       ·intro ev w hc hf hg hfix hdep hbel
        have fg : ev (.tmp 79) = _ := hdep 10 (by decide)
        have e80 : ev (.tmp 80) = _ := hdep 11 (by decide)
        obtain ⟨hc0, hc1, hc2, hc3, hc4⟩ := HC.out w hbel
        obtain ⟨hd0, hd1, hd2, hd3, hd4, hd5⟩ := HCD.out w hbel
        exact okb fg rfl (by go_simp)
       ·intro ev w hc hf hg hfix hdep hbel
        have fg : ev (.tmp 79) = _ := hdep 10 (by decide)
        have e3 : ev (.tmp 3) = _ := hfix 3 (by decide)
        exact okb fg rfl (by go_simp)
       ·intro ev w hc hf hg hfix hdep hbel
        have fg : ev (.tmp 79) = _ := hdep 10 (by decide)
        have e82 : ev (.tmp 82) = _ := hdep 13 (by decide)
        exact okb fg rfl (by go_simp)
       ·intro ev w hc hf hg hfix hdep hbel
        have fg : ev (.tmp 79) = _ := hdep 10 (by decide)
        have e81 : ev (.tmp 81) = _ := hdep 12 (by decide)
        have e83 : ev (.tmp 83) = _ := hdep 14 (by decide)
        exact okb fg rfl (by go_simp)
       ·intro ev w hc hf hg hfix hdep hbel
        have fg : ev (.tmp 79) = _ := hdep 10 (by decide)
        have e84 : ev (.tmp 84) = _ := hdep 15 (by decide)
        obtain ⟨hc0, hc1, hc2, hc3, hc4⟩ := HC.out w hbel
        obtain ⟨hd0, hd1, hd2, hd3, hd4, hd5⟩ := HCD.out w hbel
        exact okb fg rfl (by go_simp)
       ·intro ev w hc hf hg hfix hdep hbel
        have fg : ev (.tmp 79) = _ := hdep 10 (by decide)
        have e1 : ev (.tmp 1) = _ := hfix 1 (by decide)
        exact okb fg rfl (by go_simp)
       ·intro ev w hc hf hg hfix hdep hbel
        have fg : ev (.tmp 79) = _ := hdep 10 (by decide)
        have e86 : ev (.tmp 86) = _ := hdep 17 (by decide)
        obtain ⟨hc0, hc1, hc2, hc3, hc4⟩ := HC.out w hbel
        obtain ⟨hd0, hd1, hd2, hd3, hd4, hd5⟩ := HCD.out w hbel
        exact okb fg rfl (by go_simp)
       ·intro ev w hc hf hg hfix hdep hbel
        have fg : ev (.tmp 79) = _ := hdep 10 (by decide)
        have e3 : ev (.tmp 3) = _ := hfix 3 (by decide)
        exact okb fg rfl (by go_simp)
       ·intro ev w hc hf hg hfix hdep hbel
        have fg : ev (.tmp 79) = _ := hdep 10 (by decide)
        have e87 : ev (.tmp 87) = _ := hdep 18 (by decide)
        have e88 : ev (.tmp 88) = _ := hdep 19 (by decide)
        exact okb fg rfl (by go_simp)
       ·intro ev w hc hf hg hfix hdep hbel
        have fg : ev (.tmp 79) = _ := hdep 10 (by decide)
        have e89 : ev (.tmp 89) = _ := hdep 20 (by decide)
        obtain ⟨hc0, hc1, hc2, hc3, hc4⟩ := HC.out w hbel
        obtain ⟨hd0, hd1, hd2, hd3, hd4, hd5⟩ := HCD.out w hbel
        exact okb fg rfl (by go_simp)
       ·intro ev w hc hf hg hfix hdep hbel
        have fg : ev (.tmp 79) = _ := hdep 10 (by decide)
        have e85 : ev (.tmp 85) = _ := hdep 16 (by decide)
        have e90 : ev (.tmp 90) = _ := hdep 21 (by decide)
        refine Or.inl ⟨fg, Or.inr ⟨31, #[dotV ((r', i'), s'), dotV ((r, i), s)], w, by go_simp, ?_⟩⟩
        refine (refless_any r' i' s' r i s w).mono ?_
        rintro e w1 ⟨rfl, hb1⟩
        exact ⟨_, rfl, by rw [HLs.out], hb1⟩
       ·intro ev w hc hf hg hfix hdep hbel
        have fg : ev (.tmp 79) = _ := hdep 10 (by decide)
        have e91 : ev (.tmp 91) = _ := hdep 22 (by decide)
        exact okb fg rfl (by go_simp)
       ·intro ev w hc hf hg hfix hdep hbel
        have fg : ev (.tmp 76) = _ := hdep 7 (by decide)
        have e79 : ev (.tmp 79) = _ := hdep 10 (by decide)
        have e92 : ev (.tmp 92) = _ := hdep 23 (by decide)
        exact okb fg rfl (by go_simp)
       ·intro ev w hc hf hg hfix hdep hbel
        have e76 : ev (.tmp 76) = _ := hdep 7 (by decide)
        have e93 : ev (.tmp 93) = _ := hdep 24 (by decide)
        exact okb trivial rfl (by go_simp)
      ·intro v w2 hv hb2
       have r0 : v 0 = _ := hv 0 (by decide)
       have r1 : v 1 = _ := hv 1 (by decide)
       have r2 : v 2 = _ := hv 2 (by decide)
       have r3 : v 3 = _ := hv 3 (by decide)
       have r4 : v 4 = _ := hv 4 (by decide)
       have r5 : v 5 = _ := hv 5 (by decide)
       have r6 : v 6 = _ := hv 6 (by decide)
       have r7 : v 7 = _ := hv 7 (by decide)
       have r8 : v 8 = _ := hv 8 (by decide)
       have r9 : v 9 = _ := hv 9 (by decide)
       have r10 : v 10 = _ := hv 10 (by decide)
       have r11 : v 11 = _ := hv 11 (by decide)
       have r12 : v 12 = _ := hv 12 (by decide)
       have r13 : v 13 = _ := hv 13 (by decide)
       have r14 : v 14 = _ := hv 14 (by decide)
       have r15 : v 15 = _ := hv 15 (by decide)
       have r16 : v 16 = _ := hv 16 (by decide)
       have r17 : v 17 = _ := hv 17 (by decide)
       have r18 : v 18 = _ := hv 18 (by decide)
       have r19 : v 19 = _ := hv 19 (by decide)
       have r20 : v 20 = _ := hv 20 (by decide)
       have r21 : v 21 = _ := hv 21 (by decide)
       have r22 : v 22 = _ := hv 22 (by decide)
       have r23 : v 23 = _ := hv 23 (by decide)
       have r24 : v 24 = _ := hv 24 (by decide)
       have r25 : v 25 = _ := hv 25 (by decide)
       simp only [Reg.putAll, Act.put, List.setIfInBounds_toArray, List.set_cons_zero, List.set_cons_succ, r0, r1, r2, r3, r4, r5, r6, r7, r8, r9, r10, r11, r12, r13, r14, r15, r16, r17, r18, r19, r20, r21, r22, r23, r24, r25]
       clear r0 r1 r2 r3 r4 r5 r6 r7 r8 r9 r10 r11 r12 r13 r14 r15 r16 r17 r18 r19 r20 r21 r22 r23 r24 r25 hv
       have HBw := Lib.hid (HBel.out.trans (hb2.mono HBel.out.size)); clear hb2
       go_wp2_with fail
       go_ret
       exact ⟨ret_bool (by rw [HM.out, Om.upTo_not (by rw [HDl.out]; exact hlt) HX.out]), HBox.out.trans (HBw.out.mono HBox.out.size)⟩
     ·have HLs := Lib.hid hl; have HX := Lib.hid (hls.trans hl); clear hl hls
      have hCD : ∀ w2, Below wr.drew.heap.size wr.drew w2 → w2.cell? ⟨blk, off + (j + 1) * 3, none⟩ = some (.int .u8 (r : Int)) ∧ w2.cell? ⟨blk, off + (j + 1) * 3 + 1, none⟩ = some (.int .u32 (i : Int)) ∧ w2.cell? ⟨blk, off + (j + 1) * 3 + 2, none⟩ = some (.int .u64 (s : Int)) ∧ w2.cell? ⟨blk, off + j * 3, none⟩ = some (.int .u8 (r' : Int)) ∧ w2.cell? ⟨blk, off + j * 3 + 1, none⟩ = some (.int .u32 (i' : Int)) ∧ w2.cell? ⟨blk, off + j * 3 + 2, none⟩ = some (.int .u64 (s' : Int)) := fun w2 h =>
       ⟨((Below.refl wr.heap.size wr).drew.trans h).cell (p := ⟨blk, off + (j + 1) * 3, none⟩) (by simp only; omega) |>.trans q0, ((Below.refl wr.heap.size wr).drew.trans h).cell (p := ⟨blk, off + (j + 1) * 3 + 1, none⟩) (by simp only; omega) |>.trans q1, ((Below.refl wr.heap.size wr).drew.trans h).cell (p := ⟨blk, off + (j + 1) * 3 + 2, none⟩) (by simp only; omega) |>.trans q2, ((Below.refl wr.heap.size wr).drew.trans h).cell (p := ⟨blk, off + j * 3, none⟩) (by simp only; omega) |>.trans p0, ((Below.refl wr.heap.size wr).drew.trans h).cell (p := ⟨blk, off + j * 3 + 1, none⟩) (by simp only; omega) |>.trans p1, ((Below.refl wr.heap.size wr).drew.trans h).cell (p := ⟨blk, off + j * 3 + 2, none⟩) (by simp only; omega) |>.trans p2⟩
      have HCD := Lib.hid hCD; clear hCD
      go_wp2_with fail
      refine Reg.region_list (by kernel_rfl) [fun v _ => v = .pointer (some ⟨W.heap.size, 4, none⟩), fun v _ => v = .slice (some ⟨blk, off, none⟩) dl dc, fun v _ => v = .int .i64 ((j + 1 : Nat) : Int), fun v _ => v = .pointer (some ⟨blk, off + (j + 1) * 3, none⟩), fun v _ => v = dotV ((r, i), s), fun v _ => v = .bool true, fun v _ => v = .bool false, fun v _ => v = .bool false, fun v _ => v = .int .i64 ((j + 1 : Nat) : Int), fun v _ => v = .bool true, fun v _ => v = .bool true, fun v _ => v = .pointer (some ⟨W.heap.size, 4, none⟩), fun v _ => v = .slice (some ⟨blk, off, none⟩) dl dc, fun v _ => v = .int .i64 ((j + 1 : Nat) : Int), fun v _ => v = .int .i64 (j : Int), fun v _ => v = .pointer (some ⟨blk, off + j * 3, none⟩), fun v _ => v = dotV ((r', i'), s'), fun v _ => v = .pointer (some ⟨W.heap.size, 4, none⟩), fun v _ => v = .slice (some ⟨blk, off, none⟩) dl dc, fun v _ => v = .int .i64 ((j + 1 : Nat) : Int), fun v _ => v = .pointer (some ⟨blk, off + (j + 1) * 3, none⟩), fun v _ => v = dotV ((r, i), s), fun v _ => v = .bool true, fun v _ => v = .bool false, fun v _ => v = .bool false, fun v _ => v = .bool false] (by kernel_rfl) ?_ ?_ ?_
      ·refine ⟨k4, k4, k4, k4, k4, k4, k4, k4, k4, k4, k4, k4, k4, k4, k4, k4, k4, k4, k4, k4, k4, k4, k4, k4, k4, k4, trivial⟩
      ·refine ⟨?_, ?_, ?_, ?_, ?_, ?_, ?_, ?_, ?_, ?_, ?_, ?_, ?_, ?_, ?_, ?_, ?_, ?_, ?_, ?_, ?_, ?_, ?_, ?_, ?_, ?_, trivial⟩
       ·intro ev w hc hf hg hfix hdep hbel
        have e1 : ev (.tmp 1) = _ := hfix 1 (by decide)
        exact okb trivial rfl (by go_simp)
       ·intro ev w hc hf hg hfix hdep hbel
        have e69 : ev (.tmp 69) = _ := hdep 0 (by decide)
        obtain ⟨hc0, hc1, hc2, hc3, hc4⟩ := HC.out w hbel
        obtain ⟨hd0, hd1, hd2, hd3, hd4, hd5⟩ := HCD.out w hbel
        exact okb trivial rfl (by go_simp)
       ·intro ev w hc hf hg hfix hdep hbel
        have e3 : ev (.tmp 3) = _ := hfix 3 (by decide)
        exact okb trivial rfl (by go_simp)
       ·intro ev w hc hf hg hfix hdep hbel
        have e70 : ev (.tmp 70) = _ := hdep 1 (by decide)
        have e71 : ev (.tmp 71) = _ := hdep 2 (by decide)
        exact okb trivial rfl (by go_simp)
       ·intro ev w hc hf hg hfix hdep hbel
        have e72 : ev (.tmp 72) = _ := hdep 3 (by decide)
        obtain ⟨hc0, hc1, hc2, hc3, hc4⟩ := HC.out w hbel
        obtain ⟨hd0, hd1, hd2, hd3, hd4, hd5⟩ := HCD.out w hbel
        exact okb trivial rfl (by go_simp)
       ·intro ev w hc hf hg hfix hdep hbel
        have e73 : ev (.tmp 73) = _ := hdep 4 (by decide)
        refine Or.inl ⟨trivial, Or.inr ⟨29, #[dotV ((r, i), s)], w, by go_simp, ?_⟩⟩
        refine (refmay_any r i s w).mono ?_
        rintro e w1 ⟨rfl, hb1⟩
        exact ⟨_, rfl, by rw [HMy.out], hb1⟩
       ·intro ev w hc hf hg hfix hdep hbel
        have e74 : ev (.tmp 74) = _ := hdep 5 (by decide)
        exact okb trivial rfl (by go_simp)
       ·intro ev w hc hf hg hfix hdep hbel
        have e75 : ev (.tmp 75) = _ := hdep 6 (by decide)
        exact okb trivial rfl (by go_simp)
       ·intro ev w hc hf hg hfix hdep hbel
        have fg : ev (.tmp 76) = _ := hdep 7 (by decide)
        have e3 : ev (.tmp 3) = _ := hfix 3 (by decide)
        exact okb fg rfl (by go_simp)
       ·intro ev w hc hf hg hfix hdep hbel
        have fg : ev (.tmp 76) = _ := hdep 7 (by decide)
        have e77 : ev (.tmp 77) = _ := hdep 8 (by decide)
        exact okb fg rfl (by go_simp)
       ·intro ev w hc hf hg hfix hdep hbel
        have fg : ev (.tmp 76) = _ := hdep 7 (by decide)
        have e78 : ev (.tmp 78) = _ := hdep 9 (by decide)
        exact okb fg rfl (by go_simp)
       ·intro ev w hc hf hg hfix hdep hbel
        have fg : ev (.tmp 79) = _ := hdep 10 (by decide)
        have e1 : ev (.tmp 1) = _ := hfix 1 (by decide)
        exact okb fg rfl (by go_simp)
       ·intro ev w hc hf hg hfix hdep hbel
        have fg : ev (.tmp 79) = _ := hdep 10 (by decide)
        have e80 : ev (.tmp 80) = _ := hdep 11 (by decide)
        obtain ⟨hc0, hc1, hc2, hc3, hc4⟩ := HC.out w hbel
        obtain ⟨hd0, hd1, hd2, hd3, hd4, hd5⟩ := HCD.out w hbel
        exact okb fg rfl (by go_simp)
       ·intro ev w hc hf hg hfix hdep hbel
        have fg : ev (.tmp 79) = _ := hdep 10 (by decide)
        have e3 : ev (.tmp 3) = _ := hfix 3 (by decide)
        exact okb fg rfl (by go_simp)
       ·intro ev w hc hf hg hfix hdep hbel
        have fg : ev (.tmp 79) = _ := hdep 10 (by decide)
        have e82 : ev (.tmp 82) = _ := hdep 13 (by decide)
        exact okb fg rfl (by go_simp)
       ·intro ev w hc hf hg hfix hdep hbel
        have fg : ev (.tmp 79) = _ := hdep 10 (by decide)
        have e81 : ev (.tmp 81) = _ := hdep 12 (by decide)
        have e83 : ev (.tmp 83) = _ := hdep 14 (by decide)
        exact okb fg rfl (by go_simp)
       ·intro ev w hc hf hg hfix hdep hbel
        have fg : ev (.tmp 79) = _ := hdep 10 (by decide)
        have e84 : ev (.tmp 84) = _ := hdep 15 (by decide)
        obtain ⟨hc0, hc1, hc2, hc3, hc4⟩ := HC.out w hbel
        obtain ⟨hd0, hd1, hd2, hd3, hd4, hd5⟩ := HCD.out w hbel
        exact okb fg rfl (by go_simp)
       ·intro ev w hc hf hg hfix hdep hbel
        have fg : ev (.tmp 79) = _ := hdep 10 (by decide)
        have e1 : ev (.tmp 1) = _ := hfix 1 (by decide)
        exact okb fg rfl (by go_simp)
       ·intro ev w hc hf hg hfix hdep hbel
        have fg : ev (.tmp 79) = _ := hdep 10 (by decide)
        have e86 : ev (.tmp 86) = _ := hdep 17 (by decide)
        obtain ⟨hc0, hc1, hc2, hc3, hc4⟩ := HC.out w hbel
        obtain ⟨hd0, hd1, hd2, hd3, hd4, hd5⟩ := HCD.out w hbel
        exact okb fg rfl (by go_simp)
       ·intro ev w hc hf hg hfix hdep hbel
        have fg : ev (.tmp 79) = _ := hdep 10 (by decide)
        have e3 : ev (.tmp 3) = _ := hfix 3 (by decide)
        exact okb fg rfl (by go_simp)
       ·intro ev w hc hf hg hfix hdep hbel
        have fg : ev (.tmp 79) = _ := hdep 10 (by decide)
        have e87 : ev (.tmp 87) = _ := hdep 18 (by decide)
        have e88 : ev (.tmp 88) = _ := hdep 19 (by decide)
        exact okb fg rfl (by go_simp)
       ·intro ev w hc hf hg hfix hdep hbel
        have fg : ev (.tmp 79) = _ := hdep 10 (by decide)
        have e89 : ev (.tmp 89) = _ := hdep 20 (by decide)
        obtain ⟨hc0, hc1, hc2, hc3, hc4⟩ := HC.out w hbel
        obtain ⟨hd0, hd1, hd2, hd3, hd4, hd5⟩ := HCD.out w hbel
        exact okb fg rfl (by go_simp)
       ·intro ev w hc hf hg hfix hdep hbel
        have fg : ev (.tmp 79) = _ := hdep 10 (by decide)
        have e85 : ev (.tmp 85) = _ := hdep 16 (by decide)
        have e90 : ev (.tmp 90) = _ := hdep 21 (by decide)
        refine Or.inl ⟨fg, Or.inr ⟨31, #[dotV ((r', i'), s'), dotV ((r, i), s)], w, by go_simp, ?_⟩⟩
        refine (refless_any r' i' s' r i s w).mono ?_
        rintro e w1 ⟨rfl, hb1⟩
        exact ⟨_, rfl, by rw [HLs.out], hb1⟩
       ·intro ev w hc hf hg hfix hdep hbel
        have fg : ev (.tmp 79) = _ := hdep 10 (by decide)
        have e91 : ev (.tmp 91) = _ := hdep 22 (by decide)
        exact okb fg rfl (by go_simp)
       ·intro ev w hc hf hg hfix hdep hbel
        have fg : ev (.tmp 76) = _ := hdep 7 (by decide)
        have e79 : ev (.tmp 79) = _ := hdep 10 (by decide)
        have e92 : ev (.tmp 92) = _ := hdep 23 (by decide)
        exact okb fg rfl (by go_simp)
       ·intro ev w hc hf hg hfix hdep hbel
        have e76 : ev (.tmp 76) = _ := hdep 7 (by decide)
        have e93 : ev (.tmp 93) = _ := hdep 24 (by decide)
        exact okb trivial rfl (by go_simp)
      ·intro v w2 hv hb2
       have r0 : v 0 = _ := hv 0 (by decide)
       have r1 : v 1 = _ := hv 1 (by decide)
       have r2 : v 2 = _ := hv 2 (by decide)
       have r3 : v 3 = _ := hv 3 (by decide)
       have r4 : v 4 = _ := hv 4 (by decide)
       have r5 : v 5 = _ := hv 5 (by decide)
       have r6 : v 6 = _ := hv 6 (by decide)
       have r7 : v 7 = _ := hv 7 (by decide)
       have r8 : v 8 = _ := hv 8 (by decide)
       have r9 : v 9 = _ := hv 9 (by decide)
       have r10 : v 10 = _ := hv 10 (by decide)
       have r11 : v 11 = _ := hv 11 (by decide)
       have r12 : v 12 = _ := hv 12 (by decide)
       have r13 : v 13 = _ := hv 13 (by decide)
       have r14 : v 14 = _ := hv 14 (by decide)
       have r15 : v 15 = _ := hv 15 (by decide)
       have r16 : v 16 = _ := hv 16 (by decide)
       have r17 : v 17 = _ := hv 17 (by decide)
       have r18 : v 18 = _ := hv 18 (by decide)
       have r19 : v 19 = _ := hv 19 (by decide)
       have r20 : v 20 = _ := hv 20 (by decide)
       have r21 : v 21 = _ := hv 21 (by decide)
       have r22 : v 22 = _ := hv 22 (by decide)
       have r23 : v 23 = _ := hv 23 (by decide)
       have r24 : v 24 = _ := hv 24 (by decide)
       have r25 : v 25 = _ := hv 25 (by decide)
       simp only [Reg.putAll, Act.put, List.setIfInBounds_toArray, List.set_cons_zero, List.set_cons_succ, r0, r1, r2, r3, r4, r5, r6, r7, r8, r9, r10, r11, r12, r13, r14, r15, r16, r17, r18, r19, r20, r21, r22, r23, r24, r25]
       clear r0 r1 r2 r3 r4 r5 r6 r7 r8 r9 r10 r11 r12 r13 r14 r15 r16 r17 r18 r19 r20 r21 r22 r23 r24 r25 hv
       have HBw := Lib.hid (HBel.out.trans (hb2.mono HBel.out.size)); clear hb2
       go_wp2_with fail
       go_roundw
       case rel => exact ⟨(j + 1) + 1, by omega, by go_num, Om.upTo_succ HU.out HX.out, HBw.out⟩
       case measure => simp [intOf]; omega
  ·obtain rfl : k0 = dl := by omega
   go_wp2_with fail
   go_ret
   exact ⟨ret_bool (by rw [HM.out, HDl.out]; exact HU.out.symm), HBox.out.trans (HBel.out.mono HBox.out.size)⟩
end Go.Proofs.Ytbciopieciglmaa
