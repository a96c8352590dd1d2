import Derived.Test.YtplafpchgfjomaaZOp8
namespace Go.Proofs.Ytplafpchgfjomaa
open Go.RowKit Go.Buf
set_option linter.unusedSimpArgs false
set_option linter.unusedVariables false
theorem itemAt_zero {lo hi : Nat} {l : List Lm.It} {d : Lm.It} (h : l[0]? = some d) : Lm.itemAt lo hi l 0 = Lm.mayI lo hi d := by simp [Lm.itemAt, List.getD, h]
theorem itemAt_succ {lo hi : Nat} {l : List Lm.It} {k : Nat} {d e : Lm.It} (hk : 0 < k) (h : l[k]? = some d) (h' : l[k - 1]? = some e) : Lm.itemAt lo hi l k = (Lm.mayI lo hi d && Lm.aheadI e d) := by
 have : ¬ k = 0 := by omega
 simp [Lm.itemAt, List.getD, h, h', this]
theorem itemAt_no {lo hi : Nat} {l : List Lm.It} {k : Nat} {d : Lm.It} (h : l[k]? = some d) (hm : Lm.mayI lo hi d = false) : Lm.itemAt lo hi l k = false := by simp [Lm.itemAt, List.getD, h, hm]
set_option maxRecDepth 100000 in
set_option maxHeartbeats 6400000 in
theorem mayTombs_any (a : Option Addr) (n cap : Nat) (l : List Dt.Dot) (W : World) (hr : VRow W a cap l) (hl : l.length = n) :
  Calls Try.prog 63 #[.slice a n cap] W fun e w' => e = .returned (.bool (Lm.mayTombs l)) ∧ Below W.heap.size W w' := by
 have hle := hr.le
 have hcap := hr.cap
 rw [hl] at hle
 have HR := Lib.hid hr; have HL := Lib.hid hl
 clear hr hl
 go_enter Try.func63, Try.ntmps63
 go_wp2_with fail
 go_loopw [3, 4, 7] (fun _ _ i wr => ∃ k : Nat, k ≤ n ∧ i = .int .i64 k ∧ Om.upTo (Om.dropAt l) k = true ∧ Below W.heap.size W wr) (fun _ _ i _ => n - (intOf i).toNat)
 case atStart => exact ⟨0, Nat.zero_le _, rfl, Om.upTo_zero _, Below.refl _ _⟩
 case round =>
  obtain ⟨k, hk, rfl, hu, hbel⟩ := hrel
  have HU := Lib.hid hu; have HBel := Lib.hid hbel; clear hu hbel
  by_cases hlt : k < n
  ·obtain ⟨d, hd⟩ := getD_some (l := l) (i := k) (by rw [HL.out]; exact hlt)
   obtain ⟨blk, off, rfl, hblk, hcells⟩ := HR.out.at (by rw [HL.out]; omega)
   obtain ⟨g0, g1, g2⟩ := hcells k d hd
   have q0 := (HBel.out.cell (p := ⟨blk, off + k * 3, none⟩) hblk).trans g0
   have q1 := (HBel.out.cell (p := ⟨blk, off + k * 3 + 1, none⟩) hblk).trans g1
   have q2 := (HBel.out.cell (p := ⟨blk, off + k * 3 + 2, none⟩) hblk).trans g2
   have HD := Lib.hid hd; have HCs := Lib.hid hcells; have hsz := HBel.out.size
   obtain ⟨⟨r, i⟩, s⟩ := d
   simp only at q0 q1 q2
   have i0 : (0 : Int) ≤ (k : Int) := by omega
   have i1 : (k : Int) < (n : Int) := by omega
   clear hcells g0 g1 g2 hd
   cases hm : Dt.may ((r, i), s)
   ·have HMy := Lib.hid hm; clear hm
    have HX := Lib.hid (dropAt_no HD.out HMy.out)
    have hC : ∀ w2, Below (wr.alloc (.cells #[.int .u8 (r : Int), .int .u32 (i : Int), .int .u64 (s : Int)] 40)).drew.heap.size (wr.alloc (.cells #[.int .u8 (r : Int), .int .u32 (i : Int), .int .u64 (s : Int)] 40)).drew w2 → w2.cell? ⟨wr.heap.size, 0, none⟩ = some (.int .u8 (r : Int)) ∧ w2.cell? ⟨wr.heap.size, 1, none⟩ = some (.int .u32 (i : Int)) ∧ w2.cell? ⟨wr.heap.size, 2, none⟩ = some (.int .u64 (s : Int)) := fun w2 h =>
     ⟨(h.cell (p := ⟨wr.heap.size, 0, none⟩) (by simp)).trans (by simp), (h.cell (p := ⟨wr.heap.size, 1, none⟩) (by simp)).trans (by simp), (h.cell (p := ⟨wr.heap.size, 2, none⟩) (by simp)).trans (by simp)⟩
    have HC := Lib.hid hC; clear hC
    go_wp2_with fail
    refine Reg.region_list (by kernel_rfl) [fun v _ => v = .agg #[.int .u8 (r : Int), .int .u32 (i : Int), .int .u64 (s : Int)], fun v _ => v = .bool false, fun v _ => v = .bool true, fun v _ => v = .bool true, fun v _ => v = undef, fun v _ => v = undef, fun v _ => v = undef, fun v _ => v = undef, fun v _ => v = undef, fun v _ => v = undef, fun v _ => v = undef, fun v _ => v = undef, fun v _ => v = undef, fun v _ => v = undef, fun v _ => v = undef, fun v _ => v = undef, fun v _ => v = .bool true] (by kernel_rfl) ?_ ?_ ?_
    ·refine ⟨k4, k4, k4, k4, k4, k4, k4, k4, k4, k4, k4, k4, k4, k4, k4, k4, k4, trivial⟩
    ·refine ⟨?_, ?_, ?_, ?_, ?_, ?_, ?_, ?_, ?_, ?_, ?_, ?_, ?_, ?_, ?_, ?_, ?_, trivial⟩
     ·intro ev w hc hf hg hfix hdep hbel
      have e4 : ev (.tmp 4) = _ := hfix 4 (by decide)
      obtain ⟨hc0, hc1, hc2⟩ := HC.out w hbel
      exact okb trivial rfl (by go_simp)
     ·intro ev w hc hf hg hfix hdep hbel
      have e12 : ev (.tmp 12) = _ := hdep 0 (by decide)
      refine Or.inl ⟨trivial, Or.inr ⟨68, #[.agg #[.int .u8 (r : Int), .int .u32 (i : Int), .int .u64 (s : Int)]], w, by go_simp, ?_⟩⟩
      refine (may_any r i s w).mono ?_
      rintro e w1 ⟨rfl, hb1⟩
      exact ⟨_, rfl, by rw [HMy.out], hb1⟩
     ·intro ev w hc hf hg hfix hdep hbel
      have e13 : ev (.tmp 13) = _ := hdep 1 (by decide)
      exact okb trivial rfl (by go_simp)
     ·intro ev w hc hf hg hfix hdep hbel
      have e14 : ev (.tmp 14) = _ := hdep 2 (by decide)
      exact okb trivial rfl (by go_simp)
     ·intro ev w hc hf hg hfix hdep hbel
      have fg : ev (.tmp 15) = _ := hdep 3 (by decide)
      exact Or.inr ⟨Or.inl fg, rfl⟩
     ·intro ev w hc hf hg hfix hdep hbel
      have fg : ev (.tmp 15) = _ := hdep 3 (by decide)
      exact Or.inr ⟨Or.inl fg, rfl⟩
     ·intro ev w hc hf hg hfix hdep hbel
      have fg : ev (.tmp 15) = _ := hdep 3 (by decide)
      exact Or.inr ⟨Or.inl fg, rfl⟩
     ·intro ev w hc hf hg hfix hdep hbel
      have fg : ev (.tmp 18) = _ := hdep 6 (by decide)
      exact Or.inr ⟨Or.inr fg, rfl⟩
     ·intro ev w hc hf hg hfix hdep hbel
      have fg : ev (.tmp 18) = _ := hdep 6 (by decide)
      exact Or.inr ⟨Or.inr fg, rfl⟩
     ·intro ev w hc hf hg hfix hdep hbel
      have fg : ev (.tmp 18) = _ := hdep 6 (by decide)
      exact Or.inr ⟨Or.inr fg, rfl⟩
     ·intro ev w hc hf hg hfix hdep hbel
      have fg : ev (.tmp 18) = _ := hdep 6 (by decide)
      exact Or.inr ⟨Or.inr fg, rfl⟩
     ·intro ev w hc hf hg hfix hdep hbel
      have fg : ev (.tmp 18) = _ := hdep 6 (by decide)
      exact Or.inr ⟨Or.inr fg, rfl⟩
     ·intro ev w hc hf hg hfix hdep hbel
      have fg : ev (.tmp 18) = _ := hdep 6 (by decide)
      exact Or.inr ⟨Or.inr fg, rfl⟩
     ·intro ev w hc hf hg hfix hdep hbel
      have fg : ev (.tmp 18) = _ := hdep 6 (by decide)
      exact Or.inr ⟨Or.inr fg, rfl⟩
     ·intro ev w hc hf hg hfix hdep hbel
      have fg : ev (.tmp 18) = _ := hdep 6 (by decide)
      exact Or.inr ⟨Or.inr fg, rfl⟩
     ·intro ev w hc hf hg hfix hdep hbel
      have fg : ev (.tmp 15) = _ := hdep 3 (by decide)
      exact Or.inr ⟨Or.inl fg, rfl⟩
     ·intro ev w hc hf hg hfix hdep hbel
      have e15 : ev (.tmp 15) = _ := hdep 3 (by decide)
      have e27 : ev (.tmp 27) = _ := hdep 15 (by decide)
      exact okb trivial rfl (by go_simp)
    ·intro v w2 hv hb2
     have r0 : v 0 = _ := hv 0 (by decide)
     have r1 : v 1 = _ := hv 1 (by decide)
     have r2 : v 2 = _ := hv 2 (by decide)
     have r3 : v 3 = _ := hv 3 (by decide)
     have r4 : v 4 = _ := hv 4 (by decide)
     have r5 : v 5 = _ := hv 5 (by decide)
     have r6 : v 6 = _ := hv 6 (by decide)
     have r7 : v 7 = _ := hv 7 (by decide)
     have r8 : v 8 = _ := hv 8 (by decide)
     have r9 : v 9 = _ := hv 9 (by decide)
     have r10 : v 10 = _ := hv 10 (by decide)
     have r11 : v 11 = _ := hv 11 (by decide)
     have r12 : v 12 = _ := hv 12 (by decide)
     have r13 : v 13 = _ := hv 13 (by decide)
     have r14 : v 14 = _ := hv 14 (by decide)
     have r15 : v 15 = _ := hv 15 (by decide)
     have r16 : v 16 = _ := hv 16 (by decide)
     simp only [Reg.putAll, Act.put, List.setIfInBounds_toArray, List.set_cons_zero, List.set_cons_succ, r0, r1, r2, r3, r4, r5, r6, r7, r8, r9, r10, r11, r12, r13, r14, r15, r16]
     clear r0 r1 r2 r3 r4 r5 r6 r7 r8 r9 r10 r11 r12 r13 r14 r15 r16 hv
     have HBw := Lib.hid (HBel.out.trans (((Below.alloc (Below.refl _ _) (Nat.le_refl _) _).trans (hb2.mono (by simp))).mono HBel.out.size)); clear hb2
     go_wp2_with fail
     go_ret
     exact ⟨ret_bool (by simp [Lm.mayTombs, HL.out, Om.upTo_not hlt HX.out]), HBw.out⟩
   ·have HMy := Lib.hid hm; clear hm
    by_cases hk0 : k = 0
    ·subst hk0
     simp only [Nat.zero_mul, Nat.add_zero] at q0 q1 q2
     have HX := Lib.hid ((dropAt_zero HD.out).trans HMy.out)
     have hC : ∀ w2, Below (wr.alloc (.cells #[.int .u8 (r : Int), .int .u32 (i : Int), .int .u64 (s : Int)] 40)).drew.heap.size (wr.alloc (.cells #[.int .u8 (r : Int), .int .u32 (i : Int), .int .u64 (s : Int)] 40)).drew w2 → w2.cell? ⟨wr.heap.size, 0, none⟩ = some (.int .u8 (r : Int)) ∧ w2.cell? ⟨wr.heap.size, 1, none⟩ = some (.int .u32 (i : Int)) ∧ w2.cell? ⟨wr.heap.size, 2, none⟩ = some (.int .u64 (s : Int)) := fun w2 h =>
      ⟨(h.cell (p := ⟨wr.heap.size, 0, none⟩) (by simp)).trans (by simp), (h.cell (p := ⟨wr.heap.size, 1, none⟩) (by simp)).trans (by simp), (h.cell (p := ⟨wr.heap.size, 2, none⟩) (by simp)).trans (by simp)⟩
     have HC := Lib.hid hC; clear hC
     go_wp2_with fail
     refine Reg.region_list (by kernel_rfl) [fun v _ => v = .agg #[.int .u8 (r : Int), .int .u32 (i : Int), .int .u64 (s : Int)], fun v _ => v = .bool true, fun v _ => v = .bool false, fun v _ => v = .bool false, fun v _ => v = .int .i64 ((0 : Nat) : Int), fun v _ => v = .bool false, fun v _ => v = .bool false, fun v _ => v = undef, fun v _ => v = undef, fun v _ => v = undef, fun v _ => v = undef, fun v _ => v = undef, fun v _ => v = undef, fun v _ => v = undef, fun v _ => v = undef, fun v _ => v = .bool false, fun v _ => v = .bool false] (by kernel_rfl) ?_ ?_ ?_
     ·refine ⟨k4, k4, k4, k4, k4, k4, k4, k4, k4, k4, k4, k4, k4, k4, k4, k4, k4, trivial⟩
     ·refine ⟨?_, ?_, ?_, ?_, ?_, ?_, ?_, ?_, ?_, ?_, ?_, ?_, ?_, ?_, ?_, ?_, ?_, trivial⟩
      ·intro ev w hc hf hg hfix hdep hbel
       have e4 : ev (.tmp 4) = _ := hfix 4 (by decide)
       obtain ⟨hc0, hc1, hc2⟩ := HC.out w hbel
       exact okb trivial rfl (by go_simp)
      ·intro ev w hc hf hg hfix hdep hbel
       have e12 : ev (.tmp 12) = _ := hdep 0 (by decide)
       refine Or.inl ⟨trivial, Or.inr ⟨68, #[.agg #[.int .u8 (r : Int), .int .u32 (i : Int), .int .u64 (s : Int)]], w, by go_simp, ?_⟩⟩
       refine (may_any r i s w).mono ?_
       rintro e w1 ⟨rfl, hb1⟩
       exact ⟨_, rfl, by rw [HMy.out], hb1⟩
      ·intro ev w hc hf hg hfix hdep hbel
       have e13 : ev (.tmp 13) = _ := hdep 1 (by decide)
       exact okb trivial rfl (by go_simp)
      ·intro ev w hc hf hg hfix hdep hbel
       have e14 : ev (.tmp 14) = _ := hdep 2 (by decide)
       exact okb trivial rfl (by go_simp)
      ·intro ev w hc hf hg hfix hdep hbel
       have fg : ev (.tmp 15) = _ := hdep 3 (by decide)
       have e3 : ev (.tmp 3) = _ := hfix 3 (by decide)
       exact okb fg rfl (by go_simp)
      ·intro ev w hc hf hg hfix hdep hbel
       have fg : ev (.tmp 15) = _ := hdep 3 (by decide)
       have e16 : ev (.tmp 16) = _ := hdep 4 (by decide)
       exact okb fg rfl (by go_simp)
      ·intro ev w hc hf hg hfix hdep hbel
       have fg : ev (.tmp 15) = _ := hdep 3 (by decide)
       have e17 : ev (.tmp 17) = _ := hdep 5 (by decide)
       exact okb fg rfl (by go_simp)
      ·intro ev w hc hf hg hfix hdep hbel
       have fg : ev (.tmp 18) = _ := hdep 6 (by decide)
       exact Or.inr ⟨Or.inl fg, rfl⟩
      ·intro ev w hc hf hg hfix hdep hbel
       have fg : ev (.tmp 18) = _ := hdep 6 (by decide)
       exact Or.inr ⟨Or.inl fg, rfl⟩
      ·intro ev w hc hf hg hfix hdep hbel
       have fg : ev (.tmp 18) = _ := hdep 6 (by decide)
       exact Or.inr ⟨Or.inl fg, rfl⟩
      ·intro ev w hc hf hg hfix hdep hbel
       have fg : ev (.tmp 18) = _ := hdep 6 (by decide)
       exact Or.inr ⟨Or.inl fg, rfl⟩
      ·intro ev w hc hf hg hfix hdep hbel
       have fg : ev (.tmp 18) = _ := hdep 6 (by decide)
       exact Or.inr ⟨Or.inl fg, rfl⟩
      ·intro ev w hc hf hg hfix hdep hbel
       have fg : ev (.tmp 18) = _ := hdep 6 (by decide)
       exact Or.inr ⟨Or.inl fg, rfl⟩
      ·intro ev w hc hf hg hfix hdep hbel
       have fg : ev (.tmp 18) = _ := hdep 6 (by decide)
       exact Or.inr ⟨Or.inl fg, rfl⟩
      ·intro ev w hc hf hg hfix hdep hbel
       have fg : ev (.tmp 18) = _ := hdep 6 (by decide)
       exact Or.inr ⟨Or.inl fg, rfl⟩
      ·intro ev w hc hf hg hfix hdep hbel
       have fg : ev (.tmp 15) = _ := hdep 3 (by decide)
       have e18 : ev (.tmp 18) = _ := hdep 6 (by decide)
       have e26 : ev (.tmp 26) = _ := hdep 14 (by decide)
       exact okb fg rfl (by go_simp)
      ·intro ev w hc hf hg hfix hdep hbel
       have e15 : ev (.tmp 15) = _ := hdep 3 (by decide)
       have e27 : ev (.tmp 27) = _ := hdep 15 (by decide)
       exact okb trivial rfl (by go_simp)
     ·intro v w2 hv hb2
      have r0 : v 0 = _ := hv 0 (by decide)
      have r1 : v 1 = _ := hv 1 (by decide)
      have r2 : v 2 = _ := hv 2 (by decide)
      have r3 : v 3 = _ := hv 3 (by decide)
      have r4 : v 4 = _ := hv 4 (by decide)
      have r5 : v 5 = _ := hv 5 (by decide)
      have r6 : v 6 = _ := hv 6 (by decide)
      have r7 : v 7 = _ := hv 7 (by decide)
      have r8 : v 8 = _ := hv 8 (by decide)
      have r9 : v 9 = _ := hv 9 (by decide)
      have r10 : v 10 = _ := hv 10 (by decide)
      have r11 : v 11 = _ := hv 11 (by decide)
      have r12 : v 12 = _ := hv 12 (by decide)
      have r13 : v 13 = _ := hv 13 (by decide)
      have r14 : v 14 = _ := hv 14 (by decide)
      have r15 : v 15 = _ := hv 15 (by decide)
      have r16 : v 16 = _ := hv 16 (by decide)
      simp only [Reg.putAll, Act.put, List.setIfInBounds_toArray, List.set_cons_zero, List.set_cons_succ, r0, r1, r2, r3, r4, r5, r6, r7, r8, r9, r10, r11, r12, r13, r14, r15, r16]
      clear r0 r1 r2 r3 r4 r5 r6 r7 r8 r9 r10 r11 r12 r13 r14 r15 r16 hv
      have HBw := Lib.hid (HBel.out.trans (((Below.alloc (Below.refl _ _) (Nat.le_refl _) _).trans (hb2.mono (by simp))).mono HBel.out.size)); clear hb2
      go_wp2_with fail
      go_roundw
      case rel => exact ⟨0 + 1, by omega, by go_num, Om.upTo_succ HU.out HX.out, HBw.out⟩
      case measure => simp [intOf]; omega
    ·obtain ⟨j, rfl⟩ : ∃ j, k = j + 1 := ⟨k - 1, by omega⟩
     obtain ⟨e, he⟩ := getD_some (l := l) (i := j) (by rw [HL.out]; omega)
     obtain ⟨g0, g1, g2⟩ := HCs.out j e he
     have p0 := (HBel.out.cell (p := ⟨blk, off + j * 3, none⟩) hblk).trans g0
     have p1 := (HBel.out.cell (p := ⟨blk, off + j * 3 + 1, none⟩) hblk).trans g1
     have p2 := (HBel.out.cell (p := ⟨blk, off + j * 3 + 2, none⟩) hblk).trans g2
     have hbw := World.block_lt_of_cell? _ _ p0
     have j0 : (0 : Int) ≤ (j : Int) := by omega
     have j1 : (j : Int) < (n : Int) := by omega
     have j2 : IntKind.i64.wrap (j : Int) = (j : Int) := by simp [IntKind.wrap, IntKind.bits, IntKind.signed]; omega
     have j3 : ¬ n ≤ j := by omega
     simp only at hbw
     have hd := dropAt_succ (l := l) (k := j + 1) (d := ((r, i), s)) (e := e) (by omega) HD.out he
     have HE := Lib.hid he; clear g0 g1 g2 he hk0
     rw [HMy.out, Bool.true_and] at hd
     obtain ⟨⟨r', i'⟩, s'⟩ := e
     simp only at p0 p1 p2
     have hC : ∀ w2, Below (wr.alloc (.cells #[.int .u8 (r : Int), .int .u32 (i : Int), .int .u64 (s : Int)] 40)).drew.heap.size (wr.alloc (.cells #[.int .u8 (r : Int), .int .u32 (i : Int), .int .u64 (s : Int)] 40)).drew w2 → w2.cell? ⟨wr.heap.size, 0, none⟩ = some (.int .u8 (r : Int)) ∧ w2.cell? ⟨wr.heap.size, 1, none⟩ = some (.int .u32 (i : Int)) ∧ w2.cell? ⟨wr.heap.size, 2, none⟩ = some (.int .u64 (s : Int)) ∧ w2.cell? ⟨blk, off + j * 3, none⟩ = some (.int .u8 (r' : Int)) ∧ w2.cell? ⟨blk, off + j * 3 + 1, none⟩ = some (.int .u32 (i' : Int)) ∧ w2.cell? ⟨blk, off + j * 3 + 2, none⟩ = some (.int .u64 (s' : Int)) := fun w2 h =>
      ⟨(h.cell (p := ⟨wr.heap.size, 0, none⟩) (by simp)).trans (by simp), (h.cell (p := ⟨wr.heap.size, 1, none⟩) (by simp)).trans (by simp), (h.cell (p := ⟨wr.heap.size, 2, none⟩) (by simp)).trans (by simp), ((Below.alloc (Below.refl wr.heap.size wr) (Nat.le_refl _) _).drew.trans (h.mono (by simp))).cell (p := ⟨blk, off + j * 3, none⟩) (by simp only; omega) |>.trans p0, ((Below.alloc (Below.refl wr.heap.size wr) (Nat.le_refl _) _).drew.trans (h.mono (by simp))).cell (p := ⟨blk, off + j * 3 + 1, none⟩) (by simp only; omega) |>.trans p1, ((Below.alloc (Below.refl wr.heap.size wr) (Nat.le_refl _) _).drew.trans (h.mono (by simp))).cell (p := ⟨blk, off + j * 3 + 2, none⟩) (by simp only; omega) |>.trans p2⟩
     have HC := Lib.hid hC; clear hC
     clear p0 p1 p2
     have hcl := cmp_less ((r', i'), s') ((r, i), s)
     cases hls : Dt.less ((r', i'), s') ((r, i), s)
     ·rw [hls] at hd hcl
      have HX := Lib.hid hd
      have hcz : 0 ≤ Dt.cmp ((r', i'), s') ((r, i), s) := by simpa using hcl
      clear hd hcl hls
      go_wp2_with fail
      refine Reg.region_list (by kernel_rfl) [fun v _ => v = .agg #[.int .u8 (r : Int), .int .u32 (i : Int), .int .u64 (s : Int)], fun v _ => v = .bool true, fun v _ => v = .bool false, fun v _ => v = .bool false, fun v _ => v = .int .i64 ((j + 1 : Nat) : Int), fun v _ => v = .bool true, fun v _ => v = .bool true, fun v _ => v = .slice (some ⟨blk, off, none⟩) n cap, fun v _ => v = .int .i64 ((j + 1 : Nat) : Int), fun v _ => v = .int .i64 (j : Int), fun v _ => v = .pointer (some ⟨blk, off + j * 3, none⟩), fun v _ => v = dotV ((r', i'), s'), fun v _ => v = .agg #[.int .u8 (r : Int), .int .u32 (i : Int), .int .u64 (s : Int)], fun v _ => v = .int .i64 (Dt.cmp ((r', i'), s') ((r, i), s)), fun v _ => v = .bool true, fun v _ => v = .bool true, fun v _ => v = .bool true] (by kernel_rfl) ?_ ?_ ?_
      ·refine ⟨k4, k4, k4, k4, k4, k4, k4, k4, k4, k4, k4, k4, k4, k4, k4, k4, k4, trivial⟩
      ·refine ⟨?_, ?_, ?_, ?_, ?_, ?_, ?_, ?_, ?_, ?_, ?_, ?_, ?_, ?_, ?_, ?_, ?_, trivial⟩
       ·intro ev w hc hf hg hfix hdep hbel
        have e4 : ev (.tmp 4) = _ := hfix 4 (by decide)
        obtain ⟨hc0, hc1, hc2, hc3, hc4, hc5⟩ := HC.out w hbel
        exact okb trivial rfl (by go_simp)
       ·intro ev w hc hf hg hfix hdep hbel
        have e12 : ev (.tmp 12) = _ := hdep 0 (by decide)
        refine Or.inl ⟨trivial, Or.inr ⟨68, #[.agg #[.int .u8 (r : Int), .int .u32 (i : Int), .int .u64 (s : Int)]], w, by go_simp, ?_⟩⟩
        refine (may_any r i s w).mono ?_
        rintro e w1 ⟨rfl, hb1⟩
        exact ⟨_, rfl, by rw [HMy.out], hb1⟩
       ·intro ev w hc hf hg hfix hdep hbel
        have e13 : ev (.tmp 13) = _ := hdep 1 (by decide)
        exact okb trivial rfl (by go_simp)
       ·intro ev w hc hf hg hfix hdep hbel
        have e14 : ev (.tmp 14) = _ := hdep 2 (by decide)
        exact okb trivial rfl (by go_simp)
       ·intro ev w hc hf hg hfix hdep hbel
        have fg : ev (.tmp 15) = _ := hdep 3 (by decide)
        have e3 : ev (.tmp 3) = _ := hfix 3 (by decide)
        exact okb fg rfl (by go_simp)
       ·intro ev w hc hf hg hfix hdep hbel
        have fg : ev (.tmp 15) = _ := hdep 3 (by decide)
        have e16 : ev (.tmp 16) = _ := hdep 4 (by decide)
        exact okb fg rfl (by go_simp)
       ·intro ev w hc hf hg hfix hdep hbel
        have fg : ev (.tmp 15) = _ := hdep 3 (by decide)
        have e17 : ev (.tmp 17) = _ := hdep 5 (by decide)
        exact okb fg rfl (by go_simp)
       ·intro ev w hc hf hg hfix hdep hbel
        have fg : ev (.tmp 18) = _ := hdep 6 (by decide)
        have e0 : ev (.tmp 0) = _ := hfix 0 (by decide)
        exact okb fg rfl (by go_simp)
       ·intro ev w hc hf hg hfix hdep hbel
        have fg : ev (.tmp 18) = _ := hdep 6 (by decide)
        have e3 : ev (.tmp 3) = _ := hfix 3 (by decide)
        exact okb fg rfl (by go_simp)
       ·intro ev w hc hf hg hfix hdep hbel
        have fg : ev (.tmp 18) = _ := hdep 6 (by decide)
        have e20 : ev (.tmp 20) = _ := hdep 8 (by decide)
        exact okb fg rfl (by go_simp)
       ·intro ev w hc hf hg hfix hdep hbel
        have fg : ev (.tmp 18) = _ := hdep 6 (by decide)
        have e19 : ev (.tmp 19) = _ := hdep 7 (by decide)
        have e21 : ev (.tmp 21) = _ := hdep 9 (by decide)
        exact okb fg rfl (by go_simp)
       ·intro ev w hc hf hg hfix hdep hbel
        have fg : ev (.tmp 18) = _ := hdep 6 (by decide)
        have e22 : ev (.tmp 22) = _ := hdep 10 (by decide)
        obtain ⟨hc0, hc1, hc2, hc3, hc4, hc5⟩ := HC.out w hbel
        exact okb fg rfl (by go_simp)
       ·intro ev w hc hf hg hfix hdep hbel
        have fg : ev (.tmp 18) = _ := hdep 6 (by decide)
        have e4 : ev (.tmp 4) = _ := hfix 4 (by decide)
        obtain ⟨hc0, hc1, hc2, hc3, hc4, hc5⟩ := HC.out w hbel
        exact okb fg rfl (by go_simp)
       ·intro ev w hc hf hg hfix hdep hbel
        have fg : ev (.tmp 18) = _ := hdep 6 (by decide)
        have e23 : ev (.tmp 23) = _ := hdep 11 (by decide)
        have e24 : ev (.tmp 24) = _ := hdep 12 (by decide)
        refine Or.inl ⟨fg, Or.inr ⟨70, #[dotV ((r', i'), s'), .agg #[.int .u8 (r : Int), .int .u32 (i : Int), .int .u64 (s : Int)]], w, by go_simp, ?_⟩⟩
        refine (compare_any r' i' s' r i s w).mono ?_
        rintro e w1 ⟨rfl, hb1⟩
        exact ⟨_, rfl, rfl, hb1.below⟩
       ·intro ev w hc hf hg hfix hdep hbel
        have fg : ev (.tmp 18) = _ := hdep 6 (by decide)
        have e25 : ev (.tmp 25) = _ := hdep 13 (by decide)
        exact okb fg rfl (by go_simp)
       ·intro ev w hc hf hg hfix hdep hbel
        have fg : ev (.tmp 15) = _ := hdep 3 (by decide)
        have e18 : ev (.tmp 18) = _ := hdep 6 (by decide)
        have e26 : ev (.tmp 26) = _ := hdep 14 (by decide)
        exact okb fg rfl (by go_simp)
       ·intro ev w hc hf hg hfix hdep hbel
        have e15 : ev (.tmp 15) = _ := hdep 3 (by decide)
        have e27 : ev (.tmp 27) = _ := hdep 15 (by decide)
        exact okb trivial rfl (by go_simp)
      ·intro v w2 hv hb2
       have r0 : v 0 = _ := hv 0 (by decide)
       have r1 : v 1 = _ := hv 1 (by decide)
       have r2 : v 2 = _ := hv 2 (by decide)
       have r3 : v 3 = _ := hv 3 (by decide)
       have r4 : v 4 = _ := hv 4 (by decide)
       have r5 : v 5 = _ := hv 5 (by decide)
       have r6 : v 6 = _ := hv 6 (by decide)
       have r7 : v 7 = _ := hv 7 (by decide)
       have r8 : v 8 = _ := hv 8 (by decide)
       have r9 : v 9 = _ := hv 9 (by decide)
       have r10 : v 10 = _ := hv 10 (by decide)
       have r11 : v 11 = _ := hv 11 (by decide)
       have r12 : v 12 = _ := hv 12 (by decide)
       have r13 : v 13 = _ := hv 13 (by decide)
       have r14 : v 14 = _ := hv 14 (by decide)
       have r15 : v 15 = _ := hv 15 (by decide)
       have r16 : v 16 = _ := hv 16 (by decide)
       simp only [Reg.putAll, Act.put, List.setIfInBounds_toArray, List.set_cons_zero, List.set_cons_succ, r0, r1, r2, r3, r4, r5, r6, r7, r8, r9, r10, r11, r12, r13, r14, r15, r16]
       clear r0 r1 r2 r3 r4 r5 r6 r7 r8 r9 r10 r11 r12 r13 r14 r15 r16 hv
       have HBw := Lib.hid (HBel.out.trans (((Below.alloc (Below.refl _ _) (Nat.le_refl _) _).trans (hb2.mono (by simp))).mono HBel.out.size)); clear hb2
       go_wp2_with fail
       go_ret
       exact ⟨ret_bool (by simp [Lm.mayTombs, HL.out, Om.upTo_not hlt HX.out]), HBw.out⟩
     ·rw [hls] at hd hcl
      have HX := Lib.hid hd
      have hcz : Dt.cmp ((r', i'), s') ((r, i), s) < 0 := by simpa using hcl
      clear hd hcl hls
      go_wp2_with fail
      refine Reg.region_list (by kernel_rfl) [fun v _ => v = .agg #[.int .u8 (r : Int), .int .u32 (i : Int), .int .u64 (s : Int)], fun v _ => v = .bool true, fun v _ => v = .bool false, fun v _ => v = .bool false, fun v _ => v = .int .i64 ((j + 1 : Nat) : Int), fun v _ => v = .bool true, fun v _ => v = .bool true, fun v _ => v = .slice (some ⟨blk, off, none⟩) n cap, fun v _ => v = .int .i64 ((j + 1 : Nat) : Int), fun v _ => v = .int .i64 (j : Int), fun v _ => v = .pointer (some ⟨blk, off + j * 3, none⟩), fun v _ => v = dotV ((r', i'), s'), fun v _ => v = .agg #[.int .u8 (r : Int), .int .u32 (i : Int), .int .u64 (s : Int)], fun v _ => v = .int .i64 (Dt.cmp ((r', i'), s') ((r, i), s)), fun v _ => v = .bool false, fun v _ => v = .bool false, fun v _ => v = .bool false] (by kernel_rfl) ?_ ?_ ?_
      ·refine ⟨k4, k4, k4, k4, k4, k4, k4, k4, k4, k4, k4, k4, k4, k4, k4, k4, k4, trivial⟩
      ·refine ⟨?_, ?_, ?_, ?_, ?_, ?_, ?_, ?_, ?_, ?_, ?_, ?_, ?_, ?_, ?_, ?_, ?_, trivial⟩
       ·intro ev w hc hf hg hfix hdep hbel
        have e4 : ev (.tmp 4) = _ := hfix 4 (by decide)
        obtain ⟨hc0, hc1, hc2, hc3, hc4, hc5⟩ := HC.out w hbel
        exact okb trivial rfl (by go_simp)
       ·intro ev w hc hf hg hfix hdep hbel
        have e12 : ev (.tmp 12) = _ := hdep 0 (by decide)
        refine Or.inl ⟨trivial, Or.inr ⟨68, #[.agg #[.int .u8 (r : Int), .int .u32 (i : Int), .int .u64 (s : Int)]], w, by go_simp, ?_⟩⟩
        refine (may_any r i s w).mono ?_
        rintro e w1 ⟨rfl, hb1⟩
        exact ⟨_, rfl, by rw [HMy.out], hb1⟩
       ·intro ev w hc hf hg hfix hdep hbel
        have e13 : ev (.tmp 13) = _ := hdep 1 (by decide)
        exact okb trivial rfl (by go_simp)
       ·intro ev w hc hf hg hfix hdep hbel
        have e14 : ev (.tmp 14) = _ := hdep 2 (by decide)
        exact okb trivial rfl (by go_simp)
       ·intro ev w hc hf hg hfix hdep hbel
        have fg : ev (.tmp 15) = _ := hdep 3 (by decide)
        have e3 : ev (.tmp 3) = _ := hfix 3 (by decide)
        exact okb fg rfl (by go_simp)
       ·intro ev w hc hf hg hfix hdep hbel
        have fg : ev (.tmp 15) = _ := hdep 3 (by decide)
        have e16 : ev (.tmp 16) = _ := hdep 4 (by decide)
        exact okb fg rfl (by go_simp)
       ·intro ev w hc hf hg hfix hdep hbel
        have fg : ev (.tmp 15) = _ := hdep 3 (by decide)
        have e17 : ev (.tmp 17) = _ := hdep 5 (by decide)
        exact okb fg rfl (by go_simp)
       ·intro ev w hc hf hg hfix hdep hbel
        have fg : ev (.tmp 18) = _ := hdep 6 (by decide)
        have e0 : ev (.tmp 0) = _ := hfix 0 (by decide)
        exact okb fg rfl (by go_simp)
       ·intro ev w hc hf hg hfix hdep hbel
        have fg : ev (.tmp 18) = _ := hdep 6 (by decide)
        have e3 : ev (.tmp 3) = _ := hfix 3 (by decide)
        exact okb fg rfl (by go_simp)
       ·intro ev w hc hf hg hfix hdep hbel
        have fg : ev (.tmp 18) = _ := hdep 6 (by decide)
        have e20 : ev (.tmp 20) = _ := hdep 8 (by decide)
        exact okb fg rfl (by go_simp)
       ·intro ev w hc hf hg hfix hdep hbel
        have fg : ev (.tmp 18) = _ := hdep 6 (by decide)
        have e19 : ev (.tmp 19) = _ := hdep 7 (by decide)
        have e21 : ev (.tmp 21) = _ := hdep 9 (by decide)
        exact okb fg rfl (by go_simp)
       ·intro ev w hc hf hg hfix hdep hbel
        have fg : ev (.tmp 18) = _ := hdep 6 (by decide)
        have e22 : ev (.tmp 22) = _ := hdep 10 (by decide)
        obtain ⟨hc0, hc1, hc2, hc3, hc4, hc5⟩ := HC.out w hbel
        exact okb fg rfl (by go_simp)
       ·intro ev w hc hf hg hfix hdep hbel
        have fg : ev (.tmp 18) = _ := hdep 6 (by decide)
        have e4 : ev (.tmp 4) = _ := hfix 4 (by decide)
        obtain ⟨hc0, hc1, hc2, hc3, hc4, hc5⟩ := HC.out w hbel
        exact okb fg rfl (by go_simp)
       ·intro ev w hc hf hg hfix hdep hbel
        have fg : ev (.tmp 18) = _ := hdep 6 (by decide)
        have e23 : ev (.tmp 23) = _ := hdep 11 (by decide)
        have e24 : ev (.tmp 24) = _ := hdep 12 (by decide)
        refine Or.inl ⟨fg, Or.inr ⟨70, #[dotV ((r', i'), s'), .agg #[.int .u8 (r : Int), .int .u32 (i : Int), .int .u64 (s : Int)]], w, by go_simp, ?_⟩⟩
        refine (compare_any r' i' s' r i s w).mono ?_
        rintro e w1 ⟨rfl, hb1⟩
        exact ⟨_, rfl, rfl, hb1.below⟩
       ·intro ev w hc hf hg hfix hdep hbel
        have fg : ev (.tmp 18) = _ := hdep 6 (by decide)
        have e25 : ev (.tmp 25) = _ := hdep 13 (by decide)
        exact okb fg rfl (by go_simp)
       ·intro ev w hc hf hg hfix hdep hbel
        have fg : ev (.tmp 15) = _ := hdep 3 (by decide)
        have e18 : ev (.tmp 18) = _ := hdep 6 (by decide)
        have e26 : ev (.tmp 26) = _ := hdep 14 (by decide)
        exact okb fg rfl (by go_simp)
       ·intro ev w hc hf hg hfix hdep hbel
        have e15 : ev (.tmp 15) = _ := hdep 3 (by decide)
        have e27 : ev (.tmp 27) = _ := hdep 15 (by decide)
        exact okb trivial rfl (by go_simp)
      ·intro v w2 hv hb2
       have r0 : v 0 = _ := hv 0 (by decide)
       have r1 : v 1 = _ := hv 1 (by decide)
       have r2 : v 2 = _ := hv 2 (by decide)
       have r3 : v 3 = _ := hv 3 (by decide)
       have r4 : v 4 = _ := hv 4 (by decide)
       have r5 : v 5 = _ := hv 5 (by decide)
       have r6 : v 6 = _ := hv 6 (by decide)
       have r7 : v 7 = _ := hv 7 (by decide)
       have r8 : v 8 = _ := hv 8 (by decide)
       have r9 : v 9 = _ := hv 9 (by decide)
       have r10 : v 10 = _ := hv 10 (by decide)
       have r11 : v 11 = _ := hv 11 (by decide)
       have r12 : v 12 = _ := hv 12 (by decide)
       have r13 : v 13 = _ := hv 13 (by decide)
       have r14 : v 14 = _ := hv 14 (by decide)
       have r15 : v 15 = _ := hv 15 (by decide)
       have r16 : v 16 = _ := hv 16 (by decide)
       simp only [Reg.putAll, Act.put, List.setIfInBounds_toArray, List.set_cons_zero, List.set_cons_succ, r0, r1, r2, r3, r4, r5, r6, r7, r8, r9, r10, r11, r12, r13, r14, r15, r16]
       clear r0 r1 r2 r3 r4 r5 r6 r7 r8 r9 r10 r11 r12 r13 r14 r15 r16 hv
       have HBw := Lib.hid (HBel.out.trans (((Below.alloc (Below.refl _ _) (Nat.le_refl _) _).trans (hb2.mono (by simp))).mono HBel.out.size)); clear hb2
       go_wp2_with fail
       go_roundw
       case rel => exact ⟨(j + 1) + 1, by omega, by go_num, Om.upTo_succ HU.out HX.out, HBw.out⟩
       case measure => simp [intOf]; omega
  ·obtain rfl : k = n := by omega
   go_wp2_with fail
   go_ret
   exact ⟨ret_bool (by simp [Lm.mayTombs, HL.out, HU.out]), HBel.out⟩
set_option maxRecDepth 100000 in
set_option maxHeartbeats 6400000 in
theorem mayItems_any (a : Option Addr) (n cap : Nat) (lo hi : Nat) (l : List Lm.It) (W : World) (hr : IRow W a cap l) (hl : l.length = n) :
  Calls Try.prog 62 #[.slice a n cap, .int .u64 (lo : Int), .int .u64 (hi : Int)] W fun e w' => e = .returned (.bool (Lm.mayItems lo hi l)) ∧ Below W.heap.size W w' := by
 have hle := hr.le
 have hcap := hr.cap
 rw [hl] at hle
 have HR := Lib.hid hr; have HL := Lib.hid hl
 clear hr hl
 go_enter Try.func62, Try.ntmps62
 go_wp2_with fail
 go_loopw [7, 8, 11] (fun _ _ i wr => ∃ k : Nat, k ≤ n ∧ i = .int .i64 k ∧ Om.upTo (Lm.itemAt lo hi l) k = true ∧ Below W.heap.size W wr) (fun _ _ i _ => n - (intOf i).toNat)
 case atStart => exact ⟨0, Nat.zero_le _, rfl, Om.upTo_zero _, Below.refl _ _⟩
 case round =>
  obtain ⟨k, hk, rfl, hu, hbel⟩ := hrel
  have HU := Lib.hid hu; have HBel := Lib.hid hbel; clear hu hbel
  by_cases hlt : k < n
  ·obtain ⟨d, hd⟩ := geti_some (l := l) (i := k) (by rw [HL.out]; exact hlt)
   obtain ⟨blk, off, rfl, hblk, hcells⟩ := HR.out.at (by rw [HL.out]; omega)
   obtain ⟨g0, g1, g2, g3, g4⟩ := hcells k d hd
   have q0 := (HBel.out.cell (p := ⟨blk, off + k * 5, none⟩) hblk).trans g0
   have q1 := (HBel.out.cell (p := ⟨blk, off + k * 5 + 1, none⟩) hblk).trans g1
   have q2 := (HBel.out.cell (p := ⟨blk, off + k * 5 + 2, none⟩) hblk).trans g2
   have q3 := (HBel.out.cell (p := ⟨blk, off + k * 5 + 3, none⟩) hblk).trans g3
   have q4 := (HBel.out.cell (p := ⟨blk, off + k * 5 + 4, none⟩) hblk).trans g4
   have HD := Lib.hid hd; have HCs := Lib.hid hcells; have hsz := HBel.out.size
   have HSz := Lib.hid (HR.out.ok _ (List.mem_of_getElem? hd)).2.2
   obtain ⟨t, ⟨⟨r, i⟩, s⟩, x⟩ := d
   simp only at q0 q1 q2 q3 q4 HSz
   have i0 : (0 : Int) ≤ (k : Int) := by omega
   have i1 : (k : Int) < (n : Int) := by omega
   clear hcells g0 g1 g2 g3 g4 hd
   cases hm : Lm.mayI lo hi (t, ((r, i), s), x)
   ·have HMy := Lib.hid hm; clear hm
    have HX := Lib.hid (itemAt_no HD.out HMy.out)
    have hC : ∀ w2, Below (wr.alloc (.cells #[.int .u64 (t : Int), .int .u8 (r : Int), .int .u32 (i : Int), .int .u64 (s : Int), .string x] 57)).drew.heap.size (wr.alloc (.cells #[.int .u64 (t : Int), .int .u8 (r : Int), .int .u32 (i : Int), .int .u64 (s : Int), .string x] 57)).drew w2 → w2.cell? ⟨wr.heap.size, 0, none⟩ = some (.int .u64 (t : Int)) ∧ w2.cell? ⟨wr.heap.size, 1, none⟩ = some (.int .u8 (r : Int)) ∧ w2.cell? ⟨wr.heap.size, 2, none⟩ = some (.int .u32 (i : Int)) ∧ w2.cell? ⟨wr.heap.size, 3, none⟩ = some (.int .u64 (s : Int)) ∧ w2.cell? ⟨wr.heap.size, 4, none⟩ = some (.string x) := fun w2 h =>
     ⟨(h.cell (p := ⟨wr.heap.size, 0, none⟩) (by simp)).trans (by simp), (h.cell (p := ⟨wr.heap.size, 1, none⟩) (by simp)).trans (by simp), (h.cell (p := ⟨wr.heap.size, 2, none⟩) (by simp)).trans (by simp), (h.cell (p := ⟨wr.heap.size, 3, none⟩) (by simp)).trans (by simp), (h.cell (p := ⟨wr.heap.size, 4, none⟩) (by simp)).trans (by simp)⟩
    have HC := Lib.hid hC; clear hC
    go_wp2_with fail
    refine Reg.region_list (by kernel_rfl) [fun v _ => v = .agg #[.int .u64 (t : Int), .int .u8 (r : Int), .int .u32 (i : Int), .int .u64 (s : Int), .string x], fun v _ => v = .int .u64 (lo : Int), fun v _ => v = .int .u64 (hi : Int), fun v _ => v = .bool false, fun v _ => v = .bool true, fun v _ => v = .bool true, fun v _ => v = undef, fun v _ => v = undef, fun v _ => v = undef, fun v _ => v = undef, fun v _ => v = undef, fun v _ => v = undef, fun v _ => v = undef, fun v _ => v = undef, fun v _ => v = undef, fun v _ => v = undef, fun v _ => v = undef, fun v _ => v = undef, fun v _ => v = undef, fun v _ => v = undef, fun v _ => v = undef, fun v _ => v = undef, fun v _ => v = undef, fun v _ => v = undef, fun v _ => v = undef, fun v _ => v = undef, fun v _ => v = undef, fun v _ => v = undef, fun v _ => v = .bool true] (by kernel_rfl) ?_ ?_ ?_
    ·refine ⟨k4, k4, k4, k4, k4, k4, k4, k4, k4, k4, k4, k4, k4, k4, k4, k4, k4, k4, k4, k4, k4, k4, k4, k4, k4, k4, k4, k4, k4, trivial⟩
    ·refine ⟨?_, ?_, ?_, ?_, ?_, ?_, ?_, ?_, ?_, ?_, ?_, ?_, ?_, ?_, ?_, ?_, ?_, ?_, ?_, ?_, ?_, ?_, ?_, ?_, ?_, ?_, ?_, ?_, ?_, trivial⟩
     ·intro ev w hc hf hg hfix hdep hbel
      have e8 : ev (.tmp 8) = _ := hfix 8 (by decide)
      obtain ⟨hc0, hc1, hc2, hc3, hc4⟩ := HC.out w hbel
      exact okb trivial rfl (by go_simp)
     ·intro ev w hc hf hg hfix hdep hbel
      have e1 : ev (.tmp 1) = _ := hfix 1 (by decide)
      exact okb trivial rfl (by go_simp)
     ·intro ev w hc hf hg hfix hdep hbel
      have e2 : ev (.tmp 2) = _ := hfix 2 (by decide)
      exact okb trivial rfl (by go_simp)
     ·intro ev w hc hf hg hfix hdep hbel
      have e16 : ev (.tmp 16) = _ := hdep 0 (by decide)
      have e17 : ev (.tmp 17) = _ := hdep 1 (by decide)
      have e18 : ev (.tmp 18) = _ := hdep 2 (by decide)
      refine Or.inl ⟨trivial, Or.inr ⟨61, #[.agg #[.int .u64 (t : Int), .int .u8 (r : Int), .int .u32 (i : Int), .int .u64 (s : Int), .string x], .int .u64 (lo : Int), .int .u64 (hi : Int)], w, by go_simp, ?_⟩⟩
      refine (mayItem_any t r i s x lo hi HSz.out w).mono ?_
      rintro e w1 ⟨rfl, hb1⟩
      exact ⟨_, rfl, by rw [HMy.out], hb1⟩
     ·intro ev w hc hf hg hfix hdep hbel
      have e19 : ev (.tmp 19) = _ := hdep 3 (by decide)
      exact okb trivial rfl (by go_simp)
     ·intro ev w hc hf hg hfix hdep hbel
      have e20 : ev (.tmp 20) = _ := hdep 4 (by decide)
      exact okb trivial rfl (by go_simp)
     ·intro ev w hc hf hg hfix hdep hbel
      have fg : ev (.tmp 21) = _ := hdep 5 (by decide)
      exact Or.inr ⟨Or.inl fg, rfl⟩
     ·intro ev w hc hf hg hfix hdep hbel
      have fg : ev (.tmp 21) = _ := hdep 5 (by decide)
      exact Or.inr ⟨Or.inl fg, rfl⟩
     ·intro ev w hc hf hg hfix hdep hbel
      have fg : ev (.tmp 21) = _ := hdep 5 (by decide)
      exact Or.inr ⟨Or.inl fg, rfl⟩
     ·intro ev w hc hf hg hfix hdep hbel
      have fg : ev (.tmp 24) = _ := hdep 8 (by decide)
      exact Or.inr ⟨Or.inr fg, rfl⟩
     ·intro ev w hc hf hg hfix hdep hbel
      have fg : ev (.tmp 24) = _ := hdep 8 (by decide)
      exact Or.inr ⟨Or.inr fg, rfl⟩
     ·intro ev w hc hf hg hfix hdep hbel
      have fg : ev (.tmp 24) = _ := hdep 8 (by decide)
      exact Or.inr ⟨Or.inr fg, rfl⟩
     ·intro ev w hc hf hg hfix hdep hbel
      have fg : ev (.tmp 24) = _ := hdep 8 (by decide)
      exact Or.inr ⟨Or.inr fg, rfl⟩
     ·intro ev w hc hf hg hfix hdep hbel
      have fg : ev (.tmp 24) = _ := hdep 8 (by decide)
      exact Or.inr ⟨Or.inr fg, rfl⟩
     ·intro ev w hc hf hg hfix hdep hbel
      have fg : ev (.tmp 24) = _ := hdep 8 (by decide)
      exact Or.inr ⟨Or.inr fg, rfl⟩
     ·intro ev w hc hf hg hfix hdep hbel
      have fg : ev (.tmp 24) = _ := hdep 8 (by decide)
      exact Or.inr ⟨Or.inr fg, rfl⟩
     ·intro ev w hc hf hg hfix hdep hbel
      have fg : ev (.tmp 24) = _ := hdep 8 (by decide)
      exact Or.inr ⟨Or.inr fg, rfl⟩
     ·intro ev w hc hf hg hfix hdep hbel
      have fg : ev (.tmp 24) = _ := hdep 8 (by decide)
      exact Or.inr ⟨Or.inr fg, rfl⟩
     ·intro ev w hc hf hg hfix hdep hbel
      have fg : ev (.tmp 24) = _ := hdep 8 (by decide)
      exact Or.inr ⟨Or.inr fg, rfl⟩
     ·intro ev w hc hf hg hfix hdep hbel
      have fg : ev (.tmp 24) = _ := hdep 8 (by decide)
      exact Or.inr ⟨Or.inr fg, rfl⟩
     ·intro ev w hc hf hg hfix hdep hbel
      have fg : ev (.tmp 24) = _ := hdep 8 (by decide)
      exact Or.inr ⟨Or.inr fg, rfl⟩
     ·intro ev w hc hf hg hfix hdep hbel
      have fg : ev (.tmp 24) = _ := hdep 8 (by decide)
      exact Or.inr ⟨Or.inr fg, rfl⟩
     ·intro ev w hc hf hg hfix hdep hbel
      have fg : ev (.tmp 24) = _ := hdep 8 (by decide)
      exact Or.inr ⟨Or.inr fg, rfl⟩
     ·intro ev w hc hf hg hfix hdep hbel
      have fg : ev (.tmp 24) = _ := hdep 8 (by decide)
      exact Or.inr ⟨Or.inr fg, rfl⟩
     ·intro ev w hc hf hg hfix hdep hbel
      have fg : ev (.tmp 24) = _ := hdep 8 (by decide)
      exact Or.inr ⟨Or.inr fg, rfl⟩
     ·intro ev w hc hf hg hfix hdep hbel
      have fg : ev (.tmp 24) = _ := hdep 8 (by decide)
      exact Or.inr ⟨Or.inr fg, rfl⟩
     ·intro ev w hc hf hg hfix hdep hbel
      have fg : ev (.tmp 24) = _ := hdep 8 (by decide)
      exact Or.inr ⟨Or.inr fg, rfl⟩
     ·intro ev w hc hf hg hfix hdep hbel
      have fg : ev (.tmp 21) = _ := hdep 5 (by decide)
      exact Or.inr ⟨Or.inl fg, rfl⟩
     ·intro ev w hc hf hg hfix hdep hbel
      have e21 : ev (.tmp 21) = _ := hdep 5 (by decide)
      have e43 : ev (.tmp 43) = _ := hdep 27 (by decide)
      exact okb trivial rfl (by go_simp)
    ·intro v w2 hv hb2
     have r0 : v 0 = _ := hv 0 (by decide)
     have r1 : v 1 = _ := hv 1 (by decide)
     have r2 : v 2 = _ := hv 2 (by decide)
     have r3 : v 3 = _ := hv 3 (by decide)
     have r4 : v 4 = _ := hv 4 (by decide)
     have r5 : v 5 = _ := hv 5 (by decide)
     have r6 : v 6 = _ := hv 6 (by decide)
     have r7 : v 7 = _ := hv 7 (by decide)
     have r8 : v 8 = _ := hv 8 (by decide)
     have r9 : v 9 = _ := hv 9 (by decide)
     have r10 : v 10 = _ := hv 10 (by decide)
     have r11 : v 11 = _ := hv 11 (by decide)
     have r12 : v 12 = _ := hv 12 (by decide)
     have r13 : v 13 = _ := hv 13 (by decide)
     have r14 : v 14 = _ := hv 14 (by decide)
     have r15 : v 15 = _ := hv 15 (by decide)
     have r16 : v 16 = _ := hv 16 (by decide)
     have r17 : v 17 = _ := hv 17 (by decide)
     have r18 : v 18 = _ := hv 18 (by decide)
     have r19 : v 19 = _ := hv 19 (by decide)
     have r20 : v 20 = _ := hv 20 (by decide)
     have r21 : v 21 = _ := hv 21 (by decide)
     have r22 : v 22 = _ := hv 22 (by decide)
     have r23 : v 23 = _ := hv 23 (by decide)
     have r24 : v 24 = _ := hv 24 (by decide)
     have r25 : v 25 = _ := hv 25 (by decide)
     have r26 : v 26 = _ := hv 26 (by decide)
     have r27 : v 27 = _ := hv 27 (by decide)
     have r28 : v 28 = _ := hv 28 (by decide)
     simp only [Reg.putAll, Act.put, List.setIfInBounds_toArray, List.set_cons_zero, List.set_cons_succ, r0, r1, r2, r3, r4, r5, r6, r7, r8, r9, r10, r11, r12, r13, r14, r15, r16, r17, r18, r19, r20, r21, r22, r23, r24, r25, r26, r27, r28]
     clear r0 r1 r2 r3 r4 r5 r6 r7 r8 r9 r10 r11 r12 r13 r14 r15 r16 r17 r18 r19 r20 r21 r22 r23 r24 r25 r26 r27 r28 hv
     have HBw := Lib.hid (HBel.out.trans (((Below.alloc (Below.refl _ _) (Nat.le_refl _) _).trans (hb2.mono (by simp))).mono HBel.out.size)); clear hb2
     go_wp2_with fail
     go_ret
     exact ⟨ret_bool (by simp [Lm.mayItems, HL.out, Om.upTo_not hlt HX.out]), HBw.out⟩
   ·have HMy := Lib.hid hm; clear hm
    by_cases hk0 : k = 0
    ·subst hk0
     simp only [Nat.zero_mul, Nat.add_zero] at q0 q1 q2 q3 q4
     have HX := Lib.hid ((itemAt_zero HD.out).trans HMy.out)
     have hC : ∀ w2, Below (wr.alloc (.cells #[.int .u64 (t : Int), .int .u8 (r : Int), .int .u32 (i : Int), .int .u64 (s : Int), .string x] 57)).drew.heap.size (wr.alloc (.cells #[.int .u64 (t : Int), .int .u8 (r : Int), .int .u32 (i : Int), .int .u64 (s : Int), .string x] 57)).drew w2 → w2.cell? ⟨wr.heap.size, 0, none⟩ = some (.int .u64 (t : Int)) ∧ w2.cell? ⟨wr.heap.size, 1, none⟩ = some (.int .u8 (r : Int)) ∧ w2.cell? ⟨wr.heap.size, 2, none⟩ = some (.int .u32 (i : Int)) ∧ w2.cell? ⟨wr.heap.size, 3, none⟩ = some (.int .u64 (s : Int)) ∧ w2.cell? ⟨wr.heap.size, 4, none⟩ = some (.string x) := fun w2 h =>
      ⟨(h.cell (p := ⟨wr.heap.size, 0, none⟩) (by simp)).trans (by simp), (h.cell (p := ⟨wr.heap.size, 1, none⟩) (by simp)).trans (by simp), (h.cell (p := ⟨wr.heap.size, 2, none⟩) (by simp)).trans (by simp), (h.cell (p := ⟨wr.heap.size, 3, none⟩) (by simp)).trans (by simp), (h.cell (p := ⟨wr.heap.size, 4, none⟩) (by simp)).trans (by simp)⟩
     have HC := Lib.hid hC; clear hC
     go_wp2_with fail
     refine Reg.region_list (by kernel_rfl) [fun v _ => v = .agg #[.int .u64 (t : Int), .int .u8 (r : Int), .int .u32 (i : Int), .int .u64 (s : Int), .string x], fun v _ => v = .int .u64 (lo : Int), fun v _ => v = .int .u64 (hi : Int), fun v _ => v = .bool true, fun v _ => v = .bool false, fun v _ => v = .bool false, fun v _ => v = .int .i64 ((0 : Nat) : Int), fun v _ => v = .bool false, fun v _ => v = .bool false, fun v _ => v = undef, fun v _ => v = undef, fun v _ => v = undef, fun v _ => v = undef, fun v _ => v = undef, fun v _ => v = undef, fun v _ => v = undef, fun v _ => v = undef, fun v _ => v = undef, fun v _ => v = undef, fun v _ => v = undef, fun v _ => v = undef, fun v _ => v = undef, fun v _ => v = undef, fun v _ => v = undef, fun v _ => v = undef, fun v _ => v = undef, fun v _ => v = undef, fun v _ => v = .bool false, fun v _ => v = .bool false] (by kernel_rfl) ?_ ?_ ?_
     ·refine ⟨k4, k4, k4, k4, k4, k4, k4, k4, k4, k4, k4, k4, k4, k4, k4, k4, k4, k4, k4, k4, k4, k4, k4, k4, k4, k4, k4, k4, k4, trivial⟩
     ·refine ⟨?_, ?_, ?_, ?_, ?_, ?_, ?_, ?_, ?_, ?_, ?_, ?_, ?_, ?_, ?_, ?_, ?_, ?_, ?_, ?_, ?_, ?_, ?_, ?_, ?_, ?_, ?_, ?_, ?_, trivial⟩
      ·intro ev w hc hf hg hfix hdep hbel
       have e8 : ev (.tmp 8) = _ := hfix 8 (by decide)
       obtain ⟨hc0, hc1, hc2, hc3, hc4⟩ := HC.out w hbel
       exact okb trivial rfl (by go_simp)
      ·intro ev w hc hf hg hfix hdep hbel
       have e1 : ev (.tmp 1) = _ := hfix 1 (by decide)
       exact okb trivial rfl (by go_simp)
      ·intro ev w hc hf hg hfix hdep hbel
       have e2 : ev (.tmp 2) = _ := hfix 2 (by decide)
       exact okb trivial rfl (by go_simp)
      ·intro ev w hc hf hg hfix hdep hbel
       have e16 : ev (.tmp 16) = _ := hdep 0 (by decide)
       have e17 : ev (.tmp 17) = _ := hdep 1 (by decide)
       have e18 : ev (.tmp 18) = _ := hdep 2 (by decide)
       refine Or.inl ⟨trivial, Or.inr ⟨61, #[.agg #[.int .u64 (t : Int), .int .u8 (r : Int), .int .u32 (i : Int), .int .u64 (s : Int), .string x], .int .u64 (lo : Int), .int .u64 (hi : Int)], w, by go_simp, ?_⟩⟩
       refine (mayItem_any t r i s x lo hi HSz.out w).mono ?_
       rintro e w1 ⟨rfl, hb1⟩
       exact ⟨_, rfl, by rw [HMy.out], hb1⟩
      ·intro ev w hc hf hg hfix hdep hbel
       have e19 : ev (.tmp 19) = _ := hdep 3 (by decide)
       exact okb trivial rfl (by go_simp)
      ·intro ev w hc hf hg hfix hdep hbel
       have e20 : ev (.tmp 20) = _ := hdep 4 (by decide)
       exact okb trivial rfl (by go_simp)
      ·intro ev w hc hf hg hfix hdep hbel
       have fg : ev (.tmp 21) = _ := hdep 5 (by decide)
       have e7 : ev (.tmp 7) = _ := hfix 7 (by decide)
       exact okb fg rfl (by go_simp)
      ·intro ev w hc hf hg hfix hdep hbel
       have fg : ev (.tmp 21) = _ := hdep 5 (by decide)
       have e22 : ev (.tmp 22) = _ := hdep 6 (by decide)
       exact okb fg rfl (by go_simp)
      ·intro ev w hc hf hg hfix hdep hbel
       have fg : ev (.tmp 21) = _ := hdep 5 (by decide)
       have e23 : ev (.tmp 23) = _ := hdep 7 (by decide)
       exact okb fg rfl (by go_simp)
      ·intro ev w hc hf hg hfix hdep hbel
       have fg : ev (.tmp 24) = _ := hdep 8 (by decide)
       exact Or.inr ⟨Or.inl fg, rfl⟩
      ·intro ev w hc hf hg hfix hdep hbel
       have fg : ev (.tmp 24) = _ := hdep 8 (by decide)
       exact Or.inr ⟨Or.inl fg, rfl⟩
      ·intro ev w hc hf hg hfix hdep hbel
       have fg : ev (.tmp 24) = _ := hdep 8 (by decide)
       exact Or.inr ⟨Or.inl fg, rfl⟩
      ·intro ev w hc hf hg hfix hdep hbel
       have fg : ev (.tmp 24) = _ := hdep 8 (by decide)
       exact Or.inr ⟨Or.inl fg, rfl⟩
      ·intro ev w hc hf hg hfix hdep hbel
       have fg : ev (.tmp 24) = _ := hdep 8 (by decide)
       exact Or.inr ⟨Or.inl fg, rfl⟩
      ·intro ev w hc hf hg hfix hdep hbel
       have fg : ev (.tmp 24) = _ := hdep 8 (by decide)
       exact Or.inr ⟨Or.inl fg, rfl⟩
      ·intro ev w hc hf hg hfix hdep hbel
       have fg : ev (.tmp 24) = _ := hdep 8 (by decide)
       exact Or.inr ⟨Or.inl fg, rfl⟩
      ·intro ev w hc hf hg hfix hdep hbel
       have fg : ev (.tmp 24) = _ := hdep 8 (by decide)
       exact Or.inr ⟨Or.inl fg, rfl⟩
      ·intro ev w hc hf hg hfix hdep hbel
       have fg : ev (.tmp 24) = _ := hdep 8 (by decide)
       exact Or.inr ⟨Or.inl fg, rfl⟩
      ·intro ev w hc hf hg hfix hdep hbel
       have fg : ev (.tmp 24) = _ := hdep 8 (by decide)
       exact Or.inr ⟨Or.inl fg, rfl⟩
      ·intro ev w hc hf hg hfix hdep hbel
       have fg : ev (.tmp 24) = _ := hdep 8 (by decide)
       exact Or.inr ⟨Or.inl fg, rfl⟩
      ·intro ev w hc hf hg hfix hdep hbel
       have fg : ev (.tmp 24) = _ := hdep 8 (by decide)
       exact Or.inr ⟨Or.inl fg, rfl⟩
      ·intro ev w hc hf hg hfix hdep hbel
       have fg : ev (.tmp 24) = _ := hdep 8 (by decide)
       exact Or.inr ⟨Or.inl fg, rfl⟩
      ·intro ev w hc hf hg hfix hdep hbel
       have fg : ev (.tmp 24) = _ := hdep 8 (by decide)
       exact Or.inr ⟨Or.inl fg, rfl⟩
      ·intro ev w hc hf hg hfix hdep hbel
       have fg : ev (.tmp 24) = _ := hdep 8 (by decide)
       exact Or.inr ⟨Or.inl fg, rfl⟩
      ·intro ev w hc hf hg hfix hdep hbel
       have fg : ev (.tmp 24) = _ := hdep 8 (by decide)
       exact Or.inr ⟨Or.inl fg, rfl⟩
      ·intro ev w hc hf hg hfix hdep hbel
       have fg : ev (.tmp 24) = _ := hdep 8 (by decide)
       exact Or.inr ⟨Or.inl fg, rfl⟩
      ·intro ev w hc hf hg hfix hdep hbel
       have fg : ev (.tmp 24) = _ := hdep 8 (by decide)
       exact Or.inr ⟨Or.inl fg, rfl⟩
      ·intro ev w hc hf hg hfix hdep hbel
       have fg : ev (.tmp 21) = _ := hdep 5 (by decide)
       have e24 : ev (.tmp 24) = _ := hdep 8 (by decide)
       have e42 : ev (.tmp 42) = _ := hdep 26 (by decide)
       exact okb fg rfl (by go_simp)
      ·intro ev w hc hf hg hfix hdep hbel
       have e21 : ev (.tmp 21) = _ := hdep 5 (by decide)
       have e43 : ev (.tmp 43) = _ := hdep 27 (by decide)
       exact okb trivial rfl (by go_simp)
     ·intro v w2 hv hb2
      have r0 : v 0 = _ := hv 0 (by decide)
      have r1 : v 1 = _ := hv 1 (by decide)
      have r2 : v 2 = _ := hv 2 (by decide)
      have r3 : v 3 = _ := hv 3 (by decide)
      have r4 : v 4 = _ := hv 4 (by decide)
      have r5 : v 5 = _ := hv 5 (by decide)
      have r6 : v 6 = _ := hv 6 (by decide)
      have r7 : v 7 = _ := hv 7 (by decide)
      have r8 : v 8 = _ := hv 8 (by decide)
      have r9 : v 9 = _ := hv 9 (by decide)
      have r10 : v 10 = _ := hv 10 (by decide)
      have r11 : v 11 = _ := hv 11 (by decide)
      have r12 : v 12 = _ := hv 12 (by decide)
      have r13 : v 13 = _ := hv 13 (by decide)
      have r14 : v 14 = _ := hv 14 (by decide)
      have r15 : v 15 = _ := hv 15 (by decide)
      have r16 : v 16 = _ := hv 16 (by decide)
      have r17 : v 17 = _ := hv 17 (by decide)
      have r18 : v 18 = _ := hv 18 (by decide)
      have r19 : v 19 = _ := hv 19 (by decide)
      have r20 : v 20 = _ := hv 20 (by decide)
      have r21 : v 21 = _ := hv 21 (by decide)
      have r22 : v 22 = _ := hv 22 (by decide)
      have r23 : v 23 = _ := hv 23 (by decide)
      have r24 : v 24 = _ := hv 24 (by decide)
      have r25 : v 25 = _ := hv 25 (by decide)
      have r26 : v 26 = _ := hv 26 (by decide)
      have r27 : v 27 = _ := hv 27 (by decide)
      have r28 : v 28 = _ := hv 28 (by decide)
      simp only [Reg.putAll, Act.put, List.setIfInBounds_toArray, List.set_cons_zero, List.set_cons_succ, r0, r1, r2, r3, r4, r5, r6, r7, r8, r9, r10, r11, r12, r13, r14, r15, r16, r17, r18, r19, r20, r21, r22, r23, r24, r25, r26, r27, r28]
      clear r0 r1 r2 r3 r4 r5 r6 r7 r8 r9 r10 r11 r12 r13 r14 r15 r16 r17 r18 r19 r20 r21 r22 r23 r24 r25 r26 r27 r28 hv
      have HBw := Lib.hid (HBel.out.trans (((Below.alloc (Below.refl _ _) (Nat.le_refl _) _).trans (hb2.mono (by simp))).mono HBel.out.size)); clear hb2
      go_wp2_with fail
      go_roundw
      case rel => exact ⟨0 + 1, by omega, by go_num, Om.upTo_succ HU.out HX.out, HBw.out⟩
      case measure => simp [intOf]; omega
    ·obtain ⟨j, rfl⟩ : ∃ j, k = j + 1 := ⟨k - 1, by omega⟩
     obtain ⟨e, he⟩ := geti_some (l := l) (i := j) (by rw [HL.out]; omega)
     obtain ⟨g0, g1, g2, g3, g4⟩ := HCs.out j e he
     have p0 := (HBel.out.cell (p := ⟨blk, off + j * 5, none⟩) hblk).trans g0
     have p1 := (HBel.out.cell (p := ⟨blk, off + j * 5 + 1, none⟩) hblk).trans g1
     have p2 := (HBel.out.cell (p := ⟨blk, off + j * 5 + 2, none⟩) hblk).trans g2
     have p3 := (HBel.out.cell (p := ⟨blk, off + j * 5 + 3, none⟩) hblk).trans g3
     have hbw := World.block_lt_of_cell? _ _ p0
     have j0 : (0 : Int) ≤ (j : Int) := by omega
     have j1 : (j : Int) < (n : Int) := by omega
     have j2 : IntKind.i64.wrap (j : Int) = (j : Int) := by simp [IntKind.wrap, IntKind.bits, IntKind.signed]; omega
     have j3 : ¬ n ≤ j := by omega
     simp only at hbw
     have hd := itemAt_succ (lo := lo) (hi := hi) (l := l) (k := j + 1) (d := (t, ((r, i), s), x)) (e := e) (by omega) HD.out he
     have HE := Lib.hid he; clear g0 g1 g2 g3 g4 he hk0
     rw [HMy.out, Bool.true_and] at hd
     obtain ⟨t', ⟨⟨r', i'⟩, s'⟩, x'⟩ := e
     simp only at p0 p1 p2 p3
     have hC : ∀ w2, Below (wr.alloc (.cells #[.int .u64 (t : Int), .int .u8 (r : Int), .int .u32 (i : Int), .int .u64 (s : Int), .string x] 57)).drew.heap.size (wr.alloc (.cells #[.int .u64 (t : Int), .int .u8 (r : Int), .int .u32 (i : Int), .int .u64 (s : Int), .string x] 57)).drew w2 → w2.cell? ⟨wr.heap.size, 0, none⟩ = some (.int .u64 (t : Int)) ∧ w2.cell? ⟨wr.heap.size, 1, none⟩ = some (.int .u8 (r : Int)) ∧ w2.cell? ⟨wr.heap.size, 2, none⟩ = some (.int .u32 (i : Int)) ∧ w2.cell? ⟨wr.heap.size, 3, none⟩ = some (.int .u64 (s : Int)) ∧ w2.cell? ⟨wr.heap.size, 4, none⟩ = some (.string x) ∧ w2.cell? ⟨blk, off + j * 5, none⟩ = some (.int .u64 (t' : Int)) ∧ w2.cell? ⟨blk, off + j * 5 + 1, none⟩ = some (.int .u8 (r' : Int)) ∧ w2.cell? ⟨blk, off + j * 5 + 2, none⟩ = some (.int .u32 (i' : Int)) ∧ w2.cell? ⟨blk, off + j * 5 + 3, none⟩ = some (.int .u64 (s' : Int)) := fun w2 h =>
      ⟨(h.cell (p := ⟨wr.heap.size, 0, none⟩) (by simp)).trans (by simp), (h.cell (p := ⟨wr.heap.size, 1, none⟩) (by simp)).trans (by simp), (h.cell (p := ⟨wr.heap.size, 2, none⟩) (by simp)).trans (by simp), (h.cell (p := ⟨wr.heap.size, 3, none⟩) (by simp)).trans (by simp), (h.cell (p := ⟨wr.heap.size, 4, none⟩) (by simp)).trans (by simp), ((Below.alloc (Below.refl wr.heap.size wr) (Nat.le_refl _) _).drew.trans (h.mono (by simp))).cell (p := ⟨blk, off + j * 5, none⟩) (by simp only; omega) |>.trans p0, ((Below.alloc (Below.refl wr.heap.size wr) (Nat.le_refl _) _).drew.trans (h.mono (by simp))).cell (p := ⟨blk, off + j * 5 + 1, none⟩) (by simp only; omega) |>.trans p1, ((Below.alloc (Below.refl wr.heap.size wr) (Nat.le_refl _) _).drew.trans (h.mono (by simp))).cell (p := ⟨blk, off + j * 5 + 2, none⟩) (by simp only; omega) |>.trans p2, ((Below.alloc (Below.refl wr.heap.size wr) (Nat.le_refl _) _).drew.trans (h.mono (by simp))).cell (p := ⟨blk, off + j * 5 + 3, none⟩) (by simp only; omega) |>.trans p3⟩
     have HC := Lib.hid hC; clear hC
     clear p0 p1 p2 p3
     unfold Lm.aheadI at hd
     simp only at hd
     cases hls : Lm.ahead t' ((r', i'), s') t ((r, i), s)
     ·rw [hls] at hd
      have HX := Lib.hid hd
      have HLs := Lib.hid hls
      clear hd hls
      go_wp2_with fail
      refine Reg.region_list (by kernel_rfl) [fun v _ => v = .agg #[.int .u64 (t : Int), .int .u8 (r : Int), .int .u32 (i : Int), .int .u64 (s : Int), .string x], fun v _ => v = .int .u64 (lo : Int), fun v _ => v = .int .u64 (hi : Int), fun v _ => v = .bool true, fun v _ => v = .bool false, fun v _ => v = .bool false, fun v _ => v = .int .i64 ((j + 1 : Nat) : Int), fun v _ => v = .bool true, fun v _ => v = .bool true, fun v _ => v = .slice (some ⟨blk, off, none⟩) n cap, fun v _ => v = .int .i64 ((j + 1 : Nat) : Int), fun v _ => v = .int .i64 (j : Int), fun v _ => v = .pointer (some ⟨blk, off + j * 5, none⟩), fun v _ => v = .pointer (some ⟨blk, off + j * 5, none⟩), fun v _ => v = .int .u64 (t' : Int), fun v _ => v = .slice (some ⟨blk, off, none⟩) n cap, fun v _ => v = .int .i64 ((j + 1 : Nat) : Int), fun v _ => v = .int .i64 (j : Int), fun v _ => v = .pointer (some ⟨blk, off + j * 5, none⟩), fun v _ => v = .pointer (some ⟨blk, off + j * 5 + 1, none⟩), fun v _ => v = dotV ((r', i'), s'), fun v _ => v = .pointer (some ⟨wr.heap.size, 0, none⟩), fun v _ => v = .int .u64 (t : Int), fun v _ => v = .pointer (some ⟨wr.heap.size, 1, none⟩), fun v _ => v = .agg #[.int .u8 (r : Int), .int .u32 (i : Int), .int .u64 (s : Int)], fun v _ => v = .bool false, fun v _ => v = .bool true, fun v _ => v = .bool true, fun v _ => v = .bool true] (by kernel_rfl) ?_ ?_ ?_
      ·refine ⟨k4, k4, k4, k4, k4, k4, k4, k4, k4, k4, k4, k4, k4, k4, k4, k4, k4, k4, k4, k4, k4, k4, k4, k4, k4, k4, k4, k4, k4, trivial⟩
      ·refine ⟨?_, ?_, ?_, ?_, ?_, ?_, ?_, ?_, ?_, ?_, ?_, ?_, ?_, ?_, ?_, ?_, ?_, ?_, ?_, ?_, ?_, ?_, ?_, ?_, ?_, ?_, ?_, ?_, ?_, trivial⟩
       ·intro ev w hc hf hg hfix hdep hbel
        have e8 : ev (.tmp 8) = _ := hfix 8 (by decide)
        obtain ⟨hc0, hc1, hc2, hc3, hc4, hc5, hc6, hc7, hc8⟩ := HC.out w hbel
        exact okb trivial rfl (by go_simp)
       ·intro ev w hc hf hg hfix hdep hbel
        have e1 : ev (.tmp 1) = _ := hfix 1 (by decide)
        exact okb trivial rfl (by go_simp)
       ·intro ev w hc hf hg hfix hdep hbel
        have e2 : ev (.tmp 2) = _ := hfix 2 (by decide)
        exact okb trivial rfl (by go_simp)
       ·intro ev w hc hf hg hfix hdep hbel
        have e16 : ev (.tmp 16) = _ := hdep 0 (by decide)
        have e17 : ev (.tmp 17) = _ := hdep 1 (by decide)
        have e18 : ev (.tmp 18) = _ := hdep 2 (by decide)
        refine Or.inl ⟨trivial, Or.inr ⟨61, #[.agg #[.int .u64 (t : Int), .int .u8 (r : Int), .int .u32 (i : Int), .int .u64 (s : Int), .string x], .int .u64 (lo : Int), .int .u64 (hi : Int)], w, by go_simp, ?_⟩⟩
        refine (mayItem_any t r i s x lo hi HSz.out w).mono ?_
        rintro e w1 ⟨rfl, hb1⟩
        exact ⟨_, rfl, by rw [HMy.out], hb1⟩
       ·intro ev w hc hf hg hfix hdep hbel
        have e19 : ev (.tmp 19) = _ := hdep 3 (by decide)
        exact okb trivial rfl (by go_simp)
       ·intro ev w hc hf hg hfix hdep hbel
        have e20 : ev (.tmp 20) = _ := hdep 4 (by decide)
        exact okb trivial rfl (by go_simp)
       ·intro ev w hc hf hg hfix hdep hbel
        have fg : ev (.tmp 21) = _ := hdep 5 (by decide)
        have e7 : ev (.tmp 7) = _ := hfix 7 (by decide)
        exact okb fg rfl (by go_simp)
       ·intro ev w hc hf hg hfix hdep hbel
        have fg : ev (.tmp 21) = _ := hdep 5 (by decide)
        have e22 : ev (.tmp 22) = _ := hdep 6 (by decide)
        exact okb fg rfl (by go_simp)
       ·intro ev w hc hf hg hfix hdep hbel
        have fg : ev (.tmp 21) = _ := hdep 5 (by decide)
        have e23 : ev (.tmp 23) = _ := hdep 7 (by decide)
        exact okb fg rfl (by go_simp)
       ·intro ev w hc hf hg hfix hdep hbel
        have fg : ev (.tmp 24) = _ := hdep 8 (by decide)
        have e0 : ev (.tmp 0) = _ := hfix 0 (by decide)
        exact okb fg rfl (by go_simp)
       ·intro ev w hc hf hg hfix hdep hbel
        have fg : ev (.tmp 24) = _ := hdep 8 (by decide)
        have e7 : ev (.tmp 7) = _ := hfix 7 (by decide)
        exact okb fg rfl (by go_simp)
       ·intro ev w hc hf hg hfix hdep hbel
        have fg : ev (.tmp 24) = _ := hdep 8 (by decide)
        have e26 : ev (.tmp 26) = _ := hdep 10 (by decide)
        exact okb fg rfl (by go_simp)
       ·intro ev w hc hf hg hfix hdep hbel
        have fg : ev (.tmp 24) = _ := hdep 8 (by decide)
        have e25 : ev (.tmp 25) = _ := hdep 9 (by decide)
        have e27 : ev (.tmp 27) = _ := hdep 11 (by decide)
        exact okb fg rfl (by go_simp)
       ·intro ev w hc hf hg hfix hdep hbel
        have fg : ev (.tmp 24) = _ := hdep 8 (by decide)
        have e28 : ev (.tmp 28) = _ := hdep 12 (by decide)
        exact okb fg rfl (by go_simp)
       ·intro ev w hc hf hg hfix hdep hbel
        have fg : ev (.tmp 24) = _ := hdep 8 (by decide)
        have e29 : ev (.tmp 29) = _ := hdep 13 (by decide)
        obtain ⟨hc0, hc1, hc2, hc3, hc4, hc5, hc6, hc7, hc8⟩ := HC.out w hbel
        exact okb fg rfl (by go_simp)
       ·intro ev w hc hf hg hfix hdep hbel
        have fg : ev (.tmp 24) = _ := hdep 8 (by decide)
        have e0 : ev (.tmp 0) = _ := hfix 0 (by decide)
        exact okb fg rfl (by go_simp)
       ·intro ev w hc hf hg hfix hdep hbel
        have fg : ev (.tmp 24) = _ := hdep 8 (by decide)
        have e7 : ev (.tmp 7) = _ := hfix 7 (by decide)
        exact okb fg rfl (by go_simp)
       ·intro ev w hc hf hg hfix hdep hbel
        have fg : ev (.tmp 24) = _ := hdep 8 (by decide)
        have e32 : ev (.tmp 32) = _ := hdep 16 (by decide)
        exact okb fg rfl (by go_simp)
       ·intro ev w hc hf hg hfix hdep hbel
        have fg : ev (.tmp 24) = _ := hdep 8 (by decide)
        have e31 : ev (.tmp 31) = _ := hdep 15 (by decide)
        have e33 : ev (.tmp 33) = _ := hdep 17 (by decide)
        exact okb fg rfl (by go_simp)
       ·intro ev w hc hf hg hfix hdep hbel
        have fg : ev (.tmp 24) = _ := hdep 8 (by decide)
        have e34 : ev (.tmp 34) = _ := hdep 18 (by decide)
        exact okb fg rfl (by go_simp)
       ·intro ev w hc hf hg hfix hdep hbel
        have fg : ev (.tmp 24) = _ := hdep 8 (by decide)
        have e35 : ev (.tmp 35) = _ := hdep 19 (by decide)
        obtain ⟨hc0, hc1, hc2, hc3, hc4, hc5, hc6, hc7, hc8⟩ := HC.out w hbel
        exact okb fg rfl (by go_simp)
       ·intro ev w hc hf hg hfix hdep hbel
        have fg : ev (.tmp 24) = _ := hdep 8 (by decide)
        have e8 : ev (.tmp 8) = _ := hfix 8 (by decide)
        exact okb fg rfl (by go_simp)
       ·intro ev w hc hf hg hfix hdep hbel
        have fg : ev (.tmp 24) = _ := hdep 8 (by decide)
        have e37 : ev (.tmp 37) = _ := hdep 21 (by decide)
        obtain ⟨hc0, hc1, hc2, hc3, hc4, hc5, hc6, hc7, hc8⟩ := HC.out w hbel
        exact okb fg rfl (by go_simp)
       ·intro ev w hc hf hg hfix hdep hbel
        have fg : ev (.tmp 24) = _ := hdep 8 (by decide)
        have e8 : ev (.tmp 8) = _ := hfix 8 (by decide)
        exact okb fg rfl (by go_simp)
       ·intro ev w hc hf hg hfix hdep hbel
        have fg : ev (.tmp 24) = _ := hdep 8 (by decide)
        have e39 : ev (.tmp 39) = _ := hdep 23 (by decide)
        obtain ⟨hc0, hc1, hc2, hc3, hc4, hc5, hc6, hc7, hc8⟩ := HC.out w hbel
        exact okb fg rfl (by go_simp)
       ·intro ev w hc hf hg hfix hdep hbel
        have fg : ev (.tmp 24) = _ := hdep 8 (by decide)
        have e30 : ev (.tmp 30) = _ := hdep 14 (by decide)
        have e36 : ev (.tmp 36) = _ := hdep 20 (by decide)
        have e38 : ev (.tmp 38) = _ := hdep 22 (by decide)
        have e40 : ev (.tmp 40) = _ := hdep 24 (by decide)
        refine Or.inl ⟨fg, Or.inr ⟨69, #[.int .u64 (t' : Int), dotV ((r', i'), s'), .int .u64 (t : Int), .agg #[.int .u8 (r : Int), .int .u32 (i : Int), .int .u64 (s : Int)]], w, by go_simp, ?_⟩⟩
        refine (ahead_any t' r' i' s' t r i s w).mono ?_
        rintro e w1 ⟨rfl, hb1⟩
        exact ⟨_, rfl, by rw [HLs.out], hb1⟩
       ·intro ev w hc hf hg hfix hdep hbel
        have fg : ev (.tmp 24) = _ := hdep 8 (by decide)
        have e41 : ev (.tmp 41) = _ := hdep 25 (by decide)
        exact okb fg rfl (by go_simp)
       ·intro ev w hc hf hg hfix hdep hbel
        have fg : ev (.tmp 21) = _ := hdep 5 (by decide)
        have e24 : ev (.tmp 24) = _ := hdep 8 (by decide)
        have e42 : ev (.tmp 42) = _ := hdep 26 (by decide)
        exact okb fg rfl (by go_simp)
       ·intro ev w hc hf hg hfix hdep hbel
        have e21 : ev (.tmp 21) = _ := hdep 5 (by decide)
        have e43 : ev (.tmp 43) = _ := hdep 27 (by decide)
        exact okb trivial rfl (by go_simp)
      ·intro v w2 hv hb2
       have r0 : v 0 = _ := hv 0 (by decide)
       have r1 : v 1 = _ := hv 1 (by decide)
       have r2 : v 2 = _ := hv 2 (by decide)
       have r3 : v 3 = _ := hv 3 (by decide)
       have r4 : v 4 = _ := hv 4 (by decide)
       have r5 : v 5 = _ := hv 5 (by decide)
       have r6 : v 6 = _ := hv 6 (by decide)
       have r7 : v 7 = _ := hv 7 (by decide)
       have r8 : v 8 = _ := hv 8 (by decide)
       have r9 : v 9 = _ := hv 9 (by decide)
       have r10 : v 10 = _ := hv 10 (by decide)
       have r11 : v 11 = _ := hv 11 (by decide)
       have r12 : v 12 = _ := hv 12 (by decide)
       have r13 : v 13 = _ := hv 13 (by decide)
       have r14 : v 14 = _ := hv 14 (by decide)
       have r15 : v 15 = _ := hv 15 (by decide)
       have r16 : v 16 = _ := hv 16 (by decide)
       have r17 : v 17 = _ := hv 17 (by decide)
       have r18 : v 18 = _ := hv 18 (by decide)
       have r19 : v 19 = _ := hv 19 (by decide)
       have r20 : v 20 = _ := hv 20 (by decide)
       have r21 : v 21 = _ := hv 21 (by decide)
       have r22 : v 22 = _ := hv 22 (by decide)
       have r23 : v 23 = _ := hv 23 (by decide)
       have r24 : v 24 = _ := hv 24 (by decide)
       have r25 : v 25 = _ := hv 25 (by decide)
       have r26 : v 26 = _ := hv 26 (by decide)
       have r27 : v 27 = _ := hv 27 (by decide)
       have r28 : v 28 = _ := hv 28 (by decide)
       simp only [Reg.putAll, Act.put, List.setIfInBounds_toArray, List.set_cons_zero, List.set_cons_succ, r0, r1, r2, r3, r4, r5, r6, r7, r8, r9, r10, r11, r12, r13, r14, r15, r16, r17, r18, r19, r20, r21, r22, r23, r24, r25, r26, r27, r28]
       clear r0 r1 r2 r3 r4 r5 r6 r7 r8 r9 r10 r11 r12 r13 r14 r15 r16 r17 r18 r19 r20 r21 r22 r23 r24 r25 r26 r27 r28 hv
       have HBw := Lib.hid (HBel.out.trans (((Below.alloc (Below.refl _ _) (Nat.le_refl _) _).trans (hb2.mono (by simp))).mono HBel.out.size)); clear hb2
       go_wp2_with fail
       go_ret
       exact ⟨ret_bool (by simp [Lm.mayItems, HL.out, Om.upTo_not hlt HX.out]), HBw.out⟩
     ·rw [hls] at hd
      have HX := Lib.hid hd
      have HLs := Lib.hid hls
      clear hd hls
      go_wp2_with fail
      refine Reg.region_list (by kernel_rfl) [fun v _ => v = .agg #[.int .u64 (t : Int), .int .u8 (r : Int), .int .u32 (i : Int), .int .u64 (s : Int), .string x], fun v _ => v = .int .u64 (lo : Int), fun v _ => v = .int .u64 (hi : Int), fun v _ => v = .bool true, fun v _ => v = .bool false, fun v _ => v = .bool false, fun v _ => v = .int .i64 ((j + 1 : Nat) : Int), fun v _ => v = .bool true, fun v _ => v = .bool true, fun v _ => v = .slice (some ⟨blk, off, none⟩) n cap, fun v _ => v = .int .i64 ((j + 1 : Nat) : Int), fun v _ => v = .int .i64 (j : Int), fun v _ => v = .pointer (some ⟨blk, off + j * 5, none⟩), fun v _ => v = .pointer (some ⟨blk, off + j * 5, none⟩), fun v _ => v = .int .u64 (t' : Int), fun v _ => v = .slice (some ⟨blk, off, none⟩) n cap, fun v _ => v = .int .i64 ((j + 1 : Nat) : Int), fun v _ => v = .int .i64 (j : Int), fun v _ => v = .pointer (some ⟨blk, off + j * 5, none⟩), fun v _ => v = .pointer (some ⟨blk, off + j * 5 + 1, none⟩), fun v _ => v = dotV ((r', i'), s'), fun v _ => v = .pointer (some ⟨wr.heap.size, 0, none⟩), fun v _ => v = .int .u64 (t : Int), fun v _ => v = .pointer (some ⟨wr.heap.size, 1, none⟩), fun v _ => v = .agg #[.int .u8 (r : Int), .int .u32 (i : Int), .int .u64 (s : Int)], fun v _ => v = .bool true, fun v _ => v = .bool false, fun v _ => v = .bool false, fun v _ => v = .bool false] (by kernel_rfl) ?_ ?_ ?_
      ·refine ⟨k4, k4, k4, k4, k4, k4, k4, k4, k4, k4, k4, k4, k4, k4, k4, k4, k4, k4, k4, k4, k4, k4, k4, k4, k4, k4, k4, k4, k4, trivial⟩
      ·refine ⟨?_, ?_, ?_, ?_, ?_, ?_, ?_, ?_, ?_, ?_, ?_, ?_, ?_, ?_, ?_, ?_, ?_, ?_, ?_, ?_, ?_, ?_, ?_, ?_, ?_, ?_, ?_, ?_, ?_, trivial⟩
       ·intro ev w hc hf hg hfix hdep hbel
        have e8 : ev (.tmp 8) = _ := hfix 8 (by decide)
        obtain ⟨hc0, hc1, hc2, hc3, hc4, hc5, hc6, hc7, hc8⟩ := HC.out w hbel
        exact okb trivial rfl (by go_simp)
       ·intro ev w hc hf hg hfix hdep hbel
        have e1 : ev (.tmp 1) = _ := hfix 1 (by decide)
        exact okb trivial rfl (by go_simp)
       ·intro ev w hc hf hg hfix hdep hbel
        have e2 : ev (.tmp 2) = _ := hfix 2 (by decide)
        exact okb trivial rfl (by go_simp)
       ·intro ev w hc hf hg hfix hdep hbel
        have e16 : ev (.tmp 16) = _ := hdep 0 (by decide)
        have e17 : ev (.tmp 17) = _ := hdep 1 (by decide)
        have e18 : ev (.tmp 18) = _ := hdep 2 (by decide)
        refine Or.inl ⟨trivial, Or.inr ⟨61, #[.agg #[.int .u64 (t : Int), .int .u8 (r : Int), .int .u32 (i : Int), .int .u64 (s : Int), .string x], .int .u64 (lo : Int), .int .u64 (hi : Int)], w, by go_simp, ?_⟩⟩
        refine (mayItem_any t r i s x lo hi HSz.out w).mono ?_
        rintro e w1 ⟨rfl, hb1⟩
        exact ⟨_, rfl, by rw [HMy.out], hb1⟩
       ·intro ev w hc hf hg hfix hdep hbel
        have e19 : ev (.tmp 19) = _ := hdep 3 (by decide)
        exact okb trivial rfl (by go_simp)
       ·intro ev w hc hf hg hfix hdep hbel
        have e20 : ev (.tmp 20) = _ := hdep 4 (by decide)
        exact okb trivial rfl (by go_simp)
       ·intro ev w hc hf hg hfix hdep hbel
        have fg : ev (.tmp 21) = _ := hdep 5 (by decide)
        have e7 : ev (.tmp 7) = _ := hfix 7 (by decide)
        exact okb fg rfl (by go_simp)
       ·intro ev w hc hf hg hfix hdep hbel
        have fg : ev (.tmp 21) = _ := hdep 5 (by decide)
        have e22 : ev (.tmp 22) = _ := hdep 6 (by decide)
        exact okb fg rfl (by go_simp)
       ·intro ev w hc hf hg hfix hdep hbel
        have fg : ev (.tmp 21) = _ := hdep 5 (by decide)
        have e23 : ev (.tmp 23) = _ := hdep 7 (by decide)
        exact okb fg rfl (by go_simp)
       ·intro ev w hc hf hg hfix hdep hbel
        have fg : ev (.tmp 24) = _ := hdep 8 (by decide)
        have e0 : ev (.tmp 0) = _ := hfix 0 (by decide)
        exact okb fg rfl (by go_simp)
       ·intro ev w hc hf hg hfix hdep hbel
        have fg : ev (.tmp 24) = _ := hdep 8 (by decide)
        have e7 : ev (.tmp 7) = _ := hfix 7 (by decide)
        exact okb fg rfl (by go_simp)
       ·intro ev w hc hf hg hfix hdep hbel
        have fg : ev (.tmp 24) = _ := hdep 8 (by decide)
        have e26 : ev (.tmp 26) = _ := hdep 10 (by decide)
        exact okb fg rfl (by go_simp)
       ·intro ev w hc hf hg hfix hdep hbel
        have fg : ev (.tmp 24) = _ := hdep 8 (by decide)
        have e25 : ev (.tmp 25) = _ := hdep 9 (by decide)
        have e27 : ev (.tmp 27) = _ := hdep 11 (by decide)
        exact okb fg rfl (by go_simp)
       ·intro ev w hc hf hg hfix hdep hbel
        have fg : ev (.tmp 24) = _ := hdep 8 (by decide)
        have e28 : ev (.tmp 28) = _ := hdep 12 (by decide)
        exact okb fg rfl (by go_simp)
       ·intro ev w hc hf hg hfix hdep hbel
        have fg : ev (.tmp 24) = _ := hdep 8 (by decide)
        have e29 : ev (.tmp 29) = _ := hdep 13 (by decide)
        obtain ⟨hc0, hc1, hc2, hc3, hc4, hc5, hc6, hc7, hc8⟩ := HC.out w hbel
        exact okb fg rfl (by go_simp)
       ·intro ev w hc hf hg hfix hdep hbel
        have fg : ev (.tmp 24) = _ := hdep 8 (by decide)
        have e0 : ev (.tmp 0) = _ := hfix 0 (by decide)
        exact okb fg rfl (by go_simp)
       ·intro ev w hc hf hg hfix hdep hbel
        have fg : ev (.tmp 24) = _ := hdep 8 (by decide)
        have e7 : ev (.tmp 7) = _ := hfix 7 (by decide)
        exact okb fg rfl (by go_simp)
       ·intro ev w hc hf hg hfix hdep hbel
        have fg : ev (.tmp 24) = _ := hdep 8 (by decide)
        have e32 : ev (.tmp 32) = _ := hdep 16 (by decide)
        exact okb fg rfl (by go_simp)
       ·intro ev w hc hf hg hfix hdep hbel
        have fg : ev (.tmp 24) = _ := hdep 8 (by decide)
        have e31 : ev (.tmp 31) = _ := hdep 15 (by decide)
        have e33 : ev (.tmp 33) = _ := hdep 17 (by decide)
        exact okb fg rfl (by go_simp)
       ·intro ev w hc hf hg hfix hdep hbel
        have fg : ev (.tmp 24) = _ := hdep 8 (by decide)
        have e34 : ev (.tmp 34) = _ := hdep 18 (by decide)
        exact okb fg rfl (by go_simp)
       ·intro ev w hc hf hg hfix hdep hbel
        have fg : ev (.tmp 24) = _ := hdep 8 (by decide)
        have e35 : ev (.tmp 35) = _ := hdep 19 (by decide)
        obtain ⟨hc0, hc1, hc2, hc3, hc4, hc5, hc6, hc7, hc8⟩ := HC.out w hbel
        exact okb fg rfl (by go_simp)
       ·intro ev w hc hf hg hfix hdep hbel
        have fg : ev (.tmp 24) = _ := hdep 8 (by decide)
        have e8 : ev (.tmp 8) = _ := hfix 8 (by decide)
        exact okb fg rfl (by go_simp)
       ·intro ev w hc hf hg hfix hdep hbel
        have fg : ev (.tmp 24) = _ := hdep 8 (by decide)
        have e37 : ev (.tmp 37) = _ := hdep 21 (by decide)
        obtain ⟨hc0, hc1, hc2, hc3, hc4, hc5, hc6, hc7, hc8⟩ := HC.out w hbel
        exact okb fg rfl (by go_simp)
       ·intro ev w hc hf hg hfix hdep hbel
        have fg : ev (.tmp 24) = _ := hdep 8 (by decide)
        have e8 : ev (.tmp 8) = _ := hfix 8 (by decide)
        exact okb fg rfl (by go_simp)
       ·intro ev w hc hf hg hfix hdep hbel
        have fg : ev (.tmp 24) = _ := hdep 8 (by decide)
        have e39 : ev (.tmp 39) = _ := hdep 23 (by decide)
        obtain ⟨hc0, hc1, hc2, hc3, hc4, hc5, hc6, hc7, hc8⟩ := HC.out w hbel
        exact okb fg rfl (by go_simp)
       ·intro ev w hc hf hg hfix hdep hbel
        have fg : ev (.tmp 24) = _ := hdep 8 (by decide)
        have e30 : ev (.tmp 30) = _ := hdep 14 (by decide)
        have e36 : ev (.tmp 36) = _ := hdep 20 (by decide)
        have e38 : ev (.tmp 38) = _ := hdep 22 (by decide)
        have e40 : ev (.tmp 40) = _ := hdep 24 (by decide)
        refine Or.inl ⟨fg, Or.inr ⟨69, #[.int .u64 (t' : Int), dotV ((r', i'), s'), .int .u64 (t : Int), .agg #[.int .u8 (r : Int), .int .u32 (i : Int), .int .u64 (s : Int)]], w, by go_simp, ?_⟩⟩
        refine (ahead_any t' r' i' s' t r i s w).mono ?_
        rintro e w1 ⟨rfl, hb1⟩
        exact ⟨_, rfl, by rw [HLs.out], hb1⟩
       ·intro ev w hc hf hg hfix hdep hbel
        have fg : ev (.tmp 24) = _ := hdep 8 (by decide)
        have e41 : ev (.tmp 41) = _ := hdep 25 (by decide)
        exact okb fg rfl (by go_simp)
       ·intro ev w hc hf hg hfix hdep hbel
        have fg : ev (.tmp 21) = _ := hdep 5 (by decide)
        have e24 : ev (.tmp 24) = _ := hdep 8 (by decide)
        have e42 : ev (.tmp 42) = _ := hdep 26 (by decide)
        exact okb fg rfl (by go_simp)
       ·intro ev w hc hf hg hfix hdep hbel
        have e21 : ev (.tmp 21) = _ := hdep 5 (by decide)
        have e43 : ev (.tmp 43) = _ := hdep 27 (by decide)
        exact okb trivial rfl (by go_simp)
      ·intro v w2 hv hb2
       have r0 : v 0 = _ := hv 0 (by decide)
       have r1 : v 1 = _ := hv 1 (by decide)
       have r2 : v 2 = _ := hv 2 (by decide)
       have r3 : v 3 = _ := hv 3 (by decide)
       have r4 : v 4 = _ := hv 4 (by decide)
       have r5 : v 5 = _ := hv 5 (by decide)
       have r6 : v 6 = _ := hv 6 (by decide)
       have r7 : v 7 = _ := hv 7 (by decide)
       have r8 : v 8 = _ := hv 8 (by decide)
       have r9 : v 9 = _ := hv 9 (by decide)
       have r10 : v 10 = _ := hv 10 (by decide)
       have r11 : v 11 = _ := hv 11 (by decide)
       have r12 : v 12 = _ := hv 12 (by decide)
       have r13 : v 13 = _ := hv 13 (by decide)
       have r14 : v 14 = _ := hv 14 (by decide)
       have r15 : v 15 = _ := hv 15 (by decide)
       have r16 : v 16 = _ := hv 16 (by decide)
       have r17 : v 17 = _ := hv 17 (by decide)
       have r18 : v 18 = _ := hv 18 (by decide)
       have r19 : v 19 = _ := hv 19 (by decide)
       have r20 : v 20 = _ := hv 20 (by decide)
       have r21 : v 21 = _ := hv 21 (by decide)
       have r22 : v 22 = _ := hv 22 (by decide)
       have r23 : v 23 = _ := hv 23 (by decide)
       have r24 : v 24 = _ := hv 24 (by decide)
       have r25 : v 25 = _ := hv 25 (by decide)
       have r26 : v 26 = _ := hv 26 (by decide)
       have r27 : v 27 = _ := hv 27 (by decide)
       have r28 : v 28 = _ := hv 28 (by decide)
       simp only [Reg.putAll, Act.put, List.setIfInBounds_toArray, List.set_cons_zero, List.set_cons_succ, r0, r1, r2, r3, r4, r5, r6, r7, r8, r9, r10, r11, r12, r13, r14, r15, r16, r17, r18, r19, r20, r21, r22, r23, r24, r25, r26, r27, r28]
       clear r0 r1 r2 r3 r4 r5 r6 r7 r8 r9 r10 r11 r12 r13 r14 r15 r16 r17 r18 r19 r20 r21 r22 r23 r24 r25 r26 r27 r28 hv
       have HBw := Lib.hid (HBel.out.trans (((Below.alloc (Below.refl _ _) (Nat.le_refl _) _).trans (hb2.mono (by simp))).mono HBel.out.size)); clear hb2
       go_wp2_with fail
       go_roundw
       case rel => exact ⟨(j + 1) + 1, by omega, by go_num, Om.upTo_succ HU.out HX.out, HBw.out⟩
       case measure => simp [intOf]; omega
  ·obtain rfl : k = n := by omega
   go_wp2_with fail
   go_ret
   exact ⟨ret_bool (by simp [Lm.mayItems, HL.out, HU.out]), HBel.out⟩
end Go.Proofs.Ytplafpchgfjomaa
