import Derived.Test.YtplafpchgfjomaaZOp8
import Derived.Test.YtplafpchgfjomaaZLeaf8
namespace Go.Proofs.Ytplafpchgfjomaa
open Go.RowKit Go.Buf Go.LB
set_option linter.unusedSimpArgs false
set_option linter.unusedVariables false
set_option maxRecDepth 100000 in
set_option maxHeartbeats 6400000 in
theorem mayLeaves_any (a : Option Addr) (n cap : Nat) (l : List Lm.L) (W : World) (hr : LRow W a cap l) (hl : l.length = n) :
  Calls Try.prog 33 #[.slice a n cap] W fun e w' => e = .returned (.bool (Tm.mayLeaves l)) ∧ Below W.heap.size W w' := by
 have hle := hr.le
 have hcap := hr.cap
 rw [hl] at hle
 have HR := Lib.hid hr; have HL := Lib.hid hl
 clear hr hl
 go_enter Try.func33, Try.ntmps33
 go_wp2_with fail
 go_loopw [3, 4, 7] (fun _ _ i wr => ∃ k : Nat, k ≤ n ∧ i = .int .i64 k ∧ Om.upTo (Tm.leafAt l) k = true ∧ Below W.heap.size W wr) (fun _ _ i _ => n - (intOf i).toNat)
 case atStart => exact ⟨0, Nat.zero_le _, rfl, Om.upTo_zero _, Below.refl _ _⟩
 case round =>
  obtain ⟨k, hk, rfl, hu, hbel⟩ := hrel
  have HU := Lib.hid hu; have HBel := Lib.hid hbel; clear hu hbel
  by_cases hlt : k < n
  ·obtain ⟨d, hd⟩ := someL (l := l) (i := k) (by rw [HL.out]; exact hlt)
   obtain ⟨blk, off, rfl, hblk, hcells⟩ := HR.out.at (by rw [HL.out]; omega)
   obtain ⟨hok, ia, ic, da, dc, ⟨g0, g1, g2, g3, g4, g5, g6, g7, g8⟩, hit, htb⟩ := hcells k d hd
   have q0 := (HBel.out.cell (p := ⟨blk, off + k * 9, none⟩) hblk).trans g0
   have q1 := (HBel.out.cell (p := ⟨blk, off + k * 9 + 1, none⟩) hblk).trans g1
   have q2 := (HBel.out.cell (p := ⟨blk, off + k * 9 + 2, none⟩) hblk).trans g2
   have q3 := (HBel.out.cell (p := ⟨blk, off + k * 9 + 3, none⟩) hblk).trans g3
   have q4 := (HBel.out.cell (p := ⟨blk, off + k * 9 + 4, none⟩) hblk).trans g4
   have q5 := (HBel.out.cell (p := ⟨blk, off + k * 9 + 5, none⟩) hblk).trans g5
   have q6 := (HBel.out.cell (p := ⟨blk, off + k * 9 + 6, none⟩) hblk).trans g6
   have q7 := (HBel.out.cell (p := ⟨blk, off + k * 9 + 7, none⟩) hblk).trans g7
   have q8 := (HBel.out.cell (p := ⟨blk, off + k * 9 + 8, none⟩) hblk).trans g8
   have HD := Lib.hid hd; have HCs := Lib.hid hcells; have hsz := HBel.out.size
   obtain ⟨kk, nn, tt, ⟨⟨r, i⟩, s⟩, tx, its, tbs⟩ := d
   have HIt := Lib.hid hit; have HTb := Lib.hid htb; have HOk := Lib.hid (show tx.size ≤ 9223372036854775807 ∧ its.length ≤ 1000000000 from ⟨Nat.le_trans hok.2.2.2.2.1 (by omega), Nat.le_trans hok.2.2.2.2.2.1 (by omega)⟩)
   simp only at q0 q1 q2 q3 q4 q5 q6 q7 q8
   have i0 : (0 : Int) ≤ (k : Int) := by omega
   have i1 : (k : Int) < (n : Int) := by omega
   clear hcells g0 g1 g2 g3 g4 g5 g6 g7 g8 hd hok hit htb
   by_cases hk0 : k = 0
   ·subst hk0
    simp only [Nat.zero_mul, Nat.add_zero] at q0 q1 q2 q3 q4 q5 q6 q7 q8
    cases hm : Lm.may ⟨kk, nn, tt, ((r, i), s), tx, its, tbs⟩
    all_goals have HMy := Lib.hid hm; have HX := Lib.hid ((Tm.leafAt_zero HD.out).trans hm); clear hm
    ·skip
     have hC : ∀ w2, Below (wr.alloc (.cells #[.int .u8 (kk : Int), .int .i64 nn, .int .u64 (tt : Int), .int .u8 (r : Int), .int .u32 (i : Int), .int .u64 (s : Int), .string tx, .slice ia its.length ic, .slice da tbs.length dc] 44)).drew.heap.size (wr.alloc (.cells #[.int .u8 (kk : Int), .int .i64 nn, .int .u64 (tt : Int), .int .u8 (r : Int), .int .u32 (i : Int), .int .u64 (s : Int), .string tx, .slice ia its.length ic, .slice da tbs.length dc] 44)).drew w2 → w2.cell? ⟨wr.heap.size, 0, none⟩ = some (.int .u8 (kk : Int)) ∧ w2.cell? ⟨wr.heap.size, 1, none⟩ = some (.int .i64 nn) ∧ w2.cell? ⟨wr.heap.size, 2, none⟩ = some (.int .u64 (tt : Int)) ∧ w2.cell? ⟨wr.heap.size, 3, none⟩ = some (.int .u8 (r : Int)) ∧ w2.cell? ⟨wr.heap.size, 4, none⟩ = some (.int .u32 (i : Int)) ∧ w2.cell? ⟨wr.heap.size, 5, none⟩ = some (.int .u64 (s : Int)) ∧ w2.cell? ⟨wr.heap.size, 6, none⟩ = some (.string tx) ∧ w2.cell? ⟨wr.heap.size, 7, none⟩ = some (.slice ia its.length ic) ∧ w2.cell? ⟨wr.heap.size, 8, none⟩ = some (.slice da tbs.length dc) := fun w2 h =>
      ⟨(h.cell (p := ⟨wr.heap.size, 0, none⟩) (by simp)).trans (by simp), (h.cell (p := ⟨wr.heap.size, 1, none⟩) (by simp)).trans (by simp), (h.cell (p := ⟨wr.heap.size, 2, none⟩) (by simp)).trans (by simp), (h.cell (p := ⟨wr.heap.size, 3, none⟩) (by simp)).trans (by simp), (h.cell (p := ⟨wr.heap.size, 4, none⟩) (by simp)).trans (by simp), (h.cell (p := ⟨wr.heap.size, 5, none⟩) (by simp)).trans (by simp), (h.cell (p := ⟨wr.heap.size, 6, none⟩) (by simp)).trans (by simp), (h.cell (p := ⟨wr.heap.size, 7, none⟩) (by simp)).trans (by simp), (h.cell (p := ⟨wr.heap.size, 8, none⟩) (by simp)).trans (by simp)⟩
     have HC := Lib.hid hC; clear hC
     go_wp2_with fail
     refine Reg.region_list (by kernel_rfl) [fun v _ => v = .int .i64 ((0 : Nat) : Int), fun v _ => v = .bool false, fun v _ => v = .bool false, fun v _ => v = undef, fun v _ => v = undef, fun v _ => v = undef, fun v _ => v = undef, fun v _ => v = undef, fun v _ => v = undef, fun v _ => v = undef, fun v _ => v = undef, fun v _ => v = undef, fun v _ => v = .bool false, fun v _ => v = .bool false, fun v _ => v = .agg #[.int .u8 (kk : Int), .int .i64 nn, .int .u64 (tt : Int), .int .u8 (r : Int), .int .u32 (i : Int), .int .u64 (s : Int), .string tx, .slice ia its.length ic, .slice da tbs.length dc], fun v _ => v = .bool false, fun v _ => v = .bool true, fun v _ => v = .bool true] (by kernel_rfl) ?_ ?_ ?_
     ·refine ⟨k4, k4, k4, k4, k4, k4, k4, k4, k4, k4, k4, k4, k4, k4, k4, k4, k4, k4, trivial⟩
     ·refine ⟨?_, ?_, ?_, ?_, ?_, ?_, ?_, ?_, ?_, ?_, ?_, ?_, ?_, ?_, ?_, ?_, ?_, ?_, trivial⟩
      ·intro ev w hc hf hg hfix hdep hbel
       have e3 : ev (.tmp 3) = _ := hfix 3 (by decide)
       exact okb trivial rfl (by go_simp)
      ·intro ev w hc hf hg hfix hdep hbel
       have e12 : ev (.tmp 12) = _ := hdep 0 (by decide)
       exact okb trivial rfl (by go_simp)
      ·intro ev w hc hf hg hfix hdep hbel
       have e13 : ev (.tmp 13) = _ := hdep 1 (by decide)
       exact okb trivial rfl (by go_simp)
      ·intro ev w hc hf hg hfix hdep hbel
       have fg : ev (.tmp 14) = _ := hdep 2 (by decide)
       exact Or.inr ⟨Or.inl fg, rfl⟩
      ·intro ev w hc hf hg hfix hdep hbel
       have fg : ev (.tmp 14) = _ := hdep 2 (by decide)
       exact Or.inr ⟨Or.inl fg, rfl⟩
      ·intro ev w hc hf hg hfix hdep hbel
       have fg : ev (.tmp 14) = _ := hdep 2 (by decide)
       exact Or.inr ⟨Or.inl fg, rfl⟩
      ·intro ev w hc hf hg hfix hdep hbel
       have fg : ev (.tmp 14) = _ := hdep 2 (by decide)
       exact Or.inr ⟨Or.inl fg, rfl⟩
      ·intro ev w hc hf hg hfix hdep hbel
       have fg : ev (.tmp 14) = _ := hdep 2 (by decide)
       exact Or.inr ⟨Or.inl fg, rfl⟩
      ·intro ev w hc hf hg hfix hdep hbel
       have fg : ev (.tmp 14) = _ := hdep 2 (by decide)
       exact Or.inr ⟨Or.inl fg, rfl⟩
      ·intro ev w hc hf hg hfix hdep hbel
       have fg : ev (.tmp 14) = _ := hdep 2 (by decide)
       exact Or.inr ⟨Or.inl fg, rfl⟩
      ·intro ev w hc hf hg hfix hdep hbel
       have fg : ev (.tmp 14) = _ := hdep 2 (by decide)
       exact Or.inr ⟨Or.inl fg, rfl⟩
      ·intro ev w hc hf hg hfix hdep hbel
       have fg : ev (.tmp 14) = _ := hdep 2 (by decide)
       exact Or.inr ⟨Or.inl fg, rfl⟩
      ·intro ev w hc hf hg hfix hdep hbel
       have e14 : ev (.tmp 14) = _ := hdep 2 (by decide)
       have e23 : ev (.tmp 23) = _ := hdep 11 (by decide)
       exact okb trivial rfl (by go_simp)
      ·intro ev w hc hf hg hfix hdep hbel
       have e24 : ev (.tmp 24) = _ := hdep 12 (by decide)
       exact okb trivial rfl (by go_simp)
      ·intro ev w hc hf hg hfix hdep hbel
       have fg : ev (.tmp 25) = _ := hdep 13 (by decide)
       have e4 : ev (.tmp 4) = _ := hfix 4 (by decide)
       obtain ⟨hc0, hc1, hc2, hc3, hc4, hc5, hc6, hc7, hc8⟩ := HC.out w hbel
       exact okb fg rfl (by go_simp)
      ·intro ev w hc hf hg hfix hdep hbel
       have fg : ev (.tmp 25) = _ := hdep 13 (by decide)
       have e26 : ev (.tmp 26) = _ := hdep 14 (by decide)
       refine Or.inl ⟨fg, Or.inr ⟨45, #[.agg #[.int .u8 (kk : Int), .int .i64 nn, .int .u64 (tt : Int), .int .u8 (r : Int), .int .u32 (i : Int), .int .u64 (s : Int), .string tx, .slice ia its.length ic, .slice da tbs.length dc]], w, by go_simp, ?_⟩⟩
       have hw : Below W.heap.size W w := HBel.out.trans ((((Below.refl _ _).alloc (Nat.le_refl _) _).trans ((undrewX hbel).mono (by simp))).mono HBel.out.size)
       refine (leafmay_any kk nn tt r i s tx ia its.length ic da tbs.length dc its tbs w (HIt.out.below hw) rfl (HTb.out.below hw) rfl HOk.out.1 HOk.out.2).mono ?_
       rintro e w1 ⟨rfl, hb1⟩
       exact ⟨_, rfl, by rw [HMy.out], hb1⟩
      ·intro ev w hc hf hg hfix hdep hbel
       have fg : ev (.tmp 25) = _ := hdep 13 (by decide)
       have e27 : ev (.tmp 27) = _ := hdep 15 (by decide)
       exact okb fg rfl (by go_simp)
      ·intro ev w hc hf hg hfix hdep hbel
       have e25 : ev (.tmp 25) = _ := hdep 13 (by decide)
       have e28 : ev (.tmp 28) = _ := hdep 16 (by decide)
       exact okb trivial rfl (by go_simp)
     ·intro v w2 hv hb2
      have r0 : v 0 = _ := hv 0 (by decide)
      have r1 : v 1 = _ := hv 1 (by decide)
      have r2 : v 2 = _ := hv 2 (by decide)
      have r3 : v 3 = _ := hv 3 (by decide)
      have r4 : v 4 = _ := hv 4 (by decide)
      have r5 : v 5 = _ := hv 5 (by decide)
      have r6 : v 6 = _ := hv 6 (by decide)
      have r7 : v 7 = _ := hv 7 (by decide)
      have r8 : v 8 = _ := hv 8 (by decide)
      have r9 : v 9 = _ := hv 9 (by decide)
      have r10 : v 10 = _ := hv 10 (by decide)
      have r11 : v 11 = _ := hv 11 (by decide)
      have r12 : v 12 = _ := hv 12 (by decide)
      have r13 : v 13 = _ := hv 13 (by decide)
      have r14 : v 14 = _ := hv 14 (by decide)
      have r15 : v 15 = _ := hv 15 (by decide)
      have r16 : v 16 = _ := hv 16 (by decide)
      have r17 : v 17 = _ := hv 17 (by decide)
      simp only [Reg.putAll, Act.put, List.setIfInBounds_toArray, List.set_cons_zero, List.set_cons_succ, r0, r1, r2, r3, r4, r5, r6, r7, r8, r9, r10, r11, r12, r13, r14, r15, r16, r17]
      clear r0 r1 r2 r3 r4 r5 r6 r7 r8 r9 r10 r11 r12 r13 r14 r15 r16 r17 hv
      have HBw := Lib.hid (HBel.out.trans (((Below.alloc (Below.refl _ _) (Nat.le_refl _) _).trans (hb2.mono (by simp))).mono HBel.out.size)); clear hb2
      go_wp2_with fail
      go_ret
      exact ⟨ret_bool (by simp [Tm.mayLeaves, HL.out, Om.upTo_not hlt HX.out]), HBw.out⟩
    ·skip
     have hC : ∀ w2, Below (wr.alloc (.cells #[.int .u8 (kk : Int), .int .i64 nn, .int .u64 (tt : Int), .int .u8 (r : Int), .int .u32 (i : Int), .int .u64 (s : Int), .string tx, .slice ia its.length ic, .slice da tbs.length dc] 44)).drew.heap.size (wr.alloc (.cells #[.int .u8 (kk : Int), .int .i64 nn, .int .u64 (tt : Int), .int .u8 (r : Int), .int .u32 (i : Int), .int .u64 (s : Int), .string tx, .slice ia its.length ic, .slice da tbs.length dc] 44)).drew w2 → w2.cell? ⟨wr.heap.size, 0, none⟩ = some (.int .u8 (kk : Int)) ∧ w2.cell? ⟨wr.heap.size, 1, none⟩ = some (.int .i64 nn) ∧ w2.cell? ⟨wr.heap.size, 2, none⟩ = some (.int .u64 (tt : Int)) ∧ w2.cell? ⟨wr.heap.size, 3, none⟩ = some (.int .u8 (r : Int)) ∧ w2.cell? ⟨wr.heap.size, 4, none⟩ = some (.int .u32 (i : Int)) ∧ w2.cell? ⟨wr.heap.size, 5, none⟩ = some (.int .u64 (s : Int)) ∧ w2.cell? ⟨wr.heap.size, 6, none⟩ = some (.string tx) ∧ w2.cell? ⟨wr.heap.size, 7, none⟩ = some (.slice ia its.length ic) ∧ w2.cell? ⟨wr.heap.size, 8, none⟩ = some (.slice da tbs.length dc) := fun w2 h =>
      ⟨(h.cell (p := ⟨wr.heap.size, 0, none⟩) (by simp)).trans (by simp), (h.cell (p := ⟨wr.heap.size, 1, none⟩) (by simp)).trans (by simp), (h.cell (p := ⟨wr.heap.size, 2, none⟩) (by simp)).trans (by simp), (h.cell (p := ⟨wr.heap.size, 3, none⟩) (by simp)).trans (by simp), (h.cell (p := ⟨wr.heap.size, 4, none⟩) (by simp)).trans (by simp), (h.cell (p := ⟨wr.heap.size, 5, none⟩) (by simp)).trans (by simp), (h.cell (p := ⟨wr.heap.size, 6, none⟩) (by simp)).trans (by simp), (h.cell (p := ⟨wr.heap.size, 7, none⟩) (by simp)).trans (by simp), (h.cell (p := ⟨wr.heap.size, 8, none⟩) (by simp)).trans (by simp)⟩
     have HC := Lib.hid hC; clear hC
     go_wp2_with fail
     refine Reg.region_list (by kernel_rfl) [fun v _ => v = .int .i64 ((0 : Nat) : Int), fun v _ => v = .bool false, fun v _ => v = .bool false, fun v _ => v = undef, fun v _ => v = undef, fun v _ => v = undef, fun v _ => v = undef, fun v _ => v = undef, fun v _ => v = undef, fun v _ => v = undef, fun v _ => v = undef, fun v _ => v = undef, fun v _ => v = .bool false, fun v _ => v = .bool false, fun v _ => v = .agg #[.int .u8 (kk : Int), .int .i64 nn, .int .u64 (tt : Int), .int .u8 (r : Int), .int .u32 (i : Int), .int .u64 (s : Int), .string tx, .slice ia its.length ic, .slice da tbs.length dc], fun v _ => v = .bool true, fun v _ => v = .bool false, fun v _ => v = .bool false] (by kernel_rfl) ?_ ?_ ?_
     ·refine ⟨k4, k4, k4, k4, k4, k4, k4, k4, k4, k4, k4, k4, k4, k4, k4, k4, k4, k4, trivial⟩
     ·refine ⟨?_, ?_, ?_, ?_, ?_, ?_, ?_, ?_, ?_, ?_, ?_, ?_, ?_, ?_, ?_, ?_, ?_, ?_, trivial⟩
      ·intro ev w hc hf hg hfix hdep hbel
       have e3 : ev (.tmp 3) = _ := hfix 3 (by decide)
       exact okb trivial rfl (by go_simp)
      ·intro ev w hc hf hg hfix hdep hbel
       have e12 : ev (.tmp 12) = _ := hdep 0 (by decide)
       exact okb trivial rfl (by go_simp)
      ·intro ev w hc hf hg hfix hdep hbel
       have e13 : ev (.tmp 13) = _ := hdep 1 (by decide)
       exact okb trivial rfl (by go_simp)
      ·intro ev w hc hf hg hfix hdep hbel
       have fg : ev (.tmp 14) = _ := hdep 2 (by decide)
       exact Or.inr ⟨Or.inl fg, rfl⟩
      ·intro ev w hc hf hg hfix hdep hbel
       have fg : ev (.tmp 14) = _ := hdep 2 (by decide)
       exact Or.inr ⟨Or.inl fg, rfl⟩
      ·intro ev w hc hf hg hfix hdep hbel
       have fg : ev (.tmp 14) = _ := hdep 2 (by decide)
       exact Or.inr ⟨Or.inl fg, rfl⟩
      ·intro ev w hc hf hg hfix hdep hbel
       have fg : ev (.tmp 14) = _ := hdep 2 (by decide)
       exact Or.inr ⟨Or.inl fg, rfl⟩
      ·intro ev w hc hf hg hfix hdep hbel
       have fg : ev (.tmp 14) = _ := hdep 2 (by decide)
       exact Or.inr ⟨Or.inl fg, rfl⟩
      ·intro ev w hc hf hg hfix hdep hbel
       have fg : ev (.tmp 14) = _ := hdep 2 (by decide)
       exact Or.inr ⟨Or.inl fg, rfl⟩
      ·intro ev w hc hf hg hfix hdep hbel
       have fg : ev (.tmp 14) = _ := hdep 2 (by decide)
       exact Or.inr ⟨Or.inl fg, rfl⟩
      ·intro ev w hc hf hg hfix hdep hbel
       have fg : ev (.tmp 14) = _ := hdep 2 (by decide)
       exact Or.inr ⟨Or.inl fg, rfl⟩
      ·intro ev w hc hf hg hfix hdep hbel
       have fg : ev (.tmp 14) = _ := hdep 2 (by decide)
       exact Or.inr ⟨Or.inl fg, rfl⟩
      ·intro ev w hc hf hg hfix hdep hbel
       have e14 : ev (.tmp 14) = _ := hdep 2 (by decide)
       have e23 : ev (.tmp 23) = _ := hdep 11 (by decide)
       exact okb trivial rfl (by go_simp)
      ·intro ev w hc hf hg hfix hdep hbel
       have e24 : ev (.tmp 24) = _ := hdep 12 (by decide)
       exact okb trivial rfl (by go_simp)
      ·intro ev w hc hf hg hfix hdep hbel
       have fg : ev (.tmp 25) = _ := hdep 13 (by decide)
       have e4 : ev (.tmp 4) = _ := hfix 4 (by decide)
       obtain ⟨hc0, hc1, hc2, hc3, hc4, hc5, hc6, hc7, hc8⟩ := HC.out w hbel
       exact okb fg rfl (by go_simp)
      ·intro ev w hc hf hg hfix hdep hbel
       have fg : ev (.tmp 25) = _ := hdep 13 (by decide)
       have e26 : ev (.tmp 26) = _ := hdep 14 (by decide)
       refine Or.inl ⟨fg, Or.inr ⟨45, #[.agg #[.int .u8 (kk : Int), .int .i64 nn, .int .u64 (tt : Int), .int .u8 (r : Int), .int .u32 (i : Int), .int .u64 (s : Int), .string tx, .slice ia its.length ic, .slice da tbs.length dc]], w, by go_simp, ?_⟩⟩
       have hw : Below W.heap.size W w := HBel.out.trans ((((Below.refl _ _).alloc (Nat.le_refl _) _).trans ((undrewX hbel).mono (by simp))).mono HBel.out.size)
       refine (leafmay_any kk nn tt r i s tx ia its.length ic da tbs.length dc its tbs w (HIt.out.below hw) rfl (HTb.out.below hw) rfl HOk.out.1 HOk.out.2).mono ?_
       rintro e w1 ⟨rfl, hb1⟩
       exact ⟨_, rfl, by rw [HMy.out], hb1⟩
      ·intro ev w hc hf hg hfix hdep hbel
       have fg : ev (.tmp 25) = _ := hdep 13 (by decide)
       have e27 : ev (.tmp 27) = _ := hdep 15 (by decide)
       exact okb fg rfl (by go_simp)
      ·intro ev w hc hf hg hfix hdep hbel
       have e25 : ev (.tmp 25) = _ := hdep 13 (by decide)
       have e28 : ev (.tmp 28) = _ := hdep 16 (by decide)
       exact okb trivial rfl (by go_simp)
     ·intro v w2 hv hb2
      have r0 : v 0 = _ := hv 0 (by decide)
      have r1 : v 1 = _ := hv 1 (by decide)
      have r2 : v 2 = _ := hv 2 (by decide)
      have r3 : v 3 = _ := hv 3 (by decide)
      have r4 : v 4 = _ := hv 4 (by decide)
      have r5 : v 5 = _ := hv 5 (by decide)
      have r6 : v 6 = _ := hv 6 (by decide)
      have r7 : v 7 = _ := hv 7 (by decide)
      have r8 : v 8 = _ := hv 8 (by decide)
      have r9 : v 9 = _ := hv 9 (by decide)
      have r10 : v 10 = _ := hv 10 (by decide)
      have r11 : v 11 = _ := hv 11 (by decide)
      have r12 : v 12 = _ := hv 12 (by decide)
      have r13 : v 13 = _ := hv 13 (by decide)
      have r14 : v 14 = _ := hv 14 (by decide)
      have r15 : v 15 = _ := hv 15 (by decide)
      have r16 : v 16 = _ := hv 16 (by decide)
      have r17 : v 17 = _ := hv 17 (by decide)
      simp only [Reg.putAll, Act.put, List.setIfInBounds_toArray, List.set_cons_zero, List.set_cons_succ, r0, r1, r2, r3, r4, r5, r6, r7, r8, r9, r10, r11, r12, r13, r14, r15, r16, r17]
      clear r0 r1 r2 r3 r4 r5 r6 r7 r8 r9 r10 r11 r12 r13 r14 r15 r16 r17 hv
      have HBw := Lib.hid (HBel.out.trans (((Below.alloc (Below.refl _ _) (Nat.le_refl _) _).trans (hb2.mono (by simp))).mono HBel.out.size)); clear hb2
      go_wp2_with fail
      go_roundw
      case rel => exact ⟨0 + 1, by omega, by go_num, Om.upTo_succ HU.out HX.out, HBw.out⟩
      case measure => simp [intOf]; omega
   ·obtain ⟨j, rfl⟩ : ∃ j, k = j + 1 := ⟨k - 1, by omega⟩
    obtain ⟨e, he⟩ := someL (l := l) (i := j) (by rw [HL.out]; omega)
    obtain ⟨_, ia', ic', da', dc', ⟨g0, _⟩, _, _⟩ := HCs.out j e he
    have p0 := (HBel.out.cell (p := ⟨blk, off + j * 9, none⟩) hblk).trans g0
    have hbw := World.block_lt_of_cell? _ _ p0
    have j0 : (0 : Int) ≤ (j : Int) := by omega
    have j1 : (j : Int) < (n : Int) := by omega
    have j2 : IntKind.i64.wrap (j : Int) = (j : Int) := by simp [IntKind.wrap, IntKind.bits, IntKind.signed]; omega
    have j3 : ¬ n ≤ j := by omega
    simp only at hbw
    have hd := Tm.leafAt_succ (l := l) (k := j + 1) (e := e) (by omega) HD.out he
    obtain ⟨kk', hkk⟩ : ∃ kk', kk' = e.kind := ⟨_, rfl⟩
    rw [← hkk] at p0 hd
    clear g0 he hk0 hkk
    simp only at p0 hd
    have hC : ∀ w2, Below (wr.alloc (.cells #[.int .u8 (kk : Int), .int .i64 nn, .int .u64 (tt : Int), .int .u8 (r : Int), .int .u32 (i : Int), .int .u64 (s : Int), .string tx, .slice ia its.length ic, .slice da tbs.length dc] 44)).drew.heap.size (wr.alloc (.cells #[.int .u8 (kk : Int), .int .i64 nn, .int .u64 (tt : Int), .int .u8 (r : Int), .int .u32 (i : Int), .int .u64 (s : Int), .string tx, .slice ia its.length ic, .slice da tbs.length dc] 44)).drew w2 → w2.cell? ⟨wr.heap.size, 0, none⟩ = some (.int .u8 (kk : Int)) ∧ w2.cell? ⟨wr.heap.size, 1, none⟩ = some (.int .i64 nn) ∧ w2.cell? ⟨wr.heap.size, 2, none⟩ = some (.int .u64 (tt : Int)) ∧ w2.cell? ⟨wr.heap.size, 3, none⟩ = some (.int .u8 (r : Int)) ∧ w2.cell? ⟨wr.heap.size, 4, none⟩ = some (.int .u32 (i : Int)) ∧ w2.cell? ⟨wr.heap.size, 5, none⟩ = some (.int .u64 (s : Int)) ∧ w2.cell? ⟨wr.heap.size, 6, none⟩ = some (.string tx) ∧ w2.cell? ⟨wr.heap.size, 7, none⟩ = some (.slice ia its.length ic) ∧ w2.cell? ⟨wr.heap.size, 8, none⟩ = some (.slice da tbs.length dc) ∧ w2.cell? ⟨blk, off + j * 9, none⟩ = some (.int .u8 (kk' : Int)) := fun w2 h =>
     ⟨(h.cell (p := ⟨wr.heap.size, 0, none⟩) (by simp)).trans (by simp), (h.cell (p := ⟨wr.heap.size, 1, none⟩) (by simp)).trans (by simp), (h.cell (p := ⟨wr.heap.size, 2, none⟩) (by simp)).trans (by simp), (h.cell (p := ⟨wr.heap.size, 3, none⟩) (by simp)).trans (by simp), (h.cell (p := ⟨wr.heap.size, 4, none⟩) (by simp)).trans (by simp), (h.cell (p := ⟨wr.heap.size, 5, none⟩) (by simp)).trans (by simp), (h.cell (p := ⟨wr.heap.size, 6, none⟩) (by simp)).trans (by simp), (h.cell (p := ⟨wr.heap.size, 7, none⟩) (by simp)).trans (by simp), (h.cell (p := ⟨wr.heap.size, 8, none⟩) (by simp)).trans (by simp), ((Below.alloc (Below.refl wr.heap.size wr) (Nat.le_refl _) _).drew.trans (h.mono (by simp))).cell (p := ⟨blk, off + j * 9, none⟩) (by simp only; omega) |>.trans p0⟩
    have HC := Lib.hid hC; clear hC
    clear p0
    by_cases hls : kk' < kk
    ·have hc1 : ¬ kk ≤ kk' := by omega
     have hc2 : ¬ (kk : Int) ≤ (kk' : Int) := by omega
     rw [decide_eq_true hls, Bool.true_and] at hd
     cases hm : Lm.may ⟨kk, nn, tt, ((r, i), s), tx, its, tbs⟩
     all_goals have HMy := Lib.hid hm; have HX := Lib.hid (hd.trans hm); clear hm hd
     ·skip
      go_wp2_with fail
      refine Reg.region_list (by kernel_rfl) [fun v _ => v = .int .i64 ((j + 1 : Nat) : Int), fun v _ => v = .bool true, fun v _ => v = .bool true, fun v _ => v = .slice (some ⟨blk, off, none⟩) n cap, fun v _ => v = .int .i64 ((j + 1 : Nat) : Int), fun v _ => v = .int .i64 (j : Int), fun v _ => v = .pointer (some ⟨blk, off + j * 9, none⟩), fun v _ => v = .pointer (some ⟨blk, off + j * 9, none⟩), fun v _ => v = .int .u8 (kk' : Int), fun v _ => v = .pointer (some ⟨wr.heap.size, 0, none⟩), fun v _ => v = .int .u8 (kk : Int), fun v _ => v = .bool false, fun v _ => v = .bool false, fun v _ => v = .bool false, fun v _ => v = .agg #[.int .u8 (kk : Int), .int .i64 nn, .int .u64 (tt : Int), .int .u8 (r : Int), .int .u32 (i : Int), .int .u64 (s : Int), .string tx, .slice ia its.length ic, .slice da tbs.length dc], fun v _ => v = .bool false, fun v _ => v = .bool true, fun v _ => v = .bool true] (by kernel_rfl) ?_ ?_ ?_
      ·refine ⟨k4, k4, k4, k4, k4, k4, k4, k4, k4, k4, k4, k4, k4, k4, k4, k4, k4, k4, trivial⟩
      ·refine ⟨?_, ?_, ?_, ?_, ?_, ?_, ?_, ?_, ?_, ?_, ?_, ?_, ?_, ?_, ?_, ?_, ?_, ?_, trivial⟩
       ·intro ev w hc hf hg hfix hdep hbel
        have e3 : ev (.tmp 3) = _ := hfix 3 (by decide)
        exact okb trivial rfl (by go_simp)
       ·intro ev w hc hf hg hfix hdep hbel
        have e12 : ev (.tmp 12) = _ := hdep 0 (by decide)
        exact okb trivial rfl (by go_simp)
       ·intro ev w hc hf hg hfix hdep hbel
        have e13 : ev (.tmp 13) = _ := hdep 1 (by decide)
        exact okb trivial rfl (by go_simp)
       ·intro ev w hc hf hg hfix hdep hbel
        have fg : ev (.tmp 14) = _ := hdep 2 (by decide)
        have e0 : ev (.tmp 0) = _ := hfix 0 (by decide)
        exact okb fg rfl (by go_simp)
       ·intro ev w hc hf hg hfix hdep hbel
        have fg : ev (.tmp 14) = _ := hdep 2 (by decide)
        have e3 : ev (.tmp 3) = _ := hfix 3 (by decide)
        exact okb fg rfl (by go_simp)
       ·intro ev w hc hf hg hfix hdep hbel
        have fg : ev (.tmp 14) = _ := hdep 2 (by decide)
        have e16 : ev (.tmp 16) = _ := hdep 4 (by decide)
        exact okb fg rfl (by go_simp)
       ·intro ev w hc hf hg hfix hdep hbel
        have fg : ev (.tmp 14) = _ := hdep 2 (by decide)
        have e15 : ev (.tmp 15) = _ := hdep 3 (by decide)
        have e17 : ev (.tmp 17) = _ := hdep 5 (by decide)
        exact okb fg rfl (by go_simp)
       ·intro ev w hc hf hg hfix hdep hbel
        have fg : ev (.tmp 14) = _ := hdep 2 (by decide)
        have e18 : ev (.tmp 18) = _ := hdep 6 (by decide)
        exact okb fg rfl (by go_simp)
       ·intro ev w hc hf hg hfix hdep hbel
        have fg : ev (.tmp 14) = _ := hdep 2 (by decide)
        have e19 : ev (.tmp 19) = _ := hdep 7 (by decide)
        obtain ⟨hc0, hc1, hc2, hc3, hc4, hc5, hc6, hc7, hc8, hc9⟩ := HC.out w hbel
        exact okb fg rfl (by go_simp)
       ·intro ev w hc hf hg hfix hdep hbel
        have fg : ev (.tmp 14) = _ := hdep 2 (by decide)
        have e4 : ev (.tmp 4) = _ := hfix 4 (by decide)
        exact okb fg rfl (by go_simp)
       ·intro ev w hc hf hg hfix hdep hbel
        have fg : ev (.tmp 14) = _ := hdep 2 (by decide)
        have e21 : ev (.tmp 21) = _ := hdep 9 (by decide)
        obtain ⟨hc0, hc1, hc2, hc3, hc4, hc5, hc6, hc7, hc8, hc9⟩ := HC.out w hbel
        exact okb fg rfl (by go_simp)
       ·intro ev w hc hf hg hfix hdep hbel
        have fg : ev (.tmp 14) = _ := hdep 2 (by decide)
        have e20 : ev (.tmp 20) = _ := hdep 8 (by decide)
        have e22 : ev (.tmp 22) = _ := hdep 10 (by decide)
        exact okb fg rfl (by go_simp)
       ·intro ev w hc hf hg hfix hdep hbel
        have e14 : ev (.tmp 14) = _ := hdep 2 (by decide)
        have e23 : ev (.tmp 23) = _ := hdep 11 (by decide)
        exact okb trivial rfl (by go_simp)
       ·intro ev w hc hf hg hfix hdep hbel
        have e24 : ev (.tmp 24) = _ := hdep 12 (by decide)
        exact okb trivial rfl (by go_simp)
       ·intro ev w hc hf hg hfix hdep hbel
        have fg : ev (.tmp 25) = _ := hdep 13 (by decide)
        have e4 : ev (.tmp 4) = _ := hfix 4 (by decide)
        obtain ⟨hc0, hc1, hc2, hc3, hc4, hc5, hc6, hc7, hc8, hc9⟩ := HC.out w hbel
        exact okb fg rfl (by go_simp)
       ·intro ev w hc hf hg hfix hdep hbel
        have fg : ev (.tmp 25) = _ := hdep 13 (by decide)
        have e26 : ev (.tmp 26) = _ := hdep 14 (by decide)
        refine Or.inl ⟨fg, Or.inr ⟨45, #[.agg #[.int .u8 (kk : Int), .int .i64 nn, .int .u64 (tt : Int), .int .u8 (r : Int), .int .u32 (i : Int), .int .u64 (s : Int), .string tx, .slice ia its.length ic, .slice da tbs.length dc]], w, by go_simp, ?_⟩⟩
        have hw : Below W.heap.size W w := HBel.out.trans ((((Below.refl _ _).alloc (Nat.le_refl _) _).trans ((undrewX hbel).mono (by simp))).mono HBel.out.size)
        refine (leafmay_any kk nn tt r i s tx ia its.length ic da tbs.length dc its tbs w (HIt.out.below hw) rfl (HTb.out.below hw) rfl HOk.out.1 HOk.out.2).mono ?_
        rintro e w1 ⟨rfl, hb1⟩
        exact ⟨_, rfl, by rw [HMy.out], hb1⟩
       ·intro ev w hc hf hg hfix hdep hbel
        have fg : ev (.tmp 25) = _ := hdep 13 (by decide)
        have e27 : ev (.tmp 27) = _ := hdep 15 (by decide)
        exact okb fg rfl (by go_simp)
       ·intro ev w hc hf hg hfix hdep hbel
        have e25 : ev (.tmp 25) = _ := hdep 13 (by decide)
        have e28 : ev (.tmp 28) = _ := hdep 16 (by decide)
        exact okb trivial rfl (by go_simp)
      ·intro v w2 hv hb2
       have r0 : v 0 = _ := hv 0 (by decide)
       have r1 : v 1 = _ := hv 1 (by decide)
       have r2 : v 2 = _ := hv 2 (by decide)
       have r3 : v 3 = _ := hv 3 (by decide)
       have r4 : v 4 = _ := hv 4 (by decide)
       have r5 : v 5 = _ := hv 5 (by decide)
       have r6 : v 6 = _ := hv 6 (by decide)
       have r7 : v 7 = _ := hv 7 (by decide)
       have r8 : v 8 = _ := hv 8 (by decide)
       have r9 : v 9 = _ := hv 9 (by decide)
       have r10 : v 10 = _ := hv 10 (by decide)
       have r11 : v 11 = _ := hv 11 (by decide)
       have r12 : v 12 = _ := hv 12 (by decide)
       have r13 : v 13 = _ := hv 13 (by decide)
       have r14 : v 14 = _ := hv 14 (by decide)
       have r15 : v 15 = _ := hv 15 (by decide)
       have r16 : v 16 = _ := hv 16 (by decide)
       have r17 : v 17 = _ := hv 17 (by decide)
       simp only [Reg.putAll, Act.put, List.setIfInBounds_toArray, List.set_cons_zero, List.set_cons_succ, r0, r1, r2, r3, r4, r5, r6, r7, r8, r9, r10, r11, r12, r13, r14, r15, r16, r17]
       clear r0 r1 r2 r3 r4 r5 r6 r7 r8 r9 r10 r11 r12 r13 r14 r15 r16 r17 hv
       have HBw := Lib.hid (HBel.out.trans (((Below.alloc (Below.refl _ _) (Nat.le_refl _) _).trans (hb2.mono (by simp))).mono HBel.out.size)); clear hb2
       go_wp2_with fail
       go_ret
       exact ⟨ret_bool (by simp [Tm.mayLeaves, HL.out, Om.upTo_not hlt HX.out]), HBw.out⟩
     ·skip
      go_wp2_with fail
      refine Reg.region_list (by kernel_rfl) [fun v _ => v = .int .i64 ((j + 1 : Nat) : Int), fun v _ => v = .bool true, fun v _ => v = .bool true, fun v _ => v = .slice (some ⟨blk, off, none⟩) n cap, fun v _ => v = .int .i64 ((j + 1 : Nat) : Int), fun v _ => v = .int .i64 (j : Int), fun v _ => v = .pointer (some ⟨blk, off + j * 9, none⟩), fun v _ => v = .pointer (some ⟨blk, off + j * 9, none⟩), fun v _ => v = .int .u8 (kk' : Int), fun v _ => v = .pointer (some ⟨wr.heap.size, 0, none⟩), fun v _ => v = .int .u8 (kk : Int), fun v _ => v = .bool false, fun v _ => v = .bool false, fun v _ => v = .bool false, fun v _ => v = .agg #[.int .u8 (kk : Int), .int .i64 nn, .int .u64 (tt : Int), .int .u8 (r : Int), .int .u32 (i : Int), .int .u64 (s : Int), .string tx, .slice ia its.length ic, .slice da tbs.length dc], fun v _ => v = .bool true, fun v _ => v = .bool false, fun v _ => v = .bool false] (by kernel_rfl) ?_ ?_ ?_
      ·refine ⟨k4, k4, k4, k4, k4, k4, k4, k4, k4, k4, k4, k4, k4, k4, k4, k4, k4, k4, trivial⟩
      ·refine ⟨?_, ?_, ?_, ?_, ?_, ?_, ?_, ?_, ?_, ?_, ?_, ?_, ?_, ?_, ?_, ?_, ?_, ?_, trivial⟩
       ·intro ev w hc hf hg hfix hdep hbel
        have e3 : ev (.tmp 3) = _ := hfix 3 (by decide)
        exact okb trivial rfl (by go_simp)
       ·intro ev w hc hf hg hfix hdep hbel
        have e12 : ev (.tmp 12) = _ := hdep 0 (by decide)
        exact okb trivial rfl (by go_simp)
       ·intro ev w hc hf hg hfix hdep hbel
        have e13 : ev (.tmp 13) = _ := hdep 1 (by decide)
        exact okb trivial rfl (by go_simp)
       ·intro ev w hc hf hg hfix hdep hbel
        have fg : ev (.tmp 14) = _ := hdep 2 (by decide)
        have e0 : ev (.tmp 0) = _ := hfix 0 (by decide)
        exact okb fg rfl (by go_simp)
       ·intro ev w hc hf hg hfix hdep hbel
        have fg : ev (.tmp 14) = _ := hdep 2 (by decide)
        have e3 : ev (.tmp 3) = _ := hfix 3 (by decide)
        exact okb fg rfl (by go_simp)
       ·intro ev w hc hf hg hfix hdep hbel
        have fg : ev (.tmp 14) = _ := hdep 2 (by decide)
        have e16 : ev (.tmp 16) = _ := hdep 4 (by decide)
        exact okb fg rfl (by go_simp)
       ·intro ev w hc hf hg hfix hdep hbel
        have fg : ev (.tmp 14) = _ := hdep 2 (by decide)
        have e15 : ev (.tmp 15) = _ := hdep 3 (by decide)
        have e17 : ev (.tmp 17) = _ := hdep 5 (by decide)
        exact okb fg rfl (by go_simp)
       ·intro ev w hc hf hg hfix hdep hbel
        have fg : ev (.tmp 14) = _ := hdep 2 (by decide)
        have e18 : ev (.tmp 18) = _ := hdep 6 (by decide)
        exact okb fg rfl (by go_simp)
       ·intro ev w hc hf hg hfix hdep hbel
        have fg : ev (.tmp 14) = _ := hdep 2 (by decide)
        have e19 : ev (.tmp 19) = _ := hdep 7 (by decide)
        obtain ⟨hc0, hc1, hc2, hc3, hc4, hc5, hc6, hc7, hc8, hc9⟩ := HC.out w hbel
        exact okb fg rfl (by go_simp)
       ·intro ev w hc hf hg hfix hdep hbel
        have fg : ev (.tmp 14) = _ := hdep 2 (by decide)
        have e4 : ev (.tmp 4) = _ := hfix 4 (by decide)
        exact okb fg rfl (by go_simp)
       ·intro ev w hc hf hg hfix hdep hbel
        have fg : ev (.tmp 14) = _ := hdep 2 (by decide)
        have e21 : ev (.tmp 21) = _ := hdep 9 (by decide)
        obtain ⟨hc0, hc1, hc2, hc3, hc4, hc5, hc6, hc7, hc8, hc9⟩ := HC.out w hbel
        exact okb fg rfl (by go_simp)
       ·intro ev w hc hf hg hfix hdep hbel
        have fg : ev (.tmp 14) = _ := hdep 2 (by decide)
        have e20 : ev (.tmp 20) = _ := hdep 8 (by decide)
        have e22 : ev (.tmp 22) = _ := hdep 10 (by decide)
        exact okb fg rfl (by go_simp)
       ·intro ev w hc hf hg hfix hdep hbel
        have e14 : ev (.tmp 14) = _ := hdep 2 (by decide)
        have e23 : ev (.tmp 23) = _ := hdep 11 (by decide)
        exact okb trivial rfl (by go_simp)
       ·intro ev w hc hf hg hfix hdep hbel
        have e24 : ev (.tmp 24) = _ := hdep 12 (by decide)
        exact okb trivial rfl (by go_simp)
       ·intro ev w hc hf hg hfix hdep hbel
        have fg : ev (.tmp 25) = _ := hdep 13 (by decide)
        have e4 : ev (.tmp 4) = _ := hfix 4 (by decide)
        obtain ⟨hc0, hc1, hc2, hc3, hc4, hc5, hc6, hc7, hc8, hc9⟩ := HC.out w hbel
        exact okb fg rfl (by go_simp)
       ·intro ev w hc hf hg hfix hdep hbel
        have fg : ev (.tmp 25) = _ := hdep 13 (by decide)
        have e26 : ev (.tmp 26) = _ := hdep 14 (by decide)
        refine Or.inl ⟨fg, Or.inr ⟨45, #[.agg #[.int .u8 (kk : Int), .int .i64 nn, .int .u64 (tt : Int), .int .u8 (r : Int), .int .u32 (i : Int), .int .u64 (s : Int), .string tx, .slice ia its.length ic, .slice da tbs.length dc]], w, by go_simp, ?_⟩⟩
        have hw : Below W.heap.size W w := HBel.out.trans ((((Below.refl _ _).alloc (Nat.le_refl _) _).trans ((undrewX hbel).mono (by simp))).mono HBel.out.size)
        refine (leafmay_any kk nn tt r i s tx ia its.length ic da tbs.length dc its tbs w (HIt.out.below hw) rfl (HTb.out.below hw) rfl HOk.out.1 HOk.out.2).mono ?_
        rintro e w1 ⟨rfl, hb1⟩
        exact ⟨_, rfl, by rw [HMy.out], hb1⟩
       ·intro ev w hc hf hg hfix hdep hbel
        have fg : ev (.tmp 25) = _ := hdep 13 (by decide)
        have e27 : ev (.tmp 27) = _ := hdep 15 (by decide)
        exact okb fg rfl (by go_simp)
       ·intro ev w hc hf hg hfix hdep hbel
        have e25 : ev (.tmp 25) = _ := hdep 13 (by decide)
        have e28 : ev (.tmp 28) = _ := hdep 16 (by decide)
        exact okb trivial rfl (by go_simp)
      ·intro v w2 hv hb2
       have r0 : v 0 = _ := hv 0 (by decide)
       have r1 : v 1 = _ := hv 1 (by decide)
       have r2 : v 2 = _ := hv 2 (by decide)
       have r3 : v 3 = _ := hv 3 (by decide)
       have r4 : v 4 = _ := hv 4 (by decide)
       have r5 : v 5 = _ := hv 5 (by decide)
       have r6 : v 6 = _ := hv 6 (by decide)
       have r7 : v 7 = _ := hv 7 (by decide)
       have r8 : v 8 = _ := hv 8 (by decide)
       have r9 : v 9 = _ := hv 9 (by decide)
       have r10 : v 10 = _ := hv 10 (by decide)
       have r11 : v 11 = _ := hv 11 (by decide)
       have r12 : v 12 = _ := hv 12 (by decide)
       have r13 : v 13 = _ := hv 13 (by decide)
       have r14 : v 14 = _ := hv 14 (by decide)
       have r15 : v 15 = _ := hv 15 (by decide)
       have r16 : v 16 = _ := hv 16 (by decide)
       have r17 : v 17 = _ := hv 17 (by decide)
       simp only [Reg.putAll, Act.put, List.setIfInBounds_toArray, List.set_cons_zero, List.set_cons_succ, r0, r1, r2, r3, r4, r5, r6, r7, r8, r9, r10, r11, r12, r13, r14, r15, r16, r17]
       clear r0 r1 r2 r3 r4 r5 r6 r7 r8 r9 r10 r11 r12 r13 r14 r15 r16 r17 hv
       have HBw := Lib.hid (HBel.out.trans (((Below.alloc (Below.refl _ _) (Nat.le_refl _) _).trans (hb2.mono (by simp))).mono HBel.out.size)); clear hb2
       go_wp2_with fail
       go_roundw
       case rel => exact ⟨(j + 1) + 1, by omega, by go_num, Om.upTo_succ HU.out HX.out, HBw.out⟩
       case measure => simp [intOf]; omega
    ·have hc1 : kk ≤ kk' := by omega
     have hc2 : (kk : Int) ≤ (kk' : Int) := by omega
     rw [decide_eq_false hls, Bool.false_and] at hd
     have HX := Lib.hid hd; clear hd
     go_wp2_with fail
     refine Reg.region_list (by kernel_rfl) [fun v _ => v = .int .i64 ((j + 1 : Nat) : Int), fun v _ => v = .bool true, fun v _ => v = .bool true, fun v _ => v = .slice (some ⟨blk, off, none⟩) n cap, fun v _ => v = .int .i64 ((j + 1 : Nat) : Int), fun v _ => v = .int .i64 (j : Int), fun v _ => v = .pointer (some ⟨blk, off + j * 9, none⟩), fun v _ => v = .pointer (some ⟨blk, off + j * 9, none⟩), fun v _ => v = .int .u8 (kk' : Int), fun v _ => v = .pointer (some ⟨wr.heap.size, 0, none⟩), fun v _ => v = .int .u8 (kk : Int), fun v _ => v = .bool true, fun v _ => v = .bool true, fun v _ => v = .bool true, fun v _ => v = undef, fun v _ => v = undef, fun v _ => v = undef, fun v _ => v = .bool true] (by kernel_rfl) ?_ ?_ ?_
     ·refine ⟨k4, k4, k4, k4, k4, k4, k4, k4, k4, k4, k4, k4, k4, k4, k4, k4, k4, k4, trivial⟩
     ·refine ⟨?_, ?_, ?_, ?_, ?_, ?_, ?_, ?_, ?_, ?_, ?_, ?_, ?_, ?_, ?_, ?_, ?_, ?_, trivial⟩
      ·intro ev w hc hf hg hfix hdep hbel
       have e3 : ev (.tmp 3) = _ := hfix 3 (by decide)
       exact okb trivial rfl (by go_simp)
      ·intro ev w hc hf hg hfix hdep hbel
       have e12 : ev (.tmp 12) = _ := hdep 0 (by decide)
       exact okb trivial rfl (by go_simp)
      ·intro ev w hc hf hg hfix hdep hbel
       have e13 : ev (.tmp 13) = _ := hdep 1 (by decide)
       exact okb trivial rfl (by go_simp)
      ·intro ev w hc hf hg hfix hdep hbel
       have fg : ev (.tmp 14) = _ := hdep 2 (by decide)
       have e0 : ev (.tmp 0) = _ := hfix 0 (by decide)
       exact okb fg rfl (by go_simp)
      ·intro ev w hc hf hg hfix hdep hbel
       have fg : ev (.tmp 14) = _ := hdep 2 (by decide)
       have e3 : ev (.tmp 3) = _ := hfix 3 (by decide)
       exact okb fg rfl (by go_simp)
      ·intro ev w hc hf hg hfix hdep hbel
       have fg : ev (.tmp 14) = _ := hdep 2 (by decide)
       have e16 : ev (.tmp 16) = _ := hdep 4 (by decide)
       exact okb fg rfl (by go_simp)
      ·intro ev w hc hf hg hfix hdep hbel
       have fg : ev (.tmp 14) = _ := hdep 2 (by decide)
       have e15 : ev (.tmp 15) = _ := hdep 3 (by decide)
       have e17 : ev (.tmp 17) = _ := hdep 5 (by decide)
       exact okb fg rfl (by go_simp)
      ·intro ev w hc hf hg hfix hdep hbel
       have fg : ev (.tmp 14) = _ := hdep 2 (by decide)
       have e18 : ev (.tmp 18) = _ := hdep 6 (by decide)
       exact okb fg rfl (by go_simp)
      ·intro ev w hc hf hg hfix hdep hbel
       have fg : ev (.tmp 14) = _ := hdep 2 (by decide)
       have e19 : ev (.tmp 19) = _ := hdep 7 (by decide)
       obtain ⟨hc0, hc1, hc2, hc3, hc4, hc5, hc6, hc7, hc8, hc9⟩ := HC.out w hbel
       exact okb fg rfl (by go_simp)
      ·intro ev w hc hf hg hfix hdep hbel
       have fg : ev (.tmp 14) = _ := hdep 2 (by decide)
       have e4 : ev (.tmp 4) = _ := hfix 4 (by decide)
       exact okb fg rfl (by go_simp)
      ·intro ev w hc hf hg hfix hdep hbel
       have fg : ev (.tmp 14) = _ := hdep 2 (by decide)
       have e21 : ev (.tmp 21) = _ := hdep 9 (by decide)
       obtain ⟨hc0, hc1, hc2, hc3, hc4, hc5, hc6, hc7, hc8, hc9⟩ := HC.out w hbel
       exact okb fg rfl (by go_simp)
      ·intro ev w hc hf hg hfix hdep hbel
       have fg : ev (.tmp 14) = _ := hdep 2 (by decide)
       have e20 : ev (.tmp 20) = _ := hdep 8 (by decide)
       have e22 : ev (.tmp 22) = _ := hdep 10 (by decide)
       exact okb fg rfl (by go_simp)
      ·intro ev w hc hf hg hfix hdep hbel
       have e14 : ev (.tmp 14) = _ := hdep 2 (by decide)
       have e23 : ev (.tmp 23) = _ := hdep 11 (by decide)
       exact okb trivial rfl (by go_simp)
      ·intro ev w hc hf hg hfix hdep hbel
       have e24 : ev (.tmp 24) = _ := hdep 12 (by decide)
       exact okb trivial rfl (by go_simp)
      ·intro ev w hc hf hg hfix hdep hbel
       have fg : ev (.tmp 25) = _ := hdep 13 (by decide)
       exact Or.inr ⟨Or.inl fg, rfl⟩
      ·intro ev w hc hf hg hfix hdep hbel
       have fg : ev (.tmp 25) = _ := hdep 13 (by decide)
       exact Or.inr ⟨Or.inl fg, rfl⟩
      ·intro ev w hc hf hg hfix hdep hbel
       have fg : ev (.tmp 25) = _ := hdep 13 (by decide)
       exact Or.inr ⟨Or.inl fg, rfl⟩
      ·intro ev w hc hf hg hfix hdep hbel
       have e25 : ev (.tmp 25) = _ := hdep 13 (by decide)
       have e28 : ev (.tmp 28) = _ := hdep 16 (by decide)
       exact okb trivial rfl (by go_simp)
     ·intro v w2 hv hb2
      have r0 : v 0 = _ := hv 0 (by decide)
      have r1 : v 1 = _ := hv 1 (by decide)
      have r2 : v 2 = _ := hv 2 (by decide)
      have r3 : v 3 = _ := hv 3 (by decide)
      have r4 : v 4 = _ := hv 4 (by decide)
      have r5 : v 5 = _ := hv 5 (by decide)
      have r6 : v 6 = _ := hv 6 (by decide)
      have r7 : v 7 = _ := hv 7 (by decide)
      have r8 : v 8 = _ := hv 8 (by decide)
      have r9 : v 9 = _ := hv 9 (by decide)
      have r10 : v 10 = _ := hv 10 (by decide)
      have r11 : v 11 = _ := hv 11 (by decide)
      have r12 : v 12 = _ := hv 12 (by decide)
      have r13 : v 13 = _ := hv 13 (by decide)
      have r14 : v 14 = _ := hv 14 (by decide)
      have r15 : v 15 = _ := hv 15 (by decide)
      have r16 : v 16 = _ := hv 16 (by decide)
      have r17 : v 17 = _ := hv 17 (by decide)
      simp only [Reg.putAll, Act.put, List.setIfInBounds_toArray, List.set_cons_zero, List.set_cons_succ, r0, r1, r2, r3, r4, r5, r6, r7, r8, r9, r10, r11, r12, r13, r14, r15, r16, r17]
      clear r0 r1 r2 r3 r4 r5 r6 r7 r8 r9 r10 r11 r12 r13 r14 r15 r16 r17 hv
      have HBw := Lib.hid (HBel.out.trans (((Below.alloc (Below.refl _ _) (Nat.le_refl _) _).trans (hb2.mono (by simp))).mono HBel.out.size)); clear hb2
      go_wp2_with fail
      go_ret
      exact ⟨ret_bool (by simp [Tm.mayLeaves, HL.out, Om.upTo_not hlt HX.out]), HBw.out⟩
  ·obtain rfl : k = n := by omega
   go_wp2_with fail
   go_ret
   exact ⟨ret_bool (by simp [Tm.mayLeaves, HL.out, HU.out]), HBel.out⟩
end Go.Proofs.Ytplafpchgfjomaa
