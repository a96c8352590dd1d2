import Derived.Test.YtiiidmphmojlgaaGreatZGr7
import Derived.Test.YtiiidmphmojlgaaGreatZCmt5
import Derived.Test.YtiiidmphmojlgaaGreatZBytes
import Derived.Test.YtiiidmphmojlgaaGreatZOwn
namespace Go.Proofs.YtiiidmphmojlgaaGreat
open Go.RowKit Go.Buf Go.LB Go.Lib
set_option linter.unusedSimpArgs false
set_option linter.unusedVariables false
set_option maxRecDepth 100000 in
set_option maxHeartbeats 3200000 in
theorem mayTips_none (W : World) : Calls Tryz.prog 98 #[base0] W fun e w' => e = .returned (.bool true) ∧ Below W.heap.size W w' := by
 go_enter Tryz.func98, Tryz.ntmps98
 go_wp2_with fail
 go_loopw [3, 4, 12] (fun _ _ v wr => v = .int .i64 0 ∧ wr = W.alloc b0C) (fun _ _ _ _ => 0)
 case atStart => exact ⟨rfl, rfl⟩
 case round =>
  obtain ⟨rfl, rfl⟩ := hrel
  go_wp2_with fail
  go_ret
  exact ⟨rfl, (Below.refl _ _).alloc (Nat.le_refl _) _⟩
set_option maxRecDepth 100000 in
set_option maxHeartbeats 3200000 in
theorem mayBelow_none (W : World) : Calls Tryz.prog 121 #[.slice none 0 0, .int .i64 3] W fun e w' => e = .returned (.bool true) ∧ Below W.heap.size W w' := by
 go_enter Tryz.func121, Tryz.ntmps121
 go_wp2_with fail
 go_loopw [5, 6, 16] (fun _ _ v wr => v = .int .i64 0 ∧ wr = W) (fun _ _ _ _ => 0)
 case atStart => exact ⟨rfl, rfl⟩
 case round =>
  obtain ⟨rfl, rfl⟩ := hrel
  go_wp2_with fail
  go_ret
  exact ⟨rfl, Below.refl _ _⟩
theorem treeMay_none (W : World) : Calls Tryz.prog 99 #[.slice none 0 0] W fun e w' => e = .returned (.bool true) ∧ Below W.heap.size W w' := by
 go_enter Tryz.func99, Tryz.ntmps99
 go_wp2_with fail
 refine (mayBelow_none _).mono ?_
 rintro e w1 ⟨rfl, hb⟩
 have HB := Lib.hid hb
 clear hb
 go_wp2_with fail
 go_ret
 exact ⟨rfl, HB.out⟩
set_option maxRecDepth 100000 in
set_option maxHeartbeats 6400000 in
theorem mayBase_none (W : World) : Calls Tryz.prog 55 #[base0] W fun e w' => e = .returned (.bool true) ∧ Below W.heap.size W w' := by
 have HBox := Lib.hid (below_box W #[.int .u64 0, .slice none 0 0, .slice none 0 0, .int .u64 0, .slice none 0 0] 38)
 have HBk := Lib.hid (show ∀ w, Below (W.alloc (.cells #[.int .u64 0, .slice none 0 0, .slice none 0 0, .int .u64 0, .slice none 0 0] 38)).heap.size (W.alloc (.cells #[.int .u64 0, .slice none 0 0, .slice none 0 0, .int .u64 0, .slice none 0 0] 38)) w → Blk w W.heap.size 38 [.int .u64 0, .slice none 0 0, .slice none 0 0, .int .u64 0, .slice none 0 0] from fun w h => (Blk.new W #[.int .u64 0, .slice none 0 0, .slice none 0 0, .int .u64 0, .slice none 0 0] 38).below h)
 go_enter Tryz.func55, Tryz.ntmps55
 go_wp2_with fail
 refine Reg.region_list (by kernel_rfl) [fun v _ => v = .pointer (some ⟨W.heap.size, 1, none⟩), fun v _ => v = .slice none 0 0, fun v _ => v = .pointer (some ⟨W.heap.size, 1, none⟩), fun v _ => v = .slice none 0 0, fun v w => ∃ a c, v = .slice a 0 c ∧ VRow w a c [], fun v _ => v = .bool true, fun v _ => v = .bool true, fun v _ => v = .agg #[.int .u64 0, .slice none 0 0, .slice none 0 0, .int .u64 0, .slice none 0 0], fun v _ => v = .bool true, fun v _ => v = .bool true, fun v _ => v = .bool true, fun v _ => v = .pointer (some ⟨W.heap.size, 3, none⟩), fun v _ => v = .int .u64 0, fun v _ => v = .bool true, fun v _ => v = .bool true, fun v _ => v = .bool true, fun v _ => v = .pointer (some ⟨W.heap.size, 4, none⟩), fun v _ => v = .slice none 0 0, fun v _ => v = .bool true, fun v _ => v = .bool true, fun v _ => v = .bool true, fun v _ => v = .bool false, fun v _ => v = .pointer (some ⟨W.heap.size, 2, none⟩), fun v _ => v = .slice none 0 0, fun v _ => v = .int .i64 0, fun v _ => v = .bool false, fun v _ => v = .bool true, fun v _ => v = .bool true, fun v _ => v = .bool true, fun v _ => v = .bool false, fun v _ => v = .pointer (some ⟨W.heap.size, 3, none⟩), fun v _ => v = .int .u64 0, fun v _ => v = .bool false, fun v _ => v = .bool true, fun v _ => v = .bool true, fun v _ => v = .bool true] (by kernel_rfl) ?_ ?_ ?_
 ·refine ⟨k4, k4, k4, k4, (fun v wa wb hb h => by obtain ⟨a, c, h1, h2⟩ := h; exact ⟨a, c, h1, h2.below hb⟩), k4, k4, k4, k4, k4, k4, k4, k4, k4, k4, k4, k4, k4, k4, k4, k4, k4, k4, k4, k4, k4, k4, k4, k4, k4, k4, k4, k4, k4, k4, k4, trivial⟩
 ·refine ⟨?_, ?_, ?_, ?_, ?_, ?_, ?_, ?_, ?_, ?_, ?_, ?_, ?_, ?_, ?_, ?_, ?_, ?_, ?_, ?_, ?_, ?_, ?_, ?_, ?_, ?_, ?_, ?_, ?_, ?_, ?_, ?_, ?_, ?_, ?_, ?_, trivial⟩
  ·intro ev w hc hf hg hfix hdep hbel
   have e1 : ev (.tmp 1) = _ := hfix 1 (by decide)
   exact okb trivial rfl (by go_simp)
  ·intro ev w hc hf hg hfix hdep hbel
   have e8 : ev (.tmp 8) = _ := hdep 0 (by decide)
   have hk := HBk.out w (undrewB hbel)
   have hc0 := hk.cell 0; have hc1 := hk.cell 1; have hc2 := hk.cell 2; have hc3 := hk.cell 3; have hc4 := hk.cell 4
   simp only [List.getElem?_cons_succ, List.getElem?_cons_zero] at hc0 hc1 hc2 hc3 hc4
   exact okb trivial rfl (by go_simp)
  ·intro ev w hc hf hg hfix hdep hbel
   have e1 : ev (.tmp 1) = _ := hfix 1 (by decide)
   exact okb trivial rfl (by go_simp)
  ·intro ev w hc hf hg hfix hdep hbel
   have e10 : ev (.tmp 10) = _ := hdep 2 (by decide)
   have hk := HBk.out w (undrewB hbel)
   have hc0 := hk.cell 0; have hc1 := hk.cell 1; have hc2 := hk.cell 2; have hc3 := hk.cell 3; have hc4 := hk.cell 4
   simp only [List.getElem?_cons_succ, List.getElem?_cons_zero] at hc0 hc1 hc2 hc3 hc4
   exact okb trivial rfl (by go_simp)
  ·intro ev w hc hf hg hfix hdep hbel
   have e11 : ev (.tmp 11) = _ := hdep 3 (by decide)
   refine Or.inl ⟨trivial, Or.inr ⟨33, #[.slice none 0 0], w, by go_simp, ?_⟩⟩
   refine (canon_any none 0 0 [] w (VRow.nil _) rfl (by omega)).mono ?_
   rintro e w1 ⟨a, c, rfl, hr, hb⟩
   rw [canon_empty] at hr
   exact ⟨_, rfl, ⟨a, c, by rw [canon_empty]; rfl, hr⟩, hb⟩
  ·intro ev w hc hf hg hfix hdep hbel
   have e9 : ev (.tmp 9) = _ := hdep 1 (by decide)
   have e12 := hdep 4 (by decide)
   obtain ⟨a, c, he, hr⟩ := e12
   have he' : ev (.tmp 12) = .slice a 0 c := he
   refine Or.inl ⟨trivial, Or.inr ⟨97, #[.slice none 0 0, .slice a 0 c], w, by go_simp, ?_⟩⟩
   refine (equalV_any none 0 0 [] a 0 c [] w (VRow.nil _) rfl hr rfl).mono ?_
   rintro e w1 ⟨rfl, hb⟩
   exact ⟨_, rfl, rfl, hb⟩
  ·intro ev w hc hf hg hfix hdep hbel
   have e13 : ev (.tmp 13) = _ := hdep 5 (by decide)
   exact okb trivial rfl (by go_simp)
  ·intro ev w hc hf hg hfix hdep hbel
   have fg : ev (.tmp 14) = _ := hdep 6 (by decide)
   have e1 : ev (.tmp 1) = _ := hfix 1 (by decide)
   have hk := HBk.out w (undrewB hbel)
   have hc0 := hk.cell 0; have hc1 := hk.cell 1; have hc2 := hk.cell 2; have hc3 := hk.cell 3; have hc4 := hk.cell 4
   simp only [List.getElem?_cons_succ, List.getElem?_cons_zero] at hc0 hc1 hc2 hc3 hc4
   exact okb fg rfl (by go_simp)
  ·intro ev w hc hf hg hfix hdep hbel
   have fg : ev (.tmp 14) = _ := hdep 6 (by decide)
   have e15 : ev (.tmp 15) = _ := hdep 7 (by decide)
   refine Or.inl ⟨fg, Or.inr ⟨98, #[.agg #[.int .u64 0, .slice none 0 0, .slice none 0 0, .int .u64 0, .slice none 0 0]], w, by go_simp, ?_⟩⟩
   refine (mayTips_none w).mono ?_
   rintro e w1 ⟨rfl, hb⟩
   exact ⟨_, rfl, rfl, hb⟩
  ·intro ev w hc hf hg hfix hdep hbel
   have e14 : ev (.tmp 14) = _ := hdep 6 (by decide)
   have e16 : ev (.tmp 16) = _ := hdep 8 (by decide)
   exact okb trivial rfl (by go_simp)
  ·intro ev w hc hf hg hfix hdep hbel
   have e17 : ev (.tmp 17) = _ := hdep 9 (by decide)
   exact okb trivial rfl (by go_simp)
  ·intro ev w hc hf hg hfix hdep hbel
   have fg : ev (.tmp 18) = _ := hdep 10 (by decide)
   have e1 : ev (.tmp 1) = _ := hfix 1 (by decide)
   exact okb fg rfl (by go_simp)
  ·intro ev w hc hf hg hfix hdep hbel
   have fg : ev (.tmp 18) = _ := hdep 10 (by decide)
   have e19 : ev (.tmp 19) = _ := hdep 11 (by decide)
   have hk := HBk.out w (undrewB hbel)
   have hc0 := hk.cell 0; have hc1 := hk.cell 1; have hc2 := hk.cell 2; have hc3 := hk.cell 3; have hc4 := hk.cell 4
   simp only [List.getElem?_cons_succ, List.getElem?_cons_zero] at hc0 hc1 hc2 hc3 hc4
   exact okb fg rfl (by go_simp)
  ·intro ev w hc hf hg hfix hdep hbel
   have fg : ev (.tmp 18) = _ := hdep 10 (by decide)
   have e20 : ev (.tmp 20) = _ := hdep 12 (by decide)
   exact okb fg rfl (by go_simp)
  ·intro ev w hc hf hg hfix hdep hbel
   have e18 : ev (.tmp 18) = _ := hdep 10 (by decide)
   have e21 : ev (.tmp 21) = _ := hdep 13 (by decide)
   exact okb trivial rfl (by go_simp)
  ·intro ev w hc hf hg hfix hdep hbel
   have e22 : ev (.tmp 22) = _ := hdep 14 (by decide)
   exact okb trivial rfl (by go_simp)
  ·intro ev w hc hf hg hfix hdep hbel
   have fg : ev (.tmp 23) = _ := hdep 15 (by decide)
   have e1 : ev (.tmp 1) = _ := hfix 1 (by decide)
   exact okb fg rfl (by go_simp)
  ·intro ev w hc hf hg hfix hdep hbel
   have fg : ev (.tmp 23) = _ := hdep 15 (by decide)
   have e24 : ev (.tmp 24) = _ := hdep 16 (by decide)
   have hk := HBk.out w (undrewB hbel)
   have hc0 := hk.cell 0; have hc1 := hk.cell 1; have hc2 := hk.cell 2; have hc3 := hk.cell 3; have hc4 := hk.cell 4
   simp only [List.getElem?_cons_succ, List.getElem?_cons_zero] at hc0 hc1 hc2 hc3 hc4
   exact okb fg rfl (by go_simp)
  ·intro ev w hc hf hg hfix hdep hbel
   have fg : ev (.tmp 23) = _ := hdep 15 (by decide)
   have e25 : ev (.tmp 25) = _ := hdep 17 (by decide)
   refine Or.inl ⟨fg, Or.inr ⟨99, #[.slice none 0 0], w, by go_simp, ?_⟩⟩
   refine (treeMay_none w).mono ?_
   rintro e w1 ⟨rfl, hb⟩
   exact ⟨_, rfl, rfl, hb⟩
  ·intro ev w hc hf hg hfix hdep hbel
   have e23 : ev (.tmp 23) = _ := hdep 15 (by decide)
   have e26 : ev (.tmp 26) = _ := hdep 18 (by decide)
   exact okb trivial rfl (by go_simp)
  ·intro ev w hc hf hg hfix hdep hbel
   have e27 : ev (.tmp 27) = _ := hdep 19 (by decide)
   exact okb trivial rfl (by go_simp)
  ·intro ev w hc hf hg hfix hdep hbel
   have fg : ev (.tmp 28) = _ := hdep 20 (by decide)
   have e3 : ev (.tmp 3) = _ := hfix 3 (by decide)
   exact okb fg rfl (by go_simp)
  ·intro ev w hc hf hg hfix hdep hbel
   have fg : ev (.tmp 28) = _ := hdep 20 (by decide)
   have e1 : ev (.tmp 1) = _ := hfix 1 (by decide)
   exact okb fg rfl (by go_simp)
  ·intro ev w hc hf hg hfix hdep hbel
   have fg : ev (.tmp 28) = _ := hdep 20 (by decide)
   have e30 : ev (.tmp 30) = _ := hdep 22 (by decide)
   have hk := HBk.out w (undrewB hbel)
   have hc0 := hk.cell 0; have hc1 := hk.cell 1; have hc2 := hk.cell 2; have hc3 := hk.cell 3; have hc4 := hk.cell 4
   simp only [List.getElem?_cons_succ, List.getElem?_cons_zero] at hc0 hc1 hc2 hc3 hc4
   exact okb fg rfl (by go_simp)
  ·intro ev w hc hf hg hfix hdep hbel
   have fg : ev (.tmp 28) = _ := hdep 20 (by decide)
   have e31 : ev (.tmp 31) = _ := hdep 23 (by decide)
   exact okb fg rfl (by go_simp)
  ·intro ev w hc hf hg hfix hdep hbel
   have fg : ev (.tmp 28) = _ := hdep 20 (by decide)
   have e32 : ev (.tmp 32) = _ := hdep 24 (by decide)
   exact okb fg rfl (by go_simp)
  ·intro ev w hc hf hg hfix hdep hbel
   have fg : ev (.tmp 28) = _ := hdep 20 (by decide)
   have e29 : ev (.tmp 29) = _ := hdep 21 (by decide)
   have e33 : ev (.tmp 33) = _ := hdep 25 (by decide)
   exact okb fg rfl (by go_simp)
  ·intro ev w hc hf hg hfix hdep hbel
   have e28 : ev (.tmp 28) = _ := hdep 20 (by decide)
   have e34 : ev (.tmp 34) = _ := hdep 26 (by decide)
   exact okb trivial rfl (by go_simp)
  ·intro ev w hc hf hg hfix hdep hbel
   have e35 : ev (.tmp 35) = _ := hdep 27 (by decide)
   exact okb trivial rfl (by go_simp)
  ·intro ev w hc hf hg hfix hdep hbel
   have fg : ev (.tmp 36) = _ := hdep 28 (by decide)
   have e3 : ev (.tmp 3) = _ := hfix 3 (by decide)
   exact okb fg rfl (by go_simp)
  ·intro ev w hc hf hg hfix hdep hbel
   have fg : ev (.tmp 36) = _ := hdep 28 (by decide)
   have e1 : ev (.tmp 1) = _ := hfix 1 (by decide)
   exact okb fg rfl (by go_simp)
  ·intro ev w hc hf hg hfix hdep hbel
   have fg : ev (.tmp 36) = _ := hdep 28 (by decide)
   have e38 : ev (.tmp 38) = _ := hdep 30 (by decide)
   have hk := HBk.out w (undrewB hbel)
   have hc0 := hk.cell 0; have hc1 := hk.cell 1; have hc2 := hk.cell 2; have hc3 := hk.cell 3; have hc4 := hk.cell 4
   simp only [List.getElem?_cons_succ, List.getElem?_cons_zero] at hc0 hc1 hc2 hc3 hc4
   exact okb fg rfl (by go_simp)
  ·intro ev w hc hf hg hfix hdep hbel
   have fg : ev (.tmp 36) = _ := hdep 28 (by decide)
   have e39 : ev (.tmp 39) = _ := hdep 31 (by decide)
   exact okb fg rfl (by go_simp)
  ·intro ev w hc hf hg hfix hdep hbel
   have fg : ev (.tmp 36) = _ := hdep 28 (by decide)
   have e37 : ev (.tmp 37) = _ := hdep 29 (by decide)
   have e40 : ev (.tmp 40) = _ := hdep 32 (by decide)
   exact okb fg rfl (by go_simp)
  ·intro ev w hc hf hg hfix hdep hbel
   have e36 : ev (.tmp 36) = _ := hdep 28 (by decide)
   have e41 : ev (.tmp 41) = _ := hdep 33 (by decide)
   exact okb trivial rfl (by go_simp)
  ·intro ev w hc hf hg hfix hdep hbel
   have e42 : ev (.tmp 42) = _ := hdep 34 (by decide)
   exact okb trivial rfl (by go_simp)
 ·intro v w2 hv hb2
  have r0 : v 0 = _ := hv 0 (by decide)
  have r1 : v 1 = _ := hv 1 (by decide)
  have r2 : v 2 = _ := hv 2 (by decide)
  have r3 : v 3 = _ := hv 3 (by decide)
  have r4 := hv 4 (by decide)
  have r5 : v 5 = _ := hv 5 (by decide)
  have r6 : v 6 = _ := hv 6 (by decide)
  have r7 : v 7 = _ := hv 7 (by decide)
  have r8 : v 8 = _ := hv 8 (by decide)
  have r9 : v 9 = _ := hv 9 (by decide)
  have r10 : v 10 = _ := hv 10 (by decide)
  have r11 : v 11 = _ := hv 11 (by decide)
  have r12 : v 12 = _ := hv 12 (by decide)
  have r13 : v 13 = _ := hv 13 (by decide)
  have r14 : v 14 = _ := hv 14 (by decide)
  have r15 : v 15 = _ := hv 15 (by decide)
  have r16 : v 16 = _ := hv 16 (by decide)
  have r17 : v 17 = _ := hv 17 (by decide)
  have r18 : v 18 = _ := hv 18 (by decide)
  have r19 : v 19 = _ := hv 19 (by decide)
  have r20 : v 20 = _ := hv 20 (by decide)
  have r21 : v 21 = _ := hv 21 (by decide)
  have r22 : v 22 = _ := hv 22 (by decide)
  have r23 : v 23 = _ := hv 23 (by decide)
  have r24 : v 24 = _ := hv 24 (by decide)
  have r25 : v 25 = _ := hv 25 (by decide)
  have r26 : v 26 = _ := hv 26 (by decide)
  have r27 : v 27 = _ := hv 27 (by decide)
  have r28 : v 28 = _ := hv 28 (by decide)
  have r29 : v 29 = _ := hv 29 (by decide)
  have r30 : v 30 = _ := hv 30 (by decide)
  have r31 : v 31 = _ := hv 31 (by decide)
  have r32 : v 32 = _ := hv 32 (by decide)
  have r33 : v 33 = _ := hv 33 (by decide)
  have r34 : v 34 = _ := hv 34 (by decide)
  have r35 : v 35 = _ := hv 35 (by decide)
  simp only [Reg.putAll, Act.put, List.setIfInBounds_toArray, List.set_cons_zero, List.set_cons_succ, r0, r1, r2, r3, r5, r6, r7, r8, r9, r10, r11, r12, r13, r14, r15, r16, r17, r18, r19, r20, r21, r22, r23, r24, r25, r26, r27, r28, r29, r30, r31, r32, r33, r34, r35]
  clear r0 r1 r2 r3 r5 r6 r7 r8 r9 r10 r11 r12 r13 r14 r15 r16 r17 r18 r19 r20 r21 r22 r23 r24 r25 r26 r27 r28 r29 r30 r31 r32 r33 r34 r35 hv
  have HB := Lib.hid (HBox.out.trans (hb2.mono HBox.out.size)); clear hb2
  go_wp2_with fail
  go_ret
  exact ⟨rfl, HB.out⟩
set_option maxRecDepth 100000 in
set_option maxHeartbeats 6400000 in
theorem new_none (W : World) : Calls Tryz.prog 37 #[base0] W fun e w' => ∃ gb b, e = .returned (.tuple #[.pointer (some ⟨gb, 0, none⟩), .int .i64 0]) ∧ GAt w' (some ⟨gb, 0, none⟩) (some b) ∧ W.heap.size ≤ gb ∧ W.heap.size ≤ b ∧ gb ≠ b ∧ w'.heap[b]? = some (.map #[] 0) ∧ Below W.heap.size W w' := by
 have HBox := Lib.hid (below_box W #[.int .u64 0, .slice none 0 0, .slice none 0 0, .int .u64 0, .slice none 0 0] 38)
 have HBk := Lib.hid (Blk.new W #[.int .u64 0, .slice none 0 0, .slice none 0 0, .int .u64 0, .slice none 0 0] 38)
 have hmm : ∀ (w : World), (Instr.makeMap 40 none).run Tryz.prog w = .ok (.map (some w.heap.size)) (w.alloc (.map #[] 0)) := fun w => by
  simp [Instr.makeMap, run_underlying Tryz.underlying40, newObj, Result.andThen]
  try rfl
 go_enter Tryz.func37, Tryz.ntmps37
 go_wp2_with fail
 refine (mayBase_none _).mono ?_
 rintro e w1 ⟨rfl, hb⟩
 have hk := HBk.out.below hb
 have hc0 := hk.cell 0; have hc1 := hk.cell 1; have hc2 := hk.cell 2; have hc3 := hk.cell 3; have hc4 := hk.cell 4
 simp only [List.getElem?_cons_succ, List.getElem?_cons_zero] at hc0 hc1 hc2 hc3 hc4
 have HB1 := Lib.hid (HBox.out.trans (hb.mono HBox.out.size))
 clear hk hb
 go_wp2_with fail
 refine (ownBase_none _).mono ?_
 rintro e w2 ⟨rfl, hb⟩
 have HB2 := Lib.hid (HB1.out.trans (hb.mono HB1.out.size))
 clear hb hc0 hc1 hc2 hc3 hc4
 go_wp2_with fail
 refine bodyPost_ret (v := .tuple #[.pointer (some ⟨w2.heap.size + 1, 0, none⟩), .int .i64 0]) (by simp [results, Tryz.results37, go_sem]) rfl ?_
 have h2 := HB2.out.size
 have up : Below (w2.alloc (.map #[] 0)).heap.size (w2.alloc (.map #[] 0)) ((w2.alloc (.map #[] 0)).alloc (.cells #[.int .u64 0, .slice none 0 0, .slice none 0 0, .int .u64 0, .slice none 0 0, .map (some w2.heap.size)] 42)) := (Below.refl _ _).alloc (Nat.le_refl _) _
 have hg := Blk.new (w2.alloc (.map #[] 0)) #[.int .u64 0, .slice none 0 0, .slice none 0 0, .int .u64 0, .slice none 0 0, .map (some w2.heap.size)] 42
 rw [World.size_alloc] at hg
 refine ⟨w2.heap.size + 1, w2.heap.size, rfl, Or.inr ⟨_, rfl, hg⟩, by omega, h2, by omega, ?_, (HB2.out.alloc h2 _).alloc (by rw [World.size_alloc]; omega) _⟩
 rw [up.block _ (by rw [World.size_alloc]; omega)]
 exact Go.heap_alloc_new _ _
end Go.Proofs.YtiiidmphmojlgaaGreat
namespace Go.Proofs.YtiiidmphmojlgaaGreat
open Go.RowKit Go.Buf Go.LB Go.Lib
set_option linter.unusedSimpArgs false
set_option linter.unusedVariables false
set_option maxRecDepth 100000 in
set_option maxHeartbeats 3200000 in
theorem parents_none (p : Value) (r i s : Nat) (qa : Option Addr) (qc : Nat) (va : Option Addr) (vl vc : Nat) (tm k : Nat) (pa : Option Addr) (pl pc : Nat) (n : Int) (t : ByteArray) (da : Option Addr) (dl dc : Nat) (W : World) : Calls Tryz.prog 107 #[p, cmV r i s qa 0 qc va vl vc tm k pa pl pc n t da dl dc] W fun e w' => e = .returned (.slice none 0 0) ∧ Below W.heap.size W w' := by
 go_enter Tryz.func107, Tryz.ntmps107
 go_wp2_with fail
 go_loopw [5, 7, 8, 9, 13] (fun u _ _ _ v wr => u = .slice none 0 0 ∧ v = .int .i64 0 ∧ wr = W.alloc (.cells #[.int .u8 (r : Int), .int .u32 (i : Int), .int .u64 (s : Int), .slice qa 0 qc, .slice va vl vc, .int .u64 (tm : Int), .int .u8 (k : Int), .slice pa pl pc, .int .i64 n, .string t, .slice da dl dc] 34)) (fun _ _ _ _ _ _ => 0)
 case atStart => exact ⟨rfl, rfl, rfl⟩
 case round =>
  obtain ⟨rfl, rfl, rfl⟩ := hrel
  go_wp2_with fail
  go_ret
  exact ⟨rfl, (Below.refl _ _).alloc (Nat.le_refl _) _⟩
set_option maxRecDepth 100000 in
set_option maxHeartbeats 3200000 in
theorem histories_none (p : Value) (r i s : Nat) (qa : Option Addr) (qc : Nat) (va : Option Addr) (vl vc : Nat) (tm k : Nat) (pa : Option Addr) (pl pc : Nat) (n : Int) (t : ByteArray) (da : Option Addr) (dl dc : Nat) (W : World) : Calls Tryz.prog 66 #[p, cmV r i s qa 0 qc va vl vc tm k pa pl pc n t da dl dc] W fun e w' => e = .returned (.slice none 0 0) ∧ Below W.heap.size W w' := by
 have HB0 := Lib.hid (show Below W.heap.size W (W.alloc (.cells #[.int .u8 (r : Int), .int .u32 (i : Int), .int .u64 (s : Int), .slice qa 0 qc, .slice va vl vc, .int .u64 (tm : Int), .int .u8 (k : Int), .slice pa pl pc, .int .i64 n, .string t, .slice da dl dc] 34)) from (Below.refl _ _).alloc (Nat.le_refl _) _)
 go_enter Tryz.func66, Tryz.ntmps66
 go_wp2_with fail
 refine (parents_none p r i s qa qc va vl vc tm k pa pl pc n t da dl dc _).mono ?_
 rintro e w1 ⟨rfl, hb⟩
 have HB := Lib.hid (HB0.out.trans (hb.mono HB0.out.size))
 clear hb
 go_wp2_with fail
 go_loopw [5, 7, 12] (fun u _ v wr => u = .slice none 0 0 ∧ v = .int .i64 0 ∧ wr = w1) (fun _ _ _ _ => 0)
 case atStart => exact ⟨rfl, rfl, rfl⟩
 case round =>
  obtain ⟨rfl, rfl, rfl⟩ := hrel
  go_wp2_with fail
  go_ret
  exact ⟨rfl, HB.out⟩
theorem res_dot {fn : Func} {k : Tmp} {tmps : Array Value} {w : World} {b : Nat} {c0 c1 c2 : Value} (hr : fn.results = #[.cell k 27]) (ht : tmps.getD k undef = .pointer (some ⟨b, 0, none⟩)) (h : Blk w b 27 [c0, c1, c2]) :
  (results fn tmps).run Tryz.prog w = .ok (.agg #[c0, c1, c2]) w := by
 have h0 := h.cell 0; have h1 := h.cell 1; have h2 := h.cell 2
 simp at h0 h1 h2
 have ht2 : tmps[k]?.getD undef = .pointer (some ⟨b, 0, none⟩) := by simpa using ht
 simp [results, hr, go_sem, ht2, h0, h1, h2]
set_option maxRecDepth 100000 in
set_option maxHeartbeats 3200000 in
theorem gahead_any (r i s : Nat) (W : World) : Calls Tryz.prog 61 #[dotV ((r, i), s)] W fun e w' => e = .returned (.agg #[.int .u8 (r : Int), .int .u32 (i : Int), .int .u64 (IntKind.u64.wrap ((s : Int) - 1))]) ∧ Below W.heap.size W w' := by
 go_enter Tryz.func61, Tryz.ntmps61
 go_wp2_with fail
 have h := Blk.new (W.alloc (.cells #[.int .u8 (r : Int), .int .u32 (i : Int), .int .u64 (IntKind.u64.wrap ((s : Int) - 1))] 27)) #[.int .u8 (r : Int), .int .u32 (i : Int), .int .u64 (IntKind.u64.wrap ((s : Int) - 1))] 27
 rw [World.size_alloc] at h
 exact bodyPost_ret (v := .agg #[.int .u8 (r : Int), .int .u32 (i : Int), .int .u64 (IntKind.u64.wrap ((s : Int) - 1))]) (res_dot (b := W.heap.size + 1) Tryz.results61 (by simp) h) rfl ⟨rfl, ((Below.refl _ _).alloc (Nat.le_refl _) _).alloc (by simp) _⟩
set_option maxRecDepth 100000 in
set_option maxHeartbeats 3200000 in
theorem lacks_any (bp : Nat) (p : Option Addr) (mb : Option Nat) (r i s : Nat) (cs : List Cm.C) (W : World) (hP : Blk W bp 43 [.pointer p]) (hG : GAt W p mb) (hM : CMap W mb cs) (hd : Dt.okD ((r, i), s)) :
  Calls Tryz.prog 62 #[dotV ((r, i), s), .pointer (some ⟨bp, 0, none⟩)] W fun e w' => e = .returned (.bool (!gin cs ((r, i), s))) ∧ Below W.heap.size W w' := by
 have HG := Lib.hid hG; have HM := Lib.hid hM; have HD := Lib.hid hd
 have HB0 := Lib.hid (show Below W.heap.size W (W.alloc (.cells #[.int .u8 (r : Int), .int .u32 (i : Int), .int .u64 (s : Int)] 27)) from (Below.refl _ _).alloc (Nat.le_refl _) _)
 have hlt := hP.lt
 have hc := hP.cell 0
 simp only [List.getElem?_cons_zero] at hc
 clear hG hM hd hP
 go_enter Tryz.func62, Tryz.ntmps62
 go_wp2_with fail
 refine (ghas_any p mb r i s cs _ (HG.out.below HB0.out) (HM.out.below HB0.out) HD.out).mono ?_
 rintro e w1 ⟨rfl, hb⟩
 have HB := Lib.hid (HB0.out.trans (hb.mono HB0.out.size))
 clear hb
 go_wp2_with fail
 go_ret
 exact ⟨rfl, HB.out⟩
end Go.Proofs.YtiiidmphmojlgaaGreat
namespace Go.Proofs.YtiiidmphmojlgaaGreat
open Go.RowKit Go.Buf Go.LB Go.Lib
set_option linter.unusedSimpArgs false
set_option linter.unusedVariables false
theorem next_one {w : World} {r b since c0 clock : Nat} {e : MapEntry} (hr : w.heap[r]? = some (.mapIter (some b) since #[] c0)) (hb : w.heap[b]? = some (.map #[e] clock)) (h1 : e.born < since) (ty : TypeId) :
  (Instr.next (.pointer (some ⟨r, 0, none⟩)) false ty).run Tryz.prog w = .ok (.tuple #[.bool true, e.key, e.val]) { w with heap := w.heap.setIfInBounds r (.mapIter (some b) since #[e.born] clock) } := by
 have h2 : ¬ since ≤ e.born := by omega
 simp [Instr.next, getObj, setObj, Sem.run, hr, hb, Result.andThen, h1, h2, Question.forced]
theorem next_end {w : World} {r b since clock : Nat} {e : MapEntry} (hr : w.heap[r]? = some (.mapIter (some b) since #[e.born] clock)) (hb : w.heap[b]? = some (.map #[e] clock)) (h1 : e.born < clock) (ty : TypeId) :
  (Instr.next (.pointer (some ⟨r, 0, none⟩)) false ty).run Tryz.prog w = .ok (.tuple #[.bool false]) w := by
 have h2 : ¬ clock ≤ e.born := by omega
 simp [Instr.next, getObj, setObj, Sem.run, hr, hb, Result.andThen, h2, Question.forced]
theorem entry_one {w : World} {r b since clock : Nat} {e : MapEntry} (hr : w.heap[r]? = some (.mapIter (some b) since #[e.born] clock)) (hb : w.heap[b]? = some (.map #[e] clock)) :
  (Instr.entry (.pointer (some ⟨r, 0, none⟩))).run Tryz.prog w = .ok (.tuple #[e.key, e.val]) w := by
 simp [Instr.entry, getObj, Sem.run, hr, hb, Result.andThen]
end Go.Proofs.YtiiidmphmojlgaaGreat
namespace Go.Proofs.YtiiidmphmojlgaaGreat
open Go.RowKit Go.Buf Go.LB Go.Lib
set_option linter.unusedSimpArgs false
set_option linter.unusedVariables false
theorem CMap.one {w : World} {b : Nat} {c : Cm.C} (h : CMap w (some b) [c]) : ∃ e clock, w.heap[b]? = some (.map #[e] clock) ∧ e.key = dotV c.dot ∧ IsC w e.val c ∧ Dt.okD c.dot ∧ e.born < clock := by
 rcases h with ⟨h, _⟩ | ⟨b', es, clock, h1, h2, h3, h4, h5, h6, h7⟩
 ·cases h
 ·cases h1
  obtain ⟨e, g1, g2, g3, g4⟩ := h4 0 c rfl
  have he : es = #[e] := by
   apply Array.ext
   ·simpa using h3
   ·intro i hi1 hi2
    have : i = 0 := by simp at hi2; exact hi2
    subst this
    have := (Array.getElem?_eq_some_iff.1 g1).2
    simpa using this
  subst he
  exact ⟨e, clock, h2, g2, g3, g4, h6 e (by simp)⟩
def Rng (W w : World) (r b : Nat) (e : MapEntry) (clock : Nat) (seen : Array Nat) : Prop :=
 (∃ c0, w.heap[r]? = some (.mapIter (some b) clock seen c0) ∧ (seen = #[e.born] → c0 = clock)) ∧ w.heap[b]? = some (.map #[e] clock) ∧ Below W.heap.size W w ∧ W.heap.size ≤ r
theorem Rng.step {W w : World} {r b clock : Nat} {e : MapEntry} (h : Rng W w r b e clock #[]) (hne : r ≠ b) : Rng W { w with heap := w.heap.setIfInBounds r (.mapIter (some b) clock #[e.born] clock) } r b e clock #[e.born] := by
 obtain ⟨⟨c0, h1, _⟩, h2, h3, h4⟩ := h
 have hr := (Array.getElem?_eq_some_iff.1 h1).1
 refine ⟨⟨clock, ?_, fun _ => rfl⟩, ?_, ?_, h4⟩
 ·simp [hr]
 ·simp only [Array.getElem?_setIfInBounds]
  rw [if_neg hne]; exact h2
 ·refine ⟨h3.os, h3.tape, h3.output, by simpa using h3.size, fun k hk => ?_⟩
  simp only [Array.getElem?_setIfInBounds]
  rw [if_neg (by omega)]
  exact h3.block k hk
theorem Rng.below {W w w' : World} {r b clock : Nat} {e : MapEntry} {seen : Array Nat} (h : Rng W w r b e clock seen) (hb : Below w.heap.size w w') : Rng W w' r b e clock seen := by
 obtain ⟨⟨c0, h1, h5⟩, h2, h3, h4⟩ := h
 exact ⟨⟨c0, (hb.block r (Array.getElem?_eq_some_iff.1 h1).1).trans h1, h5⟩, (hb.block b (Array.getElem?_eq_some_iff.1 h2).1).trans h2, h3.trans (hb.mono h3.size), h4⟩
theorem Rng.lt {W w : World} {r b clock : Nat} {e : MapEntry} {seen : Array Nat} (h : Rng W w r b e clock seen) : r < w.heap.size ∧ b < w.heap.size := by
 obtain ⟨⟨c0, h1, h5⟩, h2, _⟩ := h
 exact ⟨(Array.getElem?_eq_some_iff.1 h1).1, (Array.getElem?_eq_some_iff.1 h2).1⟩
theorem Rng.start {W w : World} {b clock : Nat} {e : MapEntry} (hW : Below W.heap.size W w) (hb : w.heap[b]? = some (.map #[e] clock)) : Rng W (w.alloc (.mapIter (some b) clock #[] clock)) w.heap.size b e clock #[] := by
 have up : Below w.heap.size w (w.alloc (.mapIter (some b) clock #[] clock)) := (Below.refl _ _).alloc (Nat.le_refl _) _
 exact ⟨⟨clock, heap_alloc_new _ _, fun _ => rfl⟩, (up.block b (Array.getElem?_eq_some_iff.1 hb).1).trans hb, hW.alloc hW.size _, hW.size⟩
end Go.Proofs.YtiiidmphmojlgaaGreat
