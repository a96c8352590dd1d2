import Derived.Test.YtiiidmphmojlgaaGreatZGr19
namespace Go.Proofs.YtiiidmphmojlgaaGreat
open Go.RowKit Go.Buf Go.LB Go.Lib
set_option linter.unusedSimpArgs false
set_option linter.unusedVariables false
theorem within_zero (a : Dt.Ac) (l : List Dt.Dot) : Dt.within [(a, 0)] l = true := by simp [Dt.within]
theorem gahead_1 (r i : Nat) (W : World) : Calls Tryz.prog 61 #[.agg #[.int .u8 (r : Int), .int .u32 (i : Int), .int .u64 1]] W fun e w' => e = .returned (.agg #[.int .u8 (r : Int), .int .u32 (i : Int), .int .u64 0]) ∧ Below W.heap.size W w' := gahead_any r i 1 W
set_option maxRecDepth 100000 in
set_option maxHeartbeats 6400000 in
theorem isFit_own (gb b : Nat) (r i : Nat) (va : Option Addr) (vc : Nat) (tm k : Nat) (pa : Option Addr) (pl pc : Nat) (n : Int) (t : ByteArray) (da : Option Addr) (dl dc : Nat) (W : World) (hG : Blk W gb 42 [.int .u64 0, .slice none 0 0, .slice none 0 0, .int .u64 0, .slice none 0 0, .map (some b)]) (hv : VRow W va vc [((r, i), 1)]) :
  Calls Tryz.prog 41 #[.pointer (some ⟨gb, 0, none⟩), cmV r i 1 none 0 0 va 1 vc tm k pa pl pc n t da dl dc] W fun e w' => e = .returned (.bool true) ∧ Below W.heap.size W w' := by
 have HG := Lib.hid hG; have HV := Lib.hid hv; have HOk := Lib.hid (hv.ok _ (List.mem_singleton.2 rfl))
 have HBox := Lib.hid (below_box W #[.int .u8 (r : Int), .int .u32 (i : Int), .int .u64 1, .slice none 0 0, .slice va 1 vc, .int .u64 (tm : Int), .int .u8 (k : Int), .slice pa pl pc, .int .i64 n, .string t, .slice da dl dc] 34)
 have HBk := Lib.hid (show ∀ w, Below (W.alloc (.cells #[.int .u8 (r : Int), .int .u32 (i : Int), .int .u64 1, .slice none 0 0, .slice va 1 vc, .int .u64 (tm : Int), .int .u8 (k : Int), .slice pa pl pc, .int .i64 n, .string t, .slice da dl dc] 34)).heap.size (W.alloc (.cells #[.int .u8 (r : Int), .int .u32 (i : Int), .int .u64 1, .slice none 0 0, .slice va 1 vc, .int .u64 (tm : Int), .int .u8 (k : Int), .slice pa pl pc, .int .i64 n, .string t, .slice da dl dc] 34)) w → Blk w W.heap.size 34 [.int .u8 (r : Int), .int .u32 (i : Int), .int .u64 1, .slice none 0 0, .slice va 1 vc, .int .u64 (tm : Int), .int .u8 (k : Int), .slice pa pl pc, .int .i64 n, .string t, .slice da dl dc] from fun w h => (Blk.new W #[.int .u8 (r : Int), .int .u32 (i : Int), .int .u64 1, .slice none 0 0, .slice va 1 vc, .int .u64 (tm : Int), .int .u8 (k : Int), .slice pa pl pc, .int .i64 n, .string t, .slice da dl dc] 34).below h)
 clear hG hv
 go_enter Tryz.func41, Tryz.ntmps41
 go_wp2_with fail
 refine Reg.region_list (by kernel_rfl) [fun v _ => v = .pointer (some ⟨gb, 0, none⟩), fun v _ => v = .agg #[.int .u8 (r : Int), .int .u32 (i : Int), .int .u64 1, .slice none 0 0, .slice va 1 vc, .int .u64 (tm : Int), .int .u8 (k : Int), .slice pa pl pc, .int .i64 n, .string t, .slice da dl dc], fun v _ => v = .slice none 0 0, fun v _ => v = .pointer (some ⟨gb, 0, none⟩), fun v _ => v = .pointer (some ⟨gb, 0, none⟩), fun v _ => v = .pointer (some ⟨gb, 0, none⟩), fun v _ => v = .pointer (some ⟨gb, 1, none⟩), fun v _ => v = .slice none 0 0, fun v w => ∃ a c, v = .slice a 0 c ∧ VRow w a c [], fun v w => ∃ a c, v = .slice a 0 c ∧ VRow w a c []] (by kernel_rfl) ?_ ?_ ?_
 ·refine ⟨k4, k4, k4, k4, k4, k4, k4, k4, (fun v wa wb hb h => by obtain ⟨a, c, h1, h2⟩ := h; exact ⟨a, c, h1, h2.below hb⟩), (fun v wa wb hb h => by obtain ⟨a, c, h1, h2⟩ := h; exact ⟨a, c, h1, h2.below hb⟩), trivial⟩
 ·refine ⟨?_, ?_, ?_, ?_, ?_, ?_, ?_, ?_, ?_, ?_, trivial⟩
  ·intro ev w hc hf hg hfix hdep hbel
   have e0 : ev (.tmp 0) = _ := hfix 0 (by decide)
   exact okb trivial rfl (by go_simp)
  ·intro ev w hc hf hg hfix hdep hbel
   have e3 : ev (.tmp 3) = _ := hfix 3 (by decide)
   have hk := HBk.out w (undrewB hbel)
   have hc0 := hk.cell 0; have hc1 := hk.cell 1; have hc2 := hk.cell 2; have hc3 := hk.cell 3; have hc4 := hk.cell 4; have hc5 := hk.cell 5; have hc6 := hk.cell 6; have hc7 := hk.cell 7; have hc8 := hk.cell 8; have hc9 := hk.cell 9; have hc10 := hk.cell 10
   simp only [List.getElem?_cons_succ, List.getElem?_cons_zero] at hc0 hc1 hc2 hc3 hc4 hc5 hc6 hc7 hc8 hc9 hc10
   exact okb trivial rfl (by go_simp)
  ·intro ev w hc hf hg hfix hdep hbel
   have e6 : ev (.tmp 6) = _ := hdep 0 (by decide)
   have e7 : ev (.tmp 7) = _ := hdep 1 (by decide)
   refine Or.inl ⟨trivial, Or.inr ⟨66, #[.pointer (some ⟨gb, 0, none⟩), .agg #[.int .u8 (r : Int), .int .u32 (i : Int), .int .u64 1, .slice none 0 0, .slice va 1 vc, .int .u64 (tm : Int), .int .u8 (k : Int), .slice pa pl pc, .int .i64 n, .string t, .slice da dl dc]], w, by go_simp, ?_⟩⟩
   refine (histories_none _ r i 1 none 0 va 1 vc tm k pa pl pc n t da dl dc w).mono ?_
   rintro e w1 ⟨rfl, hb⟩
   exact ⟨_, rfl, rfl, hb⟩
  ·intro ev w hc hf hg hfix hdep hbel
   have e0 : ev (.tmp 0) = _ := hfix 0 (by decide)
   exact okb trivial rfl (by go_simp)
  ·intro ev w hc hf hg hfix hdep hbel
   have e9 : ev (.tmp 9) = _ := hdep 3 (by decide)
   exact okb trivial rfl (by go_simp)
  ·intro ev w hc hf hg hfix hdep hbel
   have e10 : ev (.tmp 10) = _ := hdep 4 (by decide)
   exact okb trivial rfl (by go_simp)
  ·intro ev w hc hf hg hfix hdep hbel
   have e11 : ev (.tmp 11) = _ := hdep 5 (by decide)
   exact okb trivial rfl (by go_simp)
  ·intro ev w hc hf hg hfix hdep hbel
   have e12 : ev (.tmp 12) = _ := hdep 6 (by decide)
   have hg := HG.out.below (HBox.out.trans ((undrewB hbel).mono HBox.out.size))
   have hd0 := hg.cell 0; have hd1 := hg.cell 1; have hd2 := hg.cell 2; have hd3 := hg.cell 3; have hd4 := hg.cell 4; have hd5 := hg.cell 5
   simp only [List.getElem?_cons_succ, List.getElem?_cons_zero] at hd0 hd1 hd2 hd3 hd4 hd5
   exact okb trivial rfl (by go_simp)
  ·intro ev w hc hf hg hfix hdep hbel
   have e8 : ev (.tmp 8) = _ := hdep 2 (by decide)
   have e13 : ev (.tmp 13) = _ := hdep 7 (by decide)
   obtain ⟨v', w', row', h1, h2, h3, h4⟩ := appsV (.slice none 0 0) none [] [] (.slice none 0 0) w.heap.size w (LB.Own.empty (Nat.le_refl _) none) (srcV (VRow.nil w)) (by simp) 29
   obtain ⟨a, c, rfl, hr⟩ := cloneD_x_row h2 (by simp)
   exact Or.inl ⟨trivial, Or.inl ⟨_, w', RegE.exec_append (.tmp 8) (.tmp 13) 29 29 rfl e8 e13 h1, ⟨a, c, rfl, hr⟩, Below.grown (Below.refl _ _) h3 (Nat.le_refl _) (fun k e => by cases e)⟩⟩
  ·intro ev w hc hf hg hfix hdep hbel
   have e14 := hdep 8 (by decide)
   obtain ⟨a, c, h14, hr⟩ := e14
   have e14 : ev (.tmp 14) = .slice a 0 c := h14
   exact Or.inl ⟨trivial, Or.inl ⟨.slice a 0 c, w, by go_simp, ⟨a, c, rfl, hr⟩, Below.refl _ _⟩⟩
 ·intro v w2 hv hb2
  have r0 : v 0 = _ := hv 0 (by decide)
  have r1 : v 1 = _ := hv 1 (by decide)
  have r2 : v 2 = _ := hv 2 (by decide)
  have r3 : v 3 = _ := hv 3 (by decide)
  have r4 : v 4 = _ := hv 4 (by decide)
  have r5 : v 5 = _ := hv 5 (by decide)
  have r6 : v 6 = _ := hv 6 (by decide)
  have r7 : v 7 = _ := hv 7 (by decide)
  have r8 := hv 8 (by decide)
  have r9 := hv 9 (by decide)
  simp only [Reg.putAll, Act.put, List.setIfInBounds_toArray, List.set_cons_zero, List.set_cons_succ, r0, r1, r2, r3, r4, r5, r6, r7]
  clear r0 r1 r2 r3 r4 r5 r6 r7 hv
  obtain ⟨ta, tc, ht0, ht⟩ := r9
  rw [ht0]
  have HT := Lib.hid ht; have HX1 := Lib.hid hb2; clear hb2 ht ht0 r8
  go_wp2_with fail
  refine Reg.region_list (by kernel_rfl) [fun v _ => v = .pointer (some ⟨gb, 0, none⟩), fun v _ => v = .agg #[.int .u8 (r : Int), .int .u32 (i : Int), .int .u64 1, .slice none 0 0, .slice va 1 vc, .int .u64 (tm : Int), .int .u8 (k : Int), .slice pa pl pc, .int .i64 n, .string t, .slice da dl dc], fun v w => ∃ a c, v = .slice a 1 c ∧ VRow w a c [((r, i), 1)], fun v _ => v = .pointer (some ⟨W.heap.size, 4, none⟩), fun v _ => v = .slice va 1 vc, fun v _ => v = .bool true, fun v _ => v = .bool true, fun v _ => v = .pointer (some ⟨W.heap.size, 0, none⟩), fun v _ => v = .agg #[.int .u8 (r : Int), .int .u32 (i : Int), .int .u64 1], fun v _ => v = .agg #[.int .u8 (r : Int), .int .u32 (i : Int), .int .u64 0], fun v w => ∃ bd, v = .slice (some ⟨bd, 0, none⟩) 1 1 ∧ VRow w (some ⟨bd, 0, none⟩) 1 [((r, i), 0)], fun v _ => v = .slice ta 0 tc, fun v _ => v = .bool true, fun v _ => v = .bool true, fun v _ => v = .bool true, fun v _ => v = .pointer (some ⟨gb, 0, none⟩), fun v _ => v = .agg #[.int .u8 (r : Int), .int .u32 (i : Int), .int .u64 1, .slice none 0 0, .slice va 1 vc, .int .u64 (tm : Int), .int .u8 (k : Int), .slice pa pl pc, .int .i64 n, .string t, .slice da dl dc], fun v _ => v = .bool true, fun v _ => v = .bool true, fun v _ => v = .bool true] (by kernel_rfl) ?_ ?_ ?_
  ·refine ⟨k4, k4, (fun v wa wb hb h => by obtain ⟨a, c, h1, h2⟩ := h; exact ⟨a, c, h1, h2.below hb⟩), k4, k4, k4, k4, k4, k4, k4, (fun v wa wb hb h => by obtain ⟨bd, h1, h2⟩ := h; exact ⟨bd, h1, h2.below hb⟩), k4, k4, k4, k4, k4, k4, k4, k4, k4, trivial⟩
  ·refine ⟨?_, ?_, ?_, ?_, ?_, ?_, ?_, ?_, ?_, ?_, ?_, ?_, ?_, ?_, ?_, ?_, ?_, ?_, ?_, ?_, trivial⟩
   ·intro ev w hc hf hg hfix hdep hbel
    have e0 : ev (.tmp 0) = _ := hfix 0 (by decide)
    exact okb trivial rfl (by go_simp)
   ·intro ev w hc hf hg hfix hdep hbel
    have e3 : ev (.tmp 3) = _ := hfix 3 (by decide)
    have hk := HBk.out w (HX1.out.trans ((undrewB hbel).mono HX1.out.size))
    have hc0 := hk.cell 0; have hc1 := hk.cell 1; have hc2 := hk.cell 2; have hc3 := hk.cell 3; have hc4 := hk.cell 4; have hc5 := hk.cell 5; have hc6 := hk.cell 6; have hc7 := hk.cell 7; have hc8 := hk.cell 8; have hc9 := hk.cell 9; have hc10 := hk.cell 10
    simp only [List.getElem?_cons_succ, List.getElem?_cons_zero] at hc0 hc1 hc2 hc3 hc4 hc5 hc6 hc7 hc8 hc9 hc10
    exact okb trivial rfl (by go_simp)
   ·intro ev w hc hf hg hfix hdep hbel
    have e15 : ev (.tmp 15) = _ := hdep 0 (by decide)
    have e16 : ev (.tmp 16) = _ := hdep 1 (by decide)
    refine Or.inl ⟨trivial, Or.inr ⟨65, #[.pointer (some ⟨gb, 0, none⟩), .agg #[.int .u8 (r : Int), .int .u32 (i : Int), .int .u64 1, .slice none 0 0, .slice va 1 vc, .int .u64 (tm : Int), .int .u8 (k : Int), .slice pa pl pc, .int .i64 n, .string t, .slice da dl dc]], w, by go_simp, ?_⟩⟩
    have hw := (HBox.out.trans ((HX1.out.trans ((undrewB hbel).mono HX1.out.size)).mono HBox.out.size))
    refine (mustKnow_own gb b r i 1 va vc tm k pa pl pc n t da dl dc w (HG.out.below hw) (HV.out.below hw)).mono ?_
    rintro e w1 ⟨⟨a, c, rfl, hr⟩, hb⟩
    exact ⟨_, rfl, ⟨a, c, rfl, hr⟩, hb⟩
   ·intro ev w hc hf hg hfix hdep hbel
    have e3 : ev (.tmp 3) = _ := hfix 3 (by decide)
    exact okb trivial rfl (by go_simp)
   ·intro ev w hc hf hg hfix hdep hbel
    have e18 : ev (.tmp 18) = _ := hdep 3 (by decide)
    have hk := HBk.out w (HX1.out.trans ((undrewB hbel).mono HX1.out.size))
    have hc0 := hk.cell 0; have hc1 := hk.cell 1; have hc2 := hk.cell 2; have hc3 := hk.cell 3; have hc4 := hk.cell 4; have hc5 := hk.cell 5; have hc6 := hk.cell 6; have hc7 := hk.cell 7; have hc8 := hk.cell 8; have hc9 := hk.cell 9; have hc10 := hk.cell 10
    simp only [List.getElem?_cons_succ, List.getElem?_cons_zero] at hc0 hc1 hc2 hc3 hc4 hc5 hc6 hc7 hc8 hc9 hc10
    exact okb trivial rfl (by go_simp)
   ·intro ev w hc hf hg hfix hdep hbel
    have e17 := hdep 2 (by decide)
    have e19 : ev (.tmp 19) = _ := hdep 4 (by decide)
    have hw := (HBox.out.trans ((HX1.out.trans ((undrewB hbel).mono HX1.out.size)).mono HBox.out.size))
    obtain ⟨a, c, h17, hr⟩ := e17
    have e17 : ev (.tmp 17) = .slice a 1 c := h17
    refine Or.inl ⟨trivial, Or.inr ⟨64, #[.slice a 1 c, .slice va 1 vc], w, by go_simp, ?_⟩⟩
    refine (within_any a 1 c [((r, i), 1)] va 1 vc [((r, i), 1)] w hr rfl (HV.out.below hw) rfl (by omega)).mono ?_
    rintro e w1 ⟨rfl, hb⟩
    exact ⟨_, rfl, by rw [within_one], hb⟩
   ·intro ev w hc hf hg hfix hdep hbel
    have e20 : ev (.tmp 20) = _ := hdep 5 (by decide)
    exact okb trivial rfl (by go_simp)
   ·intro ev w hc hf hg hfix hdep hbel
    have fg : ev (.tmp 21) = _ := hdep 6 (by decide)
    have e3 : ev (.tmp 3) = _ := hfix 3 (by decide)
    exact okb fg rfl (by go_simp)
   ·intro ev w hc hf hg hfix hdep hbel
    have fg : ev (.tmp 21) = _ := hdep 6 (by decide)
    have e22 : ev (.tmp 22) = _ := hdep 7 (by decide)
    have hk := HBk.out w (HX1.out.trans ((undrewB hbel).mono HX1.out.size))
    have hc0 := hk.cell 0; have hc1 := hk.cell 1; have hc2 := hk.cell 2; have hc3 := hk.cell 3; have hc4 := hk.cell 4; have hc5 := hk.cell 5; have hc6 := hk.cell 6; have hc7 := hk.cell 7; have hc8 := hk.cell 8; have hc9 := hk.cell 9; have hc10 := hk.cell 10
    simp only [List.getElem?_cons_succ, List.getElem?_cons_zero] at hc0 hc1 hc2 hc3 hc4 hc5 hc6 hc7 hc8 hc9 hc10
    exact okb fg rfl (by go_simp)
   ·intro ev w hc hf hg hfix hdep hbel
    have fg : ev (.tmp 21) = _ := hdep 6 (by decide)
    have e23 : ev (.tmp 23) = _ := hdep 8 (by decide)
    refine Or.inl ⟨fg, Or.inr ⟨61, #[.agg #[.int .u8 (r : Int), .int .u32 (i : Int), .int .u64 1]], w, by go_simp, ?_⟩⟩
    refine (gahead_1 r i w).mono ?_
    rintro e w1 ⟨rfl, hb⟩
    exact ⟨_, rfl, rfl, hb⟩
   ·intro ev w hc hf hg hfix hdep hbel
    have fg : ev (.tmp 21) = _ := hdep 6 (by decide)
    have e24 : ev (.tmp 24) = _ := hdep 9 (by decide)
    have hb := Blk.new w #[.int .u8 (r : Int), .int .u32 (i : Int), .int .u64 0] 27
    exact Or.inl ⟨fg, Or.inl ⟨.slice (some ⟨w.heap.size, 0, none⟩) 1 1, w.alloc (.cells #[.int .u8 (r : Int), .int .u32 (i : Int), .int .u64 0] 27), by go_simp, ⟨w.heap.size, rfl, vrow_dot (d := ((r, i), 0)) hb ⟨HOk.out.1, HOk.out.2.1, by simp⟩⟩, (Below.refl w.heap.size w).alloc (Nat.le_refl _) _⟩⟩
   ·intro ev w hc hf hg hfix hdep hbel
    have fg : ev (.tmp 21) = _ := hdep 6 (by decide)
    have e5 : ev (.tmp 5) = _ := hfix 5 (by decide)
    exact okb fg rfl (by go_simp)
   ·intro ev w hc hf hg hfix hdep hbel
    have fg : ev (.tmp 21) = _ := hdep 6 (by decide)
    have e25 := hdep 10 (by decide)
    have e26 : ev (.tmp 26) = _ := hdep 11 (by decide)
    obtain ⟨bd, h25, hr⟩ := e25
    have e25 : ev (.tmp 25) = .slice (some ⟨bd, 0, none⟩) 1 1 := h25
    refine Or.inl ⟨fg, Or.inr ⟨64, #[.slice (some ⟨bd, 0, none⟩) 1 1, .slice ta 0 tc], w, by go_simp, ?_⟩⟩
    refine (within_any (some ⟨bd, 0, none⟩) 1 1 [((r, i), 0)] ta 0 tc [] w hr rfl (HT.out.below (undrewB hbel)) rfl (by omega)).mono ?_
    rintro e w1 ⟨rfl, hb⟩
    exact ⟨_, rfl, by rw [within_zero], hb⟩
   ·intro ev w hc hf hg hfix hdep hbel
    have e21 : ev (.tmp 21) = _ := hdep 6 (by decide)
    have e27 : ev (.tmp 27) = _ := hdep 12 (by decide)
    exact okb trivial rfl (by go_simp)
   ·intro ev w hc hf hg hfix hdep hbel
    have e28 : ev (.tmp 28) = _ := hdep 13 (by decide)
    exact okb trivial rfl (by go_simp)
   ·intro ev w hc hf hg hfix hdep hbel
    have fg : ev (.tmp 29) = _ := hdep 14 (by decide)
    have e0 : ev (.tmp 0) = _ := hfix 0 (by decide)
    exact okb fg rfl (by go_simp)
   ·intro ev w hc hf hg hfix hdep hbel
    have fg : ev (.tmp 29) = _ := hdep 14 (by decide)
    have e3 : ev (.tmp 3) = _ := hfix 3 (by decide)
    have hk := HBk.out w (HX1.out.trans ((undrewB hbel).mono HX1.out.size))
    have hc0 := hk.cell 0; have hc1 := hk.cell 1; have hc2 := hk.cell 2; have hc3 := hk.cell 3; have hc4 := hk.cell 4; have hc5 := hk.cell 5; have hc6 := hk.cell 6; have hc7 := hk.cell 7; have hc8 := hk.cell 8; have hc9 := hk.cell 9; have hc10 := hk.cell 10
    simp only [List.getElem?_cons_succ, List.getElem?_cons_zero] at hc0 hc1 hc2 hc3 hc4 hc5 hc6 hc7 hc8 hc9 hc10
    exact okb fg rfl (by go_simp)
   ·intro ev w hc hf hg hfix hdep hbel
    have fg : ev (.tmp 29) = _ := hdep 14 (by decide)
    have e30 : ev (.tmp 30) = _ := hdep 15 (by decide)
    have e31 : ev (.tmp 31) = _ := hdep 16 (by decide)
    refine Or.inl ⟨fg, Or.inr ⟨67, #[.pointer (some ⟨gb, 0, none⟩), .agg #[.int .u8 (r : Int), .int .u32 (i : Int), .int .u64 1, .slice none 0 0, .slice va 1 vc, .int .u64 (tm : Int), .int .u8 (k : Int), .slice pa pl pc, .int .i64 n, .string t, .slice da dl dc]], w, by go_simp, ?_⟩⟩
    refine (mayStand_none _ r i 1 none 0 va 1 vc tm k pa pl pc n t da dl dc w).mono ?_
    rintro e w1 ⟨rfl, hb⟩
    exact ⟨_, rfl, rfl, hb⟩
   ·intro ev w hc hf hg hfix hdep hbel
    have e29 : ev (.tmp 29) = _ := hdep 14 (by decide)
    have e32 : ev (.tmp 32) = _ := hdep 17 (by decide)
    exact okb trivial rfl (by go_simp)
   ·intro ev w hc hf hg hfix hdep hbel
    have e33 : ev (.tmp 33) = _ := hdep 18 (by decide)
    exact okb trivial rfl (by go_simp)
  ·intro v w2 hv hb2
   have r0 : v 0 = _ := hv 0 (by decide)
   have r1 : v 1 = _ := hv 1 (by decide)
   have r2 := hv 2 (by decide)
   have r3 : v 3 = _ := hv 3 (by decide)
   have r4 : v 4 = _ := hv 4 (by decide)
   have r5 : v 5 = _ := hv 5 (by decide)
   have r6 : v 6 = _ := hv 6 (by decide)
   have r7 : v 7 = _ := hv 7 (by decide)
   have r8 : v 8 = _ := hv 8 (by decide)
   have r9 : v 9 = _ := hv 9 (by decide)
   have r10 := hv 10 (by decide)
   have r11 : v 11 = _ := hv 11 (by decide)
   have r12 : v 12 = _ := hv 12 (by decide)
   have r13 : v 13 = _ := hv 13 (by decide)
   have r14 : v 14 = _ := hv 14 (by decide)
   have r15 : v 15 = _ := hv 15 (by decide)
   have r16 : v 16 = _ := hv 16 (by decide)
   have r17 : v 17 = _ := hv 17 (by decide)
   have r18 : v 18 = _ := hv 18 (by decide)
   have r19 : v 19 = _ := hv 19 (by decide)
   simp only [Reg.putAll, Act.put, List.setIfInBounds_toArray, List.set_cons_zero, List.set_cons_succ, r0, r1, r3, r4, r5, r6, r7, r8, r9, r11, r12, r13, r14, r15, r16, r17, r18, r19]
   clear r0 r1 r3 r4 r5 r6 r7 r8 r9 r11 r12 r13 r14 r15 r16 r17 r18 r19 hv
   have HB := Lib.hid (HBox.out.trans ((HX1.out.trans (hb2.mono HX1.out.size)).mono HBox.out.size)); clear hb2 r2 r10
   go_wp2_with fail
   go_ret
   exact ⟨rfl, HB.out⟩
end Go.Proofs.YtiiidmphmojlgaaGreat
