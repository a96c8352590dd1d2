import Derived.Test.YtiiidmphmojlgaaGreatZGr18
namespace Go.Proofs.YtiiidmphmojlgaaGreat
open Go.RowKit Go.Buf Go.LB Go.Lib
set_option linter.unusedSimpArgs false
set_option linter.unusedVariables false
theorem within_one (d : Dt.Dot) : Dt.within [d] [d] = true := by
 unfold Dt.within
 simp only [List.all_cons, List.all_nil, Bool.and_true, Bool.or_eq_true, Bool.not_eq_true', decide_eq_true_eq]
 cases hm : Dt.may d
 ·exact Or.inl rfl
 ·right; simp [Dt.get, Dt.getStep, hm]
set_option maxRecDepth 100000 in
set_option maxHeartbeats 6400000 in
theorem isGap_lacks (gb b : Nat) (r i : Nat) (qa : Option Addr) (qc : Nat) (va : Option Addr) (vl vc : Nat) (tm k : Nat) (pa : Option Addr) (pl pc : Nat) (n : Int) (t : ByteArray) (da : Option Addr) (dl dc : Nat) (W : World) (hG : Blk W gb 42 [.int .u64 0, .slice none 0 0, .slice none 0 0, .int .u64 0, .slice none 0 0, .map (some b)]) (cs : List Cm.C) (d : Dt.Dot) (hq : VRow W qa qc [d]) (hno : gin cs d = false) (hM : CMap W (some b) cs) :
  Calls Tryz.prog 40 #[.pointer (some ⟨gb, 0, none⟩), cmV r i 1 qa 1 qc va vl vc tm k pa pl pc n t da dl dc] W fun e w' => e = .returned (.bool true) ∧ Below W.heap.size W w' := by
 have HG := Lib.hid hG; have HQ := Lib.hid hq; have HNo := Lib.hid hno; have HM := Lib.hid hM
 have HBox := Lib.hid (show Below W.heap.size W ((W.alloc (.cells #[.pointer (some ⟨gb, 0, none⟩)] 43)).alloc (.cells #[.int .u8 (r : Int), .int .u32 (i : Int), .int .u64 1, .slice qa 1 qc, .slice va vl vc, .int .u64 (tm : Int), .int .u8 (k : Int), .slice pa pl pc, .int .i64 n, .string t, .slice da dl dc] 34)) from ((Below.refl _ _).alloc (Nat.le_refl _) _).alloc (by simp) _)
 have HPk := Lib.hid (show ∀ w, Below ((W.alloc (.cells #[.pointer (some ⟨gb, 0, none⟩)] 43)).alloc (.cells #[.int .u8 (r : Int), .int .u32 (i : Int), .int .u64 1, .slice qa 1 qc, .slice va vl vc, .int .u64 (tm : Int), .int .u8 (k : Int), .slice pa pl pc, .int .i64 n, .string t, .slice da dl dc] 34)).heap.size ((W.alloc (.cells #[.pointer (some ⟨gb, 0, none⟩)] 43)).alloc (.cells #[.int .u8 (r : Int), .int .u32 (i : Int), .int .u64 1, .slice qa 1 qc, .slice va vl vc, .int .u64 (tm : Int), .int .u8 (k : Int), .slice pa pl pc, .int .i64 n, .string t, .slice da dl dc] 34)) w → Blk w W.heap.size 43 [.pointer (some ⟨gb, 0, none⟩)] from fun w h => ((Blk.new W #[.pointer (some ⟨gb, 0, none⟩)] 43).below ((Below.refl _ _).alloc (Nat.le_refl _) _)).below h)
 have HBk := Lib.hid (show ∀ w, Below ((W.alloc (.cells #[.pointer (some ⟨gb, 0, none⟩)] 43)).alloc (.cells #[.int .u8 (r : Int), .int .u32 (i : Int), .int .u64 1, .slice qa 1 qc, .slice va vl vc, .int .u64 (tm : Int), .int .u8 (k : Int), .slice pa pl pc, .int .i64 n, .string t, .slice da dl dc] 34)).heap.size ((W.alloc (.cells #[.pointer (some ⟨gb, 0, none⟩)] 43)).alloc (.cells #[.int .u8 (r : Int), .int .u32 (i : Int), .int .u64 1, .slice qa 1 qc, .slice va vl vc, .int .u64 (tm : Int), .int .u8 (k : Int), .slice pa pl pc, .int .i64 n, .string t, .slice da dl dc] 34)) w → Blk w (W.heap.size + 1) 34 [.int .u8 (r : Int), .int .u32 (i : Int), .int .u64 1, .slice qa 1 qc, .slice va vl vc, .int .u64 (tm : Int), .int .u8 (k : Int), .slice pa pl pc, .int .i64 n, .string t, .slice da dl dc] from fun w h => by
  have h1 := Blk.new (W.alloc (.cells #[.pointer (some ⟨gb, 0, none⟩)] 43)) #[.int .u8 (r : Int), .int .u32 (i : Int), .int .u64 1, .slice qa 1 qc, .slice va vl vc, .int .u64 (tm : Int), .int .u8 (k : Int), .slice pa pl pc, .int .i64 n, .string t, .slice da dl dc] 34
  rw [World.size_alloc] at h1
  exact h1.below h)
 clear hG hq hno hM
 go_enter Tryz.func40, Tryz.ntmps40
 go_wp2_with fail
 refine Reg.region_list (by kernel_rfl) [fun v _ => v = .pointer (some ⟨W.heap.size + 1, 0, none⟩), fun v _ => v = .pointer (some ⟨W.heap.size + 1, 2, none⟩), fun v _ => v = .int .u64 1, fun v _ => v = .bool false, fun v _ => v = .bool false, fun v _ => v = undef, fun v _ => v = undef, fun v _ => v = undef, fun v _ => v = undef, fun v _ => v = undef, fun v _ => v = undef, fun v _ => v = .bool false] (by kernel_rfl) ?_ ?_ ?_
 ·refine ⟨k4, k4, k4, k4, k4, k4, k4, k4, k4, k4, k4, k4, trivial⟩
 ·refine ⟨?_, ?_, ?_, ?_, ?_, ?_, ?_, ?_, ?_, ?_, ?_, ?_, trivial⟩
  ·intro ev w hc hf hg hfix hdep hbel
   have e3 : ev (.tmp 3) = _ := hfix 3 (by decide)
   exact okb trivial rfl (by go_simp)
  ·intro ev w hc hf hg hfix hdep hbel
   have e6 : ev (.tmp 6) = _ := hdep 0 (by decide)
   exact okb trivial rfl (by go_simp)
  ·intro ev w hc hf hg hfix hdep hbel
   have e7 : ev (.tmp 7) = _ := hdep 1 (by decide)
   have hk := HBk.out w (undrewB hbel)
   have hc0 := hk.cell 0; have hc1 := hk.cell 1; have hc2 := hk.cell 2; have hc3 := hk.cell 3; have hc4 := hk.cell 4; have hc5 := hk.cell 5; have hc6 := hk.cell 6; have hc7 := hk.cell 7; have hc8 := hk.cell 8; have hc9 := hk.cell 9; have hc10 := hk.cell 10
   simp only [List.getElem?_cons_succ, List.getElem?_cons_zero] at hc0 hc1 hc2 hc3 hc4 hc5 hc6 hc7 hc8 hc9 hc10
   exact okb trivial rfl (by go_simp)
  ·intro ev w hc hf hg hfix hdep hbel
   have e8 : ev (.tmp 8) = _ := hdep 2 (by decide)
   exact okb trivial rfl (by go_simp)
  ·intro ev w hc hf hg hfix hdep hbel
   have e9 : ev (.tmp 9) = _ := hdep 3 (by decide)
   exact okb trivial rfl (by go_simp)
  ·intro ev w hc hf hg hfix hdep hbel
   have fg : ev (.tmp 10) = _ := hdep 4 (by decide)
   exact Or.inr ⟨Or.inl fg, rfl⟩
  ·intro ev w hc hf hg hfix hdep hbel
   have fg : ev (.tmp 10) = _ := hdep 4 (by decide)
   exact Or.inr ⟨Or.inl fg, rfl⟩
  ·intro ev w hc hf hg hfix hdep hbel
   have fg : ev (.tmp 10) = _ := hdep 4 (by decide)
   exact Or.inr ⟨Or.inl fg, rfl⟩
  ·intro ev w hc hf hg hfix hdep hbel
   have fg : ev (.tmp 10) = _ := hdep 4 (by decide)
   exact Or.inr ⟨Or.inl fg, rfl⟩
  ·intro ev w hc hf hg hfix hdep hbel
   have fg : ev (.tmp 10) = _ := hdep 4 (by decide)
   exact Or.inr ⟨Or.inl fg, rfl⟩
  ·intro ev w hc hf hg hfix hdep hbel
   have fg : ev (.tmp 10) = _ := hdep 4 (by decide)
   exact Or.inr ⟨Or.inl fg, rfl⟩
  ·intro ev w hc hf hg hfix hdep hbel
   have e10 : ev (.tmp 10) = _ := hdep 4 (by decide)
   have e16 : ev (.tmp 16) = _ := hdep 10 (by decide)
   exact okb trivial rfl (by go_simp)
 ·intro v w2 hv hb2
  have r0 : v 0 = _ := hv 0 (by decide)
  have r1 : v 1 = _ := hv 1 (by decide)
  have r2 : v 2 = _ := hv 2 (by decide)
  have r3 : v 3 = _ := hv 3 (by decide)
  have r4 : v 4 = _ := hv 4 (by decide)
  have r5 : v 5 = _ := hv 5 (by decide)
  have r6 : v 6 = _ := hv 6 (by decide)
  have r7 : v 7 = _ := hv 7 (by decide)
  have r8 : v 8 = _ := hv 8 (by decide)
  have r9 : v 9 = _ := hv 9 (by decide)
  have r10 : v 10 = _ := hv 10 (by decide)
  have r11 : v 11 = _ := hv 11 (by decide)
  simp only [Reg.putAll, Act.put, List.setIfInBounds_toArray, List.set_cons_zero, List.set_cons_succ, r0, r1, r2, r3, r4, r5, r6, r7, r8, r9, r10, r11]
  clear r0 r1 r2 r3 r4 r5 r6 r7 r8 r9 r10 r11 hv
  have HX2 := Lib.hid hb2; clear hb2
  go_wp2_with fail
  refine Reg.region_list (by kernel_rfl) [fun v _ => v = .pointer (some ⟨W.heap.size + 1, 3, none⟩), fun v _ => v = .slice qa 1 qc, fun v _ => v = .func (.func 62) #[] #[.pointer (some ⟨W.heap.size, 0, none⟩)], fun v _ => v = .bool true, fun v _ => v = .bool true, fun v _ => v = undef, fun v _ => v = undef, fun v _ => v = undef, fun v _ => v = undef, fun v _ => v = undef, fun v _ => v = undef, fun v _ => v = undef, fun v _ => v = .bool true, fun v _ => v = .bool true] (by kernel_rfl) ?_ ?_ ?_
  ·refine ⟨k4, k4, k4, k4, k4, k4, k4, k4, k4, k4, k4, k4, k4, k4, trivial⟩
  ·refine ⟨?_, ?_, ?_, ?_, ?_, ?_, ?_, ?_, ?_, ?_, ?_, ?_, ?_, ?_, trivial⟩
   ·intro ev w hc hf hg hfix hdep hbel
    have e3 : ev (.tmp 3) = _ := hfix 3 (by decide)
    exact okb trivial rfl (by go_simp)
   ·intro ev w hc hf hg hfix hdep hbel
    have e19 : ev (.tmp 19) = _ := hdep 0 (by decide)
    have hk := HBk.out w (HX2.out.trans ((undrewB hbel).mono HX2.out.size))
    have hc0 := hk.cell 0; have hc1 := hk.cell 1; have hc2 := hk.cell 2; have hc3 := hk.cell 3; have hc4 := hk.cell 4; have hc5 := hk.cell 5; have hc6 := hk.cell 6; have hc7 := hk.cell 7; have hc8 := hk.cell 8; have hc9 := hk.cell 9; have hc10 := hk.cell 10
    simp only [List.getElem?_cons_succ, List.getElem?_cons_zero] at hc0 hc1 hc2 hc3 hc4 hc5 hc6 hc7 hc8 hc9 hc10
    exact okb trivial rfl (by go_simp)
   ·intro ev w hc hf hg hfix hdep hbel
    have e5 : ev (.tmp 5) = _ := hfix 5 (by decide)
    exact okb trivial rfl (by go_simp)
   ·intro ev w hc hf hg hfix hdep hbel
    have e20 : ev (.tmp 20) = _ := hdep 1 (by decide)
    have e21 : ev (.tmp 21) = _ := hdep 2 (by decide)
    refine Or.inl ⟨trivial, Or.inr ⟨63, #[.slice qa 1 qc, .func (.func 62) #[] #[.pointer (some ⟨W.heap.size, 0, none⟩)]], w, by go_simp, ?_⟩⟩
    have hw := (HBox.out.trans ((HX2.out.trans ((undrewB hbel).mono HX2.out.size)).mono HBox.out.size))
    refine (containsD_any qa 1 qc 62 #[.pointer (some ⟨W.heap.size, 0, none⟩)] (fun x => !gin cs x) [d] w (HQ.out.below hw) rfl (enters_of Tryz.func62 (by kernel_rfl) (by kernel_rfl)) (fun j x wx hx hbx => ?_)).mono ?_
    ·obtain ⟨⟨x1, x2⟩, x3⟩ := x
     exact lacks_any W.heap.size (some ⟨gb, 0, none⟩) (some b) x1 x2 x3 cs wx ((HPk.out w (HX2.out.trans ((undrewB hbel).mono HX2.out.size))).below hbx) (GAt.below (Or.inr ⟨gb, rfl, (HG.out.below (HBox.out.trans ((HX2.out.trans ((undrewB hbel).mono HX2.out.size)).mono HBox.out.size)))⟩) hbx) ((HM.out.below hw).below hbx) (HQ.out.ok _ (List.mem_of_getElem? hx))
    rintro e w1 ⟨rfl, hb⟩
    have ha : List.any [d] (fun x => !gin cs x) = true := by simp [HNo.out]
    exact ⟨_, rfl, by rw [ha], hb⟩
   ·intro ev w hc hf hg hfix hdep hbel
    have e22 : ev (.tmp 22) = _ := hdep 3 (by decide)
    exact okb trivial rfl (by go_simp)
   ·intro ev w hc hf hg hfix hdep hbel
    have fg : ev (.tmp 23) = _ := hdep 4 (by decide)
    exact Or.inr ⟨Or.inl fg, rfl⟩
   ·intro ev w hc hf hg hfix hdep hbel
    have fg : ev (.tmp 23) = _ := hdep 4 (by decide)
    exact Or.inr ⟨Or.inl fg, rfl⟩
   ·intro ev w hc hf hg hfix hdep hbel
    have fg : ev (.tmp 23) = _ := hdep 4 (by decide)
    exact Or.inr ⟨Or.inl fg, rfl⟩
   ·intro ev w hc hf hg hfix hdep hbel
    have fg : ev (.tmp 23) = _ := hdep 4 (by decide)
    exact Or.inr ⟨Or.inl fg, rfl⟩
   ·intro ev w hc hf hg hfix hdep hbel
    have fg : ev (.tmp 23) = _ := hdep 4 (by decide)
    exact Or.inr ⟨Or.inl fg, rfl⟩
   ·intro ev w hc hf hg hfix hdep hbel
    have fg : ev (.tmp 23) = _ := hdep 4 (by decide)
    exact Or.inr ⟨Or.inl fg, rfl⟩
   ·intro ev w hc hf hg hfix hdep hbel
    have fg : ev (.tmp 23) = _ := hdep 4 (by decide)
    exact Or.inr ⟨Or.inl fg, rfl⟩
   ·intro ev w hc hf hg hfix hdep hbel
    have e23 : ev (.tmp 23) = _ := hdep 4 (by decide)
    have e30 : ev (.tmp 30) = _ := hdep 11 (by decide)
    exact okb trivial rfl (by go_simp)
   ·intro ev w hc hf hg hfix hdep hbel
    have e31 : ev (.tmp 31) = _ := hdep 12 (by decide)
    exact okb trivial rfl (by go_simp)
  ·intro v w2 hv hb2
   have r0 : v 0 = _ := hv 0 (by decide)
   have r1 : v 1 = _ := hv 1 (by decide)
   have r2 : v 2 = _ := hv 2 (by decide)
   have r3 : v 3 = _ := hv 3 (by decide)
   have r4 : v 4 = _ := hv 4 (by decide)
   have r5 : v 5 = _ := hv 5 (by decide)
   have r6 : v 6 = _ := hv 6 (by decide)
   have r7 : v 7 = _ := hv 7 (by decide)
   have r8 : v 8 = _ := hv 8 (by decide)
   have r9 : v 9 = _ := hv 9 (by decide)
   have r10 : v 10 = _ := hv 10 (by decide)
   have r11 : v 11 = _ := hv 11 (by decide)
   have r12 : v 12 = _ := hv 12 (by decide)
   have r13 : v 13 = _ := hv 13 (by decide)
   simp only [Reg.putAll, Act.put, List.setIfInBounds_toArray, List.set_cons_zero, List.set_cons_succ, r0, r1, r2, r3, r4, r5, r6, r7, r8, r9, r10, r11, r12, r13]
   clear r0 r1 r2 r3 r4 r5 r6 r7 r8 r9 r10 r11 r12 r13 hv
   have HB := Lib.hid (HBox.out.trans ((HX2.out.trans (hb2.mono HX2.out.size)).mono HBox.out.size)); clear hb2
   go_wp2_with fail
   go_ret
   exact ⟨rfl, HB.out⟩
set_option maxRecDepth 100000 in
set_option maxHeartbeats 6400000 in
theorem isGap_own (gb b : Nat) (r i : Nat) (va : Option Addr) (vc : Nat) (tm k : Nat) (pa : Option Addr) (pl pc : Nat) (n : Int) (t : ByteArray) (da : Option Addr) (dl dc : Nat) (W : World) (hG : Blk W gb 42 [.int .u64 0, .slice none 0 0, .slice none 0 0, .int .u64 0, .slice none 0 0, .map (some b)]) (hv : VRow W va vc [((r, i), 1)]) :
  Calls Tryz.prog 40 #[.pointer (some ⟨gb, 0, none⟩), cmV r i 1 none 0 0 va 1 vc tm k pa pl pc n t da dl dc] W fun e w' => e = .returned (.bool false) ∧ Below W.heap.size W w' := by
 have HG := Lib.hid hG; have HV := Lib.hid hv
 have HBox := Lib.hid (show Below W.heap.size W ((W.alloc (.cells #[.pointer (some ⟨gb, 0, none⟩)] 43)).alloc (.cells #[.int .u8 (r : Int), .int .u32 (i : Int), .int .u64 1, .slice none 0 0, .slice va 1 vc, .int .u64 (tm : Int), .int .u8 (k : Int), .slice pa pl pc, .int .i64 n, .string t, .slice da dl dc] 34)) from ((Below.refl _ _).alloc (Nat.le_refl _) _).alloc (by simp) _)
 have HPk := Lib.hid (show ∀ w, Below ((W.alloc (.cells #[.pointer (some ⟨gb, 0, none⟩)] 43)).alloc (.cells #[.int .u8 (r : Int), .int .u32 (i : Int), .int .u64 1, .slice none 0 0, .slice va 1 vc, .int .u64 (tm : Int), .int .u8 (k : Int), .slice pa pl pc, .int .i64 n, .string t, .slice da dl dc] 34)).heap.size ((W.alloc (.cells #[.pointer (some ⟨gb, 0, none⟩)] 43)).alloc (.cells #[.int .u8 (r : Int), .int .u32 (i : Int), .int .u64 1, .slice none 0 0, .slice va 1 vc, .int .u64 (tm : Int), .int .u8 (k : Int), .slice pa pl pc, .int .i64 n, .string t, .slice da dl dc] 34)) w → Blk w W.heap.size 43 [.pointer (some ⟨gb, 0, none⟩)] from fun w h => ((Blk.new W #[.pointer (some ⟨gb, 0, none⟩)] 43).below ((Below.refl _ _).alloc (Nat.le_refl _) _)).below h)
 have HBk := Lib.hid (show ∀ w, Below ((W.alloc (.cells #[.pointer (some ⟨gb, 0, none⟩)] 43)).alloc (.cells #[.int .u8 (r : Int), .int .u32 (i : Int), .int .u64 1, .slice none 0 0, .slice va 1 vc, .int .u64 (tm : Int), .int .u8 (k : Int), .slice pa pl pc, .int .i64 n, .string t, .slice da dl dc] 34)).heap.size ((W.alloc (.cells #[.pointer (some ⟨gb, 0, none⟩)] 43)).alloc (.cells #[.int .u8 (r : Int), .int .u32 (i : Int), .int .u64 1, .slice none 0 0, .slice va 1 vc, .int .u64 (tm : Int), .int .u8 (k : Int), .slice pa pl pc, .int .i64 n, .string t, .slice da dl dc] 34)) w → Blk w (W.heap.size + 1) 34 [.int .u8 (r : Int), .int .u32 (i : Int), .int .u64 1, .slice none 0 0, .slice va 1 vc, .int .u64 (tm : Int), .int .u8 (k : Int), .slice pa pl pc, .int .i64 n, .string t, .slice da dl dc] from fun w h => by
  have h1 := Blk.new (W.alloc (.cells #[.pointer (some ⟨gb, 0, none⟩)] 43)) #[.int .u8 (r : Int), .int .u32 (i : Int), .int .u64 1, .slice none 0 0, .slice va 1 vc, .int .u64 (tm : Int), .int .u8 (k : Int), .slice pa pl pc, .int .i64 n, .string t, .slice da dl dc] 34
  rw [World.size_alloc] at h1
  exact h1.below h)
 clear hG hv
 go_enter Tryz.func40, Tryz.ntmps40
 go_wp2_with fail
 refine Reg.region_list (by kernel_rfl) [fun v _ => v = .pointer (some ⟨W.heap.size + 1, 0, none⟩), fun v _ => v = .pointer (some ⟨W.heap.size + 1, 2, none⟩), fun v _ => v = .int .u64 1, fun v _ => v = .bool false, fun v _ => v = .bool false, fun v _ => v = undef, fun v _ => v = undef, fun v _ => v = undef, fun v _ => v = undef, fun v _ => v = undef, fun v _ => v = undef, fun v _ => v = .bool false] (by kernel_rfl) ?_ ?_ ?_
 ·refine ⟨k4, k4, k4, k4, k4, k4, k4, k4, k4, k4, k4, k4, trivial⟩
 ·refine ⟨?_, ?_, ?_, ?_, ?_, ?_, ?_, ?_, ?_, ?_, ?_, ?_, trivial⟩
  ·intro ev w hc hf hg hfix hdep hbel
   have e3 : ev (.tmp 3) = _ := hfix 3 (by decide)
   exact okb trivial rfl (by go_simp)
  ·intro ev w hc hf hg hfix hdep hbel
   have e6 : ev (.tmp 6) = _ := hdep 0 (by decide)
   exact okb trivial rfl (by go_simp)
  ·intro ev w hc hf hg hfix hdep hbel
   have e7 : ev (.tmp 7) = _ := hdep 1 (by decide)
   have hk := HBk.out w (undrewB hbel)
   have hc0 := hk.cell 0; have hc1 := hk.cell 1; have hc2 := hk.cell 2; have hc3 := hk.cell 3; have hc4 := hk.cell 4; have hc5 := hk.cell 5; have hc6 := hk.cell 6; have hc7 := hk.cell 7; have hc8 := hk.cell 8; have hc9 := hk.cell 9; have hc10 := hk.cell 10
   simp only [List.getElem?_cons_succ, List.getElem?_cons_zero] at hc0 hc1 hc2 hc3 hc4 hc5 hc6 hc7 hc8 hc9 hc10
   exact okb trivial rfl (by go_simp)
  ·intro ev w hc hf hg hfix hdep hbel
   have e8 : ev (.tmp 8) = _ := hdep 2 (by decide)
   exact okb trivial rfl (by go_simp)
  ·intro ev w hc hf hg hfix hdep hbel
   have e9 : ev (.tmp 9) = _ := hdep 3 (by decide)
   exact okb trivial rfl (by go_simp)
  ·intro ev w hc hf hg hfix hdep hbel
   have fg : ev (.tmp 10) = _ := hdep 4 (by decide)
   exact Or.inr ⟨Or.inl fg, rfl⟩
  ·intro ev w hc hf hg hfix hdep hbel
   have fg : ev (.tmp 10) = _ := hdep 4 (by decide)
   exact Or.inr ⟨Or.inl fg, rfl⟩
  ·intro ev w hc hf hg hfix hdep hbel
   have fg : ev (.tmp 10) = _ := hdep 4 (by decide)
   exact Or.inr ⟨Or.inl fg, rfl⟩
  ·intro ev w hc hf hg hfix hdep hbel
   have fg : ev (.tmp 10) = _ := hdep 4 (by decide)
   exact Or.inr ⟨Or.inl fg, rfl⟩
  ·intro ev w hc hf hg hfix hdep hbel
   have fg : ev (.tmp 10) = _ := hdep 4 (by decide)
   exact Or.inr ⟨Or.inl fg, rfl⟩
  ·intro ev w hc hf hg hfix hdep hbel
   have fg : ev (.tmp 10) = _ := hdep 4 (by decide)
   exact Or.inr ⟨Or.inl fg, rfl⟩
  ·intro ev w hc hf hg hfix hdep hbel
   have e10 : ev (.tmp 10) = _ := hdep 4 (by decide)
   have e16 : ev (.tmp 16) = _ := hdep 10 (by decide)
   exact okb trivial rfl (by go_simp)
 ·intro v w2 hv hb2
  have r0 : v 0 = _ := hv 0 (by decide)
  have r1 : v 1 = _ := hv 1 (by decide)
  have r2 : v 2 = _ := hv 2 (by decide)
  have r3 : v 3 = _ := hv 3 (by decide)
  have r4 : v 4 = _ := hv 4 (by decide)
  have r5 : v 5 = _ := hv 5 (by decide)
  have r6 : v 6 = _ := hv 6 (by decide)
  have r7 : v 7 = _ := hv 7 (by decide)
  have r8 : v 8 = _ := hv 8 (by decide)
  have r9 : v 9 = _ := hv 9 (by decide)
  have r10 : v 10 = _ := hv 10 (by decide)
  have r11 : v 11 = _ := hv 11 (by decide)
  simp only [Reg.putAll, Act.put, List.setIfInBounds_toArray, List.set_cons_zero, List.set_cons_succ, r0, r1, r2, r3, r4, r5, r6, r7, r8, r9, r10, r11]
  clear r0 r1 r2 r3 r4 r5 r6 r7 r8 r9 r10 r11 hv
  have HX2 := Lib.hid hb2; clear hb2
  go_wp2_with fail
  refine Reg.region_list (by kernel_rfl) [fun v _ => v = .pointer (some ⟨W.heap.size + 1, 3, none⟩), fun v _ => v = .slice none 0 0, fun v _ => v = .func (.func 62) #[] #[.pointer (some ⟨W.heap.size, 0, none⟩)], fun v _ => v = .bool false, fun v _ => v = .bool false, fun v _ => v = .pointer (some ⟨W.heap.size + 1, 4, none⟩), fun v _ => v = .slice va 1 vc, fun v _ => v = .pointer (some ⟨gb, 0, none⟩), fun v _ => v = .agg #[.int .u8 (r : Int), .int .u32 (i : Int), .int .u64 1, .slice none 0 0, .slice va 1 vc, .int .u64 (tm : Int), .int .u8 (k : Int), .slice pa pl pc, .int .i64 n, .string t, .slice da dl dc], fun v w => ∃ a c, v = .slice a 1 c ∧ VRow w a c [((r, i), 1)], fun v _ => v = .bool true, fun v _ => v = .bool false, fun v _ => v = .bool false, fun v _ => v = .bool false] (by kernel_rfl) ?_ ?_ ?_
  ·refine ⟨k4, k4, k4, k4, k4, k4, k4, k4, k4, (fun v wa wb hb h => by obtain ⟨a, c, h1, h2⟩ := h; exact ⟨a, c, h1, h2.below hb⟩), k4, k4, k4, k4, trivial⟩
  ·refine ⟨?_, ?_, ?_, ?_, ?_, ?_, ?_, ?_, ?_, ?_, ?_, ?_, ?_, ?_, trivial⟩
   ·intro ev w hc hf hg hfix hdep hbel
    have e3 : ev (.tmp 3) = _ := hfix 3 (by decide)
    exact okb trivial rfl (by go_simp)
   ·intro ev w hc hf hg hfix hdep hbel
    have e19 : ev (.tmp 19) = _ := hdep 0 (by decide)
    have hk := HBk.out w (HX2.out.trans ((undrewB hbel).mono HX2.out.size))
    have hc0 := hk.cell 0; have hc1 := hk.cell 1; have hc2 := hk.cell 2; have hc3 := hk.cell 3; have hc4 := hk.cell 4; have hc5 := hk.cell 5; have hc6 := hk.cell 6; have hc7 := hk.cell 7; have hc8 := hk.cell 8; have hc9 := hk.cell 9; have hc10 := hk.cell 10
    simp only [List.getElem?_cons_succ, List.getElem?_cons_zero] at hc0 hc1 hc2 hc3 hc4 hc5 hc6 hc7 hc8 hc9 hc10
    exact okb trivial rfl (by go_simp)
   ·intro ev w hc hf hg hfix hdep hbel
    have e5 : ev (.tmp 5) = _ := hfix 5 (by decide)
    exact okb trivial rfl (by go_simp)
   ·intro ev w hc hf hg hfix hdep hbel
    have e20 : ev (.tmp 20) = _ := hdep 1 (by decide)
    have e21 : ev (.tmp 21) = _ := hdep 2 (by decide)
    refine Or.inl ⟨trivial, Or.inr ⟨63, #[.slice none 0 0, .func (.func 62) #[] #[.pointer (some ⟨W.heap.size, 0, none⟩)]], w, by go_simp, ?_⟩⟩
    refine (containsD_any none 0 0 62 #[.pointer (some ⟨W.heap.size, 0, none⟩)] (fun x => true) [] w (VRow.nil _) rfl (enters_of Tryz.func62 (by kernel_rfl) (by kernel_rfl)) (fun j x wx hx hbx => by simp at hx)).mono ?_
    rintro e w1 ⟨rfl, hb⟩
    exact ⟨_, rfl, rfl, hb⟩
   ·intro ev w hc hf hg hfix hdep hbel
    have e22 : ev (.tmp 22) = _ := hdep 3 (by decide)
    exact okb trivial rfl (by go_simp)
   ·intro ev w hc hf hg hfix hdep hbel
    have fg : ev (.tmp 23) = _ := hdep 4 (by decide)
    have e3 : ev (.tmp 3) = _ := hfix 3 (by decide)
    exact okb fg rfl (by go_simp)
   ·intro ev w hc hf hg hfix hdep hbel
    have fg : ev (.tmp 23) = _ := hdep 4 (by decide)
    have e24 : ev (.tmp 24) = _ := hdep 5 (by decide)
    have hk := HBk.out w (HX2.out.trans ((undrewB hbel).mono HX2.out.size))
    have hc0 := hk.cell 0; have hc1 := hk.cell 1; have hc2 := hk.cell 2; have hc3 := hk.cell 3; have hc4 := hk.cell 4; have hc5 := hk.cell 5; have hc6 := hk.cell 6; have hc7 := hk.cell 7; have hc8 := hk.cell 8; have hc9 := hk.cell 9; have hc10 := hk.cell 10
    simp only [List.getElem?_cons_succ, List.getElem?_cons_zero] at hc0 hc1 hc2 hc3 hc4 hc5 hc6 hc7 hc8 hc9 hc10
    exact okb fg rfl (by go_simp)
   ·intro ev w hc hf hg hfix hdep hbel
    have fg : ev (.tmp 23) = _ := hdep 4 (by decide)
    have e2 : ev (.tmp 2) = _ := hfix 2 (by decide)
    have hp0 := (HPk.out w (HX2.out.trans ((undrewB hbel).mono HX2.out.size))).cell 0
    simp only [List.getElem?_cons_zero] at hp0
    exact okb fg rfl (by go_simp)
   ·intro ev w hc hf hg hfix hdep hbel
    have fg : ev (.tmp 23) = _ := hdep 4 (by decide)
    have e3 : ev (.tmp 3) = _ := hfix 3 (by decide)
    have hk := HBk.out w (HX2.out.trans ((undrewB hbel).mono HX2.out.size))
    have hc0 := hk.cell 0; have hc1 := hk.cell 1; have hc2 := hk.cell 2; have hc3 := hk.cell 3; have hc4 := hk.cell 4; have hc5 := hk.cell 5; have hc6 := hk.cell 6; have hc7 := hk.cell 7; have hc8 := hk.cell 8; have hc9 := hk.cell 9; have hc10 := hk.cell 10
    simp only [List.getElem?_cons_succ, List.getElem?_cons_zero] at hc0 hc1 hc2 hc3 hc4 hc5 hc6 hc7 hc8 hc9 hc10
    exact okb fg rfl (by go_simp)
   ·intro ev w hc hf hg hfix hdep hbel
    have fg : ev (.tmp 23) = _ := hdep 4 (by decide)
    have e26 : ev (.tmp 26) = _ := hdep 7 (by decide)
    have e27 : ev (.tmp 27) = _ := hdep 8 (by decide)
    refine Or.inl ⟨fg, Or.inr ⟨65, #[.pointer (some ⟨gb, 0, none⟩), .agg #[.int .u8 (r : Int), .int .u32 (i : Int), .int .u64 1, .slice none 0 0, .slice va 1 vc, .int .u64 (tm : Int), .int .u8 (k : Int), .slice pa pl pc, .int .i64 n, .string t, .slice da dl dc]], w, by go_simp, ?_⟩⟩
    have hw := (HBox.out.trans ((HX2.out.trans ((undrewB hbel).mono HX2.out.size)).mono HBox.out.size))
    refine (mustKnow_own gb b r i 1 va vc tm k pa pl pc n t da dl dc w (HG.out.below (HBox.out.trans ((HX2.out.trans ((undrewB hbel).mono HX2.out.size)).mono HBox.out.size))) (HV.out.below hw)).mono ?_
    rintro e w1 ⟨⟨a, c, rfl, hr⟩, hb⟩
    exact ⟨_, rfl, ⟨a, c, rfl, hr⟩, hb⟩
   ·intro ev w hc hf hg hfix hdep hbel
    have fg : ev (.tmp 23) = _ := hdep 4 (by decide)
    have e25 : ev (.tmp 25) = _ := hdep 6 (by decide)
    have e28 := hdep 9 (by decide)
    have hw := (HBox.out.trans ((HX2.out.trans ((undrewB hbel).mono HX2.out.size)).mono HBox.out.size))
    obtain ⟨a, c, h28, hr⟩ := e28
    have e28 : ev (.tmp 28) = .slice a 1 c := h28
    refine Or.inl ⟨fg, Or.inr ⟨64, #[.slice va 1 vc, .slice a 1 c], w, by go_simp, ?_⟩⟩
    refine (within_any va 1 vc [((r, i), 1)] a 1 c [((r, i), 1)] w (HV.out.below hw) rfl hr rfl (by omega)).mono ?_
    rintro e w1 ⟨rfl, hb⟩
    exact ⟨_, rfl, by rw [within_one], hb⟩
   ·intro ev w hc hf hg hfix hdep hbel
    have fg : ev (.tmp 23) = _ := hdep 4 (by decide)
    have e29 : ev (.tmp 29) = _ := hdep 10 (by decide)
    exact okb fg rfl (by go_simp)
   ·intro ev w hc hf hg hfix hdep hbel
    have e23 : ev (.tmp 23) = _ := hdep 4 (by decide)
    have e30 : ev (.tmp 30) = _ := hdep 11 (by decide)
    exact okb trivial rfl (by go_simp)
   ·intro ev w hc hf hg hfix hdep hbel
    have e31 : ev (.tmp 31) = _ := hdep 12 (by decide)
    exact okb trivial rfl (by go_simp)
  ·intro v w2 hv hb2
   have r0 : v 0 = _ := hv 0 (by decide)
   have r1 : v 1 = _ := hv 1 (by decide)
   have r2 : v 2 = _ := hv 2 (by decide)
   have r3 : v 3 = _ := hv 3 (by decide)
   have r4 : v 4 = _ := hv 4 (by decide)
   have r5 : v 5 = _ := hv 5 (by decide)
   have r6 : v 6 = _ := hv 6 (by decide)
   have r7 : v 7 = _ := hv 7 (by decide)
   have r8 : v 8 = _ := hv 8 (by decide)
   have r9 := hv 9 (by decide)
   have r10 : v 10 = _ := hv 10 (by decide)
   have r11 : v 11 = _ := hv 11 (by decide)
   have r12 : v 12 = _ := hv 12 (by decide)
   have r13 : v 13 = _ := hv 13 (by decide)
   simp only [Reg.putAll, Act.put, List.setIfInBounds_toArray, List.set_cons_zero, List.set_cons_succ, r0, r1, r2, r3, r4, r5, r6, r7, r8, r10, r11, r12, r13]
   clear r0 r1 r2 r3 r4 r5 r6 r7 r8 r10 r11 r12 r13 hv
   have HB := Lib.hid (HBox.out.trans ((HX2.out.trans (hb2.mono HX2.out.size)).mono HBox.out.size)); clear hb2
   go_wp2_with fail
   go_ret
   exact ⟨rfl, HB.out⟩
end Go.Proofs.YtiiidmphmojlgaaGreat
