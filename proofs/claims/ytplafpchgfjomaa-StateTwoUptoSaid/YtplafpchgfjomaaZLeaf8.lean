import Derived.Test.YtplafpchgfjomaaZDot5
namespace Go.Proofs.Ytplafpchgfjomaa
open Go.RowKit Go.Buf Go.LB
set_option linter.unusedSimpArgs false
set_option linter.unusedVariables false
theorem undrew {B : Nat} {w w' : World} (h : Below B w.drew w') : Below B w w' := ⟨h.os, h.tape, h.output, h.size, h.block⟩
theorem new2_any (W : World) : Calls Try.prog 60 #[.int .u8 2] W fun e w' => e = .returned (.agg #[.int .u8 2, .int .i64 0, .int .u64 0, .int .u8 0, .int .u32 0, .int .u64 0, .string ⟨#[]⟩, .slice none 0 0, .slice none 0 0]) ∧ Below W.heap.size W w' := new_any 2 W
set_option maxRecDepth 100000 in
set_option maxHeartbeats 4000000 in
theorem mayReg_true (kk : Nat) (n : Int) (t r i s : Nat) (x : ByteArray) (ia : Option Addr) (il ic : Nat) (da : Option Addr) (dl dc : Nat) (li : List Lm.It) (ld : List Dt.Dot) (W : World) (hi : IRow W ia ic li) (hil : li.length = il) (hd : VRow W da dc ld) (hdl : ld.length = dl) (hx : x.size ≤ 9223372036854775807) (hs : Lm.same ⟨kk, n, t, ((r, i), s), x, li, ld⟩ ⟨2, 0, 0, ((0, 0), 0), ⟨#[]⟩, [], []⟩ = true) :
  Calls Try.prog 53 #[leafV kk n t r i s x ia il ic da dl dc] W fun e w' => e = .returned (.bool (Lm.mayReg ⟨kk, n, t, ((r, i), s), x, li, ld⟩)) ∧ Below W.heap.size W w' := by
 have HBox := Lib.hid (below_box W #[.int .u8 (kk : Int), .int .i64 n, .int .u64 (t : Int), .int .u8 (r : Int), .int .u32 (i : Int), .int .u64 (s : Int), .string x, .slice ia il ic, .slice da dl dc] 44)
 have HI := Lib.hid hi; have HIl := Lib.hid hil; have HD := Lib.hid hd; have HDl := Lib.hid hdl
 clear hi hil hd hdl
 have HS := Lib.hid hs; have HX := Lib.hid hx; clear hs hx
 go_enter Try.func53, Try.ntmps53
 go_wp2_with fail
 refine Reg.region_list (by kernel_rfl) [fun v _ => v = .agg #[.int .u8 (kk : Int), .int .i64 n, .int .u64 (t : Int), .int .u8 (r : Int), .int .u32 (i : Int), .int .u64 (s : Int), .string x, .slice ia il ic, .slice da dl dc], fun v _ => v = .agg #[.int .u8 2, .int .i64 0, .int .u64 0, .int .u8 0, .int .u32 0, .int .u64 0, .string ⟨#[]⟩, .slice none 0 0, .slice none 0 0], fun v _ => v = .bool true, fun v _ => v = .bool true, fun v _ => v = undef, fun v _ => v = undef, fun v _ => v = undef, fun v _ => v = undef, fun v _ => v = undef, fun v _ => v = undef, fun v _ => v = undef, fun v _ => v = undef, fun v _ => v = .bool true, fun v _ => v = .bool true] (by kernel_rfl) ?_ ?_ ?_
 ·refine ⟨k4, k4, k4, k4, k4, k4, k4, k4, k4, k4, k4, k4, k4, k4, trivial⟩
 ·refine ⟨?_, ?_, ?_, ?_, ?_, ?_, ?_, ?_, ?_, ?_, ?_, ?_, ?_, ?_, trivial⟩
  ·intro ev w hc hf hg hfix hdep hbel
   have e1 : ev (.tmp 1) = _ := hfix 1 (by decide)
   have hbd := undrew hbel
   obtain ⟨hc0, hc1, hc2, hc3, hc4, hc5, hc6, hc7, hc8⟩ := leafcells hbd
   exact okb trivial rfl (by go_simp)
  ·intro ev w hc hf hg hfix hdep hbel
   refine Or.inl ⟨trivial, Or.inr ⟨60, #[.int .u8 2], w, by go_simp, ?_⟩⟩
   refine (new2_any w).mono ?_
   rintro e w1 ⟨rfl, hb1⟩
   exact ⟨_, rfl, rfl, hb1⟩
  ·intro ev w hc hf hg hfix hdep hbel
   have e3 : ev (.tmp 3) = _ := hdep 0 (by decide)
   have e4 : ev (.tmp 4) = _ := hdep 1 (by decide)
   refine Or.inl ⟨trivial, Or.inr ⟨52, #[.agg #[.int .u8 (kk : Int), .int .i64 n, .int .u64 (t : Int), .int .u8 (r : Int), .int .u32 (i : Int), .int .u64 (s : Int), .string x, .slice ia il ic, .slice da dl dc], .agg #[.int .u8 2, .int .i64 0, .int .u64 0, .int .u8 0, .int .u32 0, .int .u64 0, .string ⟨#[]⟩, .slice none 0 0, .slice none 0 0]], w, by go_simp, ?_⟩⟩
   refine (same_any kk n t r i s x ia il ic da dl dc li ld 2 0 0 0 0 0 ⟨#[]⟩ none 0 0 none 0 0 [] [] w (HI.out.below (HBox.out.trans ((undrew hbel).mono HBox.out.size))) HIl.out (HD.out.below (HBox.out.trans ((undrew hbel).mono HBox.out.size))) HDl.out (IRow.nil _) rfl (VRow.nil _) rfl).mono ?_
   rintro e w1 ⟨rfl, hb1⟩
   rw [HS.out]
   exact ⟨_, rfl, rfl, hb1⟩
  ·intro ev w hc hf hg hfix hdep hbel
   have e5 : ev (.tmp 5) = _ := hdep 2 (by decide)
   exact okb trivial rfl (by go_simp)
  ·intro ev w hc hf hg hfix hdep hbel
   have fg : ev (.tmp 6) = _ := hdep 3 (by decide)
   exact Or.inr ⟨Or.inl fg, rfl⟩
  ·intro ev w hc hf hg hfix hdep hbel
   have fg : ev (.tmp 6) = _ := hdep 3 (by decide)
   exact Or.inr ⟨Or.inl fg, rfl⟩
  ·intro ev w hc hf hg hfix hdep hbel
   have fg : ev (.tmp 6) = _ := hdep 3 (by decide)
   exact Or.inr ⟨Or.inl fg, rfl⟩
  ·intro ev w hc hf hg hfix hdep hbel
   have fg : ev (.tmp 6) = _ := hdep 3 (by decide)
   exact Or.inr ⟨Or.inl fg, rfl⟩
  ·intro ev w hc hf hg hfix hdep hbel
   have fg : ev (.tmp 6) = _ := hdep 3 (by decide)
   exact Or.inr ⟨Or.inl fg, rfl⟩
  ·intro ev w hc hf hg hfix hdep hbel
   have fg : ev (.tmp 6) = _ := hdep 3 (by decide)
   exact Or.inr ⟨Or.inl fg, rfl⟩
  ·intro ev w hc hf hg hfix hdep hbel
   have fg : ev (.tmp 6) = _ := hdep 3 (by decide)
   exact Or.inr ⟨Or.inl fg, rfl⟩
  ·intro ev w hc hf hg hfix hdep hbel
   have fg : ev (.tmp 6) = _ := hdep 3 (by decide)
   exact Or.inr ⟨Or.inl fg, rfl⟩
  ·intro ev w hc hf hg hfix hdep hbel
   have e6 : ev (.tmp 6) = _ := hdep 3 (by decide)
   have e14 : ev (.tmp 14) = _ := hdep 11 (by decide)
   exact okb trivial rfl (by go_simp)
  ·intro ev w hc hf hg hfix hdep hbel
   have e15 : ev (.tmp 15) = _ := hdep 12 (by decide)
   exact okb trivial rfl (by go_simp)
 ·intro v w2 hv hb2
  have r0 : v 0 = _ := hv 0 (by decide)
  have r1 : v 1 = _ := hv 1 (by decide)
  have r2 : v 2 = _ := hv 2 (by decide)
  have r3 : v 3 = _ := hv 3 (by decide)
  have r4 : v 4 = _ := hv 4 (by decide)
  have r5 : v 5 = _ := hv 5 (by decide)
  have r6 : v 6 = _ := hv 6 (by decide)
  have r7 : v 7 = _ := hv 7 (by decide)
  have r8 : v 8 = _ := hv 8 (by decide)
  have r9 : v 9 = _ := hv 9 (by decide)
  have r10 : v 10 = _ := hv 10 (by decide)
  have r11 : v 11 = _ := hv 11 (by decide)
  have r12 : v 12 = _ := hv 12 (by decide)
  have r13 : v 13 = _ := hv 13 (by decide)
  simp only [Reg.putAll, Act.put, List.setIfInBounds_toArray, List.set_cons_zero, List.set_cons_succ, r0, r1, r2, r3, r4, r5, r6, r7, r8, r9, r10, r11, r12, r13]
  clear r0 r1 r2 r3 r4 r5 r6 r7 r8 r9 r10 r11 r12 r13 hv
  have HB := Lib.hid (HBox.out.trans (hb2.mono HBox.out.size)); clear hb2
  go_wp2_with fail
  go_ret
  have hs2 := HS.out
  exact ⟨ret_bool (by simp [Lm.mayReg, Lm.new, Lm.zeroL, hs2]), HB.out⟩
set_option maxRecDepth 100000 in
set_option maxHeartbeats 4000000 in
theorem mayReg_false (kk : Nat) (n : Int) (t r i s : Nat) (x : ByteArray) (ia : Option Addr) (il ic : Nat) (da : Option Addr) (dl dc : Nat) (li : List Lm.It) (ld : List Dt.Dot) (W : World) (hi : IRow W ia ic li) (hil : li.length = il) (hd : VRow W da dc ld) (hdl : ld.length = dl) (hx : x.size ≤ 9223372036854775807) (hs : Lm.same ⟨kk, n, t, ((r, i), s), x, li, ld⟩ ⟨2, 0, 0, ((0, 0), 0), ⟨#[]⟩, [], []⟩ = false) :
  Calls Try.prog 53 #[leafV kk n t r i s x ia il ic da dl dc] W fun e w' => e = .returned (.bool (Lm.mayReg ⟨kk, n, t, ((r, i), s), x, li, ld⟩)) ∧ Below W.heap.size W w' := by
 have HBox := Lib.hid (below_box W #[.int .u8 (kk : Int), .int .i64 n, .int .u64 (t : Int), .int .u8 (r : Int), .int .u32 (i : Int), .int .u64 (s : Int), .string x, .slice ia il ic, .slice da dl dc] 44)
 have HI := Lib.hid hi; have HIl := Lib.hid hil; have HD := Lib.hid hd; have HDl := Lib.hid hdl
 clear hi hil hd hdl
 have HS := Lib.hid hs; have HX := Lib.hid hx; clear hs hx
 go_enter Try.func53, Try.ntmps53
 go_wp2_with fail
 refine Reg.region_list (by kernel_rfl) [fun v _ => v = .agg #[.int .u8 (kk : Int), .int .i64 n, .int .u64 (t : Int), .int .u8 (r : Int), .int .u32 (i : Int), .int .u64 (s : Int), .string x, .slice ia il ic, .slice da dl dc], fun v _ => v = .agg #[.int .u8 2, .int .i64 0, .int .u64 0, .int .u8 0, .int .u32 0, .int .u64 0, .string ⟨#[]⟩, .slice none 0 0, .slice none 0 0], fun v _ => v = .bool false, fun v _ => v = .bool false, fun v _ => v = .pointer (some ⟨W.heap.size, 2, none⟩), fun v _ => v = .int .u64 (t : Int), fun v _ => v = .pointer (some ⟨W.heap.size, 3, none⟩), fun v _ => v = .agg #[.int .u8 (r : Int), .int .u32 (i : Int), .int .u64 (s : Int)], fun v _ => v = .pointer (some ⟨W.heap.size, 6, none⟩), fun v _ => v = .string x, fun v _ => v = .agg #[.int .u64 (t : Int), .int .u8 (r : Int), .int .u32 (i : Int), .int .u64 (s : Int), .string x], fun v _ => v = .bool (Lm.mayI 1 1099511627776 (t, ((r, i), s), x)), fun v _ => v = .bool (Lm.mayI 1 1099511627776 (t, ((r, i), s), x)), fun v _ => v = .bool (Lm.mayI 1 1099511627776 (t, ((r, i), s), x))] (by kernel_rfl) ?_ ?_ ?_
 ·refine ⟨k4, k4, k4, k4, k4, k4, k4, k4, k4, k4, k4, k4, k4, k4, trivial⟩
 ·refine ⟨?_, ?_, ?_, ?_, ?_, ?_, ?_, ?_, ?_, ?_, ?_, ?_, ?_, ?_, trivial⟩
  ·intro ev w hc hf hg hfix hdep hbel
   have e1 : ev (.tmp 1) = _ := hfix 1 (by decide)
   have hbd := undrew hbel
   obtain ⟨hc0, hc1, hc2, hc3, hc4, hc5, hc6, hc7, hc8⟩ := leafcells hbd
   exact okb trivial rfl (by go_simp)
  ·intro ev w hc hf hg hfix hdep hbel
   refine Or.inl ⟨trivial, Or.inr ⟨60, #[.int .u8 2], w, by go_simp, ?_⟩⟩
   refine (new2_any w).mono ?_
   rintro e w1 ⟨rfl, hb1⟩
   exact ⟨_, rfl, rfl, hb1⟩
  ·intro ev w hc hf hg hfix hdep hbel
   have e3 : ev (.tmp 3) = _ := hdep 0 (by decide)
   have e4 : ev (.tmp 4) = _ := hdep 1 (by decide)
   refine Or.inl ⟨trivial, Or.inr ⟨52, #[.agg #[.int .u8 (kk : Int), .int .i64 n, .int .u64 (t : Int), .int .u8 (r : Int), .int .u32 (i : Int), .int .u64 (s : Int), .string x, .slice ia il ic, .slice da dl dc], .agg #[.int .u8 2, .int .i64 0, .int .u64 0, .int .u8 0, .int .u32 0, .int .u64 0, .string ⟨#[]⟩, .slice none 0 0, .slice none 0 0]], w, by go_simp, ?_⟩⟩
   refine (same_any kk n t r i s x ia il ic da dl dc li ld 2 0 0 0 0 0 ⟨#[]⟩ none 0 0 none 0 0 [] [] w (HI.out.below (HBox.out.trans ((undrew hbel).mono HBox.out.size))) HIl.out (HD.out.below (HBox.out.trans ((undrew hbel).mono HBox.out.size))) HDl.out (IRow.nil _) rfl (VRow.nil _) rfl).mono ?_
   rintro e w1 ⟨rfl, hb1⟩
   rw [HS.out]
   exact ⟨_, rfl, rfl, hb1⟩
  ·intro ev w hc hf hg hfix hdep hbel
   have e5 : ev (.tmp 5) = _ := hdep 2 (by decide)
   exact okb trivial rfl (by go_simp)
  ·intro ev w hc hf hg hfix hdep hbel
   have fg : ev (.tmp 6) = _ := hdep 3 (by decide)
   have e1 : ev (.tmp 1) = _ := hfix 1 (by decide)
   exact okb fg rfl (by go_simp)
  ·intro ev w hc hf hg hfix hdep hbel
   have fg : ev (.tmp 6) = _ := hdep 3 (by decide)
   have e7 : ev (.tmp 7) = _ := hdep 4 (by decide)
   have hbd := undrew hbel
   obtain ⟨hc0, hc1, hc2, hc3, hc4, hc5, hc6, hc7, hc8⟩ := leafcells hbd
   exact okb fg rfl (by go_simp)
  ·intro ev w hc hf hg hfix hdep hbel
   have fg : ev (.tmp 6) = _ := hdep 3 (by decide)
   have e1 : ev (.tmp 1) = _ := hfix 1 (by decide)
   exact okb fg rfl (by go_simp)
  ·intro ev w hc hf hg hfix hdep hbel
   have fg : ev (.tmp 6) = _ := hdep 3 (by decide)
   have e9 : ev (.tmp 9) = _ := hdep 6 (by decide)
   have hbd := undrew hbel
   obtain ⟨hc0, hc1, hc2, hc3, hc4, hc5, hc6, hc7, hc8⟩ := leafcells hbd
   exact okb fg rfl (by go_simp)
  ·intro ev w hc hf hg hfix hdep hbel
   have fg : ev (.tmp 6) = _ := hdep 3 (by decide)
   have e1 : ev (.tmp 1) = _ := hfix 1 (by decide)
   exact okb fg rfl (by go_simp)
  ·intro ev w hc hf hg hfix hdep hbel
   have fg : ev (.tmp 6) = _ := hdep 3 (by decide)
   have e11 : ev (.tmp 11) = _ := hdep 8 (by decide)
   have hbd := undrew hbel
   obtain ⟨hc0, hc1, hc2, hc3, hc4, hc5, hc6, hc7, hc8⟩ := leafcells hbd
   exact okb fg rfl (by go_simp)
  ·intro ev w hc hf hg hfix hdep hbel
   have fg : ev (.tmp 6) = _ := hdep 3 (by decide)
   have e8 : ev (.tmp 8) = _ := hdep 5 (by decide)
   have e10 : ev (.tmp 10) = _ := hdep 7 (by decide)
   have e12 : ev (.tmp 12) = _ := hdep 9 (by decide)
   exact okb fg rfl (by go_simp)
  ·intro ev w hc hf hg hfix hdep hbel
   have fg : ev (.tmp 6) = _ := hdep 3 (by decide)
   have e13 : ev (.tmp 13) = _ := hdep 10 (by decide)
   refine Or.inl ⟨fg, Or.inr ⟨61, #[.agg #[.int .u64 (t : Int), .int .u8 (r : Int), .int .u32 (i : Int), .int .u64 (s : Int), .string x], .int .u64 1, .int .u64 1099511627776], w, by go_simp, ?_⟩⟩
   refine (mayItem_any t r i s x 1 1099511627776 HX.out w).mono ?_
   rintro e w1 ⟨rfl, hb1⟩
   exact ⟨_, rfl, rfl, hb1⟩
  ·intro ev w hc hf hg hfix hdep hbel
   have e6 : ev (.tmp 6) = _ := hdep 3 (by decide)
   have e14 : ev (.tmp 14) = _ := hdep 11 (by decide)
   exact okb trivial rfl (by go_simp)
  ·intro ev w hc hf hg hfix hdep hbel
   have e15 : ev (.tmp 15) = _ := hdep 12 (by decide)
   exact okb trivial rfl (by go_simp)
 ·intro v w2 hv hb2
  have r0 : v 0 = _ := hv 0 (by decide)
  have r1 : v 1 = _ := hv 1 (by decide)
  have r2 : v 2 = _ := hv 2 (by decide)
  have r3 : v 3 = _ := hv 3 (by decide)
  have r4 : v 4 = _ := hv 4 (by decide)
  have r5 : v 5 = _ := hv 5 (by decide)
  have r6 : v 6 = _ := hv 6 (by decide)
  have r7 : v 7 = _ := hv 7 (by decide)
  have r8 : v 8 = _ := hv 8 (by decide)
  have r9 : v 9 = _ := hv 9 (by decide)
  have r10 : v 10 = _ := hv 10 (by decide)
  have r11 : v 11 = _ := hv 11 (by decide)
  have r12 : v 12 = _ := hv 12 (by decide)
  have r13 : v 13 = _ := hv 13 (by decide)
  simp only [Reg.putAll, Act.put, List.setIfInBounds_toArray, List.set_cons_zero, List.set_cons_succ, r0, r1, r2, r3, r4, r5, r6, r7, r8, r9, r10, r11, r12, r13]
  clear r0 r1 r2 r3 r4 r5 r6 r7 r8 r9 r10 r11 r12 r13 hv
  have HB := Lib.hid (HBox.out.trans (hb2.mono HBox.out.size)); clear hb2
  go_wp2_with fail
  go_ret
  have hs2 := HS.out
  exact ⟨ret_bool (by simp [Lm.mayReg, Lm.new, Lm.zeroL, hs2]), HB.out⟩
theorem mayReg_any (kk : Nat) (n : Int) (t r i s : Nat) (x : ByteArray) (ia : Option Addr) (il ic : Nat) (da : Option Addr) (dl dc : Nat) (li : List Lm.It) (ld : List Dt.Dot) (W : World) (hi : IRow W ia ic li) (hil : li.length = il) (hd : VRow W da dc ld) (hdl : ld.length = dl) (hx : x.size ≤ 9223372036854775807) :
  Calls Try.prog 53 #[leafV kk n t r i s x ia il ic da dl dc] W fun e w' => e = .returned (.bool (Lm.mayReg ⟨kk, n, t, ((r, i), s), x, li, ld⟩)) ∧ Below W.heap.size W w' := by
 cases hs : Lm.same ⟨kk, n, t, ((r, i), s), x, li, ld⟩ ⟨2, 0, 0, ((0, 0), 0), ⟨#[]⟩, [], []⟩
 ·exact mayReg_false kk n t r i s x ia il ic da dl dc li ld W hi hil hd hdl hx hs
 ·exact mayReg_true kk n t r i s x ia il ic da dl dc li ld W hi hil hd hdl hx hs
set_option maxHeartbeats 4000000 in
theorem leafmay_1 (kk : Nat) (n : Int) (t r i s : Nat) (x : ByteArray) (ia : Option Addr) (il ic : Nat) (da : Option Addr) (dl dc : Nat) (li : List Lm.It) (ld : List Dt.Dot) (W : World) (hi : IRow W ia ic li) (hil : li.length = il) (hd : VRow W da dc ld) (hdl : ld.length = dl) (hx : x.size ≤ 9223372036854775807) (hn : il ≤ 1000000000) (hk : kk = 1) :
  Calls Try.prog 45 #[leafV kk n t r i s x ia il ic da dl dc] W fun e w' => e = .returned (.bool (Lm.may ⟨kk, n, t, ((r, i), s), x, li, ld⟩)) ∧ Below W.heap.size W w' := by
 have HBox := Lib.hid (below_box W #[.int .u8 (kk : Int), .int .i64 n, .int .u64 (t : Int), .int .u8 (r : Int), .int .u32 (i : Int), .int .u64 (s : Int), .string x, .slice ia il ic, .slice da dl dc] 44)
 have HI := Lib.hid hi; have HIl := Lib.hid hil; have HD := Lib.hid hd; have HDl := Lib.hid hdl
 clear hi hil hd hdl
 have HX := Lib.hid hx; clear hx
 have d1 : ((kk : Int) == 1) = true := by simp; omega
 have hM : Lm.may ⟨kk, n, t, ((r, i), s), x, li, ld⟩ = Lm.same ⟨kk, n, t, ((r, i), s), x, li, ld⟩ ⟨kk, n, 0, ((0, 0), 0), ⟨#[]⟩, [], []⟩ := by simp [Lm.may, Lm.zeroL, hk]
 have HM := Lib.hid hM; have HK := Lib.hid hk; clear hM hk
 go_enter Try.func45, Try.ntmps45
 go_wp2_with fail
 refine (same_any kk n t r i s x ia il ic da dl dc li ld kk n 0 0 0 0 ⟨#[]⟩ none 0 0 none 0 0 [] [] _ (HI.out.below (HBox.out)) HIl.out (HD.out.below (HBox.out)) HDl.out (IRow.nil _) rfl (VRow.nil _) rfl).mono ?_
 rintro e w1 ⟨rfl, hb⟩
 have HB := Lib.hid (HBox.out.trans (hb.mono HBox.out.size)); clear hb
 go_wp2_with fail
 go_ret
 exact ⟨ret_bool HM.out.symm, HB.out⟩
set_option maxHeartbeats 4000000 in
theorem leafmay_2 (kk : Nat) (n : Int) (t r i s : Nat) (x : ByteArray) (ia : Option Addr) (il ic : Nat) (da : Option Addr) (dl dc : Nat) (li : List Lm.It) (ld : List Dt.Dot) (W : World) (hi : IRow W ia ic li) (hil : li.length = il) (hd : VRow W da dc ld) (hdl : ld.length = dl) (hx : x.size ≤ 9223372036854775807) (hn : il ≤ 1000000000) (hk : kk = 2) :
  Calls Try.prog 45 #[leafV kk n t r i s x ia il ic da dl dc] W fun e w' => e = .returned (.bool (Lm.may ⟨kk, n, t, ((r, i), s), x, li, ld⟩)) ∧ Below W.heap.size W w' := by
 have HBox := Lib.hid (below_box W #[.int .u8 (kk : Int), .int .i64 n, .int .u64 (t : Int), .int .u8 (r : Int), .int .u32 (i : Int), .int .u64 (s : Int), .string x, .slice ia il ic, .slice da dl dc] 44)
 have HI := Lib.hid hi; have HIl := Lib.hid hil; have HD := Lib.hid hd; have HDl := Lib.hid hdl
 clear hi hil hd hdl
 have HX := Lib.hid hx; clear hx
 have d1 : ((kk : Int) == 1) = false := by simp; omega
 have d2 : ((kk : Int) == 2) = true := by simp; omega
 have hM : Lm.may ⟨kk, n, t, ((r, i), s), x, li, ld⟩ = (Lm.same ⟨kk, n, t, ((r, i), s), x, li, ld⟩ ⟨kk, 0, t, ((r, i), s), x, [], []⟩ && Lm.mayReg ⟨kk, n, t, ((r, i), s), x, li, ld⟩) := by simp [Lm.may, Lm.zeroL, hk]
 have HM := Lib.hid hM; have HK := Lib.hid hk; clear hM hk
 cases hs : Lm.same ⟨kk, n, t, ((r, i), s), x, li, ld⟩ ⟨kk, 0, t, ((r, i), s), x, [], []⟩
 ·have HS := Lib.hid hs; clear hs
  go_enter Try.func45, Try.ntmps45
  go_wp2_with fail
  refine (same_any kk n t r i s x ia il ic da dl dc li ld kk 0 t r i s x none 0 0 none 0 0 [] [] _ (HI.out.below (HBox.out)) HIl.out (HD.out.below (HBox.out)) HDl.out (IRow.nil _) rfl (VRow.nil _) rfl).mono ?_
  rintro e w1 ⟨rfl, hb⟩
  rw [HS.out]
  have HB := Lib.hid (HBox.out.trans (hb.mono HBox.out.size)); clear hb
  go_wp2_with fail
  go_ret
  exact ⟨ret_bool (by rw [HM.out, HS.out]; rfl), HB.out⟩
 ·have HS := Lib.hid hs; clear hs
  go_enter Try.func45, Try.ntmps45
  go_wp2_with fail
  refine (same_any kk n t r i s x ia il ic da dl dc li ld kk 0 t r i s x none 0 0 none 0 0 [] [] _ (HI.out.below (HBox.out)) HIl.out (HD.out.below (HBox.out)) HDl.out (IRow.nil _) rfl (VRow.nil _) rfl).mono ?_
  rintro e w1 ⟨rfl, hb⟩
  obtain ⟨c0, c1, c2, c3, c4, c5, c6, c7, c8⟩ := leafcells hb
  rw [HS.out]
  have HB := Lib.hid (HBox.out.trans (hb.mono HBox.out.size)); clear hb
  go_wp2_with fail
  refine (mayReg_any kk n t r i s x ia il ic da dl dc li ld _ (HI.out.below HB.out) HIl.out (HD.out.below HB.out) HDl.out HX.out).mono ?_
  rintro e w2 ⟨rfl, hb⟩
  have HB2 := Lib.hid (HB.out.trans (hb.mono HB.out.size)); clear hb c0 c1 c2 c3 c4 c5 c6 c7 c8
  go_wp2_with fail
  go_ret
  exact ⟨ret_bool (by rw [HM.out, HS.out]; rfl), HB2.out⟩
set_option maxHeartbeats 4000000 in
theorem leafmay_3 (kk : Nat) (n : Int) (t r i s : Nat) (x : ByteArray) (ia : Option Addr) (il ic : Nat) (da : Option Addr) (dl dc : Nat) (li : List Lm.It) (ld : List Dt.Dot) (W : World) (hi : IRow W ia ic li) (hil : li.length = il) (hd : VRow W da dc ld) (hdl : ld.length = dl) (hx : x.size ≤ 9223372036854775807) (hn : il ≤ 1000000000) (hk : kk = 3) :
  Calls Try.prog 45 #[leafV kk n t r i s x ia il ic da dl dc] W fun e w' => e = .returned (.bool (Lm.may ⟨kk, n, t, ((r, i), s), x, li, ld⟩)) ∧ Below W.heap.size W w' := by
 have HBox := Lib.hid (below_box W #[.int .u8 (kk : Int), .int .i64 n, .int .u64 (t : Int), .int .u8 (r : Int), .int .u32 (i : Int), .int .u64 (s : Int), .string x, .slice ia il ic, .slice da dl dc] 44)
 have HI := Lib.hid hi; have HIl := Lib.hid hil; have HD := Lib.hid hd; have HDl := Lib.hid hdl
 clear hi hil hd hdl
 have HX := Lib.hid hx; clear hx
 have d1 : ((kk : Int) == 1) = false := by simp; omega
 have d2 : ((kk : Int) == 2) = false := by simp; omega
 have d3 : ((kk : Int) == 3) = true := by simp; omega
 have hM : Lm.may ⟨kk, n, t, ((r, i), s), x, li, ld⟩ = (Lm.same ⟨kk, n, t, ((r, i), s), x, li, ld⟩ ⟨kk, 0, 0, ((0, 0), 0), ⟨#[]⟩, li, ld⟩ && Lm.maySet ⟨kk, n, t, ((r, i), s), x, li, ld⟩) := by simp [Lm.may, Lm.zeroL, hk]
 have HM := Lib.hid hM; have HK := Lib.hid hk; clear hM hk
 cases hs : Lm.same ⟨kk, n, t, ((r, i), s), x, li, ld⟩ ⟨kk, 0, 0, ((0, 0), 0), ⟨#[]⟩, li, ld⟩
 ·have HS := Lib.hid hs; clear hs
  go_enter Try.func45, Try.ntmps45
  go_wp2_with fail
  refine (same_any kk n t r i s x ia il ic da dl dc li ld kk 0 0 0 0 0 ⟨#[]⟩ ia il ic da dl dc li ld _ (HI.out.below (HBox.out)) HIl.out (HD.out.below (HBox.out)) HDl.out (HI.out.below HBox.out) HIl.out (HD.out.below HBox.out) HDl.out).mono ?_
  rintro e w1 ⟨rfl, hb⟩
  rw [HS.out]
  have HB := Lib.hid (HBox.out.trans (hb.mono HBox.out.size)); clear hb
  go_wp2_with fail
  go_ret
  exact ⟨ret_bool (by rw [HM.out, HS.out]; rfl), HB.out⟩
 ·have HS := Lib.hid hs; clear hs
  go_enter Try.func45, Try.ntmps45
  go_wp2_with fail
  refine (same_any kk n t r i s x ia il ic da dl dc li ld kk 0 0 0 0 0 ⟨#[]⟩ ia il ic da dl dc li ld _ (HI.out.below (HBox.out)) HIl.out (HD.out.below (HBox.out)) HDl.out (HI.out.below HBox.out) HIl.out (HD.out.below HBox.out) HDl.out).mono ?_
  rintro e w1 ⟨rfl, hb⟩
  obtain ⟨c0, c1, c2, c3, c4, c5, c6, c7, c8⟩ := leafcells hb
  rw [HS.out]
  have HB := Lib.hid (HBox.out.trans (hb.mono HBox.out.size)); clear hb
  go_wp2_with fail
  refine (maySet_any kk n t r i s x ia il ic da dl dc li ld _ (HI.out.below HB.out) HIl.out (HD.out.below HB.out) HDl.out hn).mono ?_
  rintro e w2 ⟨rfl, hb⟩
  have HB2 := Lib.hid (HB.out.trans (hb.mono HB.out.size)); clear hb c0 c1 c2 c3 c4 c5 c6 c7 c8
  go_wp2_with fail
  go_ret
  exact ⟨ret_bool (by rw [HM.out, HS.out]; rfl), HB2.out⟩
set_option maxHeartbeats 4000000 in
theorem leafmay_4 (kk : Nat) (n : Int) (t r i s : Nat) (x : ByteArray) (ia : Option Addr) (il ic : Nat) (da : Option Addr) (dl dc : Nat) (li : List Lm.It) (ld : List Dt.Dot) (W : World) (hi : IRow W ia ic li) (hil : li.length = il) (hd : VRow W da dc ld) (hdl : ld.length = dl) (hx : x.size ≤ 9223372036854775807) (hn : il ≤ 1000000000) (hk : kk = 4) :
  Calls Try.prog 45 #[leafV kk n t r i s x ia il ic da dl dc] W fun e w' => e = .returned (.bool (Lm.may ⟨kk, n, t, ((r, i), s), x, li, ld⟩)) ∧ Below W.heap.size W w' := by
 have HBox := Lib.hid (below_box W #[.int .u8 (kk : Int), .int .i64 n, .int .u64 (t : Int), .int .u8 (r : Int), .int .u32 (i : Int), .int .u64 (s : Int), .string x, .slice ia il ic, .slice da dl dc] 44)
 have HI := Lib.hid hi; have HIl := Lib.hid hil; have HD := Lib.hid hd; have HDl := Lib.hid hdl
 clear hi hil hd hdl
 have HX := Lib.hid hx; clear hx
 have d1 : ((kk : Int) == 1) = false := by simp; omega
 have d2 : ((kk : Int) == 2) = false := by simp; omega
 have d3 : ((kk : Int) == 3) = false := by simp; omega
 have d4 : ((kk : Int) == 4) = true := by simp; omega
 have hM : Lm.may ⟨kk, n, t, ((r, i), s), x, li, ld⟩ = (Lm.same ⟨kk, n, t, ((r, i), s), x, li, ld⟩ ⟨kk, 0, 0, ((0, 0), 0), ⟨#[]⟩, li, []⟩ && Lm.mayLog ⟨kk, n, t, ((r, i), s), x, li, ld⟩) := by simp [Lm.may, Lm.zeroL, hk]
 have HM := Lib.hid hM; have HK := Lib.hid hk; clear hM hk
 cases hs : Lm.same ⟨kk, n, t, ((r, i), s), x, li, ld⟩ ⟨kk, 0, 0, ((0, 0), 0), ⟨#[]⟩, li, []⟩
 ·have HS := Lib.hid hs; clear hs
  go_enter Try.func45, Try.ntmps45
  go_wp2_with fail
  refine (same_any kk n t r i s x ia il ic da dl dc li ld kk 0 0 0 0 0 ⟨#[]⟩ ia il ic none 0 0 li [] _ (HI.out.below (HBox.out)) HIl.out (HD.out.below (HBox.out)) HDl.out (HI.out.below HBox.out) HIl.out (VRow.nil _) rfl).mono ?_
  rintro e w1 ⟨rfl, hb⟩
  rw [HS.out]
  have HB := Lib.hid (HBox.out.trans (hb.mono HBox.out.size)); clear hb
  go_wp2_with fail
  go_ret
  exact ⟨ret_bool (by rw [HM.out, HS.out]; rfl), HB.out⟩
 ·have HS := Lib.hid hs; clear hs
  go_enter Try.func45, Try.ntmps45
  go_wp2_with fail
  refine (same_any kk n t r i s x ia il ic da dl dc li ld kk 0 0 0 0 0 ⟨#[]⟩ ia il ic none 0 0 li [] _ (HI.out.below (HBox.out)) HIl.out (HD.out.below (HBox.out)) HDl.out (HI.out.below HBox.out) HIl.out (VRow.nil _) rfl).mono ?_
  rintro e w1 ⟨rfl, hb⟩
  obtain ⟨c0, c1, c2, c3, c4, c5, c6, c7, c8⟩ := leafcells hb
  rw [HS.out]
  have HB := Lib.hid (HBox.out.trans (hb.mono HBox.out.size)); clear hb
  go_wp2_with fail
  refine (mayLog_any kk n t r i s x ia il ic da dl dc li ld _ (HI.out.below HB.out) HIl.out (HD.out.below HB.out) HDl.out hn).mono ?_
  rintro e w2 ⟨rfl, hb⟩
  have HB2 := Lib.hid (HB.out.trans (hb.mono HB.out.size)); clear hb c0 c1 c2 c3 c4 c5 c6 c7 c8
  go_wp2_with fail
  go_ret
  exact ⟨ret_bool (by rw [HM.out, HS.out]; rfl), HB2.out⟩
set_option maxHeartbeats 4000000 in
theorem leafmay_0 (kk : Nat) (n : Int) (t r i s : Nat) (x : ByteArray) (ia : Option Addr) (il ic : Nat) (da : Option Addr) (dl dc : Nat) (li : List Lm.It) (ld : List Dt.Dot) (W : World) (h1 : kk ≠ 1) (h2 : kk ≠ 2) (h3 : kk ≠ 3) (h4 : kk ≠ 4) :
  Calls Try.prog 45 #[leafV kk n t r i s x ia il ic da dl dc] W fun e w' => e = .returned (.bool (Lm.may ⟨kk, n, t, ((r, i), s), x, li, ld⟩)) ∧ Below W.heap.size W w' := by
 have HBox := Lib.hid (below_box W #[.int .u8 (kk : Int), .int .i64 n, .int .u64 (t : Int), .int .u8 (r : Int), .int .u32 (i : Int), .int .u64 (s : Int), .string x, .slice ia il ic, .slice da dl dc] 44)
 have d1 : ((kk : Int) == 1) = false := by simp; omega
 have d2 : ((kk : Int) == 2) = false := by simp; omega
 have d3 : ((kk : Int) == 3) = false := by simp; omega
 have d4 : ((kk : Int) == 4) = false := by simp; omega
 have hM : Lm.may ⟨kk, n, t, ((r, i), s), x, li, ld⟩ = false := by simp [Lm.may, h1, h2, h3, h4]
 have HM := Lib.hid hM; clear hM h1 h2 h3 h4
 go_enter Try.func45, Try.ntmps45
 go_wp2_with fail
 go_ret
 exact ⟨ret_bool HM.out.symm, HBox.out⟩
theorem leafmay_any (kk : Nat) (n : Int) (t r i s : Nat) (x : ByteArray) (ia : Option Addr) (il ic : Nat) (da : Option Addr) (dl dc : Nat) (li : List Lm.It) (ld : List Dt.Dot) (W : World) (hi : IRow W ia ic li) (hil : li.length = il) (hd : VRow W da dc ld) (hdl : ld.length = dl) (hx : x.size ≤ 9223372036854775807) (hn : il ≤ 1000000000) :
  Calls Try.prog 45 #[leafV kk n t r i s x ia il ic da dl dc] W fun e w' => e = .returned (.bool (Lm.may ⟨kk, n, t, ((r, i), s), x, li, ld⟩)) ∧ Below W.heap.size W w' := by
 by_cases h1 : kk = 1
 ·exact leafmay_1 kk n t r i s x ia il ic da dl dc li ld W hi hil hd hdl hx hn h1
 by_cases h2 : kk = 2
 ·exact leafmay_2 kk n t r i s x ia il ic da dl dc li ld W hi hil hd hdl hx hn h2
 by_cases h3 : kk = 3
 ·exact leafmay_3 kk n t r i s x ia il ic da dl dc li ld W hi hil hd hdl hx hn h3
 by_cases h4 : kk = 4
 ·exact leafmay_4 kk n t r i s x ia il ic da dl dc li ld W hi hil hd hdl hx hn h4
 exact leafmay_0 kk n t r i s x ia il ic da dl dc li ld W h1 h2 h3 h4
end Go.Proofs.Ytplafpchgfjomaa
