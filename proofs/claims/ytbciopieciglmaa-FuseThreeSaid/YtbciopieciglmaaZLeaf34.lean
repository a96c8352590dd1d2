import Derived.Test.YtbciopieciglmaaZLeaf33
namespace Go.Proofs.Ytbciopieciglmaa
open Go.RowKit Go.Buf Go.LB Go.Lib
set_option linter.unusedSimpArgs false
set_option linter.unusedVariables false
set_option maxRecDepth 100000 in
set_option maxHeartbeats 12800000 in
theorem refapply_put0 (kk : Nat) (n : Int) (t r i s : Nat) (x : ByteArray) (ia : Option Addr) (il ic : Nat) (da : Option Addr) (dl dc : Nat) (li : List Lm.It) (ld : List Dt.Dot) (r' i' s' tm k : Nat) (pa : Option Addr) (pl pc : Nat) (n' : Int) (t' : ByteArray) (ea : Option Addr) (el ec : Nat) (p : List ByteArray) (d : List Dt.Dot) (W : World) (K : Nat → Prop) (hKx : ∀ b, K b → b < W.heap.size) (hiK : ∀ w2, Chg K W w2 → IRow w2 ia ic li) (hdK : ∀ w2, Chg K W w2 → VRow w2 da dc ld) (hi : IRow W ia ic li) (hil : li.length = il) (hd : VRow W da dc ld) (hdl : ld.length = dl) (hx : x.size ≤ 9223372036854775807) (hn : il ≤ 1000000) (hn2 : dl ≤ 1000000) (hk256 : k < 256) (hp : SRow W pa pc p) (hpl : p.length = pl) (hed : VRow W ea ec d) (hel : d.length = el) (hmay : Lm.may ⟨kk, n, t, ((r, i), s), x, li, ld⟩ = true) (hev : Om.mayEvent ⟨((r', i'), s'), tm, ⟨k, p, n', t', d⟩⟩ = true) (hty : Om.type k = kk) (hk : k = 3) (hhd : Lm.hasD ld ((r', i'), s') = true) :
  Calls Try.prog 10 #[leafV kk n t r i s x ia il ic da dl dc, evV r' i' s' tm k pa pl pc n' t' ea el ec] W fun e w' => REK K w' ⟨kk, n, t, ((r, i), s), x, li, ld⟩ 0 e ∧ Below W.heap.size W w' := by
 have HKx := Lib.hid hKx; have HiK := Lib.hid hiK; have HdK := Lib.hid hdK
 clear hKx hiK hdK
 have HMe := Lib.hid hev
 have hneq : (Om.type k : Int) = (kk : Int) := by omega
 have HHi := Lib.hid hi; have HHd := Lib.hid hd; have HK := Lib.hid hk; have HHD := Lib.hid hhd
 clear hev hk hhd
 obtain ⟨hB1, hL0, hE0, hR0⟩ := boxes3 W [.int .u8 (kk : Int), .int .i64 n, .int .u64 (t : Int), .int .u8 (r : Int), .int .u32 (i : Int), .int .u64 (s : Int), .string x, .slice ia il ic, .slice da dl dc] [.int .u8 (r' : Int), .int .u32 (i' : Int), .int .u64 (s' : Int), .int .u64 (tm : Int), .int .u8 (k : Int), .slice pa pl pc, .int .i64 n', .string t', .slice ea el ec] [.int .u8 0, .int .i64 0, .int .u64 0, .int .u8 0, .int .u32 0, .int .u64 0, .string ⟨#[]⟩, .slice none 0 0, .slice none 0 0] 40 37 40
 have HB1 := Lib.hid hB1; have HL0 := Lib.hid hL0; have HE0 := Lib.hid hE0; have HR0 := Lib.hid hR0
 have HI := Lib.hid hi; have HIl := Lib.hid hil; have HD := Lib.hid hd; have HDl := Lib.hid hdl; have HP := Lib.hid hp; have HPl := Lib.hid hpl; have HED := Lib.hid hed; have HEl := Lib.hid hel
 obtain ⟨a0, a1, a2, a3, a4, a5, a6, a7, a8⟩ := hL0.nine
 clear hB1 hL0 hE0 hR0 hi hil hd hdl hp hpl hed hel
 go_enter Try.func10, Try.ntmps10
 go_wp2_with fail
 refine (refmay05_any kk n t r i s x ia il ic da dl dc li ld _ (HI.out.below HB1.out) HIl.out (HD.out.below HB1.out) HDl.out hx (by omega) (by omega)).mono ?_
 rintro e w1 ⟨rfl, hb⟩
 rw [hmay]
 have HB2 := Lib.hid hb
 have HW2 := Lib.hid (HB1.out.trans (hb.mono HB1.out.size))
 have hL1 := HL0.out.below hb; have hE1 := HE0.out.below hb; have hR1 := HR0.out.below hb
 have HL1 := Lib.hid hL1; have HE1 := Lib.hid hE1; have HR1 := Lib.hid hR1
 clear a0 a1 a2 a3 a4 a5 a6 a7 a8 hb
 obtain ⟨x0, x1, x2, x3, x4, x5, x6, x7, x8⟩ := hE1.nine
 clear hL1 hE1 hR1
 go_wp2_with fail
 refine (refmayEvent_any r' i' s' tm k hk256 pa pl pc n' t' ea el ec p d _ (HP.out.below HW2.out) HPl.out (HED.out.below HW2.out) HEl.out).mono ?_
 rintro e w2 ⟨rfl, hb⟩
 rw [HMe.out]
 have HW3 := Lib.hid (HW2.out.trans (hb.mono HW2.out.size))
 have hL1 := HL1.out.below hb; have hE1 := HE1.out.below hb; have hR1 := HR1.out.below hb
 have HL2 := Lib.hid hL1; have HE2 := Lib.hid hE1; have HR2 := Lib.hid hR1
 clear x0 x1 x2 x3 x4 x5 x6 x7 x8 hb
 clear hL1 hE1 hR1
 go_wp2_with fail
 refine Reg.region_list (by kernel_rfl) [fun v _ => v = .pointer (some ⟨W.heap.size + 1, 4, none⟩), fun v _ => v = .pointer (some ⟨W.heap.size + 1, 4, none⟩), fun v _ => v = .int .u8 (k : Int), fun v _ => v = .int .u8 (Om.type k : Nat), fun v _ => v = .pointer (some ⟨W.heap.size, 0, none⟩), fun v _ => v = .int .u8 (kk : Int), fun v _ => v = .bool false] (by kernel_rfl) ?_ ?_ ?_
 ·refine ⟨k4, k4, k4, k4, k4, k4, k4, trivial⟩
 ·refine ⟨?_, ?_, ?_, ?_, ?_, ?_, ?_, trivial⟩
  ·intro ev w hc hf hg hfix hdep hbel
   have e3 : ev (.tmp 3) = _ := hfix 3 (by decide)
   exact okb trivial rfl (by go_simp)
  ·intro ev w hc hf hg hfix hdep hbel
   have e16 : ev (.tmp 16) = _ := hdep 0 (by decide)
   exact okb trivial rfl (by go_simp)
  ·intro ev w hc hf hg hfix hdep hbel
   have e17 : ev (.tmp 17) = _ := hdep 1 (by decide)
   have d0 := (HL2.out.below (undrew hbel)).cell 0; have d4 := (HE2.out.below (undrew hbel)).cell 4
   simp only [List.getElem?_cons_succ, List.getElem?_cons_zero] at d0 d4
   exact okb trivial rfl (by go_simp)
  ·intro ev w hc hf hg hfix hdep hbel
   have e18 : ev (.tmp 18) = _ := hdep 2 (by decide)
   refine Or.inl ⟨trivial, Or.inr ⟨15, #[.int .u8 (k : Int)], w, by go_simp, ?_⟩⟩
   refine (reftype_any k w).mono ?_
   rintro e w2 ⟨rfl, rfl⟩
   exact ⟨_, rfl, rfl, Below.refl _ _⟩
  ·intro ev w hc hf hg hfix hdep hbel
   have e2 : ev (.tmp 2) = _ := hfix 2 (by decide)
   exact okb trivial rfl (by go_simp)
  ·intro ev w hc hf hg hfix hdep hbel
   have e20 : ev (.tmp 20) = _ := hdep 4 (by decide)
   have d0 := (HL2.out.below (undrew hbel)).cell 0; have d4 := (HE2.out.below (undrew hbel)).cell 4
   simp only [List.getElem?_cons_succ, List.getElem?_cons_zero] at d0 d4
   exact okb trivial rfl (by go_simp)
  ·intro ev w hc hf hg hfix hdep hbel
   have e19 : ev (.tmp 19) = _ := hdep 3 (by decide)
   have e21 : ev (.tmp 21) = _ := hdep 5 (by decide)
   exact okb trivial rfl (by go_simp)
 ·intro v w3 hv hb2
  have r0 : v 0 = _ := hv 0 (by decide)
  have r1 : v 1 = _ := hv 1 (by decide)
  have r2 : v 2 = _ := hv 2 (by decide)
  have r3 : v 3 = _ := hv 3 (by decide)
  have r4 : v 4 = _ := hv 4 (by decide)
  have r5 : v 5 = _ := hv 5 (by decide)
  have r6 : v 6 = _ := hv 6 (by decide)
  simp only [Reg.putAll, Act.put, List.setIfInBounds_toArray, List.set_cons_zero, List.set_cons_succ, r0, r1, r2, r3, r4, r5, r6]
  clear r0 r1 r2 r3 r4 r5 r6 hv
  have HW4 := Lib.hid (HW3.out.trans (hb2.mono HW3.out.size))
  have hL1 := HL2.out.below hb2; have hE1 := HE2.out.below hb2; have hR1 := HR2.out.below hb2
  have HL3 := Lib.hid hL1; have HE3 := Lib.hid hE1; have HR3 := Lib.hid hR1
  clear hb2
  obtain ⟨d0, d1, d2, d3, d4, d5, d6, d7, d8⟩ := hL1.nine
  obtain ⟨f0, f1, f2, f3, f4, f5, f6, f7, f8⟩ := hL1.froz9
  obtain ⟨x0, x1, x2, x3, x4, x5, x6, x7, x8⟩ := hE1.nine
  obtain ⟨z0, z1, z2, z3, z4, z5, z6, z7, z8⟩ := hR1.nine
  obtain ⟨y0, y1, y2, y3, y4, y5, y6, y7, y8⟩ := hR1.froz9
  clear hL1 hE1 hR1
  have hkZ : (k : Int) = 3 := by have := HK.out; omega
  go_wp2_with fail
  refine (reftomb_any da dl dc r' i' s' ld _ (HD.out.below HW4.out) HDl.out).mono ?_
  rintro e w4 ⟨rfl, hb⟩
  rw [HHD.out]
  have HW5 := Lib.hid (HW4.out.trans (hb.mono HW4.out.size))
  have hL1 := HL3.out.below hb; have hE1 := HE3.out.below hb; have hR1 := HR3.out.below hb
  have HL4 := Lib.hid hL1; have HE4 := Lib.hid hE1; have HR4 := Lib.hid hR1
  clear hb
  clear d0 d1 d2 d3 d4 d5 d6 d7 d8 x0 x1 x2 x3 x4 x5 x6 x7 x8 z0 z1 z2 z3 z4 z5 z6 z7 z8 f0 f1 f2 f3 f4 f5 f6 f7 f8 y0 y1 y2 y3 y4 y5 y6 y7 y8
  obtain ⟨d0, d1, d2, d3, d4, d5, d6, d7, d8⟩ := hL1.nine
  obtain ⟨f0, f1, f2, f3, f4, f5, f6, f7, f8⟩ := hL1.froz9
  obtain ⟨x0, x1, x2, x3, x4, x5, x6, x7, x8⟩ := hE1.nine
  obtain ⟨z0, z1, z2, z3, z4, z5, z6, z7, z8⟩ := hR1.nine
  obtain ⟨y0, y1, y2, y3, y4, y5, y6, y7, y8⟩ := hR1.froz9
  clear hL1 hE1 hR1
  go_wp2_with fail
  clear d0 d1 d2 d3 d4 d5 d6 d7 d8 x0 x1 x2 x3 x4 x5 x6 x7 x8 z0 z1 z2 z3 z4 z5 z6 z7 z8 f0 f1 f2 f3 f4 f5 f6 f7 f8 y0 y1 y2 y3 y4 y5 y6 y7 y8
  have e1 := HIl.out; have e2 := HDl.out
  subst e1 e2
  have hc9 := chg9 (w4) (W.heap.size + 1 + 1) (.int .u8 (kk : Int)) (.int .i64 n) (.int .u64 (t : Int)) (.int .u8 (r : Int)) (.int .u32 (i : Int)) (.int .u64 (s : Int)) (.string x) (.slice ia li.length ic) (.slice da ld.length dc)
  have hfin := Chg.belowTrans (HW5.out) hc9 (fun k hk e => by have : k = W.heap.size + 1 + 1 := e; omega) (HW5.out).size
  have HFin := Lib.hid hfin
  refine bodyPost_ret (v := .tuple #[.agg #[.int .u8 (kk : Int), .int .i64 n, .int .u64 (t : Int), .int .u8 (r : Int), .int .u32 (i : Int), .int .u64 (s : Int), .string x, .slice ia li.length ic, .slice da ld.length dc], .int .i64 0]) (res_leaf2 (b := W.heap.size + 1 + 1) Try.results10 (by simp) (by simp) (blk9 (HR4.out) _ _ _ _ _ _ _ _ _)) rfl ⟨⟨ia, ic, da, dc, rfl, keptK HiK.out HFin.out, keptK HdK.out HFin.out⟩, HFin.out⟩
set_option maxRecDepth 100000 in
set_option maxHeartbeats 12800000 in
theorem refapply_put1 (kk : Nat) (n : Int) (t r i s : Nat) (x : ByteArray) (ia : Option Addr) (il ic : Nat) (da : Option Addr) (dl dc : Nat) (li : List Lm.It) (ld : List Dt.Dot) (r' i' s' tm k : Nat) (pa : Option Addr) (pl pc : Nat) (n' : Int) (t' : ByteArray) (ea : Option Addr) (el ec : Nat) (p : List ByteArray) (d : List Dt.Dot) (W : World) (K : Nat → Prop) (hKx : ∀ b, K b → b < W.heap.size) (hiK : ∀ w2, Chg K W w2 → IRow w2 ia ic li) (hdK : ∀ w2, Chg K W w2 → VRow w2 da dc ld) (hi : IRow W ia ic li) (hil : li.length = il) (hd : VRow W da dc ld) (hdl : ld.length = dl) (hx : x.size ≤ 9223372036854775807) (hn : il ≤ 1000000) (hn2 : dl ≤ 1000000) (hk256 : k < 256) (hp : SRow W pa pc p) (hpl : p.length = pl) (hed : VRow W ea ec d) (hel : d.length = el) (hmay : Lm.may ⟨kk, n, t, ((r, i), s), x, li, ld⟩ = true) (hev : Om.mayEvent ⟨((r', i'), s'), tm, ⟨k, p, n', t', d⟩⟩ = true) (hty : Om.type k = kk) (hk : k = 3) (hhd : Lm.hasD ld ((r', i'), s') = false) (hz : okI (0, ((r', i'), s'), t')) (hhi : Lm.hasI li ((r', i'), s') = true) :
  Calls Try.prog 10 #[leafV kk n t r i s x ia il ic da dl dc, evV r' i' s' tm k pa pl pc n' t' ea el ec] W fun e w' => REK K w' ⟨kk, n, t, ((r, i), s), x, li, ld⟩ 0 e ∧ Below W.heap.size W w' := by
 have HKx := Lib.hid hKx; have HiK := Lib.hid hiK; have HdK := Lib.hid hdK
 clear hKx hiK hdK
 have HMe := Lib.hid hev
 have hneq : (Om.type k : Int) = (kk : Int) := by omega
 have HHi := Lib.hid hi; have HHd := Lib.hid hd; have HK := Lib.hid hk; have HHD := Lib.hid hhd; have HHI := Lib.hid hhi; have HZ := Lib.hid hz
 clear hev hk hhd hhi hz
 obtain ⟨hB1, hL0, hE0, hR0⟩ := boxes3 W [.int .u8 (kk : Int), .int .i64 n, .int .u64 (t : Int), .int .u8 (r : Int), .int .u32 (i : Int), .int .u64 (s : Int), .string x, .slice ia il ic, .slice da dl dc] [.int .u8 (r' : Int), .int .u32 (i' : Int), .int .u64 (s' : Int), .int .u64 (tm : Int), .int .u8 (k : Int), .slice pa pl pc, .int .i64 n', .string t', .slice ea el ec] [.int .u8 0, .int .i64 0, .int .u64 0, .int .u8 0, .int .u32 0, .int .u64 0, .string ⟨#[]⟩, .slice none 0 0, .slice none 0 0] 40 37 40
 have HB1 := Lib.hid hB1; have HL0 := Lib.hid hL0; have HE0 := Lib.hid hE0; have HR0 := Lib.hid hR0
 have HI := Lib.hid hi; have HIl := Lib.hid hil; have HD := Lib.hid hd; have HDl := Lib.hid hdl; have HP := Lib.hid hp; have HPl := Lib.hid hpl; have HED := Lib.hid hed; have HEl := Lib.hid hel
 obtain ⟨a0, a1, a2, a3, a4, a5, a6, a7, a8⟩ := hL0.nine
 clear hB1 hL0 hE0 hR0 hi hil hd hdl hp hpl hed hel
 go_enter Try.func10, Try.ntmps10
 go_wp2_with fail
 refine (refmay05_any kk n t r i s x ia il ic da dl dc li ld _ (HI.out.below HB1.out) HIl.out (HD.out.below HB1.out) HDl.out hx (by omega) (by omega)).mono ?_
 rintro e w1 ⟨rfl, hb⟩
 rw [hmay]
 have HB2 := Lib.hid hb
 have HW2 := Lib.hid (HB1.out.trans (hb.mono HB1.out.size))
 have hL1 := HL0.out.below hb; have hE1 := HE0.out.below hb; have hR1 := HR0.out.below hb
 have HL1 := Lib.hid hL1; have HE1 := Lib.hid hE1; have HR1 := Lib.hid hR1
 clear a0 a1 a2 a3 a4 a5 a6 a7 a8 hb
 obtain ⟨x0, x1, x2, x3, x4, x5, x6, x7, x8⟩ := hE1.nine
 clear hL1 hE1 hR1
 go_wp2_with fail
 refine (refmayEvent_any r' i' s' tm k hk256 pa pl pc n' t' ea el ec p d _ (HP.out.below HW2.out) HPl.out (HED.out.below HW2.out) HEl.out).mono ?_
 rintro e w2 ⟨rfl, hb⟩
 rw [HMe.out]
 have HW3 := Lib.hid (HW2.out.trans (hb.mono HW2.out.size))
 have hL1 := HL1.out.below hb; have hE1 := HE1.out.below hb; have hR1 := HR1.out.below hb
 have HL2 := Lib.hid hL1; have HE2 := Lib.hid hE1; have HR2 := Lib.hid hR1
 clear x0 x1 x2 x3 x4 x5 x6 x7 x8 hb
 clear hL1 hE1 hR1
 go_wp2_with fail
 refine Reg.region_list (by kernel_rfl) [fun v _ => v = .pointer (some ⟨W.heap.size + 1, 4, none⟩), fun v _ => v = .pointer (some ⟨W.heap.size + 1, 4, none⟩), fun v _ => v = .int .u8 (k : Int), fun v _ => v = .int .u8 (Om.type k : Nat), fun v _ => v = .pointer (some ⟨W.heap.size, 0, none⟩), fun v _ => v = .int .u8 (kk : Int), fun v _ => v = .bool false] (by kernel_rfl) ?_ ?_ ?_
 ·refine ⟨k4, k4, k4, k4, k4, k4, k4, trivial⟩
 ·refine ⟨?_, ?_, ?_, ?_, ?_, ?_, ?_, trivial⟩
  ·intro ev w hc hf hg hfix hdep hbel
   have e3 : ev (.tmp 3) = _ := hfix 3 (by decide)
   exact okb trivial rfl (by go_simp)
  ·intro ev w hc hf hg hfix hdep hbel
   have e16 : ev (.tmp 16) = _ := hdep 0 (by decide)
   exact okb trivial rfl (by go_simp)
  ·intro ev w hc hf hg hfix hdep hbel
   have e17 : ev (.tmp 17) = _ := hdep 1 (by decide)
   have d0 := (HL2.out.below (undrew hbel)).cell 0; have d4 := (HE2.out.below (undrew hbel)).cell 4
   simp only [List.getElem?_cons_succ, List.getElem?_cons_zero] at d0 d4
   exact okb trivial rfl (by go_simp)
  ·intro ev w hc hf hg hfix hdep hbel
   have e18 : ev (.tmp 18) = _ := hdep 2 (by decide)
   refine Or.inl ⟨trivial, Or.inr ⟨15, #[.int .u8 (k : Int)], w, by go_simp, ?_⟩⟩
   refine (reftype_any k w).mono ?_
   rintro e w2 ⟨rfl, rfl⟩
   exact ⟨_, rfl, rfl, Below.refl _ _⟩
  ·intro ev w hc hf hg hfix hdep hbel
   have e2 : ev (.tmp 2) = _ := hfix 2 (by decide)
   exact okb trivial rfl (by go_simp)
  ·intro ev w hc hf hg hfix hdep hbel
   have e20 : ev (.tmp 20) = _ := hdep 4 (by decide)
   have d0 := (HL2.out.below (undrew hbel)).cell 0; have d4 := (HE2.out.below (undrew hbel)).cell 4
   simp only [List.getElem?_cons_succ, List.getElem?_cons_zero] at d0 d4
   exact okb trivial rfl (by go_simp)
  ·intro ev w hc hf hg hfix hdep hbel
   have e19 : ev (.tmp 19) = _ := hdep 3 (by decide)
   have e21 : ev (.tmp 21) = _ := hdep 5 (by decide)
   exact okb trivial rfl (by go_simp)
 ·intro v w3 hv hb2
  have r0 : v 0 = _ := hv 0 (by decide)
  have r1 : v 1 = _ := hv 1 (by decide)
  have r2 : v 2 = _ := hv 2 (by decide)
  have r3 : v 3 = _ := hv 3 (by decide)
  have r4 : v 4 = _ := hv 4 (by decide)
  have r5 : v 5 = _ := hv 5 (by decide)
  have r6 : v 6 = _ := hv 6 (by decide)
  simp only [Reg.putAll, Act.put, List.setIfInBounds_toArray, List.set_cons_zero, List.set_cons_succ, r0, r1, r2, r3, r4, r5, r6]
  clear r0 r1 r2 r3 r4 r5 r6 hv
  have HW4 := Lib.hid (HW3.out.trans (hb2.mono HW3.out.size))
  have hL1 := HL2.out.below hb2; have hE1 := HE2.out.below hb2; have hR1 := HR2.out.below hb2
  have HL3 := Lib.hid hL1; have HE3 := Lib.hid hE1; have HR3 := Lib.hid hR1
  clear hb2
  obtain ⟨d0, d1, d2, d3, d4, d5, d6, d7, d8⟩ := hL1.nine
  obtain ⟨f0, f1, f2, f3, f4, f5, f6, f7, f8⟩ := hL1.froz9
  obtain ⟨x0, x1, x2, x3, x4, x5, x6, x7, x8⟩ := hE1.nine
  obtain ⟨z0, z1, z2, z3, z4, z5, z6, z7, z8⟩ := hR1.nine
  obtain ⟨y0, y1, y2, y3, y4, y5, y6, y7, y8⟩ := hR1.froz9
  clear hL1 hE1 hR1
  have hkZ : (k : Int) = 3 := by have := HK.out; omega
  go_wp2_with fail
  refine (reftomb_any da dl dc r' i' s' ld _ (HD.out.below HW4.out) HDl.out).mono ?_
  rintro e w4 ⟨rfl, hb⟩
  rw [HHD.out]
  have HW5 := Lib.hid (HW4.out.trans (hb.mono HW4.out.size))
  have hL1 := HL3.out.below hb; have hE1 := HE3.out.below hb; have hR1 := HR3.out.below hb
  have HL4 := Lib.hid hL1; have HE4 := Lib.hid hE1; have HR4 := Lib.hid hR1
  clear hb
  clear d0 d1 d2 d3 d4 d5 d6 d7 d8 x0 x1 x2 x3 x4 x5 x6 x7 x8 z0 z1 z2 z3 z4 z5 z6 z7 z8 f0 f1 f2 f3 f4 f5 f6 f7 f8 y0 y1 y2 y3 y4 y5 y6 y7 y8
  obtain ⟨d0, d1, d2, d3, d4, d5, d6, d7, d8⟩ := hL1.nine
  obtain ⟨f0, f1, f2, f3, f4, f5, f6, f7, f8⟩ := hL1.froz9
  obtain ⟨x0, x1, x2, x3, x4, x5, x6, x7, x8⟩ := hE1.nine
  obtain ⟨z0, z1, z2, z3, z4, z5, z6, z7, z8⟩ := hR1.nine
  obtain ⟨y0, y1, y2, y3, y4, y5, y6, y7, y8⟩ := hR1.froz9
  clear hL1 hE1 hR1
  go_wp2_with fail
  refine (reflay_has ia il ic (0, ((r', i'), s'), t') li _ (HI.out.below HW5.out) HIl.out HZ.out (by omega) HHI.out).mono ?_
  rintro e w5 ⟨⟨a', c', rfl, hrow⟩, hb⟩
  have HRow := Lib.hid hrow
  clear hrow
  obtain ⟨nl, hnl⟩ : ∃ nl, nl = li.length := ⟨_, rfl⟩
  rw [show li.length = nl from hnl.symm]
  have HNl := Lib.hid hnl
  clear hnl
  have HW6 := Lib.hid (HW5.out.trans (hb.mono HW5.out.size))
  have hL1 := HL4.out.below hb; have hE1 := HE4.out.below hb; have hR1 := HR4.out.below hb
  have HL5 := Lib.hid hL1; have HE5 := Lib.hid hE1; have HR5 := Lib.hid hR1
  clear hb
  clear d0 d1 d2 d3 d4 d5 d6 d7 d8 x0 x1 x2 x3 x4 x5 x6 x7 x8 z0 z1 z2 z3 z4 z5 z6 z7 z8 f0 f1 f2 f3 f4 f5 f6 f7 f8 y0 y1 y2 y3 y4 y5 y6 y7 y8
  obtain ⟨d0, d1, d2, d3, d4, d5, d6, d7, d8⟩ := hL1.nine
  obtain ⟨f0, f1, f2, f3, f4, f5, f6, f7, f8⟩ := hL1.froz9
  obtain ⟨x0, x1, x2, x3, x4, x5, x6, x7, x8⟩ := hE1.nine
  obtain ⟨z0, z1, z2, z3, z4, z5, z6, z7, z8⟩ := hR1.nine
  obtain ⟨y0, y1, y2, y3, y4, y5, y6, y7, y8⟩ := hR1.froz9
  clear hL1 hE1 hR1
  go_wp2_with fail
  clear d0 d1 d2 d3 d4 d5 d6 d7 d8 x0 x1 x2 x3 x4 x5 x6 x7 x8 z0 z1 z2 z3 z4 z5 z6 z7 z8 f0 f1 f2 f3 f4 f5 f6 f7 f8 y0 y1 y2 y3 y4 y5 y6 y7 y8
  have hcL : Chg (fun k => k = W.heap.size) w5 (w5.setCell ⟨W.heap.size, 7, none⟩ (.slice a' nl c')) := (Chg.refl (fun k => k = W.heap.size) w5).set (Or.inr rfl) 7 _
  have hbV := Chg.belowTrans HW6.out hcL (fun k hk e => by have : k = W.heap.size := e; omega) HW6.out.size
  have e1 := HIl.out; have e2 := HDl.out
  subst e1 e2
  have e3 := HNl.out
  subst e3
  have hro := HRow.out
  have hcQ : Chg (fun k => k < w4.heap.size) w5 _ := hcL.mono (T := fun k => k < w4.heap.size) (fun k hk e => by have : k = W.heap.size := e; have := HR4.out.lt; omega)
  have hc9 := chg9 (w5.setCell ⟨W.heap.size, 7, none⟩ (.slice a' li.length c')) (W.heap.size + 1 + 1) (.int .u8 (kk : Int)) (.int .i64 n) (.int .u64 (t : Int)) (.int .u8 (r : Int)) (.int .u32 (i : Int)) (.int .u64 (s : Int)) (.string x) (.slice a' li.length c') (.slice da ld.length dc)
  have hfin := Chg.belowTrans (hbV) hc9 (fun k hk e => by have : k = W.heap.size + 1 + 1 := e; omega) (hbV).size
  have HFin := Lib.hid hfin
  refine bodyPost_ret (v := .tuple #[.agg #[.int .u8 (kk : Int), .int .i64 n, .int .u64 (t : Int), .int .u8 (r : Int), .int .u32 (i : Int), .int .u64 (s : Int), .string x, .slice a' li.length c', .slice da ld.length dc], .int .i64 0]) (res_leaf2 (b := W.heap.size + 1 + 1) Try.results10 (by simp) (by simp) (blk9 (HR5.out.chg hcL (fun e => by have : W.heap.size + 1 + 1 = W.heap.size := e; omega)) _ _ _ _ _ _ _ _ _)) rfl ⟨⟨a', c', da, dc, rfl, (fun w2 h2 => hro _ ((hcQ.trans (hc9.mono (T := fun k => k < w4.heap.size) (fun k hk e => by have : k = W.heap.size + 1 + 1 := e; have := HR4.out.lt; omega)) (fun _ _ e => e)).trans (h2.mono (T := fun k => k < w4.heap.size) (fun b _ e => by have := HKx.out b e; have := HR4.out.lt; omega)) (fun _ _ e => e))), keptK HdK.out HFin.out⟩, HFin.out⟩
set_option maxRecDepth 100000 in
set_option maxHeartbeats 12800000 in
theorem refapply_put2 (kk : Nat) (n : Int) (t r i s : Nat) (x : ByteArray) (ia : Option Addr) (il ic : Nat) (da : Option Addr) (dl dc : Nat) (li : List Lm.It) (ld : List Dt.Dot) (r' i' s' tm k : Nat) (pa : Option Addr) (pl pc : Nat) (n' : Int) (t' : ByteArray) (ea : Option Addr) (el ec : Nat) (p : List ByteArray) (d : List Dt.Dot) (W : World) (K : Nat → Prop) (hKx : ∀ b, K b → b < W.heap.size) (hiK : ∀ w2, Chg K W w2 → IRow w2 ia ic li) (hdK : ∀ w2, Chg K W w2 → VRow w2 da dc ld) (hi : IRow W ia ic li) (hil : li.length = il) (hd : VRow W da dc ld) (hdl : ld.length = dl) (hx : x.size ≤ 9223372036854775807) (hn : il ≤ 1000000) (hn2 : dl ≤ 1000000) (hk256 : k < 256) (hp : SRow W pa pc p) (hpl : p.length = pl) (hed : VRow W ea ec d) (hel : d.length = el) (hmay : Lm.may ⟨kk, n, t, ((r, i), s), x, li, ld⟩ = true) (hev : Om.mayEvent ⟨((r', i'), s'), tm, ⟨k, p, n', t', d⟩⟩ = true) (hty : Om.type k = kk) (hk : k = 3) (hhd : Lm.hasD ld ((r', i'), s') = false) (hz : okI (0, ((r', i'), s'), t')) (hhi : Lm.hasI li ((r', i'), s') = false) :
  Calls Try.prog 10 #[leafV kk n t r i s x ia il ic da dl dc, evV r' i' s' tm k pa pl pc n' t' ea el ec] W fun e w' => REK K w' ⟨kk, n, t, ((r, i), s), x, Lm.lay li (0, ((r', i'), s'), t'), ld⟩ 0 e ∧ Below W.heap.size W w' := by
 have HKx := Lib.hid hKx; have HiK := Lib.hid hiK; have HdK := Lib.hid hdK
 clear hKx hiK hdK
 have HMe := Lib.hid hev
 have hneq : (Om.type k : Int) = (kk : Int) := by omega
 have HHi := Lib.hid hi; have HHd := Lib.hid hd; have HK := Lib.hid hk; have HHD := Lib.hid hhd; have HHI := Lib.hid hhi; have HZ := Lib.hid hz
 clear hev hk hhd hhi hz
 obtain ⟨hB1, hL0, hE0, hR0⟩ := boxes3 W [.int .u8 (kk : Int), .int .i64 n, .int .u64 (t : Int), .int .u8 (r : Int), .int .u32 (i : Int), .int .u64 (s : Int), .string x, .slice ia il ic, .slice da dl dc] [.int .u8 (r' : Int), .int .u32 (i' : Int), .int .u64 (s' : Int), .int .u64 (tm : Int), .int .u8 (k : Int), .slice pa pl pc, .int .i64 n', .string t', .slice ea el ec] [.int .u8 0, .int .i64 0, .int .u64 0, .int .u8 0, .int .u32 0, .int .u64 0, .string ⟨#[]⟩, .slice none 0 0, .slice none 0 0] 40 37 40
 have HB1 := Lib.hid hB1; have HL0 := Lib.hid hL0; have HE0 := Lib.hid hE0; have HR0 := Lib.hid hR0
 have HI := Lib.hid hi; have HIl := Lib.hid hil; have HD := Lib.hid hd; have HDl := Lib.hid hdl; have HP := Lib.hid hp; have HPl := Lib.hid hpl; have HED := Lib.hid hed; have HEl := Lib.hid hel
 obtain ⟨a0, a1, a2, a3, a4, a5, a6, a7, a8⟩ := hL0.nine
 clear hB1 hL0 hE0 hR0 hi hil hd hdl hp hpl hed hel
 go_enter Try.func10, Try.ntmps10
 go_wp2_with fail
 refine (refmay05_any kk n t r i s x ia il ic da dl dc li ld _ (HI.out.below HB1.out) HIl.out (HD.out.below HB1.out) HDl.out hx (by omega) (by omega)).mono ?_
 rintro e w1 ⟨rfl, hb⟩
 rw [hmay]
 have HB2 := Lib.hid hb
 have HW2 := Lib.hid (HB1.out.trans (hb.mono HB1.out.size))
 have hL1 := HL0.out.below hb; have hE1 := HE0.out.below hb; have hR1 := HR0.out.below hb
 have HL1 := Lib.hid hL1; have HE1 := Lib.hid hE1; have HR1 := Lib.hid hR1
 clear a0 a1 a2 a3 a4 a5 a6 a7 a8 hb
 obtain ⟨x0, x1, x2, x3, x4, x5, x6, x7, x8⟩ := hE1.nine
 clear hL1 hE1 hR1
 go_wp2_with fail
 refine (refmayEvent_any r' i' s' tm k hk256 pa pl pc n' t' ea el ec p d _ (HP.out.below HW2.out) HPl.out (HED.out.below HW2.out) HEl.out).mono ?_
 rintro e w2 ⟨rfl, hb⟩
 rw [HMe.out]
 have HW3 := Lib.hid (HW2.out.trans (hb.mono HW2.out.size))
 have hL1 := HL1.out.below hb; have hE1 := HE1.out.below hb; have hR1 := HR1.out.below hb
 have HL2 := Lib.hid hL1; have HE2 := Lib.hid hE1; have HR2 := Lib.hid hR1
 clear x0 x1 x2 x3 x4 x5 x6 x7 x8 hb
 clear hL1 hE1 hR1
 go_wp2_with fail
 refine Reg.region_list (by kernel_rfl) [fun v _ => v = .pointer (some ⟨W.heap.size + 1, 4, none⟩), fun v _ => v = .pointer (some ⟨W.heap.size + 1, 4, none⟩), fun v _ => v = .int .u8 (k : Int), fun v _ => v = .int .u8 (Om.type k : Nat), fun v _ => v = .pointer (some ⟨W.heap.size, 0, none⟩), fun v _ => v = .int .u8 (kk : Int), fun v _ => v = .bool false] (by kernel_rfl) ?_ ?_ ?_
 ·refine ⟨k4, k4, k4, k4, k4, k4, k4, trivial⟩
 ·refine ⟨?_, ?_, ?_, ?_, ?_, ?_, ?_, trivial⟩
  ·intro ev w hc hf hg hfix hdep hbel
   have e3 : ev (.tmp 3) = _ := hfix 3 (by decide)
   exact okb trivial rfl (by go_simp)
  ·intro ev w hc hf hg hfix hdep hbel
   have e16 : ev (.tmp 16) = _ := hdep 0 (by decide)
   exact okb trivial rfl (by go_simp)
  ·intro ev w hc hf hg hfix hdep hbel
   have e17 : ev (.tmp 17) = _ := hdep 1 (by decide)
   have d0 := (HL2.out.below (undrew hbel)).cell 0; have d4 := (HE2.out.below (undrew hbel)).cell 4
   simp only [List.getElem?_cons_succ, List.getElem?_cons_zero] at d0 d4
   exact okb trivial rfl (by go_simp)
  ·intro ev w hc hf hg hfix hdep hbel
   have e18 : ev (.tmp 18) = _ := hdep 2 (by decide)
   refine Or.inl ⟨trivial, Or.inr ⟨15, #[.int .u8 (k : Int)], w, by go_simp, ?_⟩⟩
   refine (reftype_any k w).mono ?_
   rintro e w2 ⟨rfl, rfl⟩
   exact ⟨_, rfl, rfl, Below.refl _ _⟩
  ·intro ev w hc hf hg hfix hdep hbel
   have e2 : ev (.tmp 2) = _ := hfix 2 (by decide)
   exact okb trivial rfl (by go_simp)
  ·intro ev w hc hf hg hfix hdep hbel
   have e20 : ev (.tmp 20) = _ := hdep 4 (by decide)
   have d0 := (HL2.out.below (undrew hbel)).cell 0; have d4 := (HE2.out.below (undrew hbel)).cell 4
   simp only [List.getElem?_cons_succ, List.getElem?_cons_zero] at d0 d4
   exact okb trivial rfl (by go_simp)
  ·intro ev w hc hf hg hfix hdep hbel
   have e19 : ev (.tmp 19) = _ := hdep 3 (by decide)
   have e21 : ev (.tmp 21) = _ := hdep 5 (by decide)
   exact okb trivial rfl (by go_simp)
 ·intro v w3 hv hb2
  have r0 : v 0 = _ := hv 0 (by decide)
  have r1 : v 1 = _ := hv 1 (by decide)
  have r2 : v 2 = _ := hv 2 (by decide)
  have r3 : v 3 = _ := hv 3 (by decide)
  have r4 : v 4 = _ := hv 4 (by decide)
  have r5 : v 5 = _ := hv 5 (by decide)
  have r6 : v 6 = _ := hv 6 (by decide)
  simp only [Reg.putAll, Act.put, List.setIfInBounds_toArray, List.set_cons_zero, List.set_cons_succ, r0, r1, r2, r3, r4, r5, r6]
  clear r0 r1 r2 r3 r4 r5 r6 hv
  have HW4 := Lib.hid (HW3.out.trans (hb2.mono HW3.out.size))
  have hL1 := HL2.out.below hb2; have hE1 := HE2.out.below hb2; have hR1 := HR2.out.below hb2
  have HL3 := Lib.hid hL1; have HE3 := Lib.hid hE1; have HR3 := Lib.hid hR1
  clear hb2
  obtain ⟨d0, d1, d2, d3, d4, d5, d6, d7, d8⟩ := hL1.nine
  obtain ⟨f0, f1, f2, f3, f4, f5, f6, f7, f8⟩ := hL1.froz9
  obtain ⟨x0, x1, x2, x3, x4, x5, x6, x7, x8⟩ := hE1.nine
  obtain ⟨z0, z1, z2, z3, z4, z5, z6, z7, z8⟩ := hR1.nine
  obtain ⟨y0, y1, y2, y3, y4, y5, y6, y7, y8⟩ := hR1.froz9
  clear hL1 hE1 hR1
  have hkZ : (k : Int) = 3 := by have := HK.out; omega
  go_wp2_with fail
  refine (reftomb_any da dl dc r' i' s' ld _ (HD.out.below HW4.out) HDl.out).mono ?_
  rintro e w4 ⟨rfl, hb⟩
  rw [HHD.out]
  have HW5 := Lib.hid (HW4.out.trans (hb.mono HW4.out.size))
  have hL1 := HL3.out.below hb; have hE1 := HE3.out.below hb; have hR1 := HR3.out.below hb
  have HL4 := Lib.hid hL1; have HE4 := Lib.hid hE1; have HR4 := Lib.hid hR1
  clear hb
  clear d0 d1 d2 d3 d4 d5 d6 d7 d8 x0 x1 x2 x3 x4 x5 x6 x7 x8 z0 z1 z2 z3 z4 z5 z6 z7 z8 f0 f1 f2 f3 f4 f5 f6 f7 f8 y0 y1 y2 y3 y4 y5 y6 y7 y8
  obtain ⟨d0, d1, d2, d3, d4, d5, d6, d7, d8⟩ := hL1.nine
  obtain ⟨f0, f1, f2, f3, f4, f5, f6, f7, f8⟩ := hL1.froz9
  obtain ⟨x0, x1, x2, x3, x4, x5, x6, x7, x8⟩ := hE1.nine
  obtain ⟨z0, z1, z2, z3, z4, z5, z6, z7, z8⟩ := hR1.nine
  obtain ⟨y0, y1, y2, y3, y4, y5, y6, y7, y8⟩ := hR1.froz9
  clear hL1 hE1 hR1
  go_wp2_with fail
  refine (reflay_not ia il ic (0, ((r', i'), s'), t') li _ (HI.out.below HW5.out) HIl.out HZ.out (by omega) HHI.out).mono ?_
  rintro e w5 ⟨⟨a', c', rfl, hrow⟩, hb⟩
  have HRow := Lib.hid hrow
  clear hrow
  change Hid (IRowS w4.heap.size w5 a' c' (Lm.lay li (0, ((r', i'), s'), t'))) at HRow
  obtain ⟨nl, hnl⟩ : ∃ nl, nl = (Lm.lay li (0, ((r', i'), s'), t')).length := ⟨_, rfl⟩
  rw [show (List.takeWhile (fun y => Lm.aheadI y (0, ((r', i'), s'), t')) li ++ (0, ((r', i'), s'), t') :: List.dropWhile (fun y => Lm.aheadI y (0, ((r', i'), s'), t')) li).length = nl from hnl.symm]
  have HNl := Lib.hid hnl
  clear hnl
  have HW6 := Lib.hid (HW5.out.trans (hb.mono HW5.out.size))
  have hL1 := HL4.out.below hb; have hE1 := HE4.out.below hb; have hR1 := HR4.out.below hb
  have HL5 := Lib.hid hL1; have HE5 := Lib.hid hE1; have HR5 := Lib.hid hR1
  clear hb
  clear d0 d1 d2 d3 d4 d5 d6 d7 d8 x0 x1 x2 x3 x4 x5 x6 x7 x8 z0 z1 z2 z3 z4 z5 z6 z7 z8 f0 f1 f2 f3 f4 f5 f6 f7 f8 y0 y1 y2 y3 y4 y5 y6 y7 y8
  obtain ⟨d0, d1, d2, d3, d4, d5, d6, d7, d8⟩ := hL1.nine
  obtain ⟨f0, f1, f2, f3, f4, f5, f6, f7, f8⟩ := hL1.froz9
  obtain ⟨x0, x1, x2, x3, x4, x5, x6, x7, x8⟩ := hE1.nine
  obtain ⟨z0, z1, z2, z3, z4, z5, z6, z7, z8⟩ := hR1.nine
  obtain ⟨y0, y1, y2, y3, y4, y5, y6, y7, y8⟩ := hR1.froz9
  clear hL1 hE1 hR1
  go_wp2_with fail
  clear d0 d1 d2 d3 d4 d5 d6 d7 d8 x0 x1 x2 x3 x4 x5 x6 x7 x8 z0 z1 z2 z3 z4 z5 z6 z7 z8 f0 f1 f2 f3 f4 f5 f6 f7 f8 y0 y1 y2 y3 y4 y5 y6 y7 y8
  have hcL : Chg (fun k => k = W.heap.size) w5 (w5.setCell ⟨W.heap.size, 7, none⟩ (.slice a' nl c')) := (Chg.refl (fun k => k = W.heap.size) w5).set (Or.inr rfl) 7 _
  have hbV := Chg.belowTrans HW6.out hcL (fun k hk e => by have : k = W.heap.size := e; omega) HW6.out.size
  have e1 := HIl.out; have e2 := HDl.out
  subst e1 e2
  have e3 := HNl.out
  subst e3
  have hro := HRow.out
  have hcQ : Chg (fun k => k < w4.heap.size) w5 _ := hcL.mono (T := fun k => k < w4.heap.size) (fun k hk e => by have : k = W.heap.size := e; have := HR4.out.lt; omega)
  have hc9 := chg9 (w5.setCell ⟨W.heap.size, 7, none⟩ (.slice a' (Lm.lay li (0, ((r', i'), s'), t')).length c')) (W.heap.size + 1 + 1) (.int .u8 (kk : Int)) (.int .i64 n) (.int .u64 (t : Int)) (.int .u8 (r : Int)) (.int .u32 (i : Int)) (.int .u64 (s : Int)) (.string x) (.slice a' (Lm.lay li (0, ((r', i'), s'), t')).length c') (.slice da ld.length dc)
  have hfin := Chg.belowTrans (hbV) hc9 (fun k hk e => by have : k = W.heap.size + 1 + 1 := e; omega) (hbV).size
  have HFin := Lib.hid hfin
  refine bodyPost_ret (v := .tuple #[.agg #[.int .u8 (kk : Int), .int .i64 n, .int .u64 (t : Int), .int .u8 (r : Int), .int .u32 (i : Int), .int .u64 (s : Int), .string x, .slice a' (Lm.lay li (0, ((r', i'), s'), t')).length c', .slice da ld.length dc], .int .i64 0]) (res_leaf2 (b := W.heap.size + 1 + 1) Try.results10 (by simp) (by simp) (blk9 (HR5.out.chg hcL (fun e => by have : W.heap.size + 1 + 1 = W.heap.size := e; omega)) _ _ _ _ _ _ _ _ _)) rfl ⟨⟨a', c', da, dc, rfl, (fun w2 h2 => hro _ ((hcQ.trans (hc9.mono (T := fun k => k < w4.heap.size) (fun k hk e => by have : k = W.heap.size + 1 + 1 := e; have := HR4.out.lt; omega)) (fun _ _ e => e)).trans (h2.mono (T := fun k => k < w4.heap.size) (fun b _ e => by have := HKx.out b e; have := HR4.out.lt; omega)) (fun _ _ e => e))), keptK HdK.out HFin.out⟩, HFin.out⟩
set_option maxRecDepth 100000 in
set_option maxHeartbeats 12800000 in
theorem refapply_say1 (kk : Nat) (n : Int) (t r i s : Nat) (x : ByteArray) (ia : Option Addr) (il ic : Nat) (da : Option Addr) (dl dc : Nat) (li : List Lm.It) (ld : List Dt.Dot) (r' i' s' tm k : Nat) (pa : Option Addr) (pl pc : Nat) (n' : Int) (t' : ByteArray) (ea : Option Addr) (el ec : Nat) (p : List ByteArray) (d : List Dt.Dot) (W : World) (K : Nat → Prop) (hKx : ∀ b, K b → b < W.heap.size) (hiK : ∀ w2, Chg K W w2 → IRow w2 ia ic li) (hdK : ∀ w2, Chg K W w2 → VRow w2 da dc ld) (hi : IRow W ia ic li) (hil : li.length = il) (hd : VRow W da dc ld) (hdl : ld.length = dl) (hx : x.size ≤ 9223372036854775807) (hn : il ≤ 1000000) (hn2 : dl ≤ 1000000) (hk256 : k < 256) (hp : SRow W pa pc p) (hpl : p.length = pl) (hed : VRow W ea ec d) (hel : d.length = el) (hmay : Lm.may ⟨kk, n, t, ((r, i), s), x, li, ld⟩ = true) (hev : Om.mayEvent ⟨((r', i'), s'), tm, ⟨k, p, n', t', d⟩⟩ = true) (hty : Om.type k = kk) (hk : k = 5) (hz : okI (tm, ((r', i'), s'), t')) (hhi : Lm.hasI li ((r', i'), s') = true) :
  Calls Try.prog 10 #[leafV kk n t r i s x ia il ic da dl dc, evV r' i' s' tm k pa pl pc n' t' ea el ec] W fun e w' => REK K w' ⟨kk, n, t, ((r, i), s), x, li, ld⟩ 0 e ∧ Below W.heap.size W w' := by
 have HKx := Lib.hid hKx; have HiK := Lib.hid hiK; have HdK := Lib.hid hdK
 clear hKx hiK hdK
 have HMe := Lib.hid hev
 have hneq : (Om.type k : Int) = (kk : Int) := by omega
 have HHi := Lib.hid hi; have HHd := Lib.hid hd; have HK := Lib.hid hk; have HHI := Lib.hid hhi; have HZ := Lib.hid hz
 clear hev hk hhi hz
 obtain ⟨hB1, hL0, hE0, hR0⟩ := boxes3 W [.int .u8 (kk : Int), .int .i64 n, .int .u64 (t : Int), .int .u8 (r : Int), .int .u32 (i : Int), .int .u64 (s : Int), .string x, .slice ia il ic, .slice da dl dc] [.int .u8 (r' : Int), .int .u32 (i' : Int), .int .u64 (s' : Int), .int .u64 (tm : Int), .int .u8 (k : Int), .slice pa pl pc, .int .i64 n', .string t', .slice ea el ec] [.int .u8 0, .int .i64 0, .int .u64 0, .int .u8 0, .int .u32 0, .int .u64 0, .string ⟨#[]⟩, .slice none 0 0, .slice none 0 0] 40 37 40
 have HB1 := Lib.hid hB1; have HL0 := Lib.hid hL0; have HE0 := Lib.hid hE0; have HR0 := Lib.hid hR0
 have HI := Lib.hid hi; have HIl := Lib.hid hil; have HD := Lib.hid hd; have HDl := Lib.hid hdl; have HP := Lib.hid hp; have HPl := Lib.hid hpl; have HED := Lib.hid hed; have HEl := Lib.hid hel
 obtain ⟨a0, a1, a2, a3, a4, a5, a6, a7, a8⟩ := hL0.nine
 clear hB1 hL0 hE0 hR0 hi hil hd hdl hp hpl hed hel
 go_enter Try.func10, Try.ntmps10
 go_wp2_with fail
 refine (refmay05_any kk n t r i s x ia il ic da dl dc li ld _ (HI.out.below HB1.out) HIl.out (HD.out.below HB1.out) HDl.out hx (by omega) (by omega)).mono ?_
 rintro e w1 ⟨rfl, hb⟩
 rw [hmay]
 have HB2 := Lib.hid hb
 have HW2 := Lib.hid (HB1.out.trans (hb.mono HB1.out.size))
 have hL1 := HL0.out.below hb; have hE1 := HE0.out.below hb; have hR1 := HR0.out.below hb
 have HL1 := Lib.hid hL1; have HE1 := Lib.hid hE1; have HR1 := Lib.hid hR1
 clear a0 a1 a2 a3 a4 a5 a6 a7 a8 hb
 obtain ⟨x0, x1, x2, x3, x4, x5, x6, x7, x8⟩ := hE1.nine
 clear hL1 hE1 hR1
 go_wp2_with fail
 refine (refmayEvent_any r' i' s' tm k hk256 pa pl pc n' t' ea el ec p d _ (HP.out.below HW2.out) HPl.out (HED.out.below HW2.out) HEl.out).mono ?_
 rintro e w2 ⟨rfl, hb⟩
 rw [HMe.out]
 have HW3 := Lib.hid (HW2.out.trans (hb.mono HW2.out.size))
 have hL1 := HL1.out.below hb; have hE1 := HE1.out.below hb; have hR1 := HR1.out.below hb
 have HL2 := Lib.hid hL1; have HE2 := Lib.hid hE1; have HR2 := Lib.hid hR1
 clear x0 x1 x2 x3 x4 x5 x6 x7 x8 hb
 clear hL1 hE1 hR1
 go_wp2_with fail
 refine Reg.region_list (by kernel_rfl) [fun v _ => v = .pointer (some ⟨W.heap.size + 1, 4, none⟩), fun v _ => v = .pointer (some ⟨W.heap.size + 1, 4, none⟩), fun v _ => v = .int .u8 (k : Int), fun v _ => v = .int .u8 (Om.type k : Nat), fun v _ => v = .pointer (some ⟨W.heap.size, 0, none⟩), fun v _ => v = .int .u8 (kk : Int), fun v _ => v = .bool false] (by kernel_rfl) ?_ ?_ ?_
 ·refine ⟨k4, k4, k4, k4, k4, k4, k4, trivial⟩
 ·refine ⟨?_, ?_, ?_, ?_, ?_, ?_, ?_, trivial⟩
  ·intro ev w hc hf hg hfix hdep hbel
   have e3 : ev (.tmp 3) = _ := hfix 3 (by decide)
   exact okb trivial rfl (by go_simp)
  ·intro ev w hc hf hg hfix hdep hbel
   have e16 : ev (.tmp 16) = _ := hdep 0 (by decide)
   exact okb trivial rfl (by go_simp)
  ·intro ev w hc hf hg hfix hdep hbel
   have e17 : ev (.tmp 17) = _ := hdep 1 (by decide)
   have d0 := (HL2.out.below (undrew hbel)).cell 0; have d4 := (HE2.out.below (undrew hbel)).cell 4
   simp only [List.getElem?_cons_succ, List.getElem?_cons_zero] at d0 d4
   exact okb trivial rfl (by go_simp)
  ·intro ev w hc hf hg hfix hdep hbel
   have e18 : ev (.tmp 18) = _ := hdep 2 (by decide)
   refine Or.inl ⟨trivial, Or.inr ⟨15, #[.int .u8 (k : Int)], w, by go_simp, ?_⟩⟩
   refine (reftype_any k w).mono ?_
   rintro e w2 ⟨rfl, rfl⟩
   exact ⟨_, rfl, rfl, Below.refl _ _⟩
  ·intro ev w hc hf hg hfix hdep hbel
   have e2 : ev (.tmp 2) = _ := hfix 2 (by decide)
   exact okb trivial rfl (by go_simp)
  ·intro ev w hc hf hg hfix hdep hbel
   have e20 : ev (.tmp 20) = _ := hdep 4 (by decide)
   have d0 := (HL2.out.below (undrew hbel)).cell 0; have d4 := (HE2.out.below (undrew hbel)).cell 4
   simp only [List.getElem?_cons_succ, List.getElem?_cons_zero] at d0 d4
   exact okb trivial rfl (by go_simp)
  ·intro ev w hc hf hg hfix hdep hbel
   have e19 : ev (.tmp 19) = _ := hdep 3 (by decide)
   have e21 : ev (.tmp 21) = _ := hdep 5 (by decide)
   exact okb trivial rfl (by go_simp)
 ·intro v w3 hv hb2
  have r0 : v 0 = _ := hv 0 (by decide)
  have r1 : v 1 = _ := hv 1 (by decide)
  have r2 : v 2 = _ := hv 2 (by decide)
  have r3 : v 3 = _ := hv 3 (by decide)
  have r4 : v 4 = _ := hv 4 (by decide)
  have r5 : v 5 = _ := hv 5 (by decide)
  have r6 : v 6 = _ := hv 6 (by decide)
  simp only [Reg.putAll, Act.put, List.setIfInBounds_toArray, List.set_cons_zero, List.set_cons_succ, r0, r1, r2, r3, r4, r5, r6]
  clear r0 r1 r2 r3 r4 r5 r6 hv
  have HW4 := Lib.hid (HW3.out.trans (hb2.mono HW3.out.size))
  have hL1 := HL2.out.below hb2; have hE1 := HE2.out.below hb2; have hR1 := HR2.out.below hb2
  have HL3 := Lib.hid hL1; have HE3 := Lib.hid hE1; have HR3 := Lib.hid hR1
  clear hb2
  obtain ⟨d0, d1, d2, d3, d4, d5, d6, d7, d8⟩ := hL1.nine
  obtain ⟨f0, f1, f2, f3, f4, f5, f6, f7, f8⟩ := hL1.froz9
  obtain ⟨x0, x1, x2, x3, x4, x5, x6, x7, x8⟩ := hE1.nine
  obtain ⟨z0, z1, z2, z3, z4, z5, z6, z7, z8⟩ := hR1.nine
  obtain ⟨y0, y1, y2, y3, y4, y5, y6, y7, y8⟩ := hR1.froz9
  clear hL1 hE1 hR1
  have hkZ : (k : Int) = 5 := by have := HK.out; omega
  go_wp2_with fail
  refine (reflay_has ia il ic (tm, ((r', i'), s'), t') li _ (HI.out.below HW4.out) HIl.out HZ.out (by omega) HHI.out).mono ?_
  rintro e w4 ⟨⟨a', c', rfl, hrow⟩, hb⟩
  have HRow := Lib.hid hrow
  clear hrow
  obtain ⟨nl, hnl⟩ : ∃ nl, nl = li.length := ⟨_, rfl⟩
  rw [show li.length = nl from hnl.symm]
  have HNl := Lib.hid hnl
  clear hnl
  have HW5 := Lib.hid (HW4.out.trans (hb.mono HW4.out.size))
  have hL1 := HL3.out.below hb; have hE1 := HE3.out.below hb; have hR1 := HR3.out.below hb
  have HL4 := Lib.hid hL1; have HE4 := Lib.hid hE1; have HR4 := Lib.hid hR1
  clear hb
  clear d0 d1 d2 d3 d4 d5 d6 d7 d8 x0 x1 x2 x3 x4 x5 x6 x7 x8 z0 z1 z2 z3 z4 z5 z6 z7 z8 f0 f1 f2 f3 f4 f5 f6 f7 f8 y0 y1 y2 y3 y4 y5 y6 y7 y8
  obtain ⟨d0, d1, d2, d3, d4, d5, d6, d7, d8⟩ := hL1.nine
  obtain ⟨f0, f1, f2, f3, f4, f5, f6, f7, f8⟩ := hL1.froz9
  obtain ⟨x0, x1, x2, x3, x4, x5, x6, x7, x8⟩ := hE1.nine
  obtain ⟨z0, z1, z2, z3, z4, z5, z6, z7, z8⟩ := hR1.nine
  obtain ⟨y0, y1, y2, y3, y4, y5, y6, y7, y8⟩ := hR1.froz9
  clear hL1 hE1 hR1
  go_wp2_with fail
  clear d0 d1 d2 d3 d4 d5 d6 d7 d8 x0 x1 x2 x3 x4 x5 x6 x7 x8 z0 z1 z2 z3 z4 z5 z6 z7 z8 f0 f1 f2 f3 f4 f5 f6 f7 f8 y0 y1 y2 y3 y4 y5 y6 y7 y8
  have hcL : Chg (fun k => k = W.heap.size) w4 (w4.setCell ⟨W.heap.size, 7, none⟩ (.slice a' nl c')) := (Chg.refl (fun k => k = W.heap.size) w4).set (Or.inr rfl) 7 _
  have hbV := Chg.belowTrans HW5.out hcL (fun k hk e => by have : k = W.heap.size := e; omega) HW5.out.size
  have e1 := HIl.out; have e2 := HDl.out
  subst e1 e2
  have e3 := HNl.out
  subst e3
  have hro := HRow.out
  have hcQ : Chg (fun k => k < w3.heap.size) w4 _ := hcL.mono (T := fun k => k < w3.heap.size) (fun k hk e => by have : k = W.heap.size := e; have := HR3.out.lt; omega)
  have hc9 := chg9 (w4.setCell ⟨W.heap.size, 7, none⟩ (.slice a' li.length c')) (W.heap.size + 1 + 1) (.int .u8 (kk : Int)) (.int .i64 n) (.int .u64 (t : Int)) (.int .u8 (r : Int)) (.int .u32 (i : Int)) (.int .u64 (s : Int)) (.string x) (.slice a' li.length c') (.slice da ld.length dc)
  have hfin := Chg.belowTrans (hbV) hc9 (fun k hk e => by have : k = W.heap.size + 1 + 1 := e; omega) (hbV).size
  have HFin := Lib.hid hfin
  refine bodyPost_ret (v := .tuple #[.agg #[.int .u8 (kk : Int), .int .i64 n, .int .u64 (t : Int), .int .u8 (r : Int), .int .u32 (i : Int), .int .u64 (s : Int), .string x, .slice a' li.length c', .slice da ld.length dc], .int .i64 0]) (res_leaf2 (b := W.heap.size + 1 + 1) Try.results10 (by simp) (by simp) (blk9 (HR4.out.chg hcL (fun e => by have : W.heap.size + 1 + 1 = W.heap.size := e; omega)) _ _ _ _ _ _ _ _ _)) rfl ⟨⟨a', c', da, dc, rfl, (fun w2 h2 => hro _ ((hcQ.trans (hc9.mono (T := fun k => k < w3.heap.size) (fun k hk e => by have : k = W.heap.size + 1 + 1 := e; have := HR3.out.lt; omega)) (fun _ _ e => e)).trans (h2.mono (T := fun k => k < w3.heap.size) (fun b _ e => by have := HKx.out b e; have := HR3.out.lt; omega)) (fun _ _ e => e))), keptK HdK.out HFin.out⟩, HFin.out⟩
set_option maxRecDepth 100000 in
set_option maxHeartbeats 12800000 in
theorem refapply_say2 (kk : Nat) (n : Int) (t r i s : Nat) (x : ByteArray) (ia : Option Addr) (il ic : Nat) (da : Option Addr) (dl dc : Nat) (li : List Lm.It) (ld : List Dt.Dot) (r' i' s' tm k : Nat) (pa : Option Addr) (pl pc : Nat) (n' : Int) (t' : ByteArray) (ea : Option Addr) (el ec : Nat) (p : List ByteArray) (d : List Dt.Dot) (W : World) (K : Nat → Prop) (hKx : ∀ b, K b → b < W.heap.size) (hiK : ∀ w2, Chg K W w2 → IRow w2 ia ic li) (hdK : ∀ w2, Chg K W w2 → VRow w2 da dc ld) (hi : IRow W ia ic li) (hil : li.length = il) (hd : VRow W da dc ld) (hdl : ld.length = dl) (hx : x.size ≤ 9223372036854775807) (hn : il ≤ 1000000) (hn2 : dl ≤ 1000000) (hk256 : k < 256) (hp : SRow W pa pc p) (hpl : p.length = pl) (hed : VRow W ea ec d) (hel : d.length = el) (hmay : Lm.may ⟨kk, n, t, ((r, i), s), x, li, ld⟩ = true) (hev : Om.mayEvent ⟨((r', i'), s'), tm, ⟨k, p, n', t', d⟩⟩ = true) (hty : Om.type k = kk) (hk : k = 5) (hz : okI (tm, ((r', i'), s'), t')) (hhi : Lm.hasI li ((r', i'), s') = false) :
  Calls Try.prog 10 #[leafV kk n t r i s x ia il ic da dl dc, evV r' i' s' tm k pa pl pc n' t' ea el ec] W fun e w' => REK K w' ⟨kk, n, t, ((r, i), s), x, Lm.lay li (tm, ((r', i'), s'), t'), ld⟩ 0 e ∧ Below W.heap.size W w' := by
 have HKx := Lib.hid hKx; have HiK := Lib.hid hiK; have HdK := Lib.hid hdK
 clear hKx hiK hdK
 have HMe := Lib.hid hev
 have hneq : (Om.type k : Int) = (kk : Int) := by omega
 have HHi := Lib.hid hi; have HHd := Lib.hid hd; have HK := Lib.hid hk; have HHI := Lib.hid hhi; have HZ := Lib.hid hz
 clear hev hk hhi hz
 obtain ⟨hB1, hL0, hE0, hR0⟩ := boxes3 W [.int .u8 (kk : Int), .int .i64 n, .int .u64 (t : Int), .int .u8 (r : Int), .int .u32 (i : Int), .int .u64 (s : Int), .string x, .slice ia il ic, .slice da dl dc] [.int .u8 (r' : Int), .int .u32 (i' : Int), .int .u64 (s' : Int), .int .u64 (tm : Int), .int .u8 (k : Int), .slice pa pl pc, .int .i64 n', .string t', .slice ea el ec] [.int .u8 0, .int .i64 0, .int .u64 0, .int .u8 0, .int .u32 0, .int .u64 0, .string ⟨#[]⟩, .slice none 0 0, .slice none 0 0] 40 37 40
 have HB1 := Lib.hid hB1; have HL0 := Lib.hid hL0; have HE0 := Lib.hid hE0; have HR0 := Lib.hid hR0
 have HI := Lib.hid hi; have HIl := Lib.hid hil; have HD := Lib.hid hd; have HDl := Lib.hid hdl; have HP := Lib.hid hp; have HPl := Lib.hid hpl; have HED := Lib.hid hed; have HEl := Lib.hid hel
 obtain ⟨a0, a1, a2, a3, a4, a5, a6, a7, a8⟩ := hL0.nine
 clear hB1 hL0 hE0 hR0 hi hil hd hdl hp hpl hed hel
 go_enter Try.func10, Try.ntmps10
 go_wp2_with fail
 refine (refmay05_any kk n t r i s x ia il ic da dl dc li ld _ (HI.out.below HB1.out) HIl.out (HD.out.below HB1.out) HDl.out hx (by omega) (by omega)).mono ?_
 rintro e w1 ⟨rfl, hb⟩
 rw [hmay]
 have HB2 := Lib.hid hb
 have HW2 := Lib.hid (HB1.out.trans (hb.mono HB1.out.size))
 have hL1 := HL0.out.below hb; have hE1 := HE0.out.below hb; have hR1 := HR0.out.below hb
 have HL1 := Lib.hid hL1; have HE1 := Lib.hid hE1; have HR1 := Lib.hid hR1
 clear a0 a1 a2 a3 a4 a5 a6 a7 a8 hb
 obtain ⟨x0, x1, x2, x3, x4, x5, x6, x7, x8⟩ := hE1.nine
 clear hL1 hE1 hR1
 go_wp2_with fail
 refine (refmayEvent_any r' i' s' tm k hk256 pa pl pc n' t' ea el ec p d _ (HP.out.below HW2.out) HPl.out (HED.out.below HW2.out) HEl.out).mono ?_
 rintro e w2 ⟨rfl, hb⟩
 rw [HMe.out]
 have HW3 := Lib.hid (HW2.out.trans (hb.mono HW2.out.size))
 have hL1 := HL1.out.below hb; have hE1 := HE1.out.below hb; have hR1 := HR1.out.below hb
 have HL2 := Lib.hid hL1; have HE2 := Lib.hid hE1; have HR2 := Lib.hid hR1
 clear x0 x1 x2 x3 x4 x5 x6 x7 x8 hb
 clear hL1 hE1 hR1
 go_wp2_with fail
 refine Reg.region_list (by kernel_rfl) [fun v _ => v = .pointer (some ⟨W.heap.size + 1, 4, none⟩), fun v _ => v = .pointer (some ⟨W.heap.size + 1, 4, none⟩), fun v _ => v = .int .u8 (k : Int), fun v _ => v = .int .u8 (Om.type k : Nat), fun v _ => v = .pointer (some ⟨W.heap.size, 0, none⟩), fun v _ => v = .int .u8 (kk : Int), fun v _ => v = .bool false] (by kernel_rfl) ?_ ?_ ?_
 ·refine ⟨k4, k4, k4, k4, k4, k4, k4, trivial⟩
 ·refine ⟨?_, ?_, ?_, ?_, ?_, ?_, ?_, trivial⟩
  ·intro ev w hc hf hg hfix hdep hbel
   have e3 : ev (.tmp 3) = _ := hfix 3 (by decide)
   exact okb trivial rfl (by go_simp)
  ·intro ev w hc hf hg hfix hdep hbel
   have e16 : ev (.tmp 16) = _ := hdep 0 (by decide)
   exact okb trivial rfl (by go_simp)
  ·intro ev w hc hf hg hfix hdep hbel
   have e17 : ev (.tmp 17) = _ := hdep 1 (by decide)
   have d0 := (HL2.out.below (undrew hbel)).cell 0; have d4 := (HE2.out.below (undrew hbel)).cell 4
   simp only [List.getElem?_cons_succ, List.getElem?_cons_zero] at d0 d4
   exact okb trivial rfl (by go_simp)
  ·intro ev w hc hf hg hfix hdep hbel
   have e18 : ev (.tmp 18) = _ := hdep 2 (by decide)
   refine Or.inl ⟨trivial, Or.inr ⟨15, #[.int .u8 (k : Int)], w, by go_simp, ?_⟩⟩
   refine (reftype_any k w).mono ?_
   rintro e w2 ⟨rfl, rfl⟩
   exact ⟨_, rfl, rfl, Below.refl _ _⟩
  ·intro ev w hc hf hg hfix hdep hbel
   have e2 : ev (.tmp 2) = _ := hfix 2 (by decide)
   exact okb trivial rfl (by go_simp)
  ·intro ev w hc hf hg hfix hdep hbel
   have e20 : ev (.tmp 20) = _ := hdep 4 (by decide)
   have d0 := (HL2.out.below (undrew hbel)).cell 0; have d4 := (HE2.out.below (undrew hbel)).cell 4
   simp only [List.getElem?_cons_succ, List.getElem?_cons_zero] at d0 d4
   exact okb trivial rfl (by go_simp)
  ·intro ev w hc hf hg hfix hdep hbel
   have e19 : ev (.tmp 19) = _ := hdep 3 (by decide)
   have e21 : ev (.tmp 21) = _ := hdep 5 (by decide)
   exact okb trivial rfl (by go_simp)
 ·intro v w3 hv hb2
  have r0 : v 0 = _ := hv 0 (by decide)
  have r1 : v 1 = _ := hv 1 (by decide)
  have r2 : v 2 = _ := hv 2 (by decide)
  have r3 : v 3 = _ := hv 3 (by decide)
  have r4 : v 4 = _ := hv 4 (by decide)
  have r5 : v 5 = _ := hv 5 (by decide)
  have r6 : v 6 = _ := hv 6 (by decide)
  simp only [Reg.putAll, Act.put, List.setIfInBounds_toArray, List.set_cons_zero, List.set_cons_succ, r0, r1, r2, r3, r4, r5, r6]
  clear r0 r1 r2 r3 r4 r5 r6 hv
  have HW4 := Lib.hid (HW3.out.trans (hb2.mono HW3.out.size))
  have hL1 := HL2.out.below hb2; have hE1 := HE2.out.below hb2; have hR1 := HR2.out.below hb2
  have HL3 := Lib.hid hL1; have HE3 := Lib.hid hE1; have HR3 := Lib.hid hR1
  clear hb2
  obtain ⟨d0, d1, d2, d3, d4, d5, d6, d7, d8⟩ := hL1.nine
  obtain ⟨f0, f1, f2, f3, f4, f5, f6, f7, f8⟩ := hL1.froz9
  obtain ⟨x0, x1, x2, x3, x4, x5, x6, x7, x8⟩ := hE1.nine
  obtain ⟨z0, z1, z2, z3, z4, z5, z6, z7, z8⟩ := hR1.nine
  obtain ⟨y0, y1, y2, y3, y4, y5, y6, y7, y8⟩ := hR1.froz9
  clear hL1 hE1 hR1
  have hkZ : (k : Int) = 5 := by have := HK.out; omega
  go_wp2_with fail
  refine (reflay_not ia il ic (tm, ((r', i'), s'), t') li _ (HI.out.below HW4.out) HIl.out HZ.out (by omega) HHI.out).mono ?_
  rintro e w4 ⟨⟨a', c', rfl, hrow⟩, hb⟩
  have HRow := Lib.hid hrow
  clear hrow
  change Hid (IRowS w3.heap.size w4 a' c' (Lm.lay li (tm, ((r', i'), s'), t'))) at HRow
  obtain ⟨nl, hnl⟩ : ∃ nl, nl = (Lm.lay li (tm, ((r', i'), s'), t')).length := ⟨_, rfl⟩
  rw [show (List.takeWhile (fun y => Lm.aheadI y (tm, ((r', i'), s'), t')) li ++ (tm, ((r', i'), s'), t') :: List.dropWhile (fun y => Lm.aheadI y (tm, ((r', i'), s'), t')) li).length = nl from hnl.symm]
  have HNl := Lib.hid hnl
  clear hnl
  have HW5 := Lib.hid (HW4.out.trans (hb.mono HW4.out.size))
  have hL1 := HL3.out.below hb; have hE1 := HE3.out.below hb; have hR1 := HR3.out.below hb
  have HL4 := Lib.hid hL1; have HE4 := Lib.hid hE1; have HR4 := Lib.hid hR1
  clear hb
  clear d0 d1 d2 d3 d4 d5 d6 d7 d8 x0 x1 x2 x3 x4 x5 x6 x7 x8 z0 z1 z2 z3 z4 z5 z6 z7 z8 f0 f1 f2 f3 f4 f5 f6 f7 f8 y0 y1 y2 y3 y4 y5 y6 y7 y8
  obtain ⟨d0, d1, d2, d3, d4, d5, d6, d7, d8⟩ := hL1.nine
  obtain ⟨f0, f1, f2, f3, f4, f5, f6, f7, f8⟩ := hL1.froz9
  obtain ⟨x0, x1, x2, x3, x4, x5, x6, x7, x8⟩ := hE1.nine
  obtain ⟨z0, z1, z2, z3, z4, z5, z6, z7, z8⟩ := hR1.nine
  obtain ⟨y0, y1, y2, y3, y4, y5, y6, y7, y8⟩ := hR1.froz9
  clear hL1 hE1 hR1
  go_wp2_with fail
  clear d0 d1 d2 d3 d4 d5 d6 d7 d8 x0 x1 x2 x3 x4 x5 x6 x7 x8 z0 z1 z2 z3 z4 z5 z6 z7 z8 f0 f1 f2 f3 f4 f5 f6 f7 f8 y0 y1 y2 y3 y4 y5 y6 y7 y8
  have hcL : Chg (fun k => k = W.heap.size) w4 (w4.setCell ⟨W.heap.size, 7, none⟩ (.slice a' nl c')) := (Chg.refl (fun k => k = W.heap.size) w4).set (Or.inr rfl) 7 _
  have hbV := Chg.belowTrans HW5.out hcL (fun k hk e => by have : k = W.heap.size := e; omega) HW5.out.size
  have e1 := HIl.out; have e2 := HDl.out
  subst e1 e2
  have e3 := HNl.out
  subst e3
  have hro := HRow.out
  have hcQ : Chg (fun k => k < w3.heap.size) w4 _ := hcL.mono (T := fun k => k < w3.heap.size) (fun k hk e => by have : k = W.heap.size := e; have := HR3.out.lt; omega)
  have hc9 := chg9 (w4.setCell ⟨W.heap.size, 7, none⟩ (.slice a' (Lm.lay li (tm, ((r', i'), s'), t')).length c')) (W.heap.size + 1 + 1) (.int .u8 (kk : Int)) (.int .i64 n) (.int .u64 (t : Int)) (.int .u8 (r : Int)) (.int .u32 (i : Int)) (.int .u64 (s : Int)) (.string x) (.slice a' (Lm.lay li (tm, ((r', i'), s'), t')).length c') (.slice da ld.length dc)
  have hfin := Chg.belowTrans (hbV) hc9 (fun k hk e => by have : k = W.heap.size + 1 + 1 := e; omega) (hbV).size
  have HFin := Lib.hid hfin
  refine bodyPost_ret (v := .tuple #[.agg #[.int .u8 (kk : Int), .int .i64 n, .int .u64 (t : Int), .int .u8 (r : Int), .int .u32 (i : Int), .int .u64 (s : Int), .string x, .slice a' (Lm.lay li (tm, ((r', i'), s'), t')).length c', .slice da ld.length dc], .int .i64 0]) (res_leaf2 (b := W.heap.size + 1 + 1) Try.results10 (by simp) (by simp) (blk9 (HR4.out.chg hcL (fun e => by have : W.heap.size + 1 + 1 = W.heap.size := e; omega)) _ _ _ _ _ _ _ _ _)) rfl ⟨⟨a', c', da, dc, rfl, (fun w2 h2 => hro _ ((hcQ.trans (hc9.mono (T := fun k => k < w3.heap.size) (fun k hk e => by have : k = W.heap.size + 1 + 1 := e; have := HR3.out.lt; omega)) (fun _ _ e => e)).trans (h2.mono (T := fun k => k < w3.heap.size) (fun b _ e => by have := HKx.out b e; have := HR3.out.lt; omega)) (fun _ _ e => e))), keptK HdK.out HFin.out⟩, HFin.out⟩
end Go.Proofs.Ytbciopieciglmaa
