import Derived.Test.YtbciopieciglmaaZLeaf36
import Derived.Test.YtbciopieciglmaaZLeaf6
import Derived.Test.YtbciopieciglmaaZFuseMath
namespace Go.Proofs.Ytbciopieciglmaa
open Go.RowKit Go.Buf Go.LB Go.Lib
set_option linter.unusedSimpArgs false
set_option linter.unusedVariables false
set_option maxRecDepth 100000 in
set_option maxHeartbeats 12800000 in
theorem some_any (kk b m : Nat) (ls : List LR) (W : World) (hkk : kk < 256) (hm : ls.length = m) (hm3 : m ≤ 3) (hrow : ∀ j x, ls[j]? = some x → W.cell? ⟨b, j, none⟩ = some (.slice x.a x.n x.c)) (hok : ∀ x ∈ ls, x.ok W) (hn : ∀ x ∈ ls, x.n ≤ 12) (hd : ∀ x ∈ ls, ∀ y ∈ x.l, y.dl ≤ 100) :
  Calls Try.prog 5 #[.int .u8 (kk : Int), .slice (some ⟨b, 0, none⟩) m m] W fun e w' => (∃ L ok, SE w' L ok e ∧ (ok = true → Lm.run (Lm.new kk) (evs ls) = some L)) ∧ Below W.heap.size W w' := by
 have HM := Lib.hid hm; have HRow := Lib.hid hrow; have HOk := Lib.hid hok; have HN := Lib.hid hn; have HDs := Lib.hid hd
 have HLd := Lib.hid (ls_dots hok hn hd)
 have HLl := Lib.hid (ls_len (ls := ls) (fun x hx => ⟨(hok x hx).2, hn x hx⟩))
 clear hm hrow hok hn hd
 go_enter Try.func5, Try.ntmps5
 go_wp2_with fail
 refine (refnew_any kk _).mono ?_
 rintro e w1 ⟨rfl, hb⟩
 have HS := Lib.hid (SM.start kk hb)
 clear hb
 go_wp2_with fail
 obtain ⟨N6, hN6⟩ : ∃ N6, N6 = w1.heap.size := ⟨_, rfl⟩
 have HS2 := HS.out
 rw [← hN6] at HS2
 have HS3 := Lib.hid HS2
 clear HS HS2
 rw [← hN6]
 clear hN6
 go_loopw [8, 10, 11, 12, 17] (fun _ _ _ _ v wr => ∃ j : Nat, v = .int .i64 j ∧ j ≤ m ∧ SM W wr N6 kk (evs (ls.take j))) (fun _ _ _ _ v _ => m - (intOf v).toNat)
 case atStart => exact ⟨0, rfl, by omega, HS3.out⟩
 case round =>
  obtain ⟨j, rfl, hj, hSM⟩ := hrel
  have HSM := Lib.hid hSM; clear hSM
  by_cases hlt : j < m
  ·obtain ⟨x, hx⟩ : ∃ x, ls[j]? = some x := ⟨ls[j]'(by rw [HM.out]; exact hlt), List.getElem?_eq_getElem _⟩
   have HXm := Lib.hid (List.mem_of_getElem? hx)
   have hc := HRow.out j x hx
   have HXt := Lib.hid (show evs (ls.take (j + 1)) = evs (ls.take j) ++ x.l.map ER.e by rw [List.take_add_one, hx, ← evs_one, ← evs_app]; rfl)
   have hX0 := HOk.out x HXm.out
   have hXn := HN.out x HXm.out
   have HXd := Lib.hid (HDs.out x HXm.out)
   obtain ⟨xa, xn, xc, xl⟩ := x
   have HXr := Lib.hid hX0.1; have HXl := Lib.hid hX0.2
   simp only at hc hXn HXr HXl HXt HXd
   clear hX0 hx
   obtain ⟨kd, n, t, r, i, s, x, ia, il, ic, da, dl, dc, li, ld, hrun, hil, hdl, hL, hI, hD, hZ, hW, hlt6⟩ := HSM.out
   have hblk := World.block_lt_of_cell? W _ hc
   simp only at hblk
   have q0 := (hW.cell (p := ⟨b, j, none⟩) hblk).trans hc
   have hx1 : xn ≤ xc := by have := HXr.out.le; rw [HXl.out] at this; exact this
   have hx2 := HXr.out.cap
   have k0 : (0 : Int) ≤ (j : Int) := by omega
   have k1 : (j : Int) < (m : Int) := by omega
   clear hc hrun hil hdl hL hI hD hZ hW
   go_wp2_with fail
   have HSub := Lib.hid (show (evs (ls.take j) ++ xl.map ER.e).Sublist (evs ls) by
    rw [← HXt.out]
    conv => rhs; rw [← List.take_append_drop (j + 1) ls, evs_app]
    exact List.sublist_append_left _ _)
   go_loopw [10, 11, 12, 23] (fun _ _ _ v wr => ∃ k : Nat, v = .int .i64 k ∧ k ≤ xn ∧ SM W wr N6 kk (evs (ls.take j) ++ (xl.take k).map ER.e)) (fun _ _ _ v _ => xn - (intOf v).toNat)
   case atStart => exact ⟨0, rfl, by omega, by simpa using HSM.out⟩
   case round =>
    obtain ⟨k, rfl, hk, hSM⟩ := hrel
    have HSMk := Lib.hid hSM; clear hSM
    by_cases hlk : k < xn
    ·obtain ⟨y, hy⟩ : ∃ y, xl[k]? = some y := ⟨xl[k]'(by rw [HXl.out]; exact hlk), List.getElem?_eq_getElem _⟩
     have hokd := HXr.out.ok y (List.mem_of_getElem? hy)
     have hyd := HXd.out y (List.mem_of_getElem? hy)
     obtain ⟨kd, n, t, r, i, s, x, ia, il, ic, da, dl, dc, li, ld, hrun, hil, hdl, hL, hI, hD, hZ, hW, hlt6⟩ := HSMk.out
     obtain ⟨blk, off, rfl, hblk, hcells⟩ := HXr.out.at (by rw [HXl.out]; omega)
     obtain ⟨e0, e1, e2, e3, e4, e5, e6, e7, e8⟩ := hcells k y hy
     have q0 := (hW.cell (p := ⟨blk, off + k * 9, none⟩) hblk).trans e0
     have q1 := (hW.cell (p := ⟨blk, off + k * 9 + 1, none⟩) hblk).trans e1
     have q2 := (hW.cell (p := ⟨blk, off + k * 9 + 2, none⟩) hblk).trans e2
     have q3 := (hW.cell (p := ⟨blk, off + k * 9 + 3, none⟩) hblk).trans e3
     have q4 := (hW.cell (p := ⟨blk, off + k * 9 + 4, none⟩) hblk).trans e4
     have q5 := (hW.cell (p := ⟨blk, off + k * 9 + 5, none⟩) hblk).trans e5
     have q6 := (hW.cell (p := ⟨blk, off + k * 9 + 6, none⟩) hblk).trans e6
     have q7 := (hW.cell (p := ⟨blk, off + k * 9 + 7, none⟩) hblk).trans e7
     have q8 := (hW.cell (p := ⟨blk, off + k * 9 + 8, none⟩) hblk).trans e8
     have hsub : (evs (ls.take j) ++ (xl.take k).map ER.e).Sublist (evs ls) := ((List.Sublist.refl _).append ((List.take_sublist k xl).map ER.e)).trans HSub.out
     obtain ⟨B1, B2, B3⟩ := run_len 9223372036854775807 hrun (fun e he => HLd.out e (hsub.subset he)) (by rw [new_eq]; exact Nat.zero_le _)
     have hle := hsub.length_le
     have hl36 := HLl.out
     rw [HM.out] at hl36
     rw [new_eq] at B1 B2
     simp only [List.length_nil, Nat.zero_add] at B1 B2 B3
     have HBd := Lib.hid (show il ≤ 1000 ∧ dl ≤ 10000 by omega)
     have HX3 := Lib.hid B3
     have HT := Lib.hid (show (xl.take (k + 1)).map ER.e = (xl.take k).map ER.e ++ [y.e] by rw [List.take_add_one, hy, List.map_append]; rfl)
     have HRun := Lib.hid hrun; have HIl := Lib.hid hil; have HDl := Lib.hid hdl; have HL := Lib.hid hL; have HI := Lib.hid hI; have HD := Lib.hid hD; have HZ := Lib.hid hZ; have HW := Lib.hid hW
     have hlt7 := hL.lt
     have hsz := hW.size
     obtain ⟨d0, d1, d2, d3, d4, d5, d6, d7, d8⟩ := hL.nine
     have j0 : (0 : Int) ≤ (k : Int) := by omega
     have j1 : (k : Int) < (xn : Int) := by omega
     obtain ⟨r', i', s', tm, k', pa, pl, pc, n', t', ea, el, ec, pp, dd⟩ := y
     obtain ⟨o1, o2, o3, o4, o5, o6, o7, o8, o9⟩ := hokd
     simp only at q0 q1 q2 q3 q4 q5 q6 q7 q8 HT hyd o1 o2 o3 o4 o5 o6 o7 o8 o9
     have HO1 := Lib.hid o1; have HO5 := Lib.hid o5; have HO6 := Lib.hid o6; have HO7 := Lib.hid o7; have HO8 := Lib.hid o8; have HO9 := Lib.hid o9
     have HB0 := Lib.hid (HW.out.alloc HW.out.size (.cells #[.int .u8 (r' : Int), .int .u32 (i' : Int), .int .u64 (s' : Int), .int .u64 (tm : Int), .int .u8 (k' : Int), .slice pa pl pc, .int .i64 n', .string t', .slice ea el ec] 37))
     clear hcells e0 e1 e2 e3 e4 e5 e6 e7 e8 hy hrun hil hdl hL hI hD hZ hW B1 B2 B3 hle hl36 hsub o1 o2 o4 o5 o6 o7 o8 o9
     go_wp2_with fail
     clear q0 d0 q1 d1 q2 d2 q3 d3 q4 d4 q5 d5 q6 d6 q7 d7 q8 d8
     have hK1 : ∀ q, (q = W.heap.size ∨ q = N6) → q < (wr.alloc (.cells #[.int .u8 (r' : Int), .int .u32 (i' : Int), .int .u64 (s' : Int), .int .u64 (tm : Int), .int .u8 (k' : Int), .slice pa pl pc, .int .i64 n', .string t', .slice ea el ec] 37)).heap.size := fun q e => by rw [World.size_alloc]; rcases e with e | e <;> omega
     refine (refapply_k kd n t r i s x ia il ic da dl dc li ld r' i' s' tm k' pa pl pc n' t' ea el ec pp dd _ (fun q => q = W.heap.size ∨ q = N6) hK1 (fun w2 h2 => HI.out w2 (((Chg.refl _ _).alloc _).trans h2 (fun _ _ e => e))) (fun w2 h2 => HD.out w2 (((Chg.refl _ _).alloc _).trans h2 (fun _ _ e => e))) (HI.out _ ((Chg.refl _ _).alloc _)) HIl.out (HD.out _ ((Chg.refl _ _).alloc _)) HDl.out HX3.out (by have := HBd.out; omega) (by have := HBd.out; omega) o3 (HO6.out.below HB0.out) HO7.out (HO8.out.below HB0.out) HO9.out (by have := HBd.out; omega) HO1.out HO5.out).mono ?_
     rintro e w2 ⟨⟨a1, c1, a2, c2, rfl, hI2, hD2⟩, hb⟩
     have hb0 : Below wr.heap.size wr w2 := ((Below.refl _ _).alloc (Nat.le_refl _) _).trans (hb.mono (by simp))
     obtain ⟨⟨L2, z⟩, hap⟩ : ∃ p, p = Lm.apply ⟨kd, n, t, ((r, i), s), x, li, ld⟩ ⟨((r', i'), s'), tm, ⟨k', pp, n', t', dd⟩⟩ := ⟨_, rfl⟩
     rw [← hap] at hI2 hD2 ⊢
     have hz : z = 0 ∨ z = 2 ∨ z = 15 := by have := apply_err ⟨kd, n, t, ((r, i), s), x, li, ld⟩ ⟨((r', i'), s'), tm, ⟨k', pp, n', t', dd⟩⟩; rw [← hap] at this; exact this
     obtain ⟨kd2, n2, t2, ⟨⟨r2, i2⟩, s2⟩, x2, li2, ld2⟩ := L2
     simp only at hI2 hD2 ⊢
     obtain ⟨NI, hNI⟩ : ∃ NI, NI = li2.length := ⟨_, rfl⟩
     obtain ⟨ND, hND⟩ : ∃ ND, ND = ld2.length := ⟨_, rfl⟩
     rw [← hNI, ← hND]
     have hL2 := HL.out.below hb0; have hZ2 := HZ.out.below hb0
     have HL2 := Lib.hid hL2; have HZ2 := Lib.hid hZ2; have HNI := Lib.hid hNI; have HND := Lib.hid hND; have HI2 := Lib.hid hI2; have HD2 := Lib.hid hD2; have HAp := Lib.hid hap
     have HW2 := Lib.hid (HW.out.trans (hb0.mono HW.out.size))
     have HIf := Lib.hid (keptK HI.out hb0); have HDf := Lib.hid (keptK HD.out hb0)
     have hl6 := hL2.lt; have hl4 := hZ2.lt
     have hzf := hZ2.set9 (.int .u8 (kd : Int)) (.int .i64 n) (.int .u64 (t : Int)) (.int .u8 (r : Int)) (.int .u32 (i : Int)) (.int .u64 (s : Int)) (.string x) (.slice ia il ic) (.slice da dl dc)
     have HZf := Lib.hid (hzf.below ((Below.refl _ _).alloc (Nat.le_refl _) (.cells #[.int .u8 (kd2 : Int), .int .i64 n2, .int .u64 (t2 : Int), .int .u8 (r2 : Int), .int .u32 (i2 : Int), .int .u64 (s2 : Int), .string x2, .slice a1 NI c1, .slice a2 ND c2] 40)))
     have HCf := Lib.hid ((chgSet9 (Chg.refl (fun q => q = W.heap.size ∨ q = N6) w2) (b := W.heap.size) (Or.inr (Or.inl rfl)) (.int .u8 (kd : Int)) (.int .i64 n) (.int .u64 (t : Int)) (.int .u8 (r : Int)) (.int .u32 (i : Int)) (.int .u64 (s : Int)) (.string x) (.slice ia il ic) (.slice da dl dc)).alloc (.cells #[.int .u8 (kd2 : Int), .int .i64 n2, .int .u64 (t2 : Int), .int .u8 (r2 : Int), .int .u32 (i2 : Int), .int .u64 (s2 : Int), .string x2, .slice a1 NI c1, .slice a2 ND c2] 40))
     have hwf := set9 HW2.out (b := W.heap.size) (Nat.le_refl _) (.int .u8 (kd : Int)) (.int .i64 n) (.int .u64 (t : Int)) (.int .u8 (r : Int)) (.int .u32 (i : Int)) (.int .u64 (s : Int)) (.string x) (.slice ia il ic) (.slice da dl dc)
     have HWf := Lib.hid (hwf.alloc hwf.size (.cells #[.int .u8 (kd2 : Int), .int .i64 n2, .int .u64 (t2 : Int), .int .u8 (r2 : Int), .int .u32 (i2 : Int), .int .u64 (s2 : Int), .string x2, .slice a1 NI c1, .slice a2 ND c2] 40))
     clear hzf hwf
     obtain ⟨d0, d1, d2, d3, d4, d5, d6, d7, d8⟩ := hL2.nine
     obtain ⟨f0, f1, f2, f3, f4, f5, f6, f7, f8⟩ := hL2.froz9
     obtain ⟨g0, g1, g2, g3, g4, g5, g6, g7, g8⟩ := hZ2.nine
     obtain ⟨y0, y1, y2, y3, y4, y5, y6, y7, y8⟩ := hZ2.froz9
     clear hL2 hZ2 hNI hND hI2 hD2 hap hb0 hb
     rcases hz with rfl | rfl | rfl
     ·go_wp2_with fail
      go_roundw
      case rel => exact ⟨k + 1, by go_num, by omega, by rw [HT.out, ← List.append_assoc]; exact SM.next (.cells #[.int .u8 (kd2 : Int), .int .i64 n2, .int .u64 (t2 : Int), .int .u8 (r2 : Int), .int .u32 (i2 : Int), .int .u64 (s2 : Int), .string x2, .slice a1 NI c1, .slice a2 ND c2] 40) HRun.out HAp.out HNI.out HND.out HL2.out HI2.out HD2.out HZ2.out HW2.out hlt6⟩
      case measure => simp [intOf]; omega
     ·go_wp2_with fail
      refine bodyPost_ret (v := .tuple #[.agg #[.int .u8 (kd : Int), .int .i64 n, .int .u64 (t : Int), .int .u8 (r : Int), .int .u32 (i : Int), .int .u64 (s : Int), .string x, .slice ia il ic, .slice da dl dc], .bool false]) (res_leaf2 (b := W.heap.size) Try.results5 (by simp) (by simp) HZf.out) rfl ⟨⟨⟨kd, n, t, ((r, i), s), x, li, ld⟩, false, ⟨ia, ic, da, dc, by rw [HIl.out, HDl.out], HIf.out _ HCf.out, HDf.out _ HCf.out⟩, fun h => by cases h⟩, HWf.out⟩
     ·go_wp2_with fail
      refine bodyPost_ret (v := .tuple #[.agg #[.int .u8 (kd : Int), .int .i64 n, .int .u64 (t : Int), .int .u8 (r : Int), .int .u32 (i : Int), .int .u64 (s : Int), .string x, .slice ia il ic, .slice da dl dc], .bool false]) (res_leaf2 (b := W.heap.size) Try.results5 (by simp) (by simp) HZf.out) rfl ⟨⟨⟨kd, n, t, ((r, i), s), x, li, ld⟩, false, ⟨ia, ic, da, dc, by rw [HIl.out, HDl.out], HIf.out _ HCf.out, HDf.out _ HCf.out⟩, fun h => by cases h⟩, HWf.out⟩
    ·have hkn : k = xn := by omega
     have htk : xl.take k = xl := List.take_of_length_le (by rw [HXl.out, hkn]; exact Nat.le_refl _)
     have hfin := HSMk.out
     rw [htk, ← HXt.out] at hfin
     have HFin := Lib.hid hfin
     clear hfin htk
     go_wp2_with fail
     go_roundw
     case rel => exact ⟨j + 1, by go_num, by omega, HFin.out⟩
     case measure => simp [intOf]; omega
  ·have hjm : j = m := by omega
   have htk : ls.take j = ls := List.take_of_length_le (by rw [HM.out, hjm]; exact Nat.le_refl _)
   have hfin := HSM.out
   rw [htk] at hfin
   obtain ⟨kd, n, t, r, i, s, x, ia, il, ic, da, dl, dc, li, ld, hrun, hil, hdl, hL, hI, hD, hZ, hW, hlt6⟩ := hfin
   have HRun := Lib.hid hrun; have HIl := Lib.hid hil; have HDl := Lib.hid hdl; have HL := Lib.hid hL; have HI := Lib.hid hI; have HD := Lib.hid hD; have HZ := Lib.hid hZ; have HW := Lib.hid hW
   obtain ⟨d0, d1, d2, d3, d4, d5, d6, d7, d8⟩ := hL.nine
   obtain ⟨g0, g1, g2, g3, g4, g5, g6, g7, g8⟩ := hZ.nine
   obtain ⟨y0, y1, y2, y3, y4, y5, y6, y7, y8⟩ := hZ.froz9
   have hl6 := hL.lt; have hl4 := hZ.lt
   clear hrun hil hdl hL hI hD hZ hW htk
   go_wp2_with fail
   refine bodyPost_ret (v := .tuple #[.agg #[.int .u8 (kd : Int), .int .i64 n, .int .u64 (t : Int), .int .u8 (r : Int), .int .u32 (i : Int), .int .u64 (s : Int), .string x, .slice ia il ic, .slice da dl dc], .bool true]) (res_leaf2 (b := W.heap.size) Try.results5 (by simp) (by simp) (Blk.set9 HZ.out _ _ _ _ _ _ _ _ _)) rfl ⟨⟨⟨kd, n, t, ((r, i), s), x, li, ld⟩, true, ⟨ia, ic, da, dc, by rw [HIl.out, HDl.out], HI.out _ (chgSet9 (Chg.refl _ wr) (Or.inr (Or.inl rfl)) _ _ _ _ _ _ _ _ _), HD.out _ (chgSet9 (Chg.refl _ wr) (Or.inr (Or.inl rfl)) _ _ _ _ _ _ _ _ _)⟩, fun _ => HRun.out⟩, set9 HW.out (Nat.le_refl _) _ _ _ _ _ _ _ _ _⟩
end Go.Proofs.Ytbciopieciglmaa
namespace Go.Proofs.Ytbciopieciglmaa
open Go.RowKit Go.Buf Go.LB Go.Lib
set_option linter.unusedSimpArgs false
set_option linter.unusedVariables false
theorem some1_any (kk : Nat) (a0 : Option Addr) (n0 c0 : Nat) (l0 : List ER) (t : TypeId) (B : Nat) (W : World) (hB : B = W.heap.size) (hkk : kk < 256) (h0 : ERow W a0 c0 l0) (g0 : l0.length = n0) (b0 : n0 ≤ 12) (d0 : ∀ y ∈ l0, y.dl ≤ 100) :
  Calls Try.prog 5 #[.int .u8 (kk : Int), .slice (some ⟨B, 0, none⟩) 1 1] (W.alloc (.cells #[.slice a0 n0 c0] t)) fun e w' => (∃ L ok, SE w' L ok e ∧ (ok = true → Lm.run (Lm.new kk) (l0.map ER.e) = some L)) ∧ Below W.heap.size W w' := by
 subst hB
 have up : Below W.heap.size W (W.alloc (.cells #[.slice a0 n0 c0] t)) := (Below.refl _ _).alloc (Nat.le_refl _) _
 have hb := Blk.new W #[.slice a0 n0 c0] t
 have e : evs [⟨a0, n0, c0, l0⟩] = l0.map ER.e := by simp [evs]
 rw [← e]
 refine (some_any kk W.heap.size 1 [⟨a0, n0, c0, l0⟩] (W.alloc (.cells #[.slice a0 n0 c0] t)) hkk rfl (by omega) ?_ ?_ ?_ ?_).mono ?_
 ·intro j x hx
  have hj : j < 1 := by have := (List.getElem?_eq_some_iff.1 hx).1; simpa using this
  obtain rfl : j = 0 := by omega
  cases hx; exact hb.cell 0
 ·intro x hx
  simp only [List.mem_cons, List.not_mem_nil, or_false] at hx
  subst hx
  exact ⟨h0.below up, g0⟩
 ·intro x hx
  simp only [List.mem_cons, List.not_mem_nil, or_false] at hx
  subst hx
  exact b0
 ·intro x hx
  simp only [List.mem_cons, List.not_mem_nil, or_false] at hx
  subst hx
  exact d0
 ·rintro e w' ⟨h, hbl⟩
  exact ⟨h, up.trans (hbl.mono (by simp))⟩
theorem some2_any (kk : Nat) (a0 : Option Addr) (n0 c0 : Nat) (l0 : List ER) (a1 : Option Addr) (n1 c1 : Nat) (l1 : List ER) (t : TypeId) (B : Nat) (W : World) (hB : B = W.heap.size) (hkk : kk < 256) (h0 : ERow W a0 c0 l0) (g0 : l0.length = n0) (b0 : n0 ≤ 12) (d0 : ∀ y ∈ l0, y.dl ≤ 100) (h1 : ERow W a1 c1 l1) (g1 : l1.length = n1) (b1 : n1 ≤ 12) (d1 : ∀ y ∈ l1, y.dl ≤ 100) :
  Calls Try.prog 5 #[.int .u8 (kk : Int), .slice (some ⟨B, 0, none⟩) 2 2] (W.alloc (.cells #[.slice a0 n0 c0, .slice a1 n1 c1] t)) fun e w' => (∃ L ok, SE w' L ok e ∧ (ok = true → Lm.run (Lm.new kk) (l0.map ER.e ++ l1.map ER.e) = some L)) ∧ Below W.heap.size W w' := by
 subst hB
 have up : Below W.heap.size W (W.alloc (.cells #[.slice a0 n0 c0, .slice a1 n1 c1] t)) := (Below.refl _ _).alloc (Nat.le_refl _) _
 have hb := Blk.new W #[.slice a0 n0 c0, .slice a1 n1 c1] t
 have e : evs [⟨a0, n0, c0, l0⟩, ⟨a1, n1, c1, l1⟩] = l0.map ER.e ++ l1.map ER.e := by simp [evs]
 rw [← e]
 refine (some_any kk W.heap.size 2 [⟨a0, n0, c0, l0⟩, ⟨a1, n1, c1, l1⟩] (W.alloc (.cells #[.slice a0 n0 c0, .slice a1 n1 c1] t)) hkk rfl (by omega) ?_ ?_ ?_ ?_).mono ?_
 ·intro j x hx
  have hj : j < 2 := by have := (List.getElem?_eq_some_iff.1 hx).1; simpa using this
  rcases (show j = 0 ∨ j = 1 by omega) with rfl | rfl
  ·cases hx; exact hb.cell 0
  ·cases hx; exact hb.cell 1
 ·intro x hx
  simp only [List.mem_cons, List.not_mem_nil, or_false] at hx
  rcases hx with rfl | rfl
  ·exact ⟨h0.below up, g0⟩
  ·exact ⟨h1.below up, g1⟩
 ·intro x hx
  simp only [List.mem_cons, List.not_mem_nil, or_false] at hx
  rcases hx with rfl | rfl
  ·exact b0
  ·exact b1
 ·intro x hx
  simp only [List.mem_cons, List.not_mem_nil, or_false] at hx
  rcases hx with rfl | rfl
  ·exact d0
  ·exact d1
 ·rintro e w' ⟨h, hbl⟩
  exact ⟨h, up.trans (hbl.mono (by simp))⟩
theorem some3_any (kk : Nat) (a0 : Option Addr) (n0 c0 : Nat) (l0 : List ER) (a1 : Option Addr) (n1 c1 : Nat) (l1 : List ER) (a2 : Option Addr) (n2 c2 : Nat) (l2 : List ER) (t : TypeId) (B : Nat) (W : World) (hB : B = W.heap.size) (hkk : kk < 256) (h0 : ERow W a0 c0 l0) (g0 : l0.length = n0) (b0 : n0 ≤ 12) (d0 : ∀ y ∈ l0, y.dl ≤ 100) (h1 : ERow W a1 c1 l1) (g1 : l1.length = n1) (b1 : n1 ≤ 12) (d1 : ∀ y ∈ l1, y.dl ≤ 100) (h2 : ERow W a2 c2 l2) (g2 : l2.length = n2) (b2 : n2 ≤ 12) (d2 : ∀ y ∈ l2, y.dl ≤ 100) :
  Calls Try.prog 5 #[.int .u8 (kk : Int), .slice (some ⟨B, 0, none⟩) 3 3] (W.alloc (.cells #[.slice a0 n0 c0, .slice a1 n1 c1, .slice a2 n2 c2] t)) fun e w' => (∃ L ok, SE w' L ok e ∧ (ok = true → Lm.run (Lm.new kk) (l0.map ER.e ++ l1.map ER.e ++ l2.map ER.e) = some L)) ∧ Below W.heap.size W w' := by
 subst hB
 have up : Below W.heap.size W (W.alloc (.cells #[.slice a0 n0 c0, .slice a1 n1 c1, .slice a2 n2 c2] t)) := (Below.refl _ _).alloc (Nat.le_refl _) _
 have hb := Blk.new W #[.slice a0 n0 c0, .slice a1 n1 c1, .slice a2 n2 c2] t
 have e : evs [⟨a0, n0, c0, l0⟩, ⟨a1, n1, c1, l1⟩, ⟨a2, n2, c2, l2⟩] = l0.map ER.e ++ l1.map ER.e ++ l2.map ER.e := by simp [evs]
 rw [← e]
 refine (some_any kk W.heap.size 3 [⟨a0, n0, c0, l0⟩, ⟨a1, n1, c1, l1⟩, ⟨a2, n2, c2, l2⟩] (W.alloc (.cells #[.slice a0 n0 c0, .slice a1 n1 c1, .slice a2 n2 c2] t)) hkk rfl (by omega) ?_ ?_ ?_ ?_).mono ?_
 ·intro j x hx
  have hj : j < 3 := by have := (List.getElem?_eq_some_iff.1 hx).1; simpa using this
  rcases (show j = 0 ∨ j = 1 ∨ j = 2 by omega) with rfl | rfl | rfl
  ·cases hx; exact hb.cell 0
  ·cases hx; exact hb.cell 1
  ·cases hx; exact hb.cell 2
 ·intro x hx
  simp only [List.mem_cons, List.not_mem_nil, or_false] at hx
  rcases hx with rfl | rfl | rfl
  ·exact ⟨h0.below up, g0⟩
  ·exact ⟨h1.below up, g1⟩
  ·exact ⟨h2.below up, g2⟩
 ·intro x hx
  simp only [List.mem_cons, List.not_mem_nil, or_false] at hx
  rcases hx with rfl | rfl | rfl
  ·exact b0
  ·exact b1
  ·exact b2
 ·intro x hx
  simp only [List.mem_cons, List.not_mem_nil, or_false] at hx
  rcases hx with rfl | rfl | rfl
  ·exact d0
  ·exact d1
  ·exact d2
 ·rintro e w' ⟨h, hbl⟩
  exact ⟨h, up.trans (hbl.mono (by simp))⟩
end Go.Proofs.Ytbciopieciglmaa
namespace Go.Proofs.Ytbciopieciglmaa
open Go.RowKit Go.Buf Go.LB Go.Lib
open Go.RegG (Gr)
set_option linter.unusedSimpArgs false
set_option linter.unusedVariables false
theorem gr_box2 (W : World) (c d : Array Value) (t u : TypeId) : Gr W.heap.size W ((W.alloc (.cells c t)).alloc (.cells d u)) := ((Gr.refl _ _).alloc (Nat.le_refl _) _).alloc (by simp) _
set_option maxHeartbeats 1000000 in
theorem ahead_gr (t r i s u r' i' s' : Nat) (W : World) :
  Calls Try.prog 43 #[.int .u64 (t : Int), dotV ((r, i), s), .int .u64 (u : Int), dotV ((r', i'), s')] W fun e w' => e = .returned (.bool (Lm.ahead t ((r, i), s) u ((r', i'), s'))) ∧ Gr W.heap.size W w' := by
 have HBox := Lib.hid (gr_box2 W #[.int .u8 (r : Int), .int .u32 (i : Int), .int .u64 (s : Int)] #[.int .u8 (r' : Int), .int .u32 (i' : Int), .int .u64 (s' : Int)] 31 31)
 by_cases h1 : t < u
 ·go_enter Try.func43, Try.ntmps43
  go_wp2_with fail
  go_ret
  exact ⟨ret_bool (ahead_lt h1).symm, HBox.out⟩
 ·by_cases h2 : t = u
  ·subst h2
   have HL := Lib.hid (less_cmp ((r, i), s) ((r', i'), s'))
   go_enter Try.func43, Try.ntmps43
   go_wp2_with fail
   refine (compare_any r i s r' i' s' _).mono ?_
   rintro e w1 ⟨rfl, hb⟩
   have HB := Lib.hid hb; clear hb
   obtain ⟨C, HC⟩ : ∃ C, C = Dt.cmp ((r, i), s) ((r', i'), s') := ⟨_, rfl⟩
   rw [← HC]
   have HC2 := Lib.hid HC; clear HC
   go_wp2_with fail
   go_ret
   exact ⟨ret_bool (by rw [ahead_eq, ← HL.out, HC2.out]), HBox.out.trans (HB.out.mono HBox.out.size)⟩
  ·have d1 : ((t : Int) == (u : Int)) = false := by simp; omega
   go_enter Try.func43, Try.ntmps43
   go_wp2_with fail
   go_ret
   exact ⟨ret_bool (ahead_gt (by omega)).symm, HBox.out⟩
def cmpI (x y : Lm.It) : Int := if Lm.aheadI x y = true then -1 else if Lm.aheadI y x = true then 1 else 0
theorem itcells2 {W w1 : World} {c0 c1 c2 c3 c4 d0 d1 d2 d3 d4 : Value} (hb : Below ((W.alloc (.cells #[c0, c1, c2, c3, c4] 51)).alloc (.cells #[d0, d1, d2, d3, d4] 51)).heap.size ((W.alloc (.cells #[c0, c1, c2, c3, c4] 51)).alloc (.cells #[d0, d1, d2, d3, d4] 51)) w1) :
  (w1.cell? ⟨W.heap.size, 0, none⟩ = some c0 ∧ w1.cell? ⟨W.heap.size, 1, none⟩ = some c1 ∧ w1.cell? ⟨W.heap.size, 2, none⟩ = some c2 ∧ w1.cell? ⟨W.heap.size, 3, none⟩ = some c3) ∧
  (w1.cell? ⟨W.heap.size + 1, 0, none⟩ = some d0 ∧ w1.cell? ⟨W.heap.size + 1, 1, none⟩ = some d1 ∧ w1.cell? ⟨W.heap.size + 1, 2, none⟩ = some d2 ∧ w1.cell? ⟨W.heap.size + 1, 3, none⟩ = some d3) := by
 have hA : Blk (W.alloc (.cells #[c0, c1, c2, c3, c4] 51)) W.heap.size 51 [c0, c1, c2, c3, c4] := Blk.new _ _ _
 have hA2 := (hA.below ((Below.refl _ _).alloc (Nat.le_refl _) (.cells #[d0, d1, d2, d3, d4] 51))).below hb
 have hB : Blk ((W.alloc (.cells #[c0, c1, c2, c3, c4] 51)).alloc (.cells #[d0, d1, d2, d3, d4] 51)) (W.heap.size + 1) 51 [d0, d1, d2, d3, d4] := by
  have := Blk.new (W.alloc (.cells #[c0, c1, c2, c3, c4] 51)) #[d0, d1, d2, d3, d4] 51
  simpa using this
 have hB2 := hB.below hb
 exact ⟨⟨hA2.cell 0, hA2.cell 1, hA2.cell 2, hA2.cell 3⟩, ⟨hB2.cell 0, hB2.cell 1, hB2.cell 2, hB2.cell 3⟩⟩
set_option maxHeartbeats 1600000 in
theorem compareItems_any (t r i s : Nat) (x : ByteArray) (t' r' i' s' : Nat) (x' : ByteArray) (W : World) :
  Calls Try.prog 59 #[itV t r i s x, itV t' r' i' s' x'] W fun e w' => e = .returned (.int .i64 (cmpI (t, ((r, i), s), x) (t', ((r', i'), s'), x'))) ∧ Gr W.heap.size W w' := by
 have HBox := Lib.hid (gr_box2 W #[.int .u64 (t : Int), .int .u8 (r : Int), .int .u32 (i : Int), .int .u64 (s : Int), .string x] #[.int .u64 (t' : Int), .int .u8 (r' : Int), .int .u32 (i' : Int), .int .u64 (s' : Int), .string x'] 51 51)
 cases h1 : Lm.ahead t ((r, i), s) t' ((r', i'), s') with
 | true =>
  have HE := Lib.hid (show cmpI (t, ((r, i), s), x) (t', ((r', i'), s'), x') = -1 from by simp [cmpI, Lm.aheadI, h1])
  have HC := Lib.hid (ahead_gr t r i s t' r' i' s')
  rw [h1] at HC
  clear h1
  go_enter Try.func59, Try.ntmps59
  go_wp2_with fail
  refine (HC.out _).mono ?_
  rintro e w1 ⟨rfl, hb⟩
  have HB := Lib.hid hb; clear hb
  go_wp2_with fail
  go_ret
  exact ⟨by rw [HE.out]; rfl, HBox.out.trans (HB.out.mono HBox.out.size)⟩
 | false =>
  have HC := Lib.hid (ahead_gr t r i s t' r' i' s')
  have HD := Lib.hid (ahead_gr t' r' i' s' t r i s)
  have HE := Lib.hid (show cmpI (t, ((r, i), s), x) (t', ((r', i'), s'), x') = if Lm.ahead t' ((r', i'), s') t ((r, i), s) = true then 1 else 0 from by unfold cmpI Lm.aheadI; rw [h1]; rfl)
  rw [h1] at HC
  clear h1
  go_enter Try.func59, Try.ntmps59
  go_wp2_with fail
  refine (HC.out _).mono ?_
  rintro e w1 ⟨rfl, hb⟩
  obtain ⟨⟨q0, q1, q2, q3⟩, ⟨p0, p1, p2, p3⟩⟩ := itcells2 hb.below
  have HB := Lib.hid hb; clear hb
  go_wp2_with fail
  cases h2 : Lm.ahead t' ((r', i'), s') t ((r, i), s) with
  | true =>
   rw [h2] at HD
   simp only [h2, if_true] at HE
   clear h2
   refine (HD.out _).mono ?_
   rintro e w2 ⟨rfl, hb⟩
   have HB2 := Lib.hid hb; clear hb
   go_wp2_with fail
   go_ret
   exact ⟨by rw [HE.out]; rfl, (HBox.out.trans (HB.out.mono HBox.out.size)).trans (HB2.out.mono (HBox.out.trans (HB.out.mono HBox.out.size)).size)⟩
  | false =>
   rw [h2] at HD
   simp only [h2, Bool.false_eq_true, if_false] at HE
   clear h2
   refine (HD.out _).mono ?_
   rintro e w2 ⟨rfl, hb⟩
   have HB2 := Lib.hid hb; clear hb
   go_wp2_with fail
   go_ret
   exact ⟨by rw [HE.out]; rfl, (HBox.out.trans (HB.out.mono HBox.out.size)).trans (HB2.out.mono (HBox.out.trans (HB.out.mono HBox.out.size)).size)⟩
theorem cmpI_dots (x y : Dt.Dot) : cmpI (0, x, ⟨#[]⟩) (0, y, ⟨#[]⟩) = Dt.cmp x y := by
 simp [cmpI, Lm.aheadI, Lm.ahead, Dt.less, Dt.cmp]
set_option maxHeartbeats 1600000 in
theorem compareDots_any (r i s r' i' s' : Nat) (W : World) :
  Calls Try.prog 46 #[dotV ((r, i), s), dotV ((r', i'), s')] W fun e w' => e = .returned (.int .i64 (Dt.cmp ((r, i), s) ((r', i'), s'))) ∧ Gr W.heap.size W w' := by
 have HBox := Lib.hid (gr_box2 W #[.int .u8 (r : Int), .int .u32 (i : Int), .int .u64 (s : Int)] #[.int .u8 (r' : Int), .int .u32 (i' : Int), .int .u64 (s' : Int)] 31 31)
 have HC := Lib.hid (compareItems_any 0 r i s ⟨#[]⟩ 0 r' i' s' ⟨#[]⟩)
 rw [cmpI_dots] at HC
 go_enter Try.func46, Try.ntmps46
 go_wp2_with fail
 refine (HC.out _).mono ?_
 rintro e w1 ⟨rfl, hb⟩
 have HB := Lib.hid hb; clear hb
 go_wp2_with fail
 go_ret
 exact ⟨rfl, HBox.out.trans (HB.out.mono HBox.out.size)⟩
end Go.Proofs.Ytbciopieciglmaa
