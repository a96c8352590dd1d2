import Derived.Test.YtiiidmphmojlgaaGreatZGr9
import Derived.Test.YtiiidmphmojlgaaGreatZDot15
import Derived.Lib.AppendZeros
namespace Go.Proofs.YtiiidmphmojlgaaGreat
open Go.RowKit Go.Buf Go.LB Go.Lib
set_option linter.unusedSimpArgs false
set_option linter.unusedVariables false
theorem Rng.size {W w : World} {r b clock : Nat} {e : MapEntry} {seen : Array Nat} (h : Rng W w r b e clock seen) : (World.iterSeen w r).size = seen.size := by
 obtain ⟨⟨c0, h1, _⟩, _⟩ := h
 simp [World.iterSeen, h1]
set_option maxRecDepth 100000 in
set_option maxHeartbeats 6400000 in
theorem time_one (p : Option Addr) (b : Nat) (c : Cm.C) (W : World) (hG : GAt W p (some b)) (hM : CMap W (some b) [c]) :
  Calls Tryz.prog 10 #[.pointer p] W fun e w' => e = .returned (.int .u64 (c.time : Int)) ∧ Below W.heap.size W w' := by
 obtain ⟨e, clock, hb0, hek, hev, hed, heb⟩ := hM.one
 obtain ⟨r', i', s', qa, ql, qc, va, vl, vc, tm, k, pa, pl, pc, n, t, da, dl, dc, q, v, pp, d, hval, rfl, _⟩ := hev
 have hmax : max (0 : Int) (tm : Int) = (tm : Int) := by omega
 have HG := Lib.hid hG; have HV := Lib.hid hval; have HB0 := Lib.hid hb0; have HE := Lib.hid heb
 clear hG hM hval hb0 hek hed heb
 go_enter Tryz.func10, Tryz.ntmps10
 go_wp2_with fail
 refine (parts_any p (some b) _ HG.out).mono ?_
 rintro x w1 ⟨rfl, hb⟩
 have hB := hb.alloc hb.size b0C
 have hbl : (w1.alloc b0C).heap[b]? = some (.map #[e] clock) := (hB.block b (Array.getElem?_eq_some_iff.1 HB0.out).1).trans HB0.out
 have hr := run_range_map (P := Tryz.prog) (w1.alloc b0C) 40 _ _ b #[e] clock Tryz.underlying40 hbl
 have hS := Rng.start hB hbl
 rw [World.size_alloc] at hS hr
 have HS := Lib.hid hS
 clear hb hB hbl hS
 go_wp2_with fail
 clear hr
 go_loopw [5, 7] (fun u _ wr => ∃ seen, Rng W wr (w1.heap.size + 1) b e clock seen ∧ ((seen = #[] ∧ u = .int .u64 0) ∨ (seen = #[e.born] ∧ u = .int .u64 (tm : Int)))) (fun _ _ wr => 1 - (World.iterSeen wr (w1.heap.size + 1)).size)
 case atStart => exact ⟨#[], HS.out, Or.inl ⟨rfl, rfl⟩⟩
 case round =>
  obtain ⟨seen, hR, ⟨rfl, rfl⟩ | ⟨rfl, rfl⟩⟩ := hrel
  ·obtain ⟨⟨c0, g1, g2⟩, g3, g4, g5⟩ := id hR
   have n1 := fun ty => next_one g1 g3 HE.out ty
   have hne : w1.heap.size + 1 ≠ b := fun e => by rw [e] at g1; rw [g1] at g3; cases g3
   have hst := hR.step hne
   have hz := hR.size
   obtain ⟨w3, hw3⟩ : ∃ w3, w3 = { wr with heap := wr.heap.setIfInBounds (w1.heap.size + 1) (.mapIter (some b) clock #[e.born] clock) } := ⟨_, rfl⟩
   rw [← hw3] at hst
   have n2 : ∀ ty, (Instr.next (.pointer (some ⟨w1.heap.size + 1, 0, none⟩)) false ty).run Tryz.prog wr = .ok (.tuple #[.bool true, e.key, e.val]) w3 := fun ty => by rw [hw3]; exact n1 ty
   obtain ⟨⟨c1, f1, f2⟩, f3, f4, f5⟩ := id hst
   have hc1 := f2 rfl
   subst hc1
   have n3 := entry_one f1 f3
   rw [HV.out] at n3
   have HST := Lib.hid hst; have HZ := Lib.hid hz
   clear n1 hw3 hst hz g1 g2 g3 g4 g5 hne f1 f2 f3 f4 f5 hR
   go_wp2_with fail
   go_roundw
   case rel => exact ⟨#[e.born], HST.out.below ((Below.refl _ _).alloc (Nat.le_refl _) _), Or.inr ⟨rfl, rfl⟩⟩
   case measure =>
    have h9 := (HST.out.below ((Below.refl _ _).alloc (Nat.le_refl _) (.cells #[.int .u8 (r' : Int), .int .u32 (i' : Int), .int .u64 (s' : Int), .slice qa ql qc, .slice va vl vc, .int .u64 (tm : Int), .int .u8 (k : Int), .slice pa pl pc, .int .i64 n, .string t, .slice da dl dc] 34))).size
    rw [h9, HZ.out]; simp
  ·obtain ⟨⟨c0, g1, g2⟩, g3, g4, g5⟩ := id hR
   have hc1 := g2 rfl
   subst hc1
   have n1 := fun ty => next_end g1 g3 HE.out ty
   have HB4 := Lib.hid g4
   clear g1 g2 g3 g4 g5 hR
   go_wp2_with fail
   go_ret
   exact ⟨rfl, HB4.out⟩
end Go.Proofs.YtiiidmphmojlgaaGreat
namespace Go.Proofs.YtiiidmphmojlgaaGreat
open Go.RowKit Go.Buf Go.LB Go.Lib
set_option linter.unusedSimpArgs false
set_option linter.unusedVariables false
set_option maxRecDepth 100000 in
set_option maxHeartbeats 6400000 in
theorem behind_own (b : Nat) (c : Cm.C) (W : World) (hM : CMap W (some b) [c]) :
  Calls Tryz.prog 30 #[.map (some b), dotV c.dot] W fun e w' => e = .returned (.bool false) ∧ Below W.heap.size W w' := by
 obtain ⟨e, clock, hb0, hek, hev, hed, heb⟩ := hM.one
 obtain ⟨r', i', s', qa, ql, qc, va, vl, vc, tm, k, pa, pl, pc, n, t, da, dl, dc, q, v, pp, d, hval, rfl, _⟩ := hev
 have HV := Lib.hid hval; have HB0 := Lib.hid hb0; have HE := Lib.hid heb
 have hB : Below W.heap.size W (W.alloc (.cells #[.int .u8 (r' : Int), .int .u32 (i' : Int), .int .u64 (s' : Int)] 27)) := (Below.refl _ _).alloc (Nat.le_refl _) _
 have hD := Blk.new W #[.int .u8 (r' : Int), .int .u32 (i' : Int), .int .u64 (s' : Int)] 27
 have hbl : (W.alloc (.cells #[.int .u8 (r' : Int), .int .u32 (i' : Int), .int .u64 (s' : Int)] 27)).heap[b]? = some (.map #[e] clock) := (hB.block b (Array.getElem?_eq_some_iff.1 hb0).1).trans hb0
 have hr := run_range_map (P := Tryz.prog) (W.alloc (.cells #[.int .u8 (r' : Int), .int .u32 (i' : Int), .int .u64 (s' : Int)] 27)) 40 _ _ b #[e] clock Tryz.underlying40 hbl
 have hS := Rng.start hB hbl
 have hD2 := hD.below ((Below.refl _ _).alloc (Nat.le_refl _) (.mapIter (some b) clock #[] clock))
 rw [World.size_alloc] at hS hr
 have HS := Lib.hid hS; have HD := Lib.hid hD2
 simp only at *
 clear hM hval hb0 hek hed heb hB hD hbl hS hD2
 go_enter Tryz.func30, Tryz.ntmps30
 go_wp2_with fail
 clear hr
 go_loopw [6] (fun _ wr => ∃ seen, Rng W wr (W.heap.size + 1) b e clock seen ∧ Blk wr W.heap.size 27 [.int .u8 (r' : Int), .int .u32 (i' : Int), .int .u64 (s' : Int)] ∧ (seen = #[] ∨ seen = #[e.born])) (fun _ wr => 1 - (World.iterSeen wr (W.heap.size + 1)).size)
 case atStart => exact ⟨#[], HS.out, HD.out, Or.inl rfl⟩
 case round =>
  obtain ⟨seen, hR, hDk, rfl | rfl⟩ := hrel
  ·obtain ⟨⟨c0, g1, g2⟩, g3, g4, g5⟩ := id hR
   have n1 := fun ty => next_one g1 g3 HE.out ty
   have hne : W.heap.size + 1 ≠ b := fun e => by rw [e] at g1; rw [g1] at g3; cases g3
   have hst := hR.step hne
   have hz := hR.size
   obtain ⟨w3, hw3⟩ : ∃ w3, w3 = { wr with heap := wr.heap.setIfInBounds (W.heap.size + 1) (.mapIter (some b) clock #[e.born] clock) } := ⟨_, rfl⟩
   have hDk3 : Blk w3 W.heap.size 27 [.int .u8 (r' : Int), .int .u32 (i' : Int), .int .u64 (s' : Int)] := by
    unfold Blk at hDk ⊢
    rw [hw3]
    simp only [Array.getElem?_setIfInBounds]
    rw [if_neg (by omega)]
    exact hDk
   rw [← hw3] at hst
   have n2 : ∀ ty, (Instr.next (.pointer (some ⟨W.heap.size + 1, 0, none⟩)) false ty).run Tryz.prog wr = .ok (.tuple #[.bool true, e.key, e.val]) w3 := fun ty => by rw [hw3]; exact n1 ty
   obtain ⟨⟨c1, f1, f2⟩, f3, f4, f5⟩ := id hst
   have hc1 := f2 rfl
   subst hc1
   have n3 := entry_one f1 f3
   rw [HV.out] at n3
   have d0 := hDk3.cell 0; have d1 := hDk3.cell 1; have d2 := hDk3.cell 2
   simp only [List.getElem?_cons_succ, List.getElem?_cons_zero] at d0 d1 d2
   have hlt := hDk3.lt
   have HST := Lib.hid hst; have HZ := Lib.hid hz; have HDK := Lib.hid hDk3
   clear n1 hw3 hst hz g1 g2 g3 g4 g5 hne f1 f2 f3 f4 f5 hR hDk hDk3
   go_wp2_with fail
   go_roundw
   case rel => exact ⟨#[e.born], HST.out.below ((Below.refl _ _).alloc (Nat.le_refl _) _), HDK.out.below ((Below.refl _ _).alloc (Nat.le_refl _) _), Or.inr rfl⟩
   case measure =>
    have h9 := (HST.out.below ((Below.refl _ _).alloc (Nat.le_refl _) (.cells #[.int .u8 (r' : Int), .int .u32 (i' : Int), .int .u64 (s' : Int), .slice qa ql qc, .slice va vl vc, .int .u64 (tm : Int), .int .u8 (k : Int), .slice pa pl pc, .int .i64 n, .string t, .slice da dl dc] 34))).size
    rw [h9, HZ.out]; simp
  ·obtain ⟨⟨c0, g1, g2⟩, g3, g4, g5⟩ := id hR
   have hc1 := g2 rfl
   subst hc1
   have n1 := fun ty => next_end g1 g3 HE.out ty
   have HB4 := Lib.hid g4
   clear g1 g2 g3 g4 g5 hR hDk
   go_wp2_with fail
   go_ret
   exact ⟨rfl, HB4.out⟩
end Go.Proofs.YtiiidmphmojlgaaGreat
namespace Go.Proofs.YtiiidmphmojlgaaGreat
open Go.RowKit Go.Buf Go.LB Go.Lib
set_option linter.unusedSimpArgs false
set_option linter.unusedVariables false
set_option maxRecDepth 100000 in
set_option maxHeartbeats 3200000 in
theorem mayStand_none (p : Value) (r i s : Nat) (qa : Option Addr) (qc : Nat) (va : Option Addr) (vl vc : Nat) (tm k : Nat) (pa : Option Addr) (pl pc : Nat) (n : Int) (t : ByteArray) (da : Option Addr) (dl dc : Nat) (W : World) : Calls Tryz.prog 67 #[p, cmV r i s qa 0 qc va vl vc tm k pa pl pc n t da dl dc] W fun e w' => e = .returned (.bool true) ∧ Below W.heap.size W w' := by
 have HB0 := Lib.hid (show Below W.heap.size W (W.alloc (.cells #[.int .u8 (r : Int), .int .u32 (i : Int), .int .u64 (s : Int), .slice qa 0 qc, .slice va vl vc, .int .u64 (tm : Int), .int .u8 (k : Int), .slice pa pl pc, .int .i64 n, .string t, .slice da dl dc] 34)) from (Below.refl _ _).alloc (Nat.le_refl _) _)
 go_enter Tryz.func67, Tryz.ntmps67
 go_wp2_with fail
 refine (parents_none p r i s qa qc va vl vc tm k pa pl pc n t da dl dc _).mono ?_
 rintro e w1 ⟨rfl, hb⟩
 have HB := Lib.hid (HB0.out.trans (hb.mono HB0.out.size))
 clear hb
 go_wp2_with fail
 go_loopw [6, 7, 12] (fun _ _ v wr => v = .int .i64 0 ∧ wr = w1) (fun _ _ _ _ => 0)
 case atStart => exact ⟨rfl, rfl⟩
 case round =>
  obtain ⟨rfl, rfl⟩ := hrel
  go_wp2_with fail
  go_ret
  exact ⟨rfl, HB.out⟩
end Go.Proofs.YtiiidmphmojlgaaGreat
/- Grow and Concat of vectors. -/
namespace Go.Proofs.YtiiidmphmojlgaaGreat
open Go.RowKit Go.Buf Go.LB Go.Lib
set_option linter.unusedSimpArgs false
set_option linter.unusedVariables false
abbrev OwnVV (B : Nat) (w : World) (v : Value) (l : List Dt.Dot) (row : Option Nat) : Prop := LB.Own 27 3 encT B w v l row
theorem appsV (v : Value) (row : Option Nat) (l l2 : List Dt.Dot) (x : Value) (B : Nat) (w : World) (h : OwnVV B w v l row) (hs : Src Tryz.prog 3 29 x l2.length (l2.flatMap encT) w) (hn : l.length + l2.length ≤ 100000000) (ty : TypeId) :
  ∃ v' w' row', (Builtin.append_ #[29, 29] ty #[v, x]).run Tryz.prog w = .ok v' w' ∧ OwnVV B w' v' (l ++ l2) row' ∧ w.grownBy w' row ∧ New w row row' := by
 obtain ⟨i0, hi, hz0, hz1, hz2⟩ := info_parts info_dot
 exact LB.run_append_owned (P := Tryz.prog) encT_len w B 29 29 ty i0 _ 16 Tryz.underlying29 hi hz0 hz1 hz2 rfl h x l2 hs (by simp [maxLen]; omega) (by omega)
set_option maxHeartbeats 1600000 in
theorem growV_nil (n : Nat) (hn : n ≤ 1000000) (W : World) :
  Calls Tryz.prog 124 #[.slice none 0 0, .int .i64 (n : Int)] W fun e w' => (∃ v row, e = .returned v ∧ OwnVV W.heap.size w' v [] row) ∧ Below W.heap.size W w' := by
 by_cases h0 : n = 0
 ·subst h0
  go_enter Tryz.func124, Tryz.ntmps124
  go_wp2_with fail
  go_ret
  exact ⟨⟨_, none, rfl, LB.Own.empty (Nat.le_refl _) none⟩, Below.refl _ _⟩
 ·obtain ⟨i0, hi0, hz0, hzs, hzb⟩ := info_parts info_dot
  have hrz : ∀ ty, (Builtin.append_ #[29, 3] ty #[.slice none 0 0, .int .i64 (n : Int)]).run Tryz.prog W =
    .ok (.slice (some ⟨W.heap.size, 0, none⟩) n (grownCap W n 0 27)) (W.drew.alloc (.cells (Builtin.zeroCells (Value.agg #[.int .u8 0, .int .u32 0, .int .u64 0]).cells n ++ Builtin.zeroCells (Value.agg #[.int .u8 0, .int .u32 0, .int .u64 0]).cells (grownCap W n 0 27 - n)) 27)) := fun ty =>
   Lib.run_append_nil_zeros W 29 3 ty 27 i0 _ .i64 .i64 Tryz.underlying29 Tryz.underlying3 hi0 hz0 n (by omega) (by omega) (by omega) (by rw [hzb]; omega)
  obtain ⟨G, hG⟩ : ∃ G, G = grownCap W n 0 27 := ⟨_, rfl⟩
  have hGn : n ≤ G := by rw [hG]; exact grownCap_ge W _ _ _
  have hG63 : G ≤ maxLen := by rw [hG]; exact grownCap_le_maxLen W n 0 27 (by unfold maxLen; omega)
  rw [← hG] at hrz
  obtain ⟨Z, hZ⟩ : ∃ Z, Z = Builtin.zeroCells (Value.agg #[.int .u8 0, .int .u32 0, .int .u64 0]).cells n ++ Builtin.zeroCells (Value.agg #[.int .u8 0, .int .u32 0, .int .u64 0]).cells (G - n) := ⟨_, rfl⟩
  rw [← hZ] at hrz
  have hZl : Z.toList.length = G * 3 := by rw [hZ]; simp [Builtin.zeroCells, Value.cells]; omega
  have hN : Blk (W.drew.alloc (.cells Z 27)) W.heap.size 27 Z.toList := Blk.new W.drew Z 27
  have hO : OwnVV W.heap.size (W.drew.alloc (.cells Z 27)) (.slice (some ⟨W.heap.size, 0, none⟩) 0 G) [] (some W.heap.size) :=
   ⟨by simp, Or.inr ⟨W.heap.size, G, Z.toList, rfl, rfl, Nat.le_refl _, by simpa using hN, by simp, hG63, by simpa using hZl⟩⟩
  have HO := Lib.hid hO
  have HB := Lib.hid (((Below.refl W.heap.size W).drew).alloc (Nat.le_refl _) (.cells Z 27))
  clear hO hN hZl hZ hG hi0 hz0 hzs hzb
  have hG0 : (0 : Int) ≤ (G : Int) := by omega
  have hp : (0 : Int) < (n : Int) := by omega
  go_enter Tryz.func124, Tryz.ntmps124
  go_wp2_with (at_builtin; refine Lib.wpList_append_run _ rfl _ _ _ _ rfl _ _ rfl rfl _ _ (hrz _) ?_)
  go_ret
  exact ⟨⟨_, _, rfl, HO.out⟩, HB.out⟩
set_option maxRecDepth 100000 in
set_option maxHeartbeats 6400000 in
theorem concatV4 (b : Nat) (a0 : Option Addr) (c0 : Nat) (a1 : Option Addr) (c1 : Nat) (a2 : Option Addr) (c2 : Nat) (a3 : Option Addr) (c3 : Nat) (d : Dt.Dot) (W : World) (hb : Blk W b 29 [.slice a0 0 c0, .slice a1 0 c1, .slice a2 0 c2, .slice a3 1 c3]) (h0 : VRow W a0 c0 []) (h1 : VRow W a1 c1 []) (h2 : VRow W a2 c2 []) (h3 : VRow W a3 c3 [d]) :
  Calls Tryz.prog 105 #[.slice (some ⟨b, 0, none⟩) 4 4] W fun e w' => (∃ v row, e = .returned v ∧ OwnVV W.heap.size w' v [d] row) ∧ Below W.heap.size W w' := by
 have H0 := Lib.hid h0; have H1 := Lib.hid h1; have H2 := Lib.hid h2; have H3 := Lib.hid h3
 have q0 : W.cell? ⟨b, 0, none⟩ = some (.slice a0 0 c0) := hb.cell 0
 have q1 : W.cell? ⟨b, 1, none⟩ = some (.slice a1 0 c1) := hb.cell 1
 have q2 : W.cell? ⟨b, 2, none⟩ = some (.slice a2 0 c2) := hb.cell 2
 have q3 : W.cell? ⟨b, 3, none⟩ = some (.slice a3 1 c3) := hb.cell 3
 have hbl := hb.lt
 clear h0 h1 h2 h3 hb
 go_enter Tryz.func105, Tryz.ntmps105
 go_wp2_with fail
 go_loopw [3, 5, 11] (fun z x i wr => ∃ k : Nat, i = .int .i64 k ∧ k ≤ 4 ∧ W = wr ∧ z = .int .i64 ((if k ≤ 3 then 0 else 1 : Nat) : Int)) (fun _ _ i _ => 4 - (intOf i).toNat)
 case atStart => exact ⟨0, rfl, by omega, rfl, rfl⟩
 case round =>
  obtain ⟨k, rfl, hk, rfl, rfl⟩ := hrel
  by_cases hlt : k < 4
  ·rcases (show k = 0 ∨ k = 1 ∨ k = 2 ∨ k = 3 by omega) with rfl | rfl | rfl | rfl
   ·simp only [if_pos (show 0 ≤ 3 by omega)]
    go_wp2_with fail
    go_roundw
    case rel => exact ⟨1, by go_num, by omega, trivial, by simp⟩
    case measure => simp [intOf]
   ·simp only [if_pos (show 1 ≤ 3 by omega)]
    go_wp2_with fail
    go_roundw
    case rel => exact ⟨2, by go_num, by omega, trivial, by simp⟩
    case measure => simp [intOf]
   ·simp only [if_pos (show 2 ≤ 3 by omega)]
    go_wp2_with fail
    go_roundw
    case rel => exact ⟨3, by go_num, by omega, trivial, by simp⟩
    case measure => simp [intOf]
   ·simp only [if_pos (show 3 ≤ 3 by omega)]
    go_wp2_with fail
    go_roundw
    case rel => exact ⟨4, by go_num, by omega, trivial, by simp⟩
    case measure => simp [intOf]
  ·obtain rfl : k = 4 := by omega
   simp only [if_neg (show ¬ (4 ≤ 3) by omega)]
   have HG := Lib.hid (growV_nil 1 (by omega))
   go_wp2_with fail
   refine (HG.out _).mono ?_
   rintro e w1 ⟨⟨v1, row1, rfl, hv1⟩, hb1⟩
   have HV1 := Lib.hid hv1; have HB1 := Lib.hid hb1
   have p0 := (hb1.cell (p := ⟨b, 0, none⟩) hbl).trans q0
   have p1 := (hb1.cell (p := ⟨b, 1, none⟩) hbl).trans q1
   have p2 := (hb1.cell (p := ⟨b, 2, none⟩) hbl).trans q2
   have p3 := (hb1.cell (p := ⟨b, 3, none⟩) hbl).trans q3
   clear hv1 hb1 HG
   go_wp2_with fail
   go_loopw [6, 8, 27] (fun z x i w2 => ∃ (k : Nat) (row : Option Nat), i = .int .i64 k ∧ k ≤ 4 ∧ OwnVV W.heap.size w2 z (if k ≤ 3 then [] else [d]) row ∧ Below W.heap.size W w2) (fun _ _ i _ => 4 - (intOf i).toNat)
   case atStart => exact ⟨0, row1, rfl, by omega, HV1.out, HB1.out⟩
   case round =>
    obtain ⟨k, row, rfl, hk, hown, hbel⟩ := hrel
    have HO := Lib.hid hown; have HW := Lib.hid hbel
    have o0 := (hbel.cell (p := ⟨b, 0, none⟩) hbl).trans q0
    have o1 := (hbel.cell (p := ⟨b, 1, none⟩) hbl).trans q1
    have o2 := (hbel.cell (p := ⟨b, 2, none⟩) hbl).trans q2
    have o3 := (hbel.cell (p := ⟨b, 3, none⟩) hbl).trans q3
    clear hown hbel p0 p1 p2 p3
    by_cases hlt : k < 4
    ·rcases (show k = 0 ∨ k = 1 ∨ k = 2 ∨ k = 3 by omega) with rfl | rfl | rfl | rfl
     ·have hs := srcV (H0.out.below HW.out)
      obtain ⟨v', w2, row', h1, h2, h3, h4⟩ := appsV _ row _ [] (.slice a0 0 c0) W.heap.size wr HO.out hs (by simp) 29
      have H2' := Lib.hid h2; have H3' := Lib.hid h3
      clear hs h2 h3 h4
      go_wp2_with (at_builtin; refine Lib.wpList_append_run _ rfl _ _ _ _ rfl _ _ rfl rfl _ _ h1 ?_)
      clear h1
      go_roundw
      case rel => exact ⟨1, row', by go_num, by omega, by simpa using H2'.out, HW.out.grown H3'.out HW.out.size (fun b e => (HO.out.lt b e).1)⟩
      case measure => simp [intOf]
     ·have hs := srcV (H1.out.below HW.out)
      obtain ⟨v', w2, row', h1, h2, h3, h4⟩ := appsV _ row _ [] (.slice a1 0 c1) W.heap.size wr HO.out hs (by simp) 29
      have H2' := Lib.hid h2; have H3' := Lib.hid h3
      clear hs h2 h3 h4
      go_wp2_with (at_builtin; refine Lib.wpList_append_run _ rfl _ _ _ _ rfl _ _ rfl rfl _ _ h1 ?_)
      clear h1
      go_roundw
      case rel => exact ⟨2, row', by go_num, by omega, by simpa using H2'.out, HW.out.grown H3'.out HW.out.size (fun b e => (HO.out.lt b e).1)⟩
      case measure => simp [intOf]
     ·have hs := srcV (H2.out.below HW.out)
      obtain ⟨v', w2, row', h1, h2, h3, h4⟩ := appsV _ row _ [] (.slice a2 0 c2) W.heap.size wr HO.out hs (by simp) 29
      have H2' := Lib.hid h2; have H3' := Lib.hid h3
      clear hs h2 h3 h4
      go_wp2_with (at_builtin; refine Lib.wpList_append_run _ rfl _ _ _ _ rfl _ _ rfl rfl _ _ h1 ?_)
      clear h1
      go_roundw
      case rel => exact ⟨3, row', by go_num, by omega, by simpa using H2'.out, HW.out.grown H3'.out HW.out.size (fun b e => (HO.out.lt b e).1)⟩
      case measure => simp [intOf]
     ·have hs := srcV (H3.out.below HW.out)
      obtain ⟨v', w2, row', h1, h2, h3, h4⟩ := appsV _ row _ [d] (.slice a3 1 c3) W.heap.size wr HO.out hs (by simp) 29
      have H2' := Lib.hid h2; have H3' := Lib.hid h3
      clear hs h2 h3 h4
      go_wp2_with (at_builtin; refine Lib.wpList_append_run _ rfl _ _ _ _ rfl _ _ rfl rfl _ _ h1 ?_)
      clear h1
      go_roundw
      case rel => exact ⟨4, row', by go_num, by omega, by simpa using H2'.out, HW.out.grown H3'.out HW.out.size (fun b e => (HO.out.lt b e).1)⟩
      case measure => simp [intOf]
    ·obtain rfl : k = 4 := by omega
     go_wp2_with fail
     go_ret
     exact ⟨⟨_, row, rfl, HO.out⟩, HW.out⟩
end Go.Proofs.YtiiidmphmojlgaaGreat
