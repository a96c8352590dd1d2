import Derived.Test.YtplafpchgfjomaaZOp8
import Derived.Test.YtplafpchgfjomaaZCode8
namespace Go.Proofs.Ytplafpchgfjomaa
open Go.RowKit Go.Buf
set_option linter.unusedSimpArgs false
set_option linter.unusedVariables false
def FindV (b : Bool) (e : Ending) : Prop := ∃ i : Nat, e = .returned (.tuple #[.int .i64 (i : Int), .bool b])
def Lows (ds : List Dt.Dot) (d : Dt.Dot) (lo hi : Nat) : Prop := (∀ j x, j < lo → ds[j]? = some x → Dt.lt x d) ∧ ∀ j x, hi ≤ j → ds[j]? = some x → ¬ Dt.lt x d
theorem Lows.start {ds : List Dt.Dot} {d : Dt.Dot} {n : Nat} (h : ds.length ≤ n) : Lows ds d 0 n := ⟨fun j x hj => by omega, fun j x hj hx => by have := (List.getElem?_eq_some_iff.1 hx).1; omega⟩
theorem asc_get {ds : List Dt.Dot} (hp : ds.Pairwise Dt.lt) {j k : Nat} {x y : Dt.Dot} (hx : ds[j]? = some x) (hy : ds[k]? = some y) (h : j < k) : Dt.lt x y := by
 obtain ⟨h1, rfl⟩ := List.getElem?_eq_some_iff.1 hx
 obtain ⟨h2, rfl⟩ := List.getElem?_eq_some_iff.1 hy
 exact List.pairwise_iff_getElem.1 hp j k h1 h2 h
theorem Lows.low {ds : List Dt.Dot} {d e : Dt.Dot} {lo hi m : Nat} (h : Lows ds d lo hi) (he : ds[m]? = some e) (hl : Dt.less e d = true) (hp : ds.Pairwise Dt.lt) : Lows ds d (m + 1) hi := by
 have hl2 : Dt.lt e d := by simpa [Dt.less] using hl
 refine ⟨fun j x hj hx => ?_, h.2⟩
 by_cases hjm : j = m
 ·subst hjm; rw [he] at hx; obtain rfl := Option.some.inj hx; exact hl2
 ·exact Dt.lt_trans (asc_get hp hx he (by omega)) hl2
theorem Lows.high {ds : List Dt.Dot} {d e : Dt.Dot} {lo hi m : Nat} (h : Lows ds d lo hi) (he : ds[m]? = some e) (hl : Dt.less e d = false) (hp : ds.Pairwise Dt.lt) : Lows ds d lo m := by
 have hl2 : ¬ Dt.lt e d := by simpa [Dt.less] using hl
 refine ⟨h.1, fun j x hj hx hlt => hl2 ?_⟩
 by_cases hjm : j = m
 ·subst hjm; rw [he] at hx; obtain rfl := Option.some.inj hx; exact hlt
 ·exact Dt.lt_trans (asc_get hp he hx (by omega)) hlt
theorem Lows.found {ds : List Dt.Dot} {d e : Dt.Dot} {k : Nat} (h : Lows ds d k k) (he : ds[k]? = some e) (hp : ds.Pairwise Dt.lt) : Lm.hasD ds d = decide (Dt.cmp e d = 0) := by
 apply Lm.bool_eq
 rw [Lm.hasD_iff, decide_eq_true_eq]
 constructor
 ·intro hm
  obtain ⟨j, hj, hx⟩ := List.getElem_of_mem hm
  have hx2 : ds[j]? = some d := by rw [List.getElem?_eq_getElem hj, hx]
  have : j = k := by
   by_cases h1 : j < k
   ·exact absurd (h.1 j d h1 hx2) (Dt.lt_irrefl _)
   ·by_cases h2 : j = k
    ·exact h2
    ·exact absurd (asc_get hp he hx2 (by omega)) (h.2 k e (Nat.le_refl _) he)
  subst this
  rw [he] at hx2
  obtain rfl := Option.some.inj hx2
  simp [Dt.cmp, Dt.lt_irrefl]
 ·intro hc
  have : e = d := by
   unfold Dt.cmp at hc
   rcases Lm.lt_total e d with g | g | g
   ·rw [if_pos g] at hc; cases hc
   ·exact g
   ·rw [if_neg (fun g2 => Dt.lt_irrefl _ (Dt.lt_trans g g2)), if_pos g] at hc; cases hc
  rw [← this]
  exact List.mem_of_getElem? he
theorem Lows.none {ds : List Dt.Dot} {d : Dt.Dot} {k : Nat} (h : Lows ds d k k) (hk : ds.length ≤ k) : Lm.hasD ds d = false := by
 rw [← Bool.not_eq_true, Lm.hasD_iff]
 intro hm
 obtain ⟨j, hj, hx⟩ := List.getElem_of_mem hm
 exact Dt.lt_irrefl _ (h.1 j d (by omega) (by rw [List.getElem?_eq_getElem hj, hx]))
theorem dots_get {l : List Lm.It} {k : Nat} {x : Lm.It} (h : l[k]? = some x) : (Lm.dots l)[k]? = some x.2.1 := by simp [Lm.dots, h]
theorem hasI_dots (l : List Lm.It) (d : Dt.Dot) : Lm.hasD (Lm.dots l) d = Lm.hasI l d := by simp [Lm.hasD, Lm.hasI, Lm.dots, List.any_map, Function.comp_def]
set_option maxHeartbeats 1000000 in
theorem cmpItem_any (t r i s : Nat) (x : ByteArray) (r' i' s' : Nat) (W : World) :
  Calls Try.prog 73 #[itV t r i s x, dotV ((r', i'), s')] W fun e w' => e = .returned (.int .i64 (Dt.cmp ((r, i), s) ((r', i'), s'))) ∧ Below W.heap.size W w' := by
 have HBox := Lib.hid ((below_box2 W #[.int .u64 (t : Int), .int .u8 (r : Int), .int .u32 (i : Int), .int .u64 (s : Int), .string x] #[.int .u8 (r' : Int), .int .u32 (i' : Int), .int .u64 (s' : Int)] 57 40))
 go_enter Try.func73, Try.ntmps73
 go_wp2_with fail
 refine (compare_any r i s r' i' s' _).mono ?_
 rintro e w1 ⟨rfl, hb⟩
 have HB := Lib.hid hb.below; clear hb
 go_wp2_with fail
 go_ret
 exact ⟨rfl, HBox.out.trans (HB.out.mono HBox.out.size)⟩
set_option maxRecDepth 100000 in
set_option maxHeartbeats 6400000 in
theorem findI_any (a : Option Addr) (n cap : Nat) (r i s : Nat) (l : List Lm.It) (W : World) (hr : IRow W a cap l) (hl : l.length = n) (hn : n ≤ 1000000000) (hp : (Lm.dots l).Pairwise Dt.lt) :
  Calls Try.prog 72 #[.slice a n cap, dotV ((r, i), s), .func (.func 73) #[] #[]] W fun e w' => FindV (Lm.hasD (Lm.dots l) ((r, i), s)) e ∧ Below W.heap.size W w' := by
 have hle := hr.le
 have hcap := hr.cap
 rw [hl] at hle
 have HR := Lib.hid hr; have HL := Lib.hid hl; have HP := Lib.hid hp
 clear hr hl hp
 go_enter Try.func72, Try.ntmps72
 go_wp2_with fail
 go_loopw [9, 10, 11] (fun x y _ wr => ∃ lo hi : Nat, lo ≤ hi ∧ hi ≤ n ∧ x = .int .i64 lo ∧ y = .int .i64 hi ∧ Below (W.alloc (.cells #[.int .u8 (r : Int), .int .u32 (i : Int), .int .u64 (s : Int)] 40)).heap.size (W.alloc (.cells #[.int .u8 (r : Int), .int .u32 (i : Int), .int .u64 (s : Int)] 40)) wr ∧ Lows (Lm.dots l) ((r, i), s) lo hi) (fun x y _ _ => (intOf y - intOf x).toNat)
 case atStart => exact ⟨0, n, by omega, by omega, rfl, rfl, Below.refl _ _, Lows.start (by rw [Lm.dots, List.length_map, HL.out]; omega)⟩
 case round =>
  obtain ⟨lo, hi, hlh, hhn, rfl, rfl, hbel, hlow⟩ := hrel
  obtain ⟨b0, b1, b2⟩ := dotcells hbel
  have hsz := hbel.size
  have HW := Lib.hid (((Below.refl W.heap.size W).alloc (Nat.le_refl _) (.cells #[.int .u8 (r : Int), .int .u32 (i : Int), .int .u64 (s : Int)] 40)).trans (hbel.mono (by simp)))
  have HLow := Lib.hid hlow; have HBel := Lib.hid hbel
  clear hlow hbel
  simp only [World.size_alloc] at hsz
  by_cases hlt : lo < hi
  ·obtain ⟨m, hm⟩ : ∃ m : Nat, m = (lo + hi) / 2 := ⟨_, rfl⟩
   have hm1 : lo ≤ m := by omega
   have hm2 : m < hi := by omega
   have hmi : ((lo : Int) + (hi : Int)) / 2 = (m : Int) := by omega
   have w1 : IntKind.i64.wrap ((lo : Int) + (hi : Int)) = (lo : Int) + (hi : Int) := by simp [IntKind.wrap, IntKind.bits, IntKind.signed]; omega
   have HMI := Lib.hid hmi
   clear hm hmi
   obtain ⟨e, hd⟩ := geti_some (l := l) (i := m) (by rw [HL.out]; omega)
   obtain ⟨blk, off, rfl, hblk, hcells⟩ := HR.out.at (by rw [HL.out]; omega)
   obtain ⟨g0, g1, g2, g3, g4⟩ := hcells m e hd
   have q0 := (HW.out.cell (p := ⟨blk, off + m * 5, none⟩) hblk).trans g0
   have q1 := (HW.out.cell (p := ⟨blk, off + m * 5 + 1, none⟩) hblk).trans g1
   have q2 := (HW.out.cell (p := ⟨blk, off + m * 5 + 2, none⟩) hblk).trans g2
   have q3 := (HW.out.cell (p := ⟨blk, off + m * 5 + 3, none⟩) hblk).trans g3
   have q4 := (HW.out.cell (p := ⟨blk, off + m * 5 + 4, none⟩) hblk).trans g4
   have HK := Lib.hid (dots_get hd)
   have i0 : (0 : Int) ≤ (m : Int) := by omega
   have i1 : (m : Int) < (n : Int) := by omega
   obtain ⟨t', ⟨⟨r', i'⟩, s'⟩, x'⟩ := e
   simp only at q0 q1 q2 q3 q4 HK
   clear hcells g0 g1 g2 g3 g4 hd
   have hC : ∀ w2, Below wr.drew.heap.size wr.drew w2 → w2.cell? ⟨W.heap.size, 0, none⟩ = some (.int .u8 (r : Int)) ∧ w2.cell? ⟨W.heap.size, 1, none⟩ = some (.int .u32 (i : Int)) ∧ w2.cell? ⟨W.heap.size, 2, none⟩ = some (.int .u64 (s : Int)) ∧ w2.cell? ⟨blk, off + m * 5, none⟩ = some (.int .u64 (t' : Int)) ∧ w2.cell? ⟨blk, off + m * 5 + 1, none⟩ = some (.int .u8 (r' : Int)) ∧ w2.cell? ⟨blk, off + m * 5 + 2, none⟩ = some (.int .u32 (i' : Int)) ∧ w2.cell? ⟨blk, off + m * 5 + 3, none⟩ = some (.int .u64 (s' : Int)) ∧ w2.cell? ⟨blk, off + m * 5 + 4, none⟩ = some (.string x') := fun w2 h =>
    ⟨(h.cell (p := ⟨W.heap.size, 0, none⟩) (by simp; omega)).trans b0, (h.cell (p := ⟨W.heap.size, 1, none⟩) (by simp; omega)).trans b1, (h.cell (p := ⟨W.heap.size, 2, none⟩) (by simp; omega)).trans b2, (h.cell (p := ⟨blk, off + m * 5, none⟩) (by simp; omega)).trans q0, (h.cell (p := ⟨blk, off + m * 5 + 1, none⟩) (by simp; omega)).trans q1, (h.cell (p := ⟨blk, off + m * 5 + 2, none⟩) (by simp; omega)).trans q2, (h.cell (p := ⟨blk, off + m * 5 + 3, none⟩) (by simp; omega)).trans q3, (h.cell (p := ⟨blk, off + m * 5 + 4, none⟩) (by simp; omega)).trans q4⟩
   have HC := Lib.hid hC; clear hC
   have hcl := less_cmp ((r', i'), s') ((r, i), s)
   cases hls : Dt.less ((r', i'), s') ((r, i), s)
   ·rw [hls] at hcl
    have HLs := Lib.hid hls
    have hcz : 0 ≤ Dt.cmp ((r', i'), s') ((r, i), s) := by simpa using hcl
    clear hcl hls b0 b1 b2 q0 q1 q2 q3 q4
    go_wp2_with fail
    simp only [HMI.out]
    refine Reg.region_list (by kernel_rfl) [fun v _ => v = .func (.func 73) #[] #[], fun v _ => v = .slice (some ⟨blk, off, none⟩) n cap, fun v _ => v = .int .i64 ((m : Nat) : Int), fun v _ => v = .pointer (some ⟨blk, off + m * 5, none⟩), fun v _ => v = itV t' r' i' s' x', fun v _ => v = .agg #[.int .u8 (r : Int), .int .u32 (i : Int), .int .u64 (s : Int)], fun v _ => v = .int .i64 (Dt.cmp ((r', i'), s') ((r, i), s)), fun v _ => v = .bool false] (by kernel_rfl) ?_ ?_ ?_
    ·refine ⟨k4, k4, k4, k4, k4, k4, k4, k4, trivial⟩
    ·refine ⟨?_, ?_, ?_, ?_, ?_, ?_, ?_, ?_, trivial⟩
     ·intro ev w hc hf hg hfix hdep hbel
      have e2 : ev (.tmp 2) = _ := hfix 2 (by decide)
      exact okb trivial rfl (by go_simp)
     ·intro ev w hc hf hg hfix hdep hbel
      have e0 : ev (.tmp 0) = _ := hfix 0 (by decide)
      exact okb trivial rfl (by go_simp)
     ·intro ev w hc hf hg hfix hdep hbel
      have e11 : ev (.tmp 11) = _ := hfix 11 (by decide)
      exact okb trivial rfl (by go_simp)
     ·intro ev w hc hf hg hfix hdep hbel
      have e25 : ev (.tmp 25) = _ := hdep 1 (by decide)
      have e26 : ev (.tmp 26) = _ := hdep 2 (by decide)
      exact okb trivial rfl (by go_simp)
     ·intro ev w hc hf hg hfix hdep hbel
      have e27 : ev (.tmp 27) = _ := hdep 3 (by decide)
      obtain ⟨hc0, hc1, hc2, hc3, hc4, hc5, hc6, hc7⟩ := HC.out w hbel
      exact okb trivial rfl (by go_simp)
     ·intro ev w hc hf hg hfix hdep hbel
      have e4 : ev (.tmp 4) = _ := hfix 4 (by decide)
      obtain ⟨hc0, hc1, hc2, hc3, hc4, hc5, hc6, hc7⟩ := HC.out w hbel
      exact okb trivial rfl (by go_simp)
     ·intro ev w hc hf hg hfix hdep hbel
      have e24 : ev (.tmp 24) = _ := hdep 0 (by decide)
      have e28 : ev (.tmp 28) = _ := hdep 4 (by decide)
      have e29 : ev (.tmp 29) = _ := hdep 5 (by decide)
      refine Or.inl ⟨trivial, Or.inr ⟨73, #[itV t' r' i' s' x', .agg #[.int .u8 (r : Int), .int .u32 (i : Int), .int .u64 (s : Int)]], w, by go_simp, ?_⟩⟩
      refine (cmpItem_any t' r' i' s' x' r i s w).mono ?_
      rintro e w1 ⟨rfl, hb1⟩
      exact ⟨_, rfl, rfl, hb1⟩
     ·intro ev w hc hf hg hfix hdep hbel
      have e30 : ev (.tmp 30) = _ := hdep 6 (by decide)
      exact okb trivial rfl (by go_simp)
    ·intro v w2 hv hb2
     have r0 : v 0 = _ := hv 0 (by decide)
     have r1 : v 1 = _ := hv 1 (by decide)
     have r2 : v 2 = _ := hv 2 (by decide)
     have r3 : v 3 = _ := hv 3 (by decide)
     have r4 : v 4 = _ := hv 4 (by decide)
     have r5 : v 5 = _ := hv 5 (by decide)
     have r6 : v 6 = _ := hv 6 (by decide)
     have r7 : v 7 = _ := hv 7 (by decide)
     simp only [Reg.putAll, Act.put, List.setIfInBounds_toArray, List.set_cons_zero, List.set_cons_succ, r0, r1, r2, r3, r4, r5, r6, r7]
     clear r0 r1 r2 r3 r4 r5 r6 r7 hv
     have HBw := Lib.hid (HBel.out.trans (hb2.mono HBel.out.size)); clear hb2
     have hw3 : IntKind.i64.wrap ((m : Int) + 1) = (m : Int) + 1 := by simp [IntKind.wrap, IntKind.bits, IntKind.signed]; omega
     go_wp2_with fail
     go_roundw
     case rel => exact ⟨lo, m, hm1, by omega, rfl, rfl, HBw.out, HLow.out.high HK.out HLs.out HP.out⟩
     case measure => simp [intOf]; omega
   ·rw [hls] at hcl
    have HLs := Lib.hid hls
    have hcz : Dt.cmp ((r', i'), s') ((r, i), s) < 0 := by simpa using hcl
    clear hcl hls b0 b1 b2 q0 q1 q2 q3 q4
    go_wp2_with fail
    simp only [HMI.out]
    refine Reg.region_list (by kernel_rfl) [fun v _ => v = .func (.func 73) #[] #[], fun v _ => v = .slice (some ⟨blk, off, none⟩) n cap, fun v _ => v = .int .i64 ((m : Nat) : Int), fun v _ => v = .pointer (some ⟨blk, off + m * 5, none⟩), fun v _ => v = itV t' r' i' s' x', fun v _ => v = .agg #[.int .u8 (r : Int), .int .u32 (i : Int), .int .u64 (s : Int)], fun v _ => v = .int .i64 (Dt.cmp ((r', i'), s') ((r, i), s)), fun v _ => v = .bool true] (by kernel_rfl) ?_ ?_ ?_
    ·refine ⟨k4, k4, k4, k4, k4, k4, k4, k4, trivial⟩
    ·refine ⟨?_, ?_, ?_, ?_, ?_, ?_, ?_, ?_, trivial⟩
     ·intro ev w hc hf hg hfix hdep hbel
      have e2 : ev (.tmp 2) = _ := hfix 2 (by decide)
      exact okb trivial rfl (by go_simp)
     ·intro ev w hc hf hg hfix hdep hbel
      have e0 : ev (.tmp 0) = _ := hfix 0 (by decide)
      exact okb trivial rfl (by go_simp)
     ·intro ev w hc hf hg hfix hdep hbel
      have e11 : ev (.tmp 11) = _ := hfix 11 (by decide)
      exact okb trivial rfl (by go_simp)
     ·intro ev w hc hf hg hfix hdep hbel
      have e25 : ev (.tmp 25) = _ := hdep 1 (by decide)
      have e26 : ev (.tmp 26) = _ := hdep 2 (by decide)
      exact okb trivial rfl (by go_simp)
     ·intro ev w hc hf hg hfix hdep hbel
      have e27 : ev (.tmp 27) = _ := hdep 3 (by decide)
      obtain ⟨hc0, hc1, hc2, hc3, hc4, hc5, hc6, hc7⟩ := HC.out w hbel
      exact okb trivial rfl (by go_simp)
     ·intro ev w hc hf hg hfix hdep hbel
      have e4 : ev (.tmp 4) = _ := hfix 4 (by decide)
      obtain ⟨hc0, hc1, hc2, hc3, hc4, hc5, hc6, hc7⟩ := HC.out w hbel
      exact okb trivial rfl (by go_simp)
     ·intro ev w hc hf hg hfix hdep hbel
      have e24 : ev (.tmp 24) = _ := hdep 0 (by decide)
      have e28 : ev (.tmp 28) = _ := hdep 4 (by decide)
      have e29 : ev (.tmp 29) = _ := hdep 5 (by decide)
      refine Or.inl ⟨trivial, Or.inr ⟨73, #[itV t' r' i' s' x', .agg #[.int .u8 (r : Int), .int .u32 (i : Int), .int .u64 (s : Int)]], w, by go_simp, ?_⟩⟩
      refine (cmpItem_any t' r' i' s' x' r i s w).mono ?_
      rintro e w1 ⟨rfl, hb1⟩
      exact ⟨_, rfl, rfl, hb1⟩
     ·intro ev w hc hf hg hfix hdep hbel
      have e30 : ev (.tmp 30) = _ := hdep 6 (by decide)
      exact okb trivial rfl (by go_simp)
    ·intro v w2 hv hb2
     have r0 : v 0 = _ := hv 0 (by decide)
     have r1 : v 1 = _ := hv 1 (by decide)
     have r2 : v 2 = _ := hv 2 (by decide)
     have r3 : v 3 = _ := hv 3 (by decide)
     have r4 : v 4 = _ := hv 4 (by decide)
     have r5 : v 5 = _ := hv 5 (by decide)
     have r6 : v 6 = _ := hv 6 (by decide)
     have r7 : v 7 = _ := hv 7 (by decide)
     simp only [Reg.putAll, Act.put, List.setIfInBounds_toArray, List.set_cons_zero, List.set_cons_succ, r0, r1, r2, r3, r4, r5, r6, r7]
     clear r0 r1 r2 r3 r4 r5 r6 r7 hv
     have HBw := Lib.hid (HBel.out.trans (hb2.mono HBel.out.size)); clear hb2
     have hw3 : IntKind.i64.wrap ((m : Int) + 1) = (m : Int) + 1 := by simp [IntKind.wrap, IntKind.bits, IntKind.signed]; omega
     go_wp2_with fail
     go_roundw
     case rel => exact ⟨m + 1, hi, by omega, hhn, by go_num, rfl, HBw.out, HLow.out.low HK.out HLs.out HP.out⟩
     case measure => simp [intOf]; omega
  ·obtain rfl : lo = hi := by omega
   by_cases hln : lo < n
   ·obtain ⟨e, hd⟩ := geti_some (l := l) (i := lo) (by rw [HL.out]; omega)
    obtain ⟨blk, off, rfl, hblk, hcells⟩ := HR.out.at (by rw [HL.out]; omega)
    obtain ⟨g0, g1, g2, g3, g4⟩ := hcells lo e hd
    have q0 := (HW.out.cell (p := ⟨blk, off + lo * 5, none⟩) hblk).trans g0
    have q1 := (HW.out.cell (p := ⟨blk, off + lo * 5 + 1, none⟩) hblk).trans g1
    have q2 := (HW.out.cell (p := ⟨blk, off + lo * 5 + 2, none⟩) hblk).trans g2
    have q3 := (HW.out.cell (p := ⟨blk, off + lo * 5 + 3, none⟩) hblk).trans g3
    have q4 := (HW.out.cell (p := ⟨blk, off + lo * 5 + 4, none⟩) hblk).trans g4
    have HK := Lib.hid (dots_get hd)
    have i0 : (0 : Int) ≤ (lo : Int) := by omega
    have i1 : (lo : Int) < (n : Int) := by omega
    obtain ⟨t', ⟨⟨r', i'⟩, s'⟩, x'⟩ := e
    simp only at q0 q1 q2 q3 q4 HK
    clear hcells g0 g1 g2 g3 g4 hd
    have hC : ∀ w2, Below wr.drew.heap.size wr.drew w2 → w2.cell? ⟨W.heap.size, 0, none⟩ = some (.int .u8 (r : Int)) ∧ w2.cell? ⟨W.heap.size, 1, none⟩ = some (.int .u32 (i : Int)) ∧ w2.cell? ⟨W.heap.size, 2, none⟩ = some (.int .u64 (s : Int)) ∧ w2.cell? ⟨blk, off + lo * 5, none⟩ = some (.int .u64 (t' : Int)) ∧ w2.cell? ⟨blk, off + lo * 5 + 1, none⟩ = some (.int .u8 (r' : Int)) ∧ w2.cell? ⟨blk, off + lo * 5 + 2, none⟩ = some (.int .u32 (i' : Int)) ∧ w2.cell? ⟨blk, off + lo * 5 + 3, none⟩ = some (.int .u64 (s' : Int)) ∧ w2.cell? ⟨blk, off + lo * 5 + 4, none⟩ = some (.string x') := fun w2 h =>
     ⟨(h.cell (p := ⟨W.heap.size, 0, none⟩) (by simp; omega)).trans b0, (h.cell (p := ⟨W.heap.size, 1, none⟩) (by simp; omega)).trans b1, (h.cell (p := ⟨W.heap.size, 2, none⟩) (by simp; omega)).trans b2, (h.cell (p := ⟨blk, off + lo * 5, none⟩) (by simp; omega)).trans q0, (h.cell (p := ⟨blk, off + lo * 5 + 1, none⟩) (by simp; omega)).trans q1, (h.cell (p := ⟨blk, off + lo * 5 + 2, none⟩) (by simp; omega)).trans q2, (h.cell (p := ⟨blk, off + lo * 5 + 3, none⟩) (by simp; omega)).trans q3, (h.cell (p := ⟨blk, off + lo * 5 + 4, none⟩) (by simp; omega)).trans q4⟩
    have HC := Lib.hid hC; clear hC
    by_cases hez : Dt.cmp ((r', i'), s') ((r, i), s) = 0
    ·have HF := Lib.hid (HLow.out.found HK.out HP.out)
     clear b0 b1 b2 q0 q1 q2 q3 q4
     have HEz := Lib.hid hez
     go_wp2_with fail
     refine Reg.region_list (by kernel_rfl) [fun v _ => v = .int .i64 (lo : Int), fun v _ => v = .int .i64 (lo : Int), fun v _ => v = .int .i64 (n : Int), fun v _ => v = .bool true, fun v _ => v = .bool true, fun v _ => v = .func (.func 73) #[] #[], fun v _ => v = .slice (some ⟨blk, off, none⟩) n cap, fun v _ => v = .int .i64 (lo : Int), fun v _ => v = .pointer (some ⟨blk, off + lo * 5, none⟩), fun v _ => v = itV t' r' i' s' x', fun v _ => v = .agg #[.int .u8 (r : Int), .int .u32 (i : Int), .int .u64 (s : Int)], fun v _ => v = .int .i64 (Dt.cmp ((r', i'), s') ((r, i), s)), fun v _ => v = .bool true, fun v _ => v = .bool true, fun v _ => v = .int .i64 (lo : Int), fun v _ => v = .bool true] (by kernel_rfl) ?_ ?_ ?_
     ·refine ⟨k4, k4, k4, k4, k4, k4, k4, k4, k4, k4, k4, k4, k4, k4, k4, k4, trivial⟩
     ·refine ⟨?_, ?_, ?_, ?_, ?_, ?_, ?_, ?_, ?_, ?_, ?_, ?_, ?_, ?_, ?_, ?_, trivial⟩
      ·intro ev w hc hf hg hfix hdep hbel
       have e9 : ev (.tmp 9) = _ := hfix 9 (by decide)
       exact okb trivial rfl (by go_simp)
      ·intro ev w hc hf hg hfix hdep hbel
       have e9 : ev (.tmp 9) = _ := hfix 9 (by decide)
       exact okb trivial rfl (by go_simp)
      ·intro ev w hc hf hg hfix hdep hbel
       have e8 : ev (.tmp 8) = _ := hfix 8 (by decide)
       exact okb trivial rfl (by go_simp)
      ·intro ev w hc hf hg hfix hdep hbel
       have e36 : ev (.tmp 36) = _ := hdep 1 (by decide)
       have e37 : ev (.tmp 37) = _ := hdep 2 (by decide)
       exact okb trivial rfl (by go_simp)
      ·intro ev w hc hf hg hfix hdep hbel
       have e38 : ev (.tmp 38) = _ := hdep 3 (by decide)
       exact okb trivial rfl (by go_simp)
      ·intro ev w hc hf hg hfix hdep hbel
       have fg : ev (.tmp 39) = _ := hdep 4 (by decide)
       have e2 : ev (.tmp 2) = _ := hfix 2 (by decide)
       exact okb fg rfl (by go_simp)
      ·intro ev w hc hf hg hfix hdep hbel
       have fg : ev (.tmp 39) = _ := hdep 4 (by decide)
       have e0 : ev (.tmp 0) = _ := hfix 0 (by decide)
       exact okb fg rfl (by go_simp)
      ·intro ev w hc hf hg hfix hdep hbel
       have fg : ev (.tmp 39) = _ := hdep 4 (by decide)
       have e9 : ev (.tmp 9) = _ := hfix 9 (by decide)
       exact okb fg rfl (by go_simp)
      ·intro ev w hc hf hg hfix hdep hbel
       have fg : ev (.tmp 39) = _ := hdep 4 (by decide)
       have e41 : ev (.tmp 41) = _ := hdep 6 (by decide)
       have e42 : ev (.tmp 42) = _ := hdep 7 (by decide)
       exact okb fg rfl (by go_simp)
      ·intro ev w hc hf hg hfix hdep hbel
       have fg : ev (.tmp 39) = _ := hdep 4 (by decide)
       have e43 : ev (.tmp 43) = _ := hdep 8 (by decide)
       obtain ⟨hc0, hc1, hc2, hc3, hc4, hc5, hc6, hc7⟩ := HC.out w hbel
       exact okb fg rfl (by go_simp)
      ·intro ev w hc hf hg hfix hdep hbel
       have fg : ev (.tmp 39) = _ := hdep 4 (by decide)
       have e4 : ev (.tmp 4) = _ := hfix 4 (by decide)
       obtain ⟨hc0, hc1, hc2, hc3, hc4, hc5, hc6, hc7⟩ := HC.out w hbel
       exact okb fg rfl (by go_simp)
      ·intro ev w hc hf hg hfix hdep hbel
       have fg : ev (.tmp 39) = _ := hdep 4 (by decide)
       have e40 : ev (.tmp 40) = _ := hdep 5 (by decide)
       have e44 : ev (.tmp 44) = _ := hdep 9 (by decide)
       have e45 : ev (.tmp 45) = _ := hdep 10 (by decide)
       refine Or.inl ⟨fg, Or.inr ⟨73, #[itV t' r' i' s' x', .agg #[.int .u8 (r : Int), .int .u32 (i : Int), .int .u64 (s : Int)]], w, by go_simp, ?_⟩⟩
       refine (cmpItem_any t' r' i' s' x' r i s w).mono ?_
       rintro e w1 ⟨rfl, hb1⟩
       exact ⟨_, rfl, rfl, hb1⟩
      ·intro ev w hc hf hg hfix hdep hbel
       have fg : ev (.tmp 39) = _ := hdep 4 (by decide)
       have e46 : ev (.tmp 46) = _ := hdep 11 (by decide)
       exact okb fg rfl (by go_simp)
      ·intro ev w hc hf hg hfix hdep hbel
       have e39 : ev (.tmp 39) = _ := hdep 4 (by decide)
       have e47 : ev (.tmp 47) = _ := hdep 12 (by decide)
       exact okb trivial rfl (by go_simp)
      ·intro ev w hc hf hg hfix hdep hbel
       have e35 : ev (.tmp 35) = _ := hdep 0 (by decide)
       exact okb trivial rfl (by go_simp)
      ·intro ev w hc hf hg hfix hdep hbel
       have e48 : ev (.tmp 48) = _ := hdep 13 (by decide)
       exact okb trivial rfl (by go_simp)
     ·intro v w2 hv hb2
      have r0 : v 0 = _ := hv 0 (by decide)
      have r1 : v 1 = _ := hv 1 (by decide)
      have r2 : v 2 = _ := hv 2 (by decide)
      have r3 : v 3 = _ := hv 3 (by decide)
      have r4 : v 4 = _ := hv 4 (by decide)
      have r5 : v 5 = _ := hv 5 (by decide)
      have r6 : v 6 = _ := hv 6 (by decide)
      have r7 : v 7 = _ := hv 7 (by decide)
      have r8 : v 8 = _ := hv 8 (by decide)
      have r9 : v 9 = _ := hv 9 (by decide)
      have r10 : v 10 = _ := hv 10 (by decide)
      have r11 : v 11 = _ := hv 11 (by decide)
      have r12 : v 12 = _ := hv 12 (by decide)
      have r13 : v 13 = _ := hv 13 (by decide)
      have r14 : v 14 = _ := hv 14 (by decide)
      have r15 : v 15 = _ := hv 15 (by decide)
      simp only [Reg.putAll, Act.put, List.setIfInBounds_toArray, List.set_cons_zero, List.set_cons_succ, r0, r1, r2, r3, r4, r5, r6, r7, r8, r9, r10, r11, r12, r13, r14, r15]
      clear r0 r1 r2 r3 r4 r5 r6 r7 r8 r9 r10 r11 r12 r13 r14 r15 hv
      have HBw := Lib.hid (HW.out.trans (hb2.mono HW.out.size)); clear hb2
      go_wp2_with fail
      refine bodyPost_ret (v := .tuple #[.int .i64 (lo : Int), .bool true]) (by simp [results, Try.results72, go_sem]) rfl ⟨⟨lo, by rw [HF.out]; simp [HEz.out]⟩, HBw.out⟩
    ·have HF := Lib.hid (HLow.out.found HK.out HP.out)
     have d1 : (Dt.cmp ((r', i'), s') ((r, i), s) == 0) = false := by simpa using hez
     clear b0 b1 b2 q0 q1 q2 q3 q4
     have HEz := Lib.hid hez
     go_wp2_with fail
     refine Reg.region_list (by kernel_rfl) [fun v _ => v = .int .i64 (lo : Int), fun v _ => v = .int .i64 (lo : Int), fun v _ => v = .int .i64 (n : Int), fun v _ => v = .bool true, fun v _ => v = .bool true, fun v _ => v = .func (.func 73) #[] #[], fun v _ => v = .slice (some ⟨blk, off, none⟩) n cap, fun v _ => v = .int .i64 (lo : Int), fun v _ => v = .pointer (some ⟨blk, off + lo * 5, none⟩), fun v _ => v = itV t' r' i' s' x', fun v _ => v = .agg #[.int .u8 (r : Int), .int .u32 (i : Int), .int .u64 (s : Int)], fun v _ => v = .int .i64 (Dt.cmp ((r', i'), s') ((r, i), s)), fun v _ => v = .bool false, fun v _ => v = .bool false, fun v _ => v = .int .i64 (lo : Int), fun v _ => v = .bool false] (by kernel_rfl) ?_ ?_ ?_
     ·refine ⟨k4, k4, k4, k4, k4, k4, k4, k4, k4, k4, k4, k4, k4, k4, k4, k4, trivial⟩
     ·refine ⟨?_, ?_, ?_, ?_, ?_, ?_, ?_, ?_, ?_, ?_, ?_, ?_, ?_, ?_, ?_, ?_, trivial⟩
      ·intro ev w hc hf hg hfix hdep hbel
       have e9 : ev (.tmp 9) = _ := hfix 9 (by decide)
       exact okb trivial rfl (by go_simp)
      ·intro ev w hc hf hg hfix hdep hbel
       have e9 : ev (.tmp 9) = _ := hfix 9 (by decide)
       exact okb trivial rfl (by go_simp)
      ·intro ev w hc hf hg hfix hdep hbel
       have e8 : ev (.tmp 8) = _ := hfix 8 (by decide)
       exact okb trivial rfl (by go_simp)
      ·intro ev w hc hf hg hfix hdep hbel
       have e36 : ev (.tmp 36) = _ := hdep 1 (by decide)
       have e37 : ev (.tmp 37) = _ := hdep 2 (by decide)
       exact okb trivial rfl (by go_simp)
      ·intro ev w hc hf hg hfix hdep hbel
       have e38 : ev (.tmp 38) = _ := hdep 3 (by decide)
       exact okb trivial rfl (by go_simp)
      ·intro ev w hc hf hg hfix hdep hbel
       have fg : ev (.tmp 39) = _ := hdep 4 (by decide)
       have e2 : ev (.tmp 2) = _ := hfix 2 (by decide)
       exact okb fg rfl (by go_simp)
      ·intro ev w hc hf hg hfix hdep hbel
       have fg : ev (.tmp 39) = _ := hdep 4 (by decide)
       have e0 : ev (.tmp 0) = _ := hfix 0 (by decide)
       exact okb fg rfl (by go_simp)
      ·intro ev w hc hf hg hfix hdep hbel
       have fg : ev (.tmp 39) = _ := hdep 4 (by decide)
       have e9 : ev (.tmp 9) = _ := hfix 9 (by decide)
       exact okb fg rfl (by go_simp)
      ·intro ev w hc hf hg hfix hdep hbel
       have fg : ev (.tmp 39) = _ := hdep 4 (by decide)
       have e41 : ev (.tmp 41) = _ := hdep 6 (by decide)
       have e42 : ev (.tmp 42) = _ := hdep 7 (by decide)
       exact okb fg rfl (by go_simp)
      ·intro ev w hc hf hg hfix hdep hbel
       have fg : ev (.tmp 39) = _ := hdep 4 (by decide)
       have e43 : ev (.tmp 43) = _ := hdep 8 (by decide)
       obtain ⟨hc0, hc1, hc2, hc3, hc4, hc5, hc6, hc7⟩ := HC.out w hbel
       exact okb fg rfl (by go_simp)
      ·intro ev w hc hf hg hfix hdep hbel
       have fg : ev (.tmp 39) = _ := hdep 4 (by decide)
       have e4 : ev (.tmp 4) = _ := hfix 4 (by decide)
       obtain ⟨hc0, hc1, hc2, hc3, hc4, hc5, hc6, hc7⟩ := HC.out w hbel
       exact okb fg rfl (by go_simp)
      ·intro ev w hc hf hg hfix hdep hbel
       have fg : ev (.tmp 39) = _ := hdep 4 (by decide)
       have e40 : ev (.tmp 40) = _ := hdep 5 (by decide)
       have e44 : ev (.tmp 44) = _ := hdep 9 (by decide)
       have e45 : ev (.tmp 45) = _ := hdep 10 (by decide)
       refine Or.inl ⟨fg, Or.inr ⟨73, #[itV t' r' i' s' x', .agg #[.int .u8 (r : Int), .int .u32 (i : Int), .int .u64 (s : Int)]], w, by go_simp, ?_⟩⟩
       refine (cmpItem_any t' r' i' s' x' r i s w).mono ?_
       rintro e w1 ⟨rfl, hb1⟩
       exact ⟨_, rfl, rfl, hb1⟩
      ·intro ev w hc hf hg hfix hdep hbel
       have fg : ev (.tmp 39) = _ := hdep 4 (by decide)
       have e46 : ev (.tmp 46) = _ := hdep 11 (by decide)
       exact okb fg rfl (by go_simp)
      ·intro ev w hc hf hg hfix hdep hbel
       have e39 : ev (.tmp 39) = _ := hdep 4 (by decide)
       have e47 : ev (.tmp 47) = _ := hdep 12 (by decide)
       exact okb trivial rfl (by go_simp)
      ·intro ev w hc hf hg hfix hdep hbel
       have e35 : ev (.tmp 35) = _ := hdep 0 (by decide)
       exact okb trivial rfl (by go_simp)
      ·intro ev w hc hf hg hfix hdep hbel
       have e48 : ev (.tmp 48) = _ := hdep 13 (by decide)
       exact okb trivial rfl (by go_simp)
     ·intro v w2 hv hb2
      have r0 : v 0 = _ := hv 0 (by decide)
      have r1 : v 1 = _ := hv 1 (by decide)
      have r2 : v 2 = _ := hv 2 (by decide)
      have r3 : v 3 = _ := hv 3 (by decide)
      have r4 : v 4 = _ := hv 4 (by decide)
      have r5 : v 5 = _ := hv 5 (by decide)
      have r6 : v 6 = _ := hv 6 (by decide)
      have r7 : v 7 = _ := hv 7 (by decide)
      have r8 : v 8 = _ := hv 8 (by decide)
      have r9 : v 9 = _ := hv 9 (by decide)
      have r10 : v 10 = _ := hv 10 (by decide)
      have r11 : v 11 = _ := hv 11 (by decide)
      have r12 : v 12 = _ := hv 12 (by decide)
      have r13 : v 13 = _ := hv 13 (by decide)
      have r14 : v 14 = _ := hv 14 (by decide)
      have r15 : v 15 = _ := hv 15 (by decide)
      simp only [Reg.putAll, Act.put, List.setIfInBounds_toArray, List.set_cons_zero, List.set_cons_succ, r0, r1, r2, r3, r4, r5, r6, r7, r8, r9, r10, r11, r12, r13, r14, r15]
      clear r0 r1 r2 r3 r4 r5 r6 r7 r8 r9 r10 r11 r12 r13 r14 r15 hv
      have HBw := Lib.hid (HW.out.trans (hb2.mono HW.out.size)); clear hb2
      go_wp2_with fail
      refine bodyPost_ret (v := .tuple #[.int .i64 (lo : Int), .bool false]) (by simp [results, Try.results72, go_sem]) rfl ⟨⟨lo, by rw [HF.out]; simp [HEz.out]⟩, HBw.out⟩
   ·have HF := Lib.hid (HLow.out.none (by rw [Lm.dots, List.length_map, HL.out]; omega))
    have hC : ∀ w2, Below wr.drew.heap.size wr.drew w2 → w2.cell? ⟨W.heap.size, 0, none⟩ = some (.int .u8 (r : Int)) ∧ w2.cell? ⟨W.heap.size, 1, none⟩ = some (.int .u32 (i : Int)) ∧ w2.cell? ⟨W.heap.size, 2, none⟩ = some (.int .u64 (s : Int)) := fun w2 h =>
     ⟨(h.cell (p := ⟨W.heap.size, 0, none⟩) (by simp; omega)).trans b0, (h.cell (p := ⟨W.heap.size, 1, none⟩) (by simp; omega)).trans b1, (h.cell (p := ⟨W.heap.size, 2, none⟩) (by simp; omega)).trans b2⟩
    have HC := Lib.hid hC; clear hC
    clear b0 b1 b2
    go_wp2_with fail
    refine Reg.region_list (by kernel_rfl) [fun v _ => v = .int .i64 (lo : Int), fun v _ => v = .int .i64 (lo : Int), fun v _ => v = .int .i64 (n : Int), fun v _ => v = .bool false, fun v _ => v = .bool false, fun v _ => v = undef, fun v _ => v = undef, fun v _ => v = undef, fun v _ => v = undef, fun v _ => v = undef, fun v _ => v = undef, fun v _ => v = undef, fun v _ => v = undef, fun v _ => v = .bool false, fun v _ => v = .int .i64 (lo : Int), fun v _ => v = .bool false] (by kernel_rfl) ?_ ?_ ?_
    ·refine ⟨k4, k4, k4, k4, k4, k4, k4, k4, k4, k4, k4, k4, k4, k4, k4, k4, trivial⟩
    ·refine ⟨?_, ?_, ?_, ?_, ?_, ?_, ?_, ?_, ?_, ?_, ?_, ?_, ?_, ?_, ?_, ?_, trivial⟩
     ·intro ev w hc hf hg hfix hdep hbel
      have e9 : ev (.tmp 9) = _ := hfix 9 (by decide)
      exact okb trivial rfl (by go_simp)
     ·intro ev w hc hf hg hfix hdep hbel
      have e9 : ev (.tmp 9) = _ := hfix 9 (by decide)
      exact okb trivial rfl (by go_simp)
     ·intro ev w hc hf hg hfix hdep hbel
      have e8 : ev (.tmp 8) = _ := hfix 8 (by decide)
      exact okb trivial rfl (by go_simp)
     ·intro ev w hc hf hg hfix hdep hbel
      have e36 : ev (.tmp 36) = _ := hdep 1 (by decide)
      have e37 : ev (.tmp 37) = _ := hdep 2 (by decide)
      exact okb trivial rfl (by go_simp)
     ·intro ev w hc hf hg hfix hdep hbel
      have e38 : ev (.tmp 38) = _ := hdep 3 (by decide)
      exact okb trivial rfl (by go_simp)
     ·intro ev w hc hf hg hfix hdep hbel
      have fg : ev (.tmp 39) = _ := hdep 4 (by decide)
      exact Or.inr ⟨Or.inl fg, rfl⟩
     ·intro ev w hc hf hg hfix hdep hbel
      have fg : ev (.tmp 39) = _ := hdep 4 (by decide)
      exact Or.inr ⟨Or.inl fg, rfl⟩
     ·intro ev w hc hf hg hfix hdep hbel
      have fg : ev (.tmp 39) = _ := hdep 4 (by decide)
      exact Or.inr ⟨Or.inl fg, rfl⟩
     ·intro ev w hc hf hg hfix hdep hbel
      have fg : ev (.tmp 39) = _ := hdep 4 (by decide)
      exact Or.inr ⟨Or.inl fg, rfl⟩
     ·intro ev w hc hf hg hfix hdep hbel
      have fg : ev (.tmp 39) = _ := hdep 4 (by decide)
      exact Or.inr ⟨Or.inl fg, rfl⟩
     ·intro ev w hc hf hg hfix hdep hbel
      have fg : ev (.tmp 39) = _ := hdep 4 (by decide)
      exact Or.inr ⟨Or.inl fg, rfl⟩
     ·intro ev w hc hf hg hfix hdep hbel
      have fg : ev (.tmp 39) = _ := hdep 4 (by decide)
      exact Or.inr ⟨Or.inl fg, rfl⟩
     ·intro ev w hc hf hg hfix hdep hbel
      have fg : ev (.tmp 39) = _ := hdep 4 (by decide)
      exact Or.inr ⟨Or.inl fg, rfl⟩
     ·intro ev w hc hf hg hfix hdep hbel
      have e39 : ev (.tmp 39) = _ := hdep 4 (by decide)
      have e47 : ev (.tmp 47) = _ := hdep 12 (by decide)
      exact okb trivial rfl (by go_simp)
     ·intro ev w hc hf hg hfix hdep hbel
      have e35 : ev (.tmp 35) = _ := hdep 0 (by decide)
      exact okb trivial rfl (by go_simp)
     ·intro ev w hc hf hg hfix hdep hbel
      have e48 : ev (.tmp 48) = _ := hdep 13 (by decide)
      exact okb trivial rfl (by go_simp)
    ·intro v w2 hv hb2
     have r0 : v 0 = _ := hv 0 (by decide)
     have r1 : v 1 = _ := hv 1 (by decide)
     have r2 : v 2 = _ := hv 2 (by decide)
     have r3 : v 3 = _ := hv 3 (by decide)
     have r4 : v 4 = _ := hv 4 (by decide)
     have r5 : v 5 = _ := hv 5 (by decide)
     have r6 : v 6 = _ := hv 6 (by decide)
     have r7 : v 7 = _ := hv 7 (by decide)
     have r8 : v 8 = _ := hv 8 (by decide)
     have r9 : v 9 = _ := hv 9 (by decide)
     have r10 : v 10 = _ := hv 10 (by decide)
     have r11 : v 11 = _ := hv 11 (by decide)
     have r12 : v 12 = _ := hv 12 (by decide)
     have r13 : v 13 = _ := hv 13 (by decide)
     have r14 : v 14 = _ := hv 14 (by decide)
     have r15 : v 15 = _ := hv 15 (by decide)
     simp only [Reg.putAll, Act.put, List.setIfInBounds_toArray, List.set_cons_zero, List.set_cons_succ, r0, r1, r2, r3, r4, r5, r6, r7, r8, r9, r10, r11, r12, r13, r14, r15]
     clear r0 r1 r2 r3 r4 r5 r6 r7 r8 r9 r10 r11 r12 r13 r14 r15 hv
     have HBw := Lib.hid (HW.out.trans (hb2.mono HW.out.size)); clear hb2
     go_wp2_with fail
     refine bodyPost_ret (v := .tuple #[.int .i64 (lo : Int), .bool false]) (by simp [results, Try.results72, go_sem]) rfl ⟨⟨lo, by rw [HF.out]⟩, HBw.out⟩
set_option maxHeartbeats 1000000 in
theorem hasItem_any (a : Option Addr) (n cap : Nat) (r i s : Nat) (l : List Lm.It) (W : World) (hr : IRow W a cap l) (hl : l.length = n) (hn : n ≤ 1000000000) (hp : (Lm.dots l).Pairwise Dt.lt) :
  Calls Try.prog 66 #[.slice a n cap, dotV ((r, i), s)] W fun e w' => e = .returned (.bool (Lm.hasI l ((r, i), s))) ∧ Below W.heap.size W w' := by
 have HBox := Lib.hid (below_box W #[.int .u8 (r : Int), .int .u32 (i : Int), .int .u64 (s : Int)] 40)
 have HR := Lib.hid hr; have HL := Lib.hid hl; have HP := Lib.hid hp
 clear hr hl hp
 go_enter Try.func66, Try.ntmps66
 go_wp2_with fail
 refine (findI_any a n cap r i s l _ (HR.out.below HBox.out) HL.out hn HP.out).mono ?_
 rintro e w1 ⟨⟨j, rfl⟩, hb⟩
 have HB := Lib.hid hb; clear hb
 go_wp2_with fail
 go_ret
 exact ⟨ret_bool (hasI_dots _ _), HBox.out.trans (HB.out.mono HBox.out.size)⟩
end Go.Proofs.Ytplafpchgfjomaa
