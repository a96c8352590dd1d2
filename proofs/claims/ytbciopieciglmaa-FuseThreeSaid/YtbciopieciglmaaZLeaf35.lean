import Derived.Test.YtbciopieciglmaaZLeaf34
namespace Go.Proofs.Ytbciopieciglmaa
open Go.RowKit Go.Buf Go.LB Go.Lib
set_option linter.unusedSimpArgs false
set_option linter.unusedVariables false
def VRowK (S : Nat → Prop) (w : World) (a : Option Addr) (c : Nat) (l : List Dt.Dot) : Prop := ∀ w', Chg S w w' → VRow w' a c l
theorem VRowK.row {S : Nat → Prop} {w : World} {a : Option Addr} {c : Nat} {l : List Dt.Dot} (h : VRowK S w a c l) : VRow w a c l := h w (Chg.refl _ _)
theorem VRowK.chg {S : Nat → Prop} {w w' : World} {a : Option Addr} {c : Nat} {l : List Dt.Dot} (h : VRowK S w a c l) (hc : Chg S w w') : VRowK S w' a c l := fun w2 h2 => h w2 (hc.trans h2 (fun _ _ e => e))
theorem VRowK.of {S : Nat → Prop} {W w : World} {a : Option Addr} {c : Nat} {l : List Dt.Dot} (h : VRow W a c l) (hb : Below W.heap.size W w) (hS : ∀ k, S k → W.heap.size ≤ k) : VRowK S w a c l := fun w' hc => h.below (Chg.belowTrans hb hc (fun k _ e => hS k e) hb.size)
theorem bury_len (l : List Dt.Dot) (d : Dt.Dot) : (Lm.bury l d).length ≤ l.length + 1 := by
 unfold Lm.bury
 split
 ·omega
 ·have h := List.takeWhile_append_dropWhile (p := fun y => Dt.less y d) (l := l)
  have h2 := congrArg List.length h
  rw [List.length_append] at h2
  rw [List.length_append, List.length_cons]; omega
theorem buried_len : ∀ (m l : List Dt.Dot), (m.foldl Lm.bury l).length ≤ l.length + m.length
 | [], l => by simp
 | d :: m, l => by
  have h1 := buried_len m (Lm.bury l d)
  have h2 := bury_len l d
  simp only [List.foldl_cons, List.length_cons]; omega
theorem foldl_take {α β : Type} (f : β → α → β) (b : β) {l : List α} {i : Nat} {y : α} (h : l[i]? = some y) : (l.take (i + 1)).foldl f b = f ((l.take i).foldl f b) y := by rw [take_one h, List.foldl_append]; rfl
theorem refbury_k (S : Nat → Prop) (a : Option Addr) (n cap : Nat) (z : Dt.Dot) (l : List Dt.Dot) (W : World) (hr : VRowK S W a cap l) (hl : l.length = n) (hz : Dt.okD z) (hn : n ≤ 1000000) (hS : ∀ k, S k → k < W.heap.size) :
  Calls Try.prog 19 #[.slice a n cap, dotV z] W fun e w' => (∃ a' c', e = .returned (.slice a' (Lm.bury l z).length c') ∧ VRowK S w' a' c' (Lm.bury l z)) ∧ Below W.heap.size W w' := by
 cases hh : Lm.hasD l z
 ·refine (refbury_not a n cap z l W hr.row hl hz hn hh).mono ?_
  rintro e w1 ⟨⟨a', c', rfl, hrow⟩, hb⟩
  unfold Lm.bury
  rw [hh, if_neg (by simp)]
  exact ⟨⟨a', c', rfl, fun w2 hc => hrow w2 (hc.mono (fun k _ e => hS k e))⟩, hb⟩
 ·refine (refbury_has a n cap z l W hr.row hl hz hn hh).mono ?_
  rintro e w1 ⟨rfl, hb⟩
  unfold Lm.bury
  rw [hh, if_pos rfl, hl]
  exact ⟨⟨a, cap, rfl, hr.chg (Chg.of_below hb)⟩, hb⟩
set_option maxRecDepth 100000 in
set_option maxHeartbeats 4000000 in
theorem refleft_stay (a : Option Addr) (n cap : Nat) (da : Option Addr) (dl dc : Nat) (l : List Lm.It) (ld : List Dt.Dot) (W : World) (hr : IRow W a cap l) (hl : l.length = n) (hd : VRow W da dc ld) (hdl : ld.length = dl) (hn : n ≤ 1000000) :
  Calls Try.prog 20 #[.slice a n cap, .slice da dl dc] W fun e w' => (∃ a' c', e = .returned (.slice a' (l.filter (fun y => !Lm.hasD ld y.2.1)).length c') ∧ IRowS W.heap.size w' a' c' (l.filter (fun y => !Lm.hasD ld y.2.1))) ∧ Below W.heap.size W w' := by
 have hle := hr.le
 have hcap := hr.cap
 rw [hl] at hle
 have HR := Lib.hid hr; have HL := Lib.hid hl; have HD := Lib.hid hd; have HDl := Lib.hid hdl
 clear hr hl hd hdl
 go_enter Try.func20, Try.ntmps20
 go_wp2_with fail
 go_loopw [5, 6] (fun x v wr => ∃ (k : Nat) (row : Option Nat), v = .int .i64 k ∧ k ≤ n ∧ OwnI W.heap.size wr x ((l.take k).filter (fun y => !Lm.hasD ld y.2.1)) row ∧ Below W.heap.size W wr) (fun _ v _ => n - (intOf v).toNat)
 case atStart => exact ⟨0, none, rfl, by omega, Own.empty (Nat.le_refl _) none, Below.refl _ _⟩
 case round =>
  obtain ⟨k, row, rfl, hkn, hown, hbel⟩ := hrel
  have HO := Lib.hid hown; have HW := Lib.hid hbel
  clear hown
  by_cases hlt : k < n
  ·obtain ⟨d, hd⟩ := geti_some (l := l) (i := k) (by rw [HL.out]; exact hlt)
   obtain ⟨blk, off, rfl, hblk, hcells⟩ := HR.out.at (by rw [HL.out]; omega)
   obtain ⟨g0, g1, g2, g3, g4⟩ := hcells k d hd
   have q0 := (hbel.cell (p := ⟨blk, off + k * 5, none⟩) hblk).trans g0
   have q1 := (hbel.cell (p := ⟨blk, off + k * 5 + 1, none⟩) hblk).trans g1
   have q2 := (hbel.cell (p := ⟨blk, off + k * 5 + 2, none⟩) hblk).trans g2
   have q3 := (hbel.cell (p := ⟨blk, off + k * 5 + 3, none⟩) hblk).trans g3
   have q4 := (hbel.cell (p := ⟨blk, off + k * 5 + 4, none⟩) hblk).trans g4
   have HK := Lib.hid hd
   have k0 : (0 : Int) ≤ (k : Int) := by omega
   have k1 : (k : Int) < (n : Int) := by omega
   have hw1 : IntKind.i64.wrap ((k : Int) + 1) = (k : Int) + 1 := by simp [IntKind.wrap, IntKind.bits, IntKind.signed]; omega
   clear hcells hd hbel g0 g1 g2 g3 g4
   go_wp2_with fail
   refine (reftomb_any da dl dc d.2.1.1.1 d.2.1.1.2 d.2.1.2 ld _ (HD.out.below HW.out) HDl.out).mono ?_
   rintro e w1 ⟨rfl, hb⟩
   have hO1 := HO.out.below hb
   have HW1 := Lib.hid (HW.out.trans (hb.mono HW.out.size))
   have hl1 : ((l.take k).filter (fun y => !Lm.hasD ld y.2.1)).length ≤ 1000000 := by
    have h1 := List.length_filter_le (fun y => !Lm.hasD ld y.2.1) (l.take k)
    rw [List.length_take] at h1
    omega
   obtain ⟨v', w2, row', h1, h2, h3, h4⟩ := app1I u5 row _ d W.heap.size w1 hO1 hl1 38
   have q0' := (hb.cell (World.block_lt_of_cell? _ _ q0)).trans q0
   have q1' := (hb.cell (World.block_lt_of_cell? _ _ q1)).trans q1
   have q2' := (hb.cell (World.block_lt_of_cell? _ _ q2)).trans q2
   have q3' := (hb.cell (World.block_lt_of_cell? _ _ q3)).trans q3
   have q4' := (hb.cell (World.block_lt_of_cell? _ _ q4)).trans q4
   have HO1 := Lib.hid hO1; have H2 := Lib.hid h2; have H3 := Lib.hid h3
   clear q0 q1 q2 q3 q4 hb hO1 h2 h3 h4
   cases hD : Lm.hasD ld d.2.1
   ·have hf : (l.take (k + 1)).filter (fun y => !Lm.hasD ld y.2.1) = (l.take k).filter (fun y => !Lm.hasD ld y.2.1) ++ [d] := by rw [filter_take HK.out]; simp [hD]
    have HF := Lib.hid hf; have HHD := Lib.hid hD
    clear hf
    have e : Lm.hasD ld ((d.2.1.1.1, d.2.1.1.2), d.2.1.2) = false := hD
    try rw [e]
    clear hD e
    go_wp2_with (at_builtin; refine Lib.wpList_append_run _ rfl _ _ _ _ rfl _ _ rfl rfl _ _ h1 ?_)
    clear q0' q1' q2' q3' q4' h1
    go_roundw
    case rel => exact ⟨k + 1, row', by go_num, by omega, by rw [HF.out]; exact H2.out, ((HW1.out.alloc HW1.out.size _).grown H3.out (by simp; have := HW1.out.size; omega) (fun b e => (HO1.out.lt b e).1))⟩
    case measure => simp [intOf]; omega
   ·have hf : (l.take (k + 1)).filter (fun y => !Lm.hasD ld y.2.1) = (l.take k).filter (fun y => !Lm.hasD ld y.2.1) := by rw [filter_take HK.out]; simp [hD]
    have HF := Lib.hid hf
    clear hf
    have e : Lm.hasD ld ((d.2.1.1.1, d.2.1.1.2), d.2.1.2) = true := hD
    try rw [e]
    clear hD e h1
    go_wp2_with fail
    clear q0' q1' q2' q3' q4'
    go_roundw
    case rel => exact ⟨k + 1, row, by go_num, by omega, by rw [HF.out]; exact HO1.out, HW1.out⟩
    case measure => simp [intOf]; omega
  ·obtain rfl : k = n := by omega
   have hfin : (l.take k).filter (fun y => !Lm.hasD ld y.2.1) = l.filter (fun y => !Lm.hasD ld y.2.1) := by rw [List.take_of_length_le (by rw [HL.out]; omega)]
   have ho := HO.out
   rw [hfin] at ho
   obtain ⟨a', c', rfl, hrow⟩ := ownI_rowS ho (fun y hy => HR.out.ok y (List.mem_filter.1 hy).1)
   have HRow := Lib.hid hrow
   clear hrow ho hfin hbel
   go_wp2_with fail
   go_ret
   exact ⟨⟨a', c', rfl, HRow.out⟩, HW.out⟩
set_option maxRecDepth 100000 in
set_option maxHeartbeats 12800000 in
theorem refapply_drop (kk : Nat) (n : Int) (t r i s : Nat) (x : ByteArray) (ia : Option Addr) (il ic : Nat) (da : Option Addr) (dl dc : Nat) (li : List Lm.It) (ld : List Dt.Dot) (r' i' s' tm k : Nat) (pa : Option Addr) (pl pc : Nat) (n' : Int) (t' : ByteArray) (ea : Option Addr) (el ec : Nat) (p : List ByteArray) (d : List Dt.Dot) (W : World) (K : Nat → Prop) (hKx : ∀ b, K b → b < W.heap.size) (hiK : ∀ w2, Chg K W w2 → IRow w2 ia ic li) (hdK : ∀ w2, Chg K W w2 → VRow w2 da dc ld) (hi : IRow W ia ic li) (hil : li.length = il) (hd : VRow W da dc ld) (hdl : ld.length = dl) (hx : x.size ≤ 9223372036854775807) (hn : il ≤ 1000000) (hn2 : dl ≤ 1000000) (hk256 : k < 256) (hp : SRow W pa pc p) (hpl : p.length = pl) (hed : VRow W ea ec d) (hel : d.length = el) (hmay : Lm.may ⟨kk, n, t, ((r, i), s), x, li, ld⟩ = true) (hev : Om.mayEvent ⟨((r', i'), s'), tm, ⟨k, p, n', t', d⟩⟩ = true) (hty : Om.type k = kk) (hk : k = 4) (hn3 : dl + el ≤ 1000000) :
  Calls Try.prog 10 #[leafV kk n t r i s x ia il ic da dl dc, evV r' i' s' tm k pa pl pc n' t' ea el ec] W fun e w' => REK K w' ⟨kk, n, t, ((r, i), s), x, li.filter (fun y => !Lm.hasD (d.foldl Lm.bury ld) y.2.1), d.foldl Lm.bury ld⟩ 0 e ∧ Below W.heap.size W w' := by
 have HKx := Lib.hid hKx; have HiK := Lib.hid hiK; have HdK := Lib.hid hdK
 clear hKx hiK hdK
 have HMe := Lib.hid hev
 have hneq : (Om.type k : Int) = (kk : Int) := by omega
 have HHi := Lib.hid hi; have HHd := Lib.hid hd; have HK := Lib.hid hk
 clear hev hk
 obtain ⟨hB1, hL0, hE0, hR0⟩ := boxes3 W [.int .u8 (kk : Int), .int .i64 n, .int .u64 (t : Int), .int .u8 (r : Int), .int .u32 (i : Int), .int .u64 (s : Int), .string x, .slice ia il ic, .slice da dl dc] [.int .u8 (r' : Int), .int .u32 (i' : Int), .int .u64 (s' : Int), .int .u64 (tm : Int), .int .u8 (k : Int), .slice pa pl pc, .int .i64 n', .string t', .slice ea el ec] [.int .u8 0, .int .i64 0, .int .u64 0, .int .u8 0, .int .u32 0, .int .u64 0, .string ⟨#[]⟩, .slice none 0 0, .slice none 0 0] 40 37 40
 have HB1 := Lib.hid hB1; have HL0 := Lib.hid hL0; have HE0 := Lib.hid hE0; have HR0 := Lib.hid hR0
 have HI := Lib.hid hi; have HIl := Lib.hid hil; have HD := Lib.hid hd; have HDl := Lib.hid hdl; have HP := Lib.hid hp; have HPl := Lib.hid hpl; have HED := Lib.hid hed; have HEl := Lib.hid hel
 obtain ⟨a0, a1, a2, a3, a4, a5, a6, a7, a8⟩ := hL0.nine
 clear hB1 hL0 hE0 hR0 hi hil hd hdl hp hpl hed hel
 go_enter Try.func10, Try.ntmps10
 go_wp2_with fail
 refine (refmay05_any kk n t r i s x ia il ic da dl dc li ld _ (HI.out.below HB1.out) HIl.out (HD.out.below HB1.out) HDl.out hx (by omega) (by omega)).mono ?_
 rintro e w1 ⟨rfl, hb⟩
 rw [hmay]
 have HB2 := Lib.hid hb
 have HW2 := Lib.hid (HB1.out.trans (hb.mono HB1.out.size))
 have hL1 := HL0.out.below hb; have hE1 := HE0.out.below hb; have hR1 := HR0.out.below hb
 have HL1 := Lib.hid hL1; have HE1 := Lib.hid hE1; have HR1 := Lib.hid hR1
 clear a0 a1 a2 a3 a4 a5 a6 a7 a8 hb
 obtain ⟨x0, x1, x2, x3, x4, x5, x6, x7, x8⟩ := hE1.nine
 clear hL1 hE1 hR1
 go_wp2_with fail
 refine (refmayEvent_any r' i' s' tm k hk256 pa pl pc n' t' ea el ec p d _ (HP.out.below HW2.out) HPl.out (HED.out.below HW2.out) HEl.out).mono ?_
 rintro e w2 ⟨rfl, hb⟩
 rw [HMe.out]
 have HW3 := Lib.hid (HW2.out.trans (hb.mono HW2.out.size))
 have hL1 := HL1.out.below hb; have hE1 := HE1.out.below hb; have hR1 := HR1.out.below hb
 have HL2 := Lib.hid hL1; have HE2 := Lib.hid hE1; have HR2 := Lib.hid hR1
 clear x0 x1 x2 x3 x4 x5 x6 x7 x8 hb
 clear hL1 hE1 hR1
 go_wp2_with fail
 refine Reg.region_list (by kernel_rfl) [fun v _ => v = .pointer (some ⟨W.heap.size + 1, 4, none⟩), fun v _ => v = .pointer (some ⟨W.heap.size + 1, 4, none⟩), fun v _ => v = .int .u8 (k : Int), fun v _ => v = .int .u8 (Om.type k : Nat), fun v _ => v = .pointer (some ⟨W.heap.size, 0, none⟩), fun v _ => v = .int .u8 (kk : Int), fun v _ => v = .bool false] (by kernel_rfl) ?_ ?_ ?_
 ·refine ⟨k4, k4, k4, k4, k4, k4, k4, trivial⟩
 ·refine ⟨?_, ?_, ?_, ?_, ?_, ?_, ?_, trivial⟩
  ·intro ev w hc hf hg hfix hdep hbel
   have e3 : ev (.tmp 3) = _ := hfix 3 (by decide)
   exact okb trivial rfl (by go_simp)
  ·intro ev w hc hf hg hfix hdep hbel
   have e16 : ev (.tmp 16) = _ := hdep 0 (by decide)
   exact okb trivial rfl (by go_simp)
  ·intro ev w hc hf hg hfix hdep hbel
   have e17 : ev (.tmp 17) = _ := hdep 1 (by decide)
   have d0 := (HL2.out.below (undrew hbel)).cell 0; have d4 := (HE2.out.below (undrew hbel)).cell 4
   simp only [List.getElem?_cons_succ, List.getElem?_cons_zero] at d0 d4
   exact okb trivial rfl (by go_simp)
  ·intro ev w hc hf hg hfix hdep hbel
   have e18 : ev (.tmp 18) = _ := hdep 2 (by decide)
   refine Or.inl ⟨trivial, Or.inr ⟨15, #[.int .u8 (k : Int)], w, by go_simp, ?_⟩⟩
   refine (reftype_any k w).mono ?_
   rintro e w2 ⟨rfl, rfl⟩
   exact ⟨_, rfl, rfl, Below.refl _ _⟩
  ·intro ev w hc hf hg hfix hdep hbel
   have e2 : ev (.tmp 2) = _ := hfix 2 (by decide)
   exact okb trivial rfl (by go_simp)
  ·intro ev w hc hf hg hfix hdep hbel
   have e20 : ev (.tmp 20) = _ := hdep 4 (by decide)
   have d0 := (HL2.out.below (undrew hbel)).cell 0; have d4 := (HE2.out.below (undrew hbel)).cell 4
   simp only [List.getElem?_cons_succ, List.getElem?_cons_zero] at d0 d4
   exact okb trivial rfl (by go_simp)
  ·intro ev w hc hf hg hfix hdep hbel
   have e19 : ev (.tmp 19) = _ := hdep 3 (by decide)
   have e21 : ev (.tmp 21) = _ := hdep 5 (by decide)
   exact okb trivial rfl (by go_simp)
 ·intro v w3 hv hb2
  have r0 : v 0 = _ := hv 0 (by decide)
  have r1 : v 1 = _ := hv 1 (by decide)
  have r2 : v 2 = _ := hv 2 (by decide)
  have r3 : v 3 = _ := hv 3 (by decide)
  have r4 : v 4 = _ := hv 4 (by decide)
  have r5 : v 5 = _ := hv 5 (by decide)
  have r6 : v 6 = _ := hv 6 (by decide)
  simp only [Reg.putAll, Act.put, List.setIfInBounds_toArray, List.set_cons_zero, List.set_cons_succ, r0, r1, r2, r3, r4, r5, r6]
  clear r0 r1 r2 r3 r4 r5 r6 hv
  have HW4 := Lib.hid (HW3.out.trans (hb2.mono HW3.out.size))
  have hL1 := HL2.out.below hb2; have hE1 := HE2.out.below hb2; have hR1 := HR2.out.below hb2
  have HL3 := Lib.hid hL1; have HE3 := Lib.hid hE1; have HR3 := Lib.hid hR1
  clear hb2
  obtain ⟨d0, d1, d2, d3, d4, d5, d6, d7, d8⟩ := hL1.nine
  obtain ⟨f0, f1, f2, f3, f4, f5, f6, f7, f8⟩ := hL1.froz9
  obtain ⟨x0, x1, x2, x3, x4, x5, x6, x7, x8⟩ := hE1.nine
  obtain ⟨z0, z1, z2, z3, z4, z5, z6, z7, z8⟩ := hR1.nine
  obtain ⟨y0, y1, y2, y3, y4, y5, y6, y7, y8⟩ := hR1.froz9
  clear hL1 hE1 hR1
  have hkZ : (k : Int) = 4 := by have := HK.out; omega
  go_wp2_with fail
  clear d0 d1 d2 d3 d4 d5 d6 d7 d8 x0 x1 x2 x3 x4 x5 x6 x7 x8 z0 z1 z2 z3 z4 z5 z6 z7 z8 f0 f1 f2 f3 f4 f5 f6 f7 f8 y0 y1 y2 y3 y4 y5 y6 y7 y8
  go_loopw [6] (fun v wr => ∃ (q : Nat) (a : Option Addr) (c m : Nat) (T : List Dt.Dot), v = .int .i64 q ∧ q ≤ el ∧ T = (d.take q).foldl Lm.bury ld ∧ T.length = m ∧ Blk wr W.heap.size 40 [.int .u8 (kk : Int), .int .i64 n, .int .u64 (t : Int), .int .u8 (r : Int), .int .u32 (i : Int), .int .u64 (s : Int), .string x, .slice ia il ic, .slice a m c] ∧ VRowK (fun k => k = W.heap.size ∨ k = W.heap.size + 1 + 1 ∨ K k) wr a c T ∧ Blk wr (W.heap.size + 1) 37 [.int .u8 (r' : Int), .int .u32 (i' : Int), .int .u64 (s' : Int), .int .u64 (tm : Int), .int .u8 (k : Int), .slice pa pl pc, .int .i64 n', .string t', .slice ea el ec] ∧ Blk wr (W.heap.size + 1 + 1) 40 [.int .u8 0, .int .i64 0, .int .u64 0, .int .u8 0, .int .u32 0, .int .u64 0, .string ⟨#[]⟩, .slice none 0 0, .slice none 0 0] ∧ Below W.heap.size W wr) (fun v _ => el - (intOf v).toNat)
  case atStart => exact ⟨0, da, dc, dl, ld, rfl, by omega, rfl, HDl.out, HL3.out, fun w2 h2 => HdK.out w2 ((Chg.of_below HW4.out).trans h2 (fun k hk e => by rcases e with e | e | e; (exfalso; omega); (exfalso; omega); exact e)), HE3.out, HR3.out, HW4.out⟩
  case round =>
   obtain ⟨q, a, c, m, T, rfl, hq, hT, hm, hL, hTr, hE, hR, hW⟩ := hrel
   have HL3 := Lib.hid hL; have HE3 := Lib.hid hE; have HR3 := Lib.hid hR; have HW4 := Lib.hid hW; have HT := Lib.hid hTr; have HM := Lib.hid hm; have HTE := Lib.hid hT
   have hTlen : m ≤ dl + q := by
    have h1 := buried_len (d.take q) ld
    rw [← hT, hm, List.length_take] at h1
    have := HDl.out; omega
   clear hT hm hTr hW
   by_cases hlt : q < el
   ·obtain ⟨y, hy⟩ := getD_some (l := d) (i := q) (by rw [HEl.out]; exact hlt)
    obtain ⟨blk, off, rfl, hblk, hcells⟩ := HED.out.at (by rw [HEl.out]; omega)
    obtain ⟨g0, g1, g2⟩ := hcells q y hy
    have HY := Lib.hid (HED.out.ok y (List.mem_of_getElem? hy)); have HYq := Lib.hid hy
    have x8 := hE.cell 8
    simp only [List.getElem?_cons_succ, List.getElem?_cons_zero] at x8
    obtain ⟨m', hm'⟩ : ∃ m', m' = (Lm.bury T y).length := ⟨_, rfl⟩
    have HM2 := Lib.hid hm'
    have i0 : (0 : Int) ≤ (q : Int) := by omega
    have i1 : (q : Int) < (el : Int) := by omega
    have hw1 : IntKind.i64.wrap ((q : Int) + 1) = (q : Int) + 1 := by simp [IntKind.wrap, IntKind.bits, IntKind.signed]; omega
    clear hcells hy hm' hL hE hR
    go_wp2_with fail
    refine RegC.region_list (by kernel_rfl) [10] [RegC.plain (fun v _ => v = .pointer (some ⟨W.heap.size, 8, none⟩)), RegC.plain (fun v _ => v = .slice a m c), RegC.plain (fun v _ => v = .pointer (some ⟨W.heap.size + 1, 4, none⟩)), RegC.plain (fun v _ => v = .pointer (some ⟨W.heap.size + 1, 8, none⟩)), RegC.plain (fun v _ => v = .slice (some ⟨blk, off, none⟩) el ec), RegC.plain (fun v _ => v = .int .i64 (q : Int)), RegC.plain (fun v _ => v = .pointer (some ⟨blk, off + q * 3, none⟩)), RegC.plain (fun v _ => v = .agg #[.int .u8 (y.1.1 : Int), .int .u32 (y.1.2 : Int), .int .u64 (y.2 : Int)]), RegC.plain (fun v w => ∃ a' c', v = .slice a' m' c' ∧ VRowK (fun k => k = W.heap.size ∨ k = W.heap.size + 1 + 1 ∨ K k) w a' c' (Lm.bury T y)), RegC.plain (fun v _ => v = .pointer (some ⟨W.heap.size, 8, none⟩)), RegC.change (fun v w => ∃ a' c', Blk w W.heap.size 40 [.int .u8 (kk : Int), .int .i64 n, .int .u64 (t : Int), .int .u8 (r : Int), .int .u32 (i : Int), .int .u64 (s : Int), .string x, .slice ia il ic, .slice a' m' c'] ∧ VRowK (fun k => k = W.heap.size ∨ k = W.heap.size + 1 + 1 ∨ K k) w a' c' (Lm.bury T y)) (fun k => k = W.heap.size)] (by kernel_rfl) ?_ ?_ ?_ ?_ ?_
    ·exact ⟨Or.inr (fun _ h => h), Or.inr (fun _ h => h), Or.inr (fun _ h => h), Or.inr (fun _ h => h), Or.inr (fun _ h => h), Or.inr (fun _ h => h), Or.inr (fun _ h => h), Or.inr (fun _ h => h), Or.inr (fun _ h => h), Or.inr (fun _ h => h), Or.inl (by decide), trivial⟩
    ·refine ⟨k4, k4, k4, k4, k4, k4, k4, k4, (fun v wa wb hb h => by obtain ⟨a', c', h1, h2⟩ := h; exact ⟨a', c', h1, h2.chg (Chg.of_below hb)⟩), k4, (fun v wa wb hb h => by obtain ⟨a', c', h1, h2⟩ := h; exact ⟨a', c', h1.below hb, h2.chg (Chg.of_below hb)⟩), trivial⟩
    ·refine ⟨⟨Or.inr (Or.inr k4), Or.inr (Or.inr k4), Or.inr (Or.inr k4), Or.inr (Or.inr k4), Or.inr (Or.inr k4), Or.inr (Or.inr k4), Or.inr (Or.inr k4), Or.inr (Or.inr k4), Or.inr (Or.inr (fun v wa wb hr h => by obtain ⟨a', c', h1, h2⟩ := h; exact ⟨a', c', h1, h2.chg (hr.mono (fun k _ e => Or.inl e))⟩)), Or.inr (Or.inr k4), Or.inl rfl, trivial⟩, trivial⟩
    ·refine ⟨?_, ?_, ?_, ?_, ?_, ?_, ?_, ?_, ?_, ?_, ?_, trivial⟩
     ·intro ev w hc hf hg hfix hdep hchg
      have e2 : ev (.tmp 2) = _ := hfix 2 (by decide)
      exact Or.inl ⟨trivial, Or.inl ⟨_, w, by go_simp, rfl, Chg.refl _ _⟩⟩
     ·intro ev w hc hf hg hfix hdep hchg
      have e90 : ev (.tmp 90) = _ := hdep 0 (by decide)
      have d := (HL3.out.below (RegC.chg0 (hchg [] (by kernel_rfl)))).cell 8
      simp only [List.getElem?_cons_succ, List.getElem?_cons_zero] at d
      exact Or.inl ⟨trivial, Or.inl ⟨_, w, by go_simp, rfl, Chg.refl _ _⟩⟩
     ·intro ev w hc hf hg hfix hdep hchg
      have e3 : ev (.tmp 3) = _ := hfix 3 (by decide)
      exact Or.inl ⟨trivial, Or.inl ⟨_, w, by go_simp, rfl, Chg.refl _ _⟩⟩
     ·intro ev w hc hf hg hfix hdep hchg
      have e92 : ev (.tmp 92) = _ := hdep 2 (by decide)
      exact Or.inl ⟨trivial, Or.inl ⟨_, w, by go_simp, rfl, Chg.refl _ _⟩⟩
     ·intro ev w hc hf hg hfix hdep hchg
      have e93 : ev (.tmp 93) = _ := hdep 3 (by decide)
      have d := (HE3.out.below (RegC.chg0 (hchg [] (by kernel_rfl)))).cell 8
      simp only [List.getElem?_cons_succ, List.getElem?_cons_zero] at d
      exact Or.inl ⟨trivial, Or.inl ⟨_, w, by go_simp, rfl, Chg.refl _ _⟩⟩
     ·intro ev w hc hf hg hfix hdep hchg
      have e6 : ev (.tmp 6) = _ := hfix 6 (by decide)
      exact Or.inl ⟨trivial, Or.inl ⟨_, w, by go_simp, rfl, Chg.refl _ _⟩⟩
     ·intro ev w hc hf hg hfix hdep hchg
      have e94 : ev (.tmp 94) = _ := hdep 4 (by decide)
      have e95 : ev (.tmp 95) = _ := hdep 5 (by decide)
      exact Or.inl ⟨trivial, Or.inl ⟨_, w, by go_simp, rfl, Chg.refl _ _⟩⟩
     ·intro ev w hc hf hg hfix hdep hchg
      have e96 : ev (.tmp 96) = _ := hdep 6 (by decide)
      have hbw := HW4.out.trans ((RegC.chg0 (hchg [] (by kernel_rfl))).mono HW4.out.size)
      have q0 := (hbw.cell (p := ⟨blk, off + q * 3, none⟩) hblk).trans g0
      have q1 := (hbw.cell (p := ⟨blk, off + q * 3 + 1, none⟩) hblk).trans g1
      have q2 := (hbw.cell (p := ⟨blk, off + q * 3 + 2, none⟩) hblk).trans g2
      exact Or.inl ⟨trivial, Or.inl ⟨_, w, by go_simp, rfl, Chg.refl _ _⟩⟩
     ·intro ev w hc hf hg hfix hdep hchg
      have e91 : ev (.tmp 91) = _ := hdep 1 (by decide)
      have e97 : ev (.tmp 97) = _ := hdep 7 (by decide)
      refine Or.inl ⟨trivial, Or.inr (Or.inl ⟨19, #[.slice a m c, .agg #[.int .u8 (y.1.1 : Int), .int .u32 (y.1.2 : Int), .int .u64 (y.2 : Int)]], w, by go_simp, ?_⟩)⟩
      have hb0 := RegC.chg0 (hchg [] (by kernel_rfl))
      refine (refbury_k (fun k => k = W.heap.size ∨ k = W.heap.size + 1 + 1 ∨ K k) a m c y T w (HT.out.chg (Chg.of_below hb0)) HM.out HY.out (by omega) (fun k e => by have := HR3.out.lt; have := hb0.size; have := HL3.out.lt; rcases e with e | e | e; omega; omega; (have := HKx.out k e; omega))).mono ?_
      rintro e w9 ⟨⟨a', c', rfl, hrow⟩, hb⟩
      rw [← HM2.out] at *
      exact ⟨_, rfl, ⟨a', c', rfl, hrow⟩, Chg.of_below hb⟩
     ·intro ev w hc hf hg hfix hdep hchg
      have e2 : ev (.tmp 2) = _ := hfix 2 (by decide)
      exact Or.inl ⟨trivial, Or.inl ⟨_, w, by go_simp, rfl, Chg.refl _ _⟩⟩
     ·intro ev w hc hf hg hfix hdep hchg
      have e99 : ev (.tmp 99) = _ := hdep 9 (by decide)
      have e98 := hdep 8 (by decide)
      have hG := HL3.out.below (RegC.chg0 (hchg [] (by kernel_rfl)))
      obtain ⟨a', c', hv, hrow⟩ := e98
      have e98 : ev (.tmp 98) = .slice a' m' c' := hv
      have d := hG.cell 8; have y8 := hG.frozen 8
      simp only [List.getElem?_cons_succ, List.getElem?_cons_zero] at d
      have hcS := (Chg.refl (fun k => k = W.heap.size) w).set (Or.inr rfl) 8 (.slice a' m' c')
      exact Or.inl ⟨trivial, Or.inr (Or.inr ⟨w.setCell ⟨W.heap.size, 8, none⟩ (.slice a' m' c'), by go_simp, ⟨a', c', hG.set 8 _, hrow.chg (hcS.mono (fun k _ e => Or.inl e))⟩, hcS⟩)⟩
    ·intro v w2 hv hb2
     have r0 : v 0 = _ := hv 0 (by decide)
     have r1 : v 1 = _ := hv 1 (by decide)
     have r2 : v 2 = _ := hv 2 (by decide)
     have r3 : v 3 = _ := hv 3 (by decide)
     have r4 : v 4 = _ := hv 4 (by decide)
     have r5 : v 5 = _ := hv 5 (by decide)
     have r6 : v 6 = _ := hv 6 (by decide)
     have r7 : v 7 = _ := hv 7 (by decide)
     have r8 := hv 8 (by decide)
     have r9 : v 9 = _ := hv 9 (by decide)
     have r10 := hv 10 (by decide)
     simp only [Reg.putAll, Act.put, List.setIfInBounds_toArray, List.set_cons_zero, List.set_cons_succ, r0, r1, r2, r3, r4, r5, r6, r7, r9]
     clear r0 r1 r2 r3 r4 r5 r6 r7 r9 hv
     obtain ⟨a', c', hL', hT'⟩ := r10
     have hc3 : Chg (fun k => k = W.heap.size) _ w2 := RegC.end1 hb2
     have hW' := Chg.belowTrans HW4.out hc3 (fun k hk e => by have : k = W.heap.size := e; omega) HW4.out.size
     have hE' := HE3.out.chg hc3 (fun e => by have : W.heap.size + 1 = W.heap.size := e; omega)
     have hR' := HR3.out.chg hc3 (fun e => by have : W.heap.size + 1 + 1 = W.heap.size := e; omega)
     have HL' := Lib.hid hL'; have HT' := Lib.hid hT'; have HW' := Lib.hid hW'; have HE' := Lib.hid hE'; have HR' := Lib.hid hR'
     clear hL' hT' hc3 hW' hE' hR' hb2 x8
     go_wp2_with fail
     go_roundw
     case rel => exact ⟨q + 1, a', c', m', Lm.bury T y, by go_num, by omega, by rw [foldl_take _ _ HYq.out, HTE.out], HM2.out.symm, HL'.out, HT'.out, HE'.out, HR'.out, HW'.out⟩
     case measure => simp [intOf]; omega
   ·obtain rfl : q = el := by omega
    have hTd : T = d.foldl Lm.bury ld := by rw [HTE.out, List.take_of_length_le (Nat.le_of_eq HEl.out)]
    have HTd := Lib.hid hTd
    have hL1 := hL; have hE1 := hE; have hR1 := hR
    clear hTd hL hE hR
    obtain ⟨d0, d1, d2, d3, d4, d5, d6, d7, d8⟩ := hL1.nine
    obtain ⟨f0, f1, f2, f3, f4, f5, f6, f7, f8⟩ := hL1.froz9
    obtain ⟨x0, x1, x2, x3, x4, x5, x6, x7, x8⟩ := hE1.nine
    obtain ⟨z0, z1, z2, z3, z4, z5, z6, z7, z8⟩ := hR1.nine
    obtain ⟨y0, y1, y2, y3, y4, y5, y6, y7, y8⟩ := hR1.froz9
    clear hL1 hE1 hR1
    go_wp2_with fail
    refine (refleft_stay ia il ic a m c li T _ (HI.out.below HW4.out) HIl.out HT.out.row HM.out (by omega)).mono ?_
    rintro e w5 ⟨⟨a', c', rfl, hrow⟩, hb⟩
    have HRow := Lib.hid hrow
    obtain ⟨nl, hnl⟩ : ∃ nl, nl = (li.filter (fun y => !Lm.hasD T y.2.1)).length := ⟨_, rfl⟩
    rw [show (li.filter (fun y => !Lm.hasD T y.2.1)).length = nl from hnl.symm]
    have HNl := Lib.hid hnl
    have HTb := Lib.hid (HT.out.chg (Chg.of_below hb))
    have hlt5 := hb.size
    clear hrow hnl
    have HW5 := Lib.hid (HW4.out.trans (hb.mono HW4.out.size))
    have hL1 := HL3.out.below hb; have hE1 := HE3.out.below hb; have hR1 := HR3.out.below hb
    have HL4 := Lib.hid hL1; have HE4 := Lib.hid hE1; have HR4 := Lib.hid hR1
    clear hb
    clear d0 d1 d2 d3 d4 d5 d6 d7 d8 x0 x1 x2 x3 x4 x5 x6 x7 x8 z0 z1 z2 z3 z4 z5 z6 z7 z8 f0 f1 f2 f3 f4 f5 f6 f7 f8 y0 y1 y2 y3 y4 y5 y6 y7 y8
    obtain ⟨d0, d1, d2, d3, d4, d5, d6, d7, d8⟩ := hL1.nine
    obtain ⟨f0, f1, f2, f3, f4, f5, f6, f7, f8⟩ := hL1.froz9
    obtain ⟨x0, x1, x2, x3, x4, x5, x6, x7, x8⟩ := hE1.nine
    obtain ⟨z0, z1, z2, z3, z4, z5, z6, z7, z8⟩ := hR1.nine
    obtain ⟨y0, y1, y2, y3, y4, y5, y6, y7, y8⟩ := hR1.froz9
    clear hL1 hE1 hR1
    go_wp2_with fail
    clear d0 d1 d2 d3 d4 d5 d6 d7 d8 x0 x1 x2 x3 x4 x5 x6 x7 x8 z0 z1 z2 z3 z4 z5 z6 z7 z8 f0 f1 f2 f3 f4 f5 f6 f7 f8 y0 y1 y2 y3 y4 y5 y6 y7 y8
    have hcL : Chg (fun k => k = W.heap.size) w5 (w5.setCell ⟨W.heap.size, 7, none⟩ (.slice a' nl c')) := (Chg.refl (fun k => k = W.heap.size) w5).set (Or.inr rfl) 7 _
    have hbV := Chg.belowTrans HW5.out hcL (fun k hk e => by have : k = W.heap.size := e; omega) HW5.out.size
    have e3 := HNl.out; have e4 := HTd.out; have e5 := HM.out
    have hro := HRow.out
    have hcQ : Chg (fun k => k < wr.heap.size) w5 _ := hcL.mono (T := fun k => k < wr.heap.size) (fun k hk e => by have : k = W.heap.size := e; have := HR3.out.lt; omega)
    subst e5
    subst e4
    subst e3
    have hc9 := chg9 (w5.setCell ⟨W.heap.size, 7, none⟩ (.slice a' (li.filter (fun y => !Lm.hasD (d.foldl Lm.bury ld) y.2.1)).length c')) (W.heap.size + 1 + 1) (.int .u8 (kk : Int)) (.int .i64 n) (.int .u64 (t : Int)) (.int .u8 (r : Int)) (.int .u32 (i : Int)) (.int .u64 (s : Int)) (.string x) (.slice a' (li.filter (fun y => !Lm.hasD (d.foldl Lm.bury ld) y.2.1)).length c') (.slice a (d.foldl Lm.bury ld).length c)
    have hfin := Chg.belowTrans (hbV) hc9 (fun k hk e => by have : k = W.heap.size + 1 + 1 := e; omega) (hbV).size
    have HFin := Lib.hid hfin
    refine bodyPost_ret (v := .tuple #[.agg #[.int .u8 (kk : Int), .int .i64 n, .int .u64 (t : Int), .int .u8 (r : Int), .int .u32 (i : Int), .int .u64 (s : Int), .string x, .slice a' (li.filter (fun y => !Lm.hasD (d.foldl Lm.bury ld) y.2.1)).length c', .slice a (d.foldl Lm.bury ld).length c], .int .i64 0]) (res_leaf2 (b := W.heap.size + 1 + 1) Try.results10 (by simp) (by simp) (blk9 (HR4.out.chg hcL (fun e => by have : W.heap.size + 1 + 1 = W.heap.size := e; omega)) _ _ _ _ _ _ _ _ _)) rfl ⟨⟨a', c', a, c, rfl, (fun w2 h2 => hro _ ((hcQ.trans (hc9.mono (T := fun k => k < wr.heap.size) (fun k hk e => by have : k = W.heap.size + 1 + 1 := e; have := HR3.out.lt; omega)) (fun _ _ e => e)).trans (h2.mono (T := fun k => k < wr.heap.size) (fun b _ e => by have := HKx.out b e; have := HR3.out.lt; omega)) (fun _ _ e => e))), fun w2 h2 => HTb.out w2 (((hcL.mono (T := (fun k => k = W.heap.size ∨ k = W.heap.size + 1 + 1 ∨ K k)) (fun k _ e => Or.inl e)).trans (hc9.mono (T := (fun k => k = W.heap.size ∨ k = W.heap.size + 1 + 1 ∨ K k)) (fun k _ e => Or.inr (Or.inl e))) (fun _ _ e => e)).trans (h2.mono (T := (fun k => k = W.heap.size ∨ k = W.heap.size + 1 + 1 ∨ K k)) (fun k _ e => Or.inr (Or.inr e))) (fun _ _ e => e))⟩, HFin.out⟩
end Go.Proofs.Ytbciopieciglmaa
