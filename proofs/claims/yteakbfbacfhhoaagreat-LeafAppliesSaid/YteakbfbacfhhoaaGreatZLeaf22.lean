import Derived.Test.YteakbfbacfhhoaaGreatZLeaf19
import Derived.Test.YteakbfbacfhhoaaGreatZRegD
namespace Go.Proofs.YteakbfbacfhhoaaGreat
open Go.RowKit Go.Buf Go.LB Go.Lib
set_option linter.unusedSimpArgs false
set_option linter.unusedVariables false
theorem blk_same {w : World} {b : Nat} {t t' : TypeId} {cs cs' : List Value} (h : Blk w b t cs) (g : Blk w b t' cs') : t = t' ∧ cs = cs' := by
 unfold Blk at h g
 rw [h] at g
 simp only [Option.some.injEq, Obj.cells.injEq] at g
 exact ⟨g.2.1, by simpa using g.1⟩
theorem own_apart {B B' : Nat} {w : World} {v v' : Value} {li : List Lm.It} {ld : List Dt.Dot} {rI rD : Option Nat} (hI : OwnI B w v li rI) (hD : OwnD B' w v' ld rD) : ∀ b, rI = some b → rD ≠ some b := by
 intro b h1 h2
 rcases hI.2 with ⟨h, _⟩ | ⟨g, _, _, h, _, _, hb, _⟩
 ·rw [h1] at h; cases h
 rcases hD.2 with ⟨h', _⟩ | ⟨g', _, _, h', _, _, hb', _⟩
 ·rw [h2] at h'; cases h'
 rw [h1] at h; rw [h2] at h'
 cases h; cases h'
 exact absurd (blk_same hb hb').1 (by decide)
theorem GE.below {B : Nat} {w w' : World} {g : Nat} {kk : Nat} {n : Int} {t r i s : Nat} {x : ByteArray} {li : List Lm.It} {ld : List Dt.Dot} (h : GE B w g kk n t r i s x li ld) (hb : Below w.heap.size w w') : GE B w' g kk n t r i s x li ld := by
 obtain ⟨vI, rI, vD, rD, h⟩ := h
 exact ⟨vI, rI, vD, rD, GS.below h hb⟩
def AE (B : Nat) (w : World) (L : Lm.L) (err : Int) (e : Ending) : Prop := ∃ vI rI vD rD, e = .returned (.tuple #[.agg #[.int .u8 (L.kind : Int), .int .i64 L.n, .int .u64 (L.time : Int), .int .u8 (L.dot.1.1 : Int), .int .u32 (L.dot.1.2 : Int), .int .u64 (L.dot.2 : Int), .string L.text, vI, vD], .int .i64 err]) ∧ OwnI B w vI L.items rI ∧ OwnD B w vD L.tombs rD
theorem blk9 {w : World} {b : Nat} {t : TypeId} {c0 c1 c2 c3 c4 c5 c6 c7 c8 : Value} (h : Blk w b t [c0, c1, c2, c3, c4, c5, c6, c7, c8]) (v0 v1 v2 v3 v4 v5 v6 v7 v8 : Value) :
  Blk (((((((((w.setCell ⟨b, 0, none⟩ v0).setCell ⟨b, 1, none⟩ v1).setCell ⟨b, 2, none⟩ v2).setCell ⟨b, 3, none⟩ v3).setCell ⟨b, 4, none⟩ v4).setCell ⟨b, 5, none⟩ v5).setCell ⟨b, 6, none⟩ v6).setCell ⟨b, 7, none⟩ v7).setCell ⟨b, 8, none⟩ v8) b t [v0, v1, v2, v3, v4, v5, v6, v7, v8] :=
 ((((((((h.set 0 v0).set 1 v1).set 2 v2).set 3 v3).set 4 v4).set 5 v5).set 6 v6).set 7 v7).set 8 v8
theorem chg9 (w : World) (b : Nat) (v0 v1 v2 v3 v4 v5 v6 v7 v8 : Value) :
  Chg (fun k => k = b) w (((((((((w.setCell ⟨b, 0, none⟩ v0).setCell ⟨b, 1, none⟩ v1).setCell ⟨b, 2, none⟩ v2).setCell ⟨b, 3, none⟩ v3).setCell ⟨b, 4, none⟩ v4).setCell ⟨b, 5, none⟩ v5).setCell ⟨b, 6, none⟩ v6).setCell ⟨b, 7, none⟩ v7).setCell ⟨b, 8, none⟩ v8) :=
 (((((((((Chg.refl (fun k => k = b) w).set (Or.inr rfl) 0 v0).set (Or.inr rfl) 1 v1).set (Or.inr rfl) 2 v2).set (Or.inr rfl) 3 v3).set (Or.inr rfl) 4 v4).set (Or.inr rfl) 5 v5).set (Or.inr rfl) 6 v6).set (Or.inr rfl) 7 v7).set (Or.inr rfl) 8 v8
theorem chg_of_bel {w0 w w' : World} (h1 : Below w0.heap.size w0 w) (h2 : Below w0.heap.size w0 w') (hs : w.heap.size ≤ w'.heap.size) : Chg (fun k => w0.heap.size ≤ k) w w' :=
 ⟨h2.os.trans h1.os.symm, h2.tape.trans h1.tape.symm, h2.output.trans h1.output.symm, hs, fun k _ hn => (h2.block k (Nat.lt_of_not_le hn)).trans (h1.block k (Nat.lt_of_not_le hn)).symm⟩
set_option maxRecDepth 100000 in
set_option maxHeartbeats 6400000 in
theorem apply_a (kk : Nat) (n : Int) (t r i s : Nat) (x : ByteArray) (ia : Option Addr) (il ic : Nat) (da : Option Addr) (dl dc : Nat) (li : List Lm.It) (ld : List Dt.Dot) (r' i' s' tm k : Nat) (pa : Option Addr) (pl pc : Nat) (n' : Int) (t' : ByteArray) (ea : Option Addr) (el ec : Nat) (p : List ByteArray) (d : List Dt.Dot) (W : World) (hi : IRow W ia ic li) (hil : li.length = il) (hd : VRow W da dc ld) (hdl : ld.length = dl) (hx : x.size ≤ 9223372036854775807) (hn : il ≤ 1000000) (hn2 : dl ≤ 1000000) (hk256 : k < 256) (hp : SRow W pa pc p) (hpl : p.length = pl) (hed : VRow W ea ec d) (hel : d.length = el) (hmay : Lm.may ⟨kk, n, t, ((r, i), s), x, li, ld⟩ = false) :
  Calls Tryz.prog 15 #[leafV kk n t r i s x ia il ic da dl dc, evV r' i' s' tm k pa pl pc n' t' ea el ec] W fun e w' => AE W.heap.size w' Lm.zeroL 2 e ∧ Below W.heap.size W w' := by
 obtain ⟨hB1, hL0, hE0, hR0⟩ := boxes3 W [.int .u8 (kk : Int), .int .i64 n, .int .u64 (t : Int), .int .u8 (r : Int), .int .u32 (i : Int), .int .u64 (s : Int), .string x, .slice ia il ic, .slice da dl dc] [.int .u8 (r' : Int), .int .u32 (i' : Int), .int .u64 (s' : Int), .int .u64 (tm : Int), .int .u8 (k : Int), .slice pa pl pc, .int .i64 n', .string t', .slice ea el ec] [.int .u8 0, .int .i64 0, .int .u64 0, .int .u8 0, .int .u32 0, .int .u64 0, .string ⟨#[]⟩, .slice none 0 0, .slice none 0 0] 31 36 31
 have HB1 := Lib.hid hB1; have HL0 := Lib.hid hL0; have HE0 := Lib.hid hE0; have HR0 := Lib.hid hR0
 have HI := Lib.hid hi; have HIl := Lib.hid hil; have HD := Lib.hid hd; have HDl := Lib.hid hdl; have HP := Lib.hid hp; have HPl := Lib.hid hpl; have HED := Lib.hid hed; have HEl := Lib.hid hel
 obtain ⟨a0, a1, a2, a3, a4, a5, a6, a7, a8⟩ := hL0.nine
 clear hB1 hL0 hE0 hR0 hi hil hd hdl hp hpl hed hel
 go_enter Tryz.func15, Tryz.ntmps15
 go_wp2_with fail
 refine (leafmay_any kk n t r i s x ia il ic da dl dc li ld _ (HI.out.below HB1.out) HIl.out (HD.out.below HB1.out) HDl.out hx (by omega)).mono ?_
 rintro e w1 ⟨rfl, hb⟩
 rw [hmay]
 have HB2 := Lib.hid hb
 have HW2 := Lib.hid (HB1.out.trans (hb.mono HB1.out.size))
 have hL1 := HL0.out.below hb; have hE1 := HE0.out.below hb; have hR1 := HR0.out.below hb
 have HL1 := Lib.hid hL1; have HE1 := Lib.hid hE1; have HR1 := Lib.hid hR1
 clear a0 a1 a2 a3 a4 a5 a6 a7 a8 hb
 obtain ⟨z0, z1, z2, z3, z4, z5, z6, z7, z8⟩ := hR1.nine
 obtain ⟨y0, y1, y2, y3, y4, y5, y6, y7, y8⟩ := hR1.froz9
 clear hL1 hE1 hR1
 go_wp2_with fail
 have hc9 := chg9 w1 (W.heap.size + 1 + 1) (.int .u8 0) (.int .i64 0) (.int .u64 0) (.int .u8 0) (.int .u32 0) (.int .u64 0) (.string ⟨#[]⟩) (.slice none 0 0) (.slice none 0 0)
 have hfin := Chg.belowTrans HW2.out hc9 (fun k hk e => by have : k = W.heap.size + 1 + 1 := e; omega) HW2.out.size
 have HFin := Lib.hid hfin
 refine bodyPost_ret (v := .tuple #[.agg #[.int .u8 0, .int .i64 0, .int .u64 0, .int .u8 0, .int .u32 0, .int .u64 0, .string ⟨#[]⟩, .slice none 0 0, .slice none 0 0], .int .i64 2]) (res_leaf2 (b := W.heap.size + 1 + 1) Tryz.results15 (by simp) (by simp) (blk9 HR1.out _ _ _ _ _ _ _ _ _)) rfl ⟨⟨_, none, _, none, rfl, Own.empty hfin.size none, Own.empty hfin.size none⟩, HFin.out⟩
set_option maxRecDepth 100000 in
set_option maxHeartbeats 6400000 in
theorem apply_b (kk : Nat) (n : Int) (t r i s : Nat) (x : ByteArray) (ia : Option Addr) (il ic : Nat) (da : Option Addr) (dl dc : Nat) (li : List Lm.It) (ld : List Dt.Dot) (r' i' s' tm k : Nat) (pa : Option Addr) (pl pc : Nat) (n' : Int) (t' : ByteArray) (ea : Option Addr) (el ec : Nat) (p : List ByteArray) (d : List Dt.Dot) (W : World) (hi : IRow W ia ic li) (hil : li.length = il) (hd : VRow W da dc ld) (hdl : ld.length = dl) (hx : x.size ≤ 9223372036854775807) (hn : il ≤ 1000000) (hn2 : dl ≤ 1000000) (hk256 : k < 256) (hp : SRow W pa pc p) (hpl : p.length = pl) (hed : VRow W ea ec d) (hel : d.length = el) (hmay : Lm.may ⟨kk, n, t, ((r, i), s), x, li, ld⟩ = true) (hev : Om.mayEvent ⟨((r', i'), s'), tm, ⟨k, p, n', t', d⟩⟩ = false) :
  Calls Tryz.prog 15 #[leafV kk n t r i s x ia il ic da dl dc, evV r' i' s' tm k pa pl pc n' t' ea el ec] W fun e w' => AE W.heap.size w' Lm.zeroL 2 e ∧ Below W.heap.size W w' := by
 have HMe := Lib.hid hev
 clear hev
 obtain ⟨hB1, hL0, hE0, hR0⟩ := boxes3 W [.int .u8 (kk : Int), .int .i64 n, .int .u64 (t : Int), .int .u8 (r : Int), .int .u32 (i : Int), .int .u64 (s : Int), .string x, .slice ia il ic, .slice da dl dc] [.int .u8 (r' : Int), .int .u32 (i' : Int), .int .u64 (s' : Int), .int .u64 (tm : Int), .int .u8 (k : Int), .slice pa pl pc, .int .i64 n', .string t', .slice ea el ec] [.int .u8 0, .int .i64 0, .int .u64 0, .int .u8 0, .int .u32 0, .int .u64 0, .string ⟨#[]⟩, .slice none 0 0, .slice none 0 0] 31 36 31
 have HB1 := Lib.hid hB1; have HL0 := Lib.hid hL0; have HE0 := Lib.hid hE0; have HR0 := Lib.hid hR0
 have HI := Lib.hid hi; have HIl := Lib.hid hil; have HD := Lib.hid hd; have HDl := Lib.hid hdl; have HP := Lib.hid hp; have HPl := Lib.hid hpl; have HED := Lib.hid hed; have HEl := Lib.hid hel
 obtain ⟨a0, a1, a2, a3, a4, a5, a6, a7, a8⟩ := hL0.nine
 clear hB1 hL0 hE0 hR0 hi hil hd hdl hp hpl hed hel
 go_enter Tryz.func15, Tryz.ntmps15
 go_wp2_with fail
 refine (leafmay_any kk n t r i s x ia il ic da dl dc li ld _ (HI.out.below HB1.out) HIl.out (HD.out.below HB1.out) HDl.out hx (by omega)).mono ?_
 rintro e w1 ⟨rfl, hb⟩
 rw [hmay]
 have HB2 := Lib.hid hb
 have HW2 := Lib.hid (HB1.out.trans (hb.mono HB1.out.size))
 have hL1 := HL0.out.below hb; have hE1 := HE0.out.below hb; have hR1 := HR0.out.below hb
 have HL1 := Lib.hid hL1; have HE1 := Lib.hid hE1; have HR1 := Lib.hid hR1
 clear a0 a1 a2 a3 a4 a5 a6 a7 a8 hb
 obtain ⟨x0, x1, x2, x3, x4, x5, x6, x7, x8⟩ := hE1.nine
 clear hL1 hE1 hR1
 go_wp2_with fail
 refine (mayEvent_any r' i' s' tm k hk256 pa pl pc n' t' ea el ec p d _ (HP.out.below HW2.out) HPl.out (HED.out.below HW2.out) HEl.out).mono ?_
 rintro e w2 ⟨rfl, hb⟩
 rw [HMe.out]
 have HW3 := Lib.hid (HW2.out.trans (hb.mono HW2.out.size))
 have hL1 := HL1.out.below hb; have hE1 := HE1.out.below hb; have hR1 := HR1.out.below hb
 have HL2 := Lib.hid hL1; have HE2 := Lib.hid hE1; have HR2 := Lib.hid hR1
 clear x0 x1 x2 x3 x4 x5 x6 x7 x8 hb
 obtain ⟨z0, z1, z2, z3, z4, z5, z6, z7, z8⟩ := hR1.nine
 obtain ⟨y0, y1, y2, y3, y4, y5, y6, y7, y8⟩ := hR1.froz9
 clear hL1 hE1 hR1
 go_wp2_with fail
 have hc9 := chg9 w2 (W.heap.size + 1 + 1) (.int .u8 0) (.int .i64 0) (.int .u64 0) (.int .u8 0) (.int .u32 0) (.int .u64 0) (.string ⟨#[]⟩) (.slice none 0 0) (.slice none 0 0)
 have hfin := Chg.belowTrans HW3.out hc9 (fun k hk e => by have : k = W.heap.size + 1 + 1 := e; omega) HW3.out.size
 have HFin := Lib.hid hfin
 refine bodyPost_ret (v := .tuple #[.agg #[.int .u8 0, .int .i64 0, .int .u64 0, .int .u8 0, .int .u32 0, .int .u64 0, .string ⟨#[]⟩, .slice none 0 0, .slice none 0 0], .int .i64 2]) (res_leaf2 (b := W.heap.size + 1 + 1) Tryz.results15 (by simp) (by simp) (blk9 HR2.out _ _ _ _ _ _ _ _ _)) rfl ⟨⟨_, none, _, none, rfl, Own.empty hfin.size none, Own.empty hfin.size none⟩, HFin.out⟩
set_option maxRecDepth 100000 in
set_option maxHeartbeats 6400000 in
theorem apply_c (kk : Nat) (n : Int) (t r i s : Nat) (x : ByteArray) (ia : Option Addr) (il ic : Nat) (da : Option Addr) (dl dc : Nat) (li : List Lm.It) (ld : List Dt.Dot) (r' i' s' tm k : Nat) (pa : Option Addr) (pl pc : Nat) (n' : Int) (t' : ByteArray) (ea : Option Addr) (el ec : Nat) (p : List ByteArray) (d : List Dt.Dot) (W : World) (hi : IRow W ia ic li) (hil : li.length = il) (hd : VRow W da dc ld) (hdl : ld.length = dl) (hx : x.size ≤ 9223372036854775807) (hn : il ≤ 1000000) (hn2 : dl ≤ 1000000) (hk256 : k < 256) (hp : SRow W pa pc p) (hpl : p.length = pl) (hed : VRow W ea ec d) (hel : d.length = el) (hmay : Lm.may ⟨kk, n, t, ((r, i), s), x, li, ld⟩ = true) (hev : Om.mayEvent ⟨((r', i'), s'), tm, ⟨k, p, n', t', d⟩⟩ = true) (hty : Om.type k ≠ kk) :
  Calls Tryz.prog 15 #[leafV kk n t r i s x ia il ic da dl dc, evV r' i' s' tm k pa pl pc n' t' ea el ec] W fun e w' => AE W.heap.size w' Lm.zeroL 15 e ∧ Below W.heap.size W w' := by
 have HMe := Lib.hid hev
 have hneq : ¬ ((Om.type k : Int) = (kk : Int)) := by omega
 clear hev
 obtain ⟨hB1, hL0, hE0, hR0⟩ := boxes3 W [.int .u8 (kk : Int), .int .i64 n, .int .u64 (t : Int), .int .u8 (r : Int), .int .u32 (i : Int), .int .u64 (s : Int), .string x, .slice ia il ic, .slice da dl dc] [.int .u8 (r' : Int), .int .u32 (i' : Int), .int .u64 (s' : Int), .int .u64 (tm : Int), .int .u8 (k : Int), .slice pa pl pc, .int .i64 n', .string t', .slice ea el ec] [.int .u8 0, .int .i64 0, .int .u64 0, .int .u8 0, .int .u32 0, .int .u64 0, .string ⟨#[]⟩, .slice none 0 0, .slice none 0 0] 31 36 31
 have HB1 := Lib.hid hB1; have HL0 := Lib.hid hL0; have HE0 := Lib.hid hE0; have HR0 := Lib.hid hR0
 have HI := Lib.hid hi; have HIl := Lib.hid hil; have HD := Lib.hid hd; have HDl := Lib.hid hdl; have HP := Lib.hid hp; have HPl := Lib.hid hpl; have HED := Lib.hid hed; have HEl := Lib.hid hel
 obtain ⟨a0, a1, a2, a3, a4, a5, a6, a7, a8⟩ := hL0.nine
 clear hB1 hL0 hE0 hR0 hi hil hd hdl hp hpl hed hel
 go_enter Tryz.func15, Tryz.ntmps15
 go_wp2_with fail
 refine (leafmay_any kk n t r i s x ia il ic da dl dc li ld _ (HI.out.below HB1.out) HIl.out (HD.out.below HB1.out) HDl.out hx (by omega)).mono ?_
 rintro e w1 ⟨rfl, hb⟩
 rw [hmay]
 have HB2 := Lib.hid hb
 have HW2 := Lib.hid (HB1.out.trans (hb.mono HB1.out.size))
 have hL1 := HL0.out.below hb; have hE1 := HE0.out.below hb; have hR1 := HR0.out.below hb
 have HL1 := Lib.hid hL1; have HE1 := Lib.hid hE1; have HR1 := Lib.hid hR1
 clear a0 a1 a2 a3 a4 a5 a6 a7 a8 hb
 obtain ⟨x0, x1, x2, x3, x4, x5, x6, x7, x8⟩ := hE1.nine
 clear hL1 hE1 hR1
 go_wp2_with fail
 refine (mayEvent_any r' i' s' tm k hk256 pa pl pc n' t' ea el ec p d _ (HP.out.below HW2.out) HPl.out (HED.out.below HW2.out) HEl.out).mono ?_
 rintro e w2 ⟨rfl, hb⟩
 rw [HMe.out]
 have HW3 := Lib.hid (HW2.out.trans (hb.mono HW2.out.size))
 have hL1 := HL1.out.below hb; have hE1 := HE1.out.below hb; have hR1 := HR1.out.below hb
 have HL2 := Lib.hid hL1; have HE2 := Lib.hid hE1; have HR2 := Lib.hid hR1
 clear x0 x1 x2 x3 x4 x5 x6 x7 x8 hb
 clear hL1 hE1 hR1
 go_wp2_with fail
 refine Reg.region_list (by kernel_rfl) [fun v _ => v = .pointer (some ⟨W.heap.size + 1, 4, none⟩), fun v _ => v = .pointer (some ⟨W.heap.size + 1, 4, none⟩), fun v _ => v = .int .u8 (k : Int), fun v _ => v = .int .u8 (Om.type k : Nat), fun v _ => v = .pointer (some ⟨W.heap.size, 0, none⟩), fun v _ => v = .int .u8 (kk : Int), fun v _ => v = .bool true] (by kernel_rfl) ?_ ?_ ?_
 ·refine ⟨k4, k4, k4, k4, k4, k4, k4, trivial⟩
 ·refine ⟨?_, ?_, ?_, ?_, ?_, ?_, ?_, trivial⟩
  ·intro ev w hc hf hg hfix hdep hbel
   have e3 : ev (.tmp 3) = _ := hfix 3 (by decide)
   exact okb trivial rfl (by go_simp)
  ·intro ev w hc hf hg hfix hdep hbel
   have e16 : ev (.tmp 16) = _ := hdep 0 (by decide)
   exact okb trivial rfl (by go_simp)
  ·intro ev w hc hf hg hfix hdep hbel
   have e17 : ev (.tmp 17) = _ := hdep 1 (by decide)
   have d0 := (HL2.out.below (undrew hbel)).cell 0; have d4 := (HE2.out.below (undrew hbel)).cell 4
   simp only [List.getElem?_cons_succ, List.getElem?_cons_zero] at d0 d4
   exact okb trivial rfl (by go_simp)
  ·intro ev w hc hf hg hfix hdep hbel
   have e18 : ev (.tmp 18) = _ := hdep 2 (by decide)
   refine Or.inl ⟨trivial, Or.inr ⟨28, #[.int .u8 (k : Int)], w, by go_simp, ?_⟩⟩
   refine (type_any k hk256 w).mono ?_
   rintro e w2 ⟨rfl, hb⟩
   exact ⟨_, rfl, rfl, hb⟩
  ·intro ev w hc hf hg hfix hdep hbel
   have e2 : ev (.tmp 2) = _ := hfix 2 (by decide)
   exact okb trivial rfl (by go_simp)
  ·intro ev w hc hf hg hfix hdep hbel
   have e20 : ev (.tmp 20) = _ := hdep 4 (by decide)
   have d0 := (HL2.out.below (undrew hbel)).cell 0; have d4 := (HE2.out.below (undrew hbel)).cell 4
   simp only [List.getElem?_cons_succ, List.getElem?_cons_zero] at d0 d4
   exact okb trivial rfl (by go_simp)
  ·intro ev w hc hf hg hfix hdep hbel
   have e19 : ev (.tmp 19) = _ := hdep 3 (by decide)
   have e21 : ev (.tmp 21) = _ := hdep 5 (by decide)
   exact okb trivial rfl (by go_simp)
 ·intro v w2 hv hb2
  have r0 : v 0 = _ := hv 0 (by decide)
  have r1 : v 1 = _ := hv 1 (by decide)
  have r2 : v 2 = _ := hv 2 (by decide)
  have r3 : v 3 = _ := hv 3 (by decide)
  have r4 : v 4 = _ := hv 4 (by decide)
  have r5 : v 5 = _ := hv 5 (by decide)
  have r6 : v 6 = _ := hv 6 (by decide)
  simp only [Reg.putAll, Act.put, List.setIfInBounds_toArray, List.set_cons_zero, List.set_cons_succ, r0, r1, r2, r3, r4, r5, r6]
  clear r0 r1 r2 r3 r4 r5 r6 hv
  have HW4 := Lib.hid (HW3.out.trans (hb2.mono HW3.out.size))
  have hL1 := HL2.out.below hb2; have hE1 := HE2.out.below hb2; have hR1 := HR2.out.below hb2
  have HL3 := Lib.hid hL1; have HE3 := Lib.hid hE1; have HR3 := Lib.hid hR1
  clear hb2
  obtain ⟨z0, z1, z2, z3, z4, z5, z6, z7, z8⟩ := hR1.nine
  obtain ⟨y0, y1, y2, y3, y4, y5, y6, y7, y8⟩ := hR1.froz9
  clear hL1 hE1 hR1
  go_wp2_with fail
  have hc9 := chg9 w2 (W.heap.size + 1 + 1) (.int .u8 0) (.int .i64 0) (.int .u64 0) (.int .u8 0) (.int .u32 0) (.int .u64 0) (.string ⟨#[]⟩) (.slice none 0 0) (.slice none 0 0)
  have hfin := Chg.belowTrans HW4.out hc9 (fun k hk e => by have : k = W.heap.size + 1 + 1 := e; omega) HW4.out.size
  have HFin := Lib.hid hfin
  refine bodyPost_ret (v := .tuple #[.agg #[.int .u8 0, .int .i64 0, .int .u64 0, .int .u8 0, .int .u32 0, .int .u64 0, .string ⟨#[]⟩, .slice none 0 0, .slice none 0 0], .int .i64 15]) (res_leaf2 (b := W.heap.size + 1 + 1) Tryz.results15 (by simp) (by simp) (blk9 HR3.out _ _ _ _ _ _ _ _ _)) rfl ⟨⟨_, none, _, none, rfl, Own.empty hfin.size none, Own.empty hfin.size none⟩, HFin.out⟩
set_option maxRecDepth 100000 in
set_option maxHeartbeats 12800000 in
theorem apply_d (kk : Nat) (n : Int) (t r i s : Nat) (x : ByteArray) (ia : Option Addr) (il ic : Nat) (da : Option Addr) (dl dc : Nat) (li : List Lm.It) (ld : List Dt.Dot) (r' i' s' tm k : Nat) (pa : Option Addr) (pl pc : Nat) (n' : Int) (t' : ByteArray) (ea : Option Addr) (el ec : Nat) (p : List ByteArray) (d : List Dt.Dot) (W : World) (hi : IRow W ia ic li) (hil : li.length = il) (hd : VRow W da dc ld) (hdl : ld.length = dl) (hx : x.size ≤ 9223372036854775807) (hn : il ≤ 1000000) (hn2 : dl ≤ 1000000) (hk256 : k < 256) (hp : SRow W pa pc p) (hpl : p.length = pl) (hed : VRow W ea ec d) (hel : d.length = el) (hmay : Lm.may ⟨kk, n, t, ((r, i), s), x, li, ld⟩ = true) (hev : Om.mayEvent ⟨((r', i'), s'), tm, ⟨k, p, n', t', d⟩⟩ = true) (hty : Om.type k = kk) :
  Calls Tryz.prog 15 #[leafV kk n t r i s x ia il ic da dl dc, evV r' i' s' tm k pa pl pc n' t' ea el ec] W fun e w' => AE W.heap.size w' (Lm.applied ⟨kk, n, t, ((r, i), s), x, li, ld⟩ ⟨((r', i'), s'), tm, ⟨k, p, n', t', d⟩⟩) 0 e ∧ Below W.heap.size W w' := by
 have HMe := Lib.hid hev
 have hneq : (Om.type k : Int) = (kk : Int) := by omega
 obtain ⟨fm, hfe, hfl, hfc⟩ := leafstep_any kk n t r i s x li ld r' i' s' tm k p n' t' d hmay hev hty hi.ok hd.ok (by omega) (by omega)
 have HFe := Lib.hid hfe; have HFl := Lib.hid hfl; have HFc := Lib.hid hfc
 clear hev hfe hfl hfc
 obtain ⟨hB1, hL0, hE0, hR0⟩ := boxes3 W [.int .u8 (kk : Int), .int .i64 n, .int .u64 (t : Int), .int .u8 (r : Int), .int .u32 (i : Int), .int .u64 (s : Int), .string x, .slice ia il ic, .slice da dl dc] [.int .u8 (r' : Int), .int .u32 (i' : Int), .int .u64 (s' : Int), .int .u64 (tm : Int), .int .u8 (k : Int), .slice pa pl pc, .int .i64 n', .string t', .slice ea el ec] [.int .u8 0, .int .i64 0, .int .u64 0, .int .u8 0, .int .u32 0, .int .u64 0, .string ⟨#[]⟩, .slice none 0 0, .slice none 0 0] 31 36 31
 have HB1 := Lib.hid hB1; have HL0 := Lib.hid hL0; have HE0 := Lib.hid hE0; have HR0 := Lib.hid hR0
 have HI := Lib.hid hi; have HIl := Lib.hid hil; have HD := Lib.hid hd; have HDl := Lib.hid hdl; have HP := Lib.hid hp; have HPl := Lib.hid hpl; have HED := Lib.hid hed; have HEl := Lib.hid hel
 obtain ⟨a0, a1, a2, a3, a4, a5, a6, a7, a8⟩ := hL0.nine
 clear hB1 hL0 hE0 hR0 hi hil hd hdl hp hpl hed hel
 go_enter Tryz.func15, Tryz.ntmps15
 go_wp2_with fail
 refine (leafmay_any kk n t r i s x ia il ic da dl dc li ld _ (HI.out.below HB1.out) HIl.out (HD.out.below HB1.out) HDl.out hx (by omega)).mono ?_
 rintro e w1 ⟨rfl, hb⟩
 rw [hmay]
 have HB2 := Lib.hid hb
 have HW2 := Lib.hid (HB1.out.trans (hb.mono HB1.out.size))
 have hL1 := HL0.out.below hb; have hE1 := HE0.out.below hb; have hR1 := HR0.out.below hb
 have HL1 := Lib.hid hL1; have HE1 := Lib.hid hE1; have HR1 := Lib.hid hR1
 clear a0 a1 a2 a3 a4 a5 a6 a7 a8 hb
 obtain ⟨x0, x1, x2, x3, x4, x5, x6, x7, x8⟩ := hE1.nine
 clear hL1 hE1 hR1
 go_wp2_with fail
 refine (mayEvent_any r' i' s' tm k hk256 pa pl pc n' t' ea el ec p d _ (HP.out.below HW2.out) HPl.out (HED.out.below HW2.out) HEl.out).mono ?_
 rintro e w2 ⟨rfl, hb⟩
 rw [HMe.out]
 have HW3 := Lib.hid (HW2.out.trans (hb.mono HW2.out.size))
 have hL1 := HL1.out.below hb; have hE1 := HE1.out.below hb; have hR1 := HR1.out.below hb
 have HL2 := Lib.hid hL1; have HE2 := Lib.hid hE1; have HR2 := Lib.hid hR1
 clear x0 x1 x2 x3 x4 x5 x6 x7 x8 hb
 clear hL1 hE1 hR1
 go_wp2_with fail
 refine Reg.region_list (by kernel_rfl) [fun v _ => v = .pointer (some ⟨W.heap.size + 1, 4, none⟩), fun v _ => v = .pointer (some ⟨W.heap.size + 1, 4, none⟩), fun v _ => v = .int .u8 (k : Int), fun v _ => v = .int .u8 (Om.type k : Nat), fun v _ => v = .pointer (some ⟨W.heap.size, 0, none⟩), fun v _ => v = .int .u8 (kk : Int), fun v _ => v = .bool false] (by kernel_rfl) ?_ ?_ ?_
 ·refine ⟨k4, k4, k4, k4, k4, k4, k4, trivial⟩
 ·refine ⟨?_, ?_, ?_, ?_, ?_, ?_, ?_, trivial⟩
  ·intro ev w hc hf hg hfix hdep hbel
   have e3 : ev (.tmp 3) = _ := hfix 3 (by decide)
   exact okb trivial rfl (by go_simp)
  ·intro ev w hc hf hg hfix hdep hbel
   have e16 : ev (.tmp 16) = _ := hdep 0 (by decide)
   exact okb trivial rfl (by go_simp)
  ·intro ev w hc hf hg hfix hdep hbel
   have e17 : ev (.tmp 17) = _ := hdep 1 (by decide)
   have d0 := (HL2.out.below (undrew hbel)).cell 0; have d4 := (HE2.out.below (undrew hbel)).cell 4
   simp only [List.getElem?_cons_succ, List.getElem?_cons_zero] at d0 d4
   exact okb trivial rfl (by go_simp)
  ·intro ev w hc hf hg hfix hdep hbel
   have e18 : ev (.tmp 18) = _ := hdep 2 (by decide)
   refine Or.inl ⟨trivial, Or.inr ⟨28, #[.int .u8 (k : Int)], w, by go_simp, ?_⟩⟩
   refine (type_any k hk256 w).mono ?_
   rintro e w2 ⟨rfl, hb⟩
   exact ⟨_, rfl, rfl, hb⟩
  ·intro ev w hc hf hg hfix hdep hbel
   have e2 : ev (.tmp 2) = _ := hfix 2 (by decide)
   exact okb trivial rfl (by go_simp)
  ·intro ev w hc hf hg hfix hdep hbel
   have e20 : ev (.tmp 20) = _ := hdep 4 (by decide)
   have d0 := (HL2.out.below (undrew hbel)).cell 0; have d4 := (HE2.out.below (undrew hbel)).cell 4
   simp only [List.getElem?_cons_succ, List.getElem?_cons_zero] at d0 d4
   exact okb trivial rfl (by go_simp)
  ·intro ev w hc hf hg hfix hdep hbel
   have e19 : ev (.tmp 19) = _ := hdep 3 (by decide)
   have e21 : ev (.tmp 21) = _ := hdep 5 (by decide)
   exact okb trivial rfl (by go_simp)
 ·intro v w3 hv hb2
  have r0 : v 0 = _ := hv 0 (by decide)
  have r1 : v 1 = _ := hv 1 (by decide)
  have r2 : v 2 = _ := hv 2 (by decide)
  have r3 : v 3 = _ := hv 3 (by decide)
  have r4 : v 4 = _ := hv 4 (by decide)
  have r5 : v 5 = _ := hv 5 (by decide)
  have r6 : v 6 = _ := hv 6 (by decide)
  simp only [Reg.putAll, Act.put, List.setIfInBounds_toArray, List.set_cons_zero, List.set_cons_succ, r0, r1, r2, r3, r4, r5, r6]
  clear r0 r1 r2 r3 r4 r5 r6 hv
  have HW4 := Lib.hid (HW3.out.trans (hb2.mono HW3.out.size))
  have hL1 := HL2.out.below hb2; have hE1 := HE2.out.below hb2; have hR1 := HR2.out.below hb2
  have HL3 := Lib.hid hL1; have HE3 := Lib.hid hE1; have HR3 := Lib.hid hR1
  clear hb2
  obtain ⟨d0, d1, d2, d3, d4, d5, d6, d7, d8⟩ := hL1.nine
  have hbx := below_box w3 #[.int .u8 (kk : Int), .int .i64 n, .int .u64 (t : Int), .int .u8 (r : Int), .int .u32 (i : Int), .int .u64 (s : Int), .string x, .slice ia il ic, .slice da dl dc] 59
  have HG0 := Lib.hid (Blk.new w3 #[.int .u8 (kk : Int), .int .i64 n, .int .u64 (t : Int), .int .u8 (r : Int), .int .u32 (i : Int), .int .u64 (s : Int), .string x, .slice ia il ic, .slice da dl dc] 59)
  have HL4 := Lib.hid (hL1.below hbx)
  have HW5 := Lib.hid (HW4.out.trans (hbx.mono HW4.out.size))
  have HBx := Lib.hid hbx
  have HE4 := Lib.hid (hE1.below hbx)
  have hlt3 := hE1.lt
  clear hL1 hE1 hR1 hbx
  go_wp2_with fail
  clear d0 d1 d2 d3 d4 d5 d6 d7 d8
  have hJB : ∀ (wa wb : World), Below wa.heap.size wa wb → (fun w : World => ∃ v7 v8, Blk w w3.heap.size 59 (gcs kk n t r i s x v7 v8)) wa → (fun w : World => ∃ v7 v8, Blk w w3.heap.size 59 (gcs kk n t r i s x v7 v8)) wb := fun wa wb hb hj => by
   obtain ⟨v7, v8, hj⟩ := hj
   exact ⟨v7, v8, hj.below hb⟩
  have HJB := Lib.hid hJB; clear hJB
  refine RegD.region_list (by kernel_rfl) (fun w : World => ∃ v7 v8, Blk w w3.heap.size 59 (gcs kk n t r i s x v7 v8)) [8, 11] [8, 11] [RegD.plain (fun v _ => v = .pointer (some ⟨W.heap.size, 7, none⟩)), RegD.plain (fun v _ => v = .slice ia il ic), RegD.plain (fun v w => ∃ row, OwnI w3.heap.size w v li row ∧ row ≠ some w3.heap.size), RegD.plain (fun v _ => v = .pointer (some ⟨W.heap.size, 8, none⟩)), RegD.plain (fun v _ => v = .slice da dl dc), RegD.plain (fun v w => ∃ row, OwnD w3.heap.size w v ld row ∧ row ≠ some w3.heap.size), RegD.plain (fun v _ => v = .pointer (some ⟨w3.heap.size, 0, none⟩)), RegD.plain (fun v _ => v = .pointer (some ⟨w3.heap.size, 7, none⟩)), RegD.change (fun v w => ∃ vI row v8, Blk w w3.heap.size 59 (gcs kk n t r i s x vI v8) ∧ OwnI w3.heap.size w vI li row ∧ row ≠ some w3.heap.size) (fun k => k = w3.heap.size) (fun w w' => ∃ v, w' = w.setCell ⟨w3.heap.size, 7, none⟩ v), RegD.plain (fun v _ => v = .pointer (some ⟨w3.heap.size, 0, none⟩)), RegD.plain (fun v _ => v = .pointer (some ⟨w3.heap.size, 8, none⟩)), RegD.change (fun v w => ∃ v7 vD row, Blk w w3.heap.size 59 (gcs kk n t r i s x v7 vD) ∧ OwnD w3.heap.size w vD ld row ∧ row ≠ some w3.heap.size) (fun k => k = w3.heap.size) (fun w w' => ∃ v, w' = w.setCell ⟨w3.heap.size, 8, none⟩ v)] (by kernel_rfl) (⟨_, _, HG0.out⟩) (HJB.out) ?_ ?_ ?_ ?_ ?_ ?_
  ·exact ⟨Or.inr ⟨fun _ h => h, rfl⟩, Or.inr ⟨fun _ h => h, rfl⟩, Or.inr ⟨fun _ h => h, rfl⟩, Or.inr ⟨fun _ h => h, rfl⟩, Or.inr ⟨fun _ h => h, rfl⟩, Or.inr ⟨fun _ h => h, rfl⟩, Or.inr ⟨fun _ h => h, rfl⟩, Or.inr ⟨fun _ h => h, rfl⟩, Or.inl (by decide), Or.inr ⟨fun _ h => h, rfl⟩, Or.inr ⟨fun _ h => h, rfl⟩, Or.inl (by decide), trivial⟩
  ·exact ⟨⟨fun _ _ h => h, fun wx wy h => (HJB.out) wx wy (RegD.to_below h (fun _ h => h))⟩, ⟨fun _ _ h => h, fun wx wy h => (HJB.out) wx wy (RegD.to_below h (fun _ h => h))⟩, ⟨fun _ _ h => h, fun wx wy h => (HJB.out) wx wy (RegD.to_below h (fun _ h => h))⟩, ⟨fun _ _ h => h, fun wx wy h => (HJB.out) wx wy (RegD.to_below h (fun _ h => h))⟩, ⟨fun _ _ h => h, fun wx wy h => (HJB.out) wx wy (RegD.to_below h (fun _ h => h))⟩, ⟨fun _ _ h => h, fun wx wy h => (HJB.out) wx wy (RegD.to_below h (fun _ h => h))⟩, ⟨fun _ _ h => h, fun wx wy h => (HJB.out) wx wy (RegD.to_below h (fun _ h => h))⟩, ⟨fun _ _ h => h, fun wx wy h => (HJB.out) wx wy (RegD.to_below h (fun _ h => h))⟩, ⟨(fun wa wb h => by obtain ⟨v, rfl⟩ := h; exact ((Chg.refl (fun k => k = w3.heap.size) wa).set (Or.inr rfl) 7 _)), (fun wa wb h hj => by obtain ⟨v, rfl⟩ := h; obtain ⟨v7, v8, hj⟩ := hj; exact ⟨v, v8, hj.set 7 v⟩)⟩, ⟨fun _ _ h => h, fun wx wy h => (HJB.out) wx wy (RegD.to_below h (fun _ h => h))⟩, ⟨fun _ _ h => h, fun wx wy h => (HJB.out) wx wy (RegD.to_below h (fun _ h => h))⟩, ⟨(fun wa wb h => by obtain ⟨v, rfl⟩ := h; exact ((Chg.refl (fun k => k = w3.heap.size) wa).set (Or.inr rfl) 8 _)), (fun wa wb h hj => by obtain ⟨v, rfl⟩ := h; obtain ⟨v7, v8, hj⟩ := hj; exact ⟨v7, v, hj.set 8 v⟩)⟩, trivial⟩
  ·refine ⟨k4, k4, (fun v wa wb hb h => by obtain ⟨row, h1, h2⟩ := h; exact ⟨row, h1.below hb, h2⟩), k4, k4, (fun v wa wb hb h => by obtain ⟨row, h1, h2⟩ := h; exact ⟨row, h1.below hb, h2⟩), k4, k4, (fun v wa wb hb h => by obtain ⟨vI, row, v8, h0, h1, h2⟩ := h; exact ⟨vI, row, v8, h0.below hb, h1.below hb, h2⟩), k4, k4, (fun v wa wb hb h => by obtain ⟨v7, vD, row, h0, h1, h2⟩ := h; exact ⟨v7, vD, row, h0.below hb, h1.below hb, h2⟩), trivial⟩
  ·refine ⟨⟨Or.inr (Or.inr (Or.inr k4)), Or.inr (Or.inr (Or.inr k4)), Or.inr (Or.inr (Or.inr (fun v wa wb hr h => by obtain ⟨q, rfl⟩ := hr; obtain ⟨row, h1, h2⟩ := h; exact ⟨row, h1.chg ((Chg.refl (fun k => k = w3.heap.size) wa).set (Or.inr rfl) 7 _) (fun q e f => h2 (by rw [e, f])), h2⟩))), Or.inr (Or.inr (Or.inr k4)), Or.inr (Or.inr (Or.inr k4)), Or.inr (Or.inr (Or.inr (fun v wa wb hr h => by obtain ⟨q, rfl⟩ := hr; obtain ⟨row, h1, h2⟩ := h; exact ⟨row, h1.chg ((Chg.refl (fun k => k = w3.heap.size) wa).set (Or.inr rfl) 7 _) (fun q e f => h2 (by rw [e, f])), h2⟩))), Or.inr (Or.inr (Or.inr k4)), Or.inr (Or.inr (Or.inr k4)), Or.inl rfl, Or.inr (Or.inr (Or.inr k4)), Or.inr (Or.inr (Or.inr k4)), Or.inr (Or.inr (Or.inr (fun v wa wb hr h => by obtain ⟨q, rfl⟩ := hr; obtain ⟨v7, vD, row, h0, h1, h2⟩ := h; exact ⟨q, vD, row, h0.set 7 q, h1.chg ((Chg.refl (fun k => k = w3.heap.size) wa).set (Or.inr rfl) 7 _) (fun q e f => h2 (by rw [e, f])), h2⟩))), trivial⟩, ⟨Or.inr (Or.inr (Or.inr k4)), Or.inr (Or.inr (Or.inr k4)), Or.inr (Or.inr (Or.inr (fun v wa wb hr h => by obtain ⟨q, rfl⟩ := hr; obtain ⟨row, h1, h2⟩ := h; exact ⟨row, h1.chg ((Chg.refl (fun k => k = w3.heap.size) wa).set (Or.inr rfl) 8 _) (fun q e f => h2 (by rw [e, f])), h2⟩))), Or.inr (Or.inr (Or.inr k4)), Or.inr (Or.inr (Or.inr k4)), Or.inr (Or.inr (Or.inr (fun v wa wb hr h => by obtain ⟨q, rfl⟩ := hr; obtain ⟨row, h1, h2⟩ := h; exact ⟨row, h1.chg ((Chg.refl (fun k => k = w3.heap.size) wa).set (Or.inr rfl) 8 _) (fun q e f => h2 (by rw [e, f])), h2⟩))), Or.inr (Or.inr (Or.inr k4)), Or.inr (Or.inr (Or.inr k4)), Or.inr (Or.inr (Or.inr (fun v wa wb hr h => by obtain ⟨q, rfl⟩ := hr; obtain ⟨vI, row, v8, h0, h1, h2⟩ := h; exact ⟨vI, row, q, h0.set 8 q, h1.chg ((Chg.refl (fun k => k = w3.heap.size) wa).set (Or.inr rfl) 8 _) (fun q e f => h2 (by rw [e, f])), h2⟩))), Or.inr (Or.inr (Or.inr k4)), Or.inr (Or.inr (Or.inr k4)), Or.inl rfl, trivial⟩, trivial⟩
  ·refine ⟨?_, ?_, ?_, ?_, ?_, ?_, ?_, ?_, ?_, ?_, ?_, ?_, trivial⟩
   ·intro ev w hc hf hg hfix hdep hchg hinv
    have e2 : ev (.tmp 2) = _ := hfix 2 (by decide)
    exact Or.inl ⟨trivial, Or.inl ⟨_, w, by go_simp, rfl, Chg.refl _ _⟩⟩
   ·intro ev w hc hf hg hfix hdep hchg hinv
    have e26 : ev (.tmp 26) = _ := hdep 0 (by decide)
    have d := (HL4.out.below (RegD.chg0 (hchg [] (by kernel_rfl)))).cell 7
    simp only [List.getElem?_cons_succ, List.getElem?_cons_zero] at d
    exact Or.inl ⟨trivial, Or.inl ⟨_, w, by go_simp, rfl, Chg.refl _ _⟩⟩
   ·intro ev w hc hf hg hfix hdep hchg hinv
    have e27 : ev (.tmp 27) = _ := hdep 1 (by decide)
    refine Or.inl ⟨trivial, Or.inr (Or.inl ⟨29, #[.slice ia il ic], w, by go_simp, ?_⟩)⟩
    have hbw : Below W.heap.size W w := HW5.out.trans ((RegD.chg0 (hchg [] (by kernel_rfl))).mono HW5.out.size)
    have hsz := (RegD.chg0 (hchg [] (by kernel_rfl))).size
    simp only [World.size_alloc] at hsz
    refine (cloneI_any ia il ic li w (HI.out.below hbw) HIl.out (by omega)).mono ?_
    rintro e w2 ⟨⟨v, row, rfl, ho⟩, hb⟩
    exact ⟨v, rfl, ⟨row, ho.base (by omega), (fun e => by have := (ho.lt _ e).1; omega)⟩, Chg.of_below hb⟩
   ·intro ev w hc hf hg hfix hdep hchg hinv
    have e2 : ev (.tmp 2) = _ := hfix 2 (by decide)
    exact Or.inl ⟨trivial, Or.inl ⟨_, w, by go_simp, rfl, Chg.refl _ _⟩⟩
   ·intro ev w hc hf hg hfix hdep hchg hinv
    have e29 : ev (.tmp 29) = _ := hdep 3 (by decide)
    have d := (HL4.out.below (RegD.chg0 (hchg [] (by kernel_rfl)))).cell 8
    simp only [List.getElem?_cons_succ, List.getElem?_cons_zero] at d
    exact Or.inl ⟨trivial, Or.inl ⟨_, w, by go_simp, rfl, Chg.refl _ _⟩⟩
   ·intro ev w hc hf hg hfix hdep hchg hinv
    have e30 : ev (.tmp 30) = _ := hdep 4 (by decide)
    refine Or.inl ⟨trivial, Or.inr (Or.inl ⟨30, #[.slice da dl dc], w, by go_simp, ?_⟩)⟩
    have hbw : Below W.heap.size W w := HW5.out.trans ((RegD.chg0 (hchg [] (by kernel_rfl))).mono HW5.out.size)
    have hsz := (RegD.chg0 (hchg [] (by kernel_rfl))).size
    simp only [World.size_alloc] at hsz
    refine (cloneD_any da dl dc ld w (HD.out.below hbw) HDl.out (by omega)).mono ?_
    rintro e w2 ⟨⟨v, row, rfl, ho⟩, hb⟩
    exact ⟨v, rfl, ⟨row, ho.base (by omega), (fun e => by have := (ho.lt _ e).1; omega)⟩, Chg.of_below hb⟩
   ·intro ev w hc hf hg hfix hdep hchg hinv
    have e6 : ev (.tmp 6) = _ := hfix 6 (by decide)
    exact Or.inl ⟨trivial, Or.inl ⟨_, w, by go_simp, rfl, Chg.refl _ _⟩⟩
   ·intro ev w hc hf hg hfix hdep hchg hinv
    have e32 : ev (.tmp 32) = _ := hdep 6 (by decide)
    exact Or.inl ⟨trivial, Or.inl ⟨_, w, by go_simp, rfl, Chg.refl _ _⟩⟩
   ·intro ev w hc hf hg hfix hdep hchg hinv
    have e33 : ev (.tmp 33) = _ := hdep 7 (by decide)
    have e28 := hdep 2 (by decide)
    obtain ⟨row, h1, h2⟩ := e28
    obtain ⟨v7, v8, hj⟩ := hinv
    obtain ⟨a8, n8, m8, hv8⟩ := Own.slice h1
    have e28 : ev (.tmp 28) = .slice a8 n8 m8 := hv8
    rw [hv8] at h1
    have d := hj.cell 7; have y := hj.frozen 7
    simp only [List.getElem?_cons_succ, List.getElem?_cons_zero] at d
    exact Or.inl ⟨trivial, Or.inr (Or.inr ⟨w.setCell ⟨w3.heap.size, 7, none⟩ (.slice a8 n8 m8), by go_simp, ⟨_, row, v8, hj.set 7 _, h1.chg ((Chg.refl (fun k => k = w3.heap.size) w).set (Or.inr rfl) 7 _) (fun q e f => h2 (by rw [e, f])), h2⟩, ⟨_, rfl⟩⟩)⟩
   ·intro ev w hc hf hg hfix hdep hchg hinv
    have e6 : ev (.tmp 6) = _ := hfix 6 (by decide)
    exact Or.inl ⟨trivial, Or.inl ⟨_, w, by go_simp, rfl, Chg.refl _ _⟩⟩
   ·intro ev w hc hf hg hfix hdep hchg hinv
    have e34 : ev (.tmp 34) = _ := hdep 9 (by decide)
    exact Or.inl ⟨trivial, Or.inl ⟨_, w, by go_simp, rfl, Chg.refl _ _⟩⟩
   ·intro ev w hc hf hg hfix hdep hchg hinv
    have e35 : ev (.tmp 35) = _ := hdep 10 (by decide)
    have e31 := hdep 5 (by decide)
    obtain ⟨row, h1, h2⟩ := e31
    obtain ⟨v7, v8, hj⟩ := hinv
    obtain ⟨a8, n8, m8, hv8⟩ := Own.slice h1
    have e31 : ev (.tmp 31) = .slice a8 n8 m8 := hv8
    rw [hv8] at h1
    have d := hj.cell 8; have y := hj.frozen 8
    simp only [List.getElem?_cons_succ, List.getElem?_cons_zero] at d
    exact Or.inl ⟨trivial, Or.inr (Or.inr ⟨w.setCell ⟨w3.heap.size, 8, none⟩ (.slice a8 n8 m8), by go_simp, ⟨v7, _, row, hj.set 8 _, h1.chg ((Chg.refl (fun k => k = w3.heap.size) w).set (Or.inr rfl) 8 _) (fun q e f => h2 (by rw [e, f])), h2⟩, ⟨_, rfl⟩⟩)⟩
  ·intro v u7 hv hb2 hJ2
   have r8 := hv 8 (by decide) (by decide)
   have r11 := hv 11 (by decide) (by decide)
   simp only [Reg.putAll, Act.put, List.setIfInBounds_toArray, List.set_cons_zero, List.set_cons_succ]
   clear hv
   obtain ⟨vI, rI, v8, hg1, hoI, hnI⟩ := r8
   obtain ⟨v7, vD, rD, hg2, hoD, hnD⟩ := r11
   have hcs := (blk_same hg1 hg2).2
   have h8 : v8 = vD := by have := congrArg (fun l : List Value => l[8]?) hcs; simpa [gcs] using this
   subst h8
   have HGS : Hid (GS w3.heap.size u7 w3.heap.size kk n t r i s x li ld vI rI v8 rD) := Lib.hid ⟨hg1, hoI, hoD, Nat.le_refl _, hnI, hnD, own_apart hoI hoD⟩
   have hc7 : Chg (fun k => k = w3.heap.size ∨ k = w3.heap.size) _ u7 := RegD.end2 hb2
   have HB7 := Lib.hid (Chg.belowTrans HBx.out hc7 (fun k hk e => by have : k = w3.heap.size := e.elim id id; omega) HBx.out.size)
   have HE7 := Lib.hid (HE4.out.chg hc7 (fun e => by have : W.heap.size + 1 = w3.heap.size := e.elim id id; omega))
   clear hg1 hg2 hoI hoD hnI hnD hcs hc7 hb2 hJ2
   go_wp2_with fail
   refine RegD.region_list (by kernel_rfl) (fun _ => True) [6] [6] [RegD.plain (fun v w => ∃ b, v = .map (some b) ∧ w.heap[b]? = some (.map ES 5)), RegD.plain (fun v _ => v = .pointer (some ⟨W.heap.size + 1, 4, none⟩)), RegD.plain (fun v _ => v = .pointer (some ⟨W.heap.size + 1, 4, none⟩)), RegD.plain (fun v _ => v = .int .u8 (k : Int)), RegD.plain (fun v _ => v = .func (.func fm) #[] #[]), RegD.plain (fun v _ => v = .agg #[.int .u8 (r' : Int), .int .u32 (i' : Int), .int .u64 (s' : Int), .int .u64 (tm : Int), .int .u8 (k : Int), .slice pa pl pc, .int .i64 n', .string t', .slice ea el ec]), RegD.change (fun v w => v = .tuple #[] ∧ GEL w3.heap.size w w3.heap.size (Lm.applied ⟨kk, n, t, ((r, i), s), x, li, ld⟩ ⟨((r', i'), s'), tm, ⟨k, p, n', t', d⟩⟩) ∧ Below w3.heap.size w3 w) (fun k => w3.heap.size ≤ k) (Chg (fun k => w3.heap.size ≤ k))] (by kernel_rfl) (trivial) (fun (_ _ : World) _ _ => trivial) ?_ ?_ ?_ ?_ ?_ ?_
   ·exact ⟨Or.inr ⟨fun _ h => h, rfl⟩, Or.inr ⟨fun _ h => h, rfl⟩, Or.inr ⟨fun _ h => h, rfl⟩, Or.inr ⟨fun _ h => h, rfl⟩, Or.inr ⟨fun _ h => h, rfl⟩, Or.inr ⟨fun _ h => h, rfl⟩, Or.inl (by decide), trivial⟩
   ·exact ⟨⟨fun _ _ h => h, fun wx wy h => (fun (_ _ : World) _ _ => trivial) wx wy (RegD.to_below h (fun _ h => h))⟩, ⟨fun _ _ h => h, fun wx wy h => (fun (_ _ : World) _ _ => trivial) wx wy (RegD.to_below h (fun _ h => h))⟩, ⟨fun _ _ h => h, fun wx wy h => (fun (_ _ : World) _ _ => trivial) wx wy (RegD.to_below h (fun _ h => h))⟩, ⟨fun _ _ h => h, fun wx wy h => (fun (_ _ : World) _ _ => trivial) wx wy (RegD.to_below h (fun _ h => h))⟩, ⟨fun _ _ h => h, fun wx wy h => (fun (_ _ : World) _ _ => trivial) wx wy (RegD.to_below h (fun _ h => h))⟩, ⟨fun _ _ h => h, fun wx wy h => (fun (_ _ : World) _ _ => trivial) wx wy (RegD.to_below h (fun _ h => h))⟩, ⟨(fun _ _ h => h), (fun _ _ _ _ => trivial)⟩, trivial⟩
   ·refine ⟨(fun v wa wb hb h => by obtain ⟨b, h1, h2⟩ := h; exact ⟨b, h1, (hb.block b (Array.getElem?_eq_some_iff.1 h2).1).trans h2⟩), k4, k4, k4, k4, k4, (fun v wa wb hb h => by exact ⟨h.1, GE.below h.2.1 hb, h.2.2.trans (hb.mono h.2.2.size)⟩), trivial⟩
   ·refine ⟨⟨Or.inr (Or.inr (Or.inl (by kernel_rfl))), Or.inr (Or.inr (Or.inr k4)), Or.inr (Or.inr (Or.inr k4)), Or.inr (Or.inr (Or.inr k4)), Or.inr (Or.inr (Or.inr k4)), Or.inr (Or.inr (Or.inr k4)), Or.inl rfl, trivial⟩, trivial⟩
   ·refine ⟨?_, ?_, ?_, ?_, ?_, ?_, ?_, trivial⟩
    ·intro ev w hc hf hg hfix hdep hchg hinv
     refine Or.inl ⟨trivial, Or.inr (Or.inl ⟨31, #[], w, by go_simp, ?_⟩)⟩
     refine (steps_any w).mono ?_
     rintro e w9 ⟨rfl, h1, hb⟩
     exact ⟨_, rfl, ⟨_, rfl, h1⟩, Chg.of_below hb⟩
    ·intro ev w hc hf hg hfix hdep hchg hinv
     have e3 : ev (.tmp 3) = _ := hfix 3 (by decide)
     exact Or.inl ⟨trivial, Or.inl ⟨_, w, by go_simp, rfl, Chg.refl _ _⟩⟩
    ·intro ev w hc hf hg hfix hdep hchg hinv
     have e37 : ev (.tmp 37) = _ := hdep 1 (by decide)
     exact Or.inl ⟨trivial, Or.inl ⟨_, w, by go_simp, rfl, Chg.refl _ _⟩⟩
    ·intro ev w hc hf hg hfix hdep hchg hinv
     have e38 : ev (.tmp 38) = _ := hdep 2 (by decide)
     have hev := HE7.out.below (RegD.chg0 (hchg [] (by kernel_rfl)))
     have d := hev.cell 4
     simp only [List.getElem?_cons_succ, List.getElem?_cons_zero] at d
     exact Or.inl ⟨trivial, Or.inl ⟨_, w, by go_simp, rfl, Chg.refl _ _⟩⟩
    ·intro ev w hc hf hg hfix hdep hchg hinv
     have e36 := hdep 0 (by decide)
     have e39 : ev (.tmp 39) = _ := hdep 3 (by decide)
     obtain ⟨b, hv, hb⟩ := e36
     have e36 : ev (.tmp 36) = .map (some b) := hv
     have hl := HFl.out w b hb
     exact Or.inl ⟨trivial, Or.inl ⟨_, w, by go_simp, rfl, Chg.refl _ _⟩⟩
    ·intro ev w hc hf hg hfix hdep hchg hinv
     have e3 : ev (.tmp 3) = _ := hfix 3 (by decide)
     have hev := HE7.out.below (RegD.chg0 (hchg [] (by kernel_rfl)))
     obtain ⟨d0, d1, d2, d3, d4, d5, d6, d7, d8⟩ := hev.nine
     exact Or.inl ⟨trivial, Or.inl ⟨_, w, by go_simp, rfl, Chg.refl _ _⟩⟩
    ·intro ev w hc hf hg hfix hdep hchg hinv
     have e40 : ev (.tmp 40) = _ := hdep 4 (by decide)
     have e6 : ev (.tmp 6) = _ := hfix 6 (by decide)
     have e41 : ev (.tmp 41) = _ := hdep 5 (by decide)
     have hb0 : Below u7.heap.size u7 w := RegD.chg0 (hchg [] (by kernel_rfl))
     have hbw : Below w3.heap.size w3 w := HB7.out.trans (hb0.mono HB7.out.size)
     refine Or.inl ⟨trivial, Or.inr (Or.inl ⟨fm, #[.pointer (some ⟨w3.heap.size, 0, none⟩), evV r' i' s' tm k pa pl pc n' t' ea el ec], w, by (have hfe := HFe.out; unfold Enters at hfe; go_simp), ?_⟩)⟩
     refine (HFc.out w3 w w3.heap.size pa pl pc ea el ec vI rI v8 rD (GS.below HGS.out hb0) hbw (HED.out.below HW4.out) HEl.out).mono ?_
     rintro e w9 ⟨rfl, h1, h2, h3⟩
     exact ⟨_, rfl, ⟨rfl, h1, h2⟩, chg_of_bel hbw h2 h3⟩
   ·intro v w9 hv hb2 hJ2
    have r6 := hv 6 (by decide) (by decide)
    simp only [Reg.putAll, Act.put, List.setIfInBounds_toArray, List.set_cons_zero, List.set_cons_succ]
    clear hv
    obtain ⟨hv6, hge, hbe⟩ := r6
    obtain ⟨vI9, rI9, vD9, rD9, hgs⟩ := hge
    have hB9 : W.heap.size ≤ w3.heap.size := HW4.out.size
    have hI9 := hgs.items; have hD9 := hgs.tombs
    obtain ⟨p7, q7, o7, rfl⟩ := Own.slice hI9
    obtain ⟨p8, q8, o8, rfl⟩ := Own.slice hD9
    have HIt := Lib.hid hI9.lt; have HDt := Lib.hid hD9.lt
    have HI9 := Lib.hid (hI9.base hB9); have HD9 := Lib.hid (hD9.base hB9)
    have hg9 := hgs.blk
    have hr9 := HR3.out.below hbe
    have HR9 := Lib.hid hr9
    have HW9 := Lib.hid (HW4.out.trans (hbe.mono hB9))
    obtain ⟨d0, d1, d2, d3, d4, d5, d6, d7, d8⟩ := hg9.nine
    obtain ⟨z0, z1, z2, z3, z4, z5, z6, z7, z8⟩ := hr9.nine
    obtain ⟨y0, y1, y2, y3, y4, y5, y6, y7, y8⟩ := hr9.froz9
    clear hv6 hgs hI9 hD9 hg9 hr9 hbe hb2 hJ2
    go_wp2_with fail
    have hc9 := chg9 w9 (W.heap.size + 1 + 1) (.int .u8 ((Lm.applied ⟨kk, n, t, ((r, i), s), x, li, ld⟩ ⟨((r', i'), s'), tm, ⟨k, p, n', t', d⟩⟩).kind : Int)) (.int .i64 (Lm.applied ⟨kk, n, t, ((r, i), s), x, li, ld⟩ ⟨((r', i'), s'), tm, ⟨k, p, n', t', d⟩⟩).n) (.int .u64 ((Lm.applied ⟨kk, n, t, ((r, i), s), x, li, ld⟩ ⟨((r', i'), s'), tm, ⟨k, p, n', t', d⟩⟩).time : Int)) (.int .u8 ((Lm.applied ⟨kk, n, t, ((r, i), s), x, li, ld⟩ ⟨((r', i'), s'), tm, ⟨k, p, n', t', d⟩⟩).dot.1.1 : Int)) (.int .u32 ((Lm.applied ⟨kk, n, t, ((r, i), s), x, li, ld⟩ ⟨((r', i'), s'), tm, ⟨k, p, n', t', d⟩⟩).dot.1.2 : Int)) (.int .u64 ((Lm.applied ⟨kk, n, t, ((r, i), s), x, li, ld⟩ ⟨((r', i'), s'), tm, ⟨k, p, n', t', d⟩⟩).dot.2 : Int)) (.string (Lm.applied ⟨kk, n, t, ((r, i), s), x, li, ld⟩ ⟨((r', i'), s'), tm, ⟨k, p, n', t', d⟩⟩).text) (.slice p7 q7 o7) (.slice p8 q8 o8)
    have hfin := Chg.belowTrans HW9.out hc9 (fun k hk e => by have : k = W.heap.size + 1 + 1 := e; omega) HW9.out.size
    refine bodyPost_ret (v := .tuple #[.agg #[.int .u8 ((Lm.applied ⟨kk, n, t, ((r, i), s), x, li, ld⟩ ⟨((r', i'), s'), tm, ⟨k, p, n', t', d⟩⟩).kind : Int), .int .i64 (Lm.applied ⟨kk, n, t, ((r, i), s), x, li, ld⟩ ⟨((r', i'), s'), tm, ⟨k, p, n', t', d⟩⟩).n, .int .u64 ((Lm.applied ⟨kk, n, t, ((r, i), s), x, li, ld⟩ ⟨((r', i'), s'), tm, ⟨k, p, n', t', d⟩⟩).time : Int), .int .u8 ((Lm.applied ⟨kk, n, t, ((r, i), s), x, li, ld⟩ ⟨((r', i'), s'), tm, ⟨k, p, n', t', d⟩⟩).dot.1.1 : Int), .int .u32 ((Lm.applied ⟨kk, n, t, ((r, i), s), x, li, ld⟩ ⟨((r', i'), s'), tm, ⟨k, p, n', t', d⟩⟩).dot.1.2 : Int), .int .u64 ((Lm.applied ⟨kk, n, t, ((r, i), s), x, li, ld⟩ ⟨((r', i'), s'), tm, ⟨k, p, n', t', d⟩⟩).dot.2 : Int), .string (Lm.applied ⟨kk, n, t, ((r, i), s), x, li, ld⟩ ⟨((r', i'), s'), tm, ⟨k, p, n', t', d⟩⟩).text, .slice p7 q7 o7, .slice p8 q8 o8], .int .i64 0]) (res_leaf2 (b := W.heap.size + 1 + 1) Tryz.results15 (by simp) (by simp) (blk9 HR9.out _ _ _ _ _ _ _ _ _)) rfl ⟨⟨_, rI9, _, rD9, rfl, HI9.out.chg hc9 ?_, HD9.out.chg hc9 ?_⟩, hfin⟩
    ·intro k h e
     have h1 := (HIt.out k h).1; have h2 := HR3.out.lt; have h3 : k = W.heap.size + 1 + 1 := e
     omega
    ·intro k h e
     have h1 := (HDt.out k h).1; have h2 := HR3.out.lt; have h3 : k = W.heap.size + 1 + 1 := e
     omega
theorem apply_any (kk : Nat) (n : Int) (t r i s : Nat) (x : ByteArray) (ia : Option Addr) (il ic : Nat) (da : Option Addr) (dl dc : Nat) (li : List Lm.It) (ld : List Dt.Dot) (r' i' s' tm k : Nat) (pa : Option Addr) (pl pc : Nat) (n' : Int) (t' : ByteArray) (ea : Option Addr) (el ec : Nat) (p : List ByteArray) (d : List Dt.Dot) (W : World) (hi : IRow W ia ic li) (hil : li.length = il) (hd : VRow W da dc ld) (hdl : ld.length = dl) (hx : x.size ≤ 9223372036854775807) (hn : il ≤ 1000000) (hn2 : dl ≤ 1000000) (hk256 : k < 256) (hp : SRow W pa pc p) (hpl : p.length = pl) (hed : VRow W ea ec d) (hel : d.length = el) :
  Calls Tryz.prog 15 #[leafV kk n t r i s x ia il ic da dl dc, evV r' i' s' tm k pa pl pc n' t' ea el ec] W fun e w' => AE W.heap.size w' (Lm.apply ⟨kk, n, t, ((r, i), s), x, li, ld⟩ ⟨((r', i'), s'), tm, ⟨k, p, n', t', d⟩⟩).1 (Lm.apply ⟨kk, n, t, ((r, i), s), x, li, ld⟩ ⟨((r', i'), s'), tm, ⟨k, p, n', t', d⟩⟩).2 e ∧ Below W.heap.size W w' := by
 unfold Lm.apply
 cases hmay : Lm.may ⟨kk, n, t, ((r, i), s), x, li, ld⟩
 ·rw [if_pos (Or.inl rfl)]
  exact apply_a kk n t r i s x ia il ic da dl dc li ld r' i' s' tm k pa pl pc n' t' ea el ec p d W hi hil hd hdl hx hn hn2 hk256 hp hpl hed hel hmay
 cases hev : Om.mayEvent ⟨((r', i'), s'), tm, ⟨k, p, n', t', d⟩⟩
 ·rw [if_pos (Or.inr rfl)]
  exact apply_b kk n t r i s x ia il ic da dl dc li ld r' i' s' tm k pa pl pc n' t' ea el ec p d W hi hil hd hdl hx hn hn2 hk256 hp hpl hed hel hmay hev
 rw [if_neg (by simp)]
 by_cases hty : Om.type k = kk
 ·rw [if_neg (fun h => h hty)]
  exact apply_d kk n t r i s x ia il ic da dl dc li ld r' i' s' tm k pa pl pc n' t' ea el ec p d W hi hil hd hdl hx hn hn2 hk256 hp hpl hed hel hmay hev hty
 ·rw [if_pos hty]
  exact apply_c kk n t r i s x ia il ic da dl dc li ld r' i' s' tm k pa pl pc n' t' ea el ec p d W hi hil hd hdl hx hn hn2 hk256 hp hpl hed hel hmay hev hty
end Go.Proofs.YteakbfbacfhhoaaGreat
