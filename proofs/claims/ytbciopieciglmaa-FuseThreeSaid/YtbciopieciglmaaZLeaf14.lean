import Derived.Test.YtbciopieciglmaaZLeaf23
import Derived.Test.YtbciopieciglmaaZOwn
import Derived.Shelf.Spec.SlicesInsert
import Derived.Test.YtbciopieciglmaaZLeaf6
import Derived.Test.YtbciopieciglmaaZRegD
import Derived.Test.YtbciopieciglmaaZLeaf28
import Derived.Test.YtbciopieciglmaaZLeaf29
namespace Go.Proofs.Ytbciopieciglmaa
open Go.RowKit Go.Buf Go.LB Go.Lib
set_option linter.unusedSimpArgs false
set_option linter.unusedVariables false
end Go.Proofs.Ytbciopieciglmaa
namespace Go.Proofs.Ytbciopieciglmaa
open Go.RowKit Go.Buf Go.LB Go.Lib
set_option linter.unusedSimpArgs false
set_option linter.unusedVariables false
end Go.Proofs.Ytbciopieciglmaa
namespace Go.Proofs.Ytbciopieciglmaa
open Go.RowKit Go.Buf Go.LB Go.Lib
set_option linter.unusedSimpArgs false
set_option linter.unusedVariables false
end Go.Proofs.Ytbciopieciglmaa
namespace Go.Proofs.Ytbciopieciglmaa
open Go.RowKit Go.Buf Go.LB Go.Lib
set_option linter.unusedSimpArgs false
set_option linter.unusedVariables false
end Go.Proofs.Ytbciopieciglmaa
namespace Go.Proofs.Ytbciopieciglmaa
open Go.RowKit Go.Buf Go.LB Go.Lib
set_option linter.unusedSimpArgs false
set_option linter.unusedVariables false
def AE (B : Nat) (w : World) (L : Lm.L) (err : Int) (e : Ending) : Prop := ∃ vI rI vD rD, e = .returned (.tuple #[.agg #[.int .u8 (L.kind : Int), .int .i64 L.n, .int .u64 (L.time : Int), .int .u8 (L.dot.1.1 : Int), .int .u32 (L.dot.1.2 : Int), .int .u64 (L.dot.2 : Int), .string L.text, vI, vD], .int .i64 err]) ∧ OwnI B w vI L.items rI ∧ OwnD B w vD L.tombs rD
theorem blk9 {w : World} {b : Nat} {t : TypeId} {c0 c1 c2 c3 c4 c5 c6 c7 c8 : Value} (h : Blk w b t [c0, c1, c2, c3, c4, c5, c6, c7, c8]) (v0 v1 v2 v3 v4 v5 v6 v7 v8 : Value) :
  Blk (((((((((w.setCell ⟨b, 0, none⟩ v0).setCell ⟨b, 1, none⟩ v1).setCell ⟨b, 2, none⟩ v2).setCell ⟨b, 3, none⟩ v3).setCell ⟨b, 4, none⟩ v4).setCell ⟨b, 5, none⟩ v5).setCell ⟨b, 6, none⟩ v6).setCell ⟨b, 7, none⟩ v7).setCell ⟨b, 8, none⟩ v8) b t [v0, v1, v2, v3, v4, v5, v6, v7, v8] :=
 ((((((((h.set 0 v0).set 1 v1).set 2 v2).set 3 v3).set 4 v4).set 5 v5).set 6 v6).set 7 v7).set 8 v8
theorem chg9 (w : World) (b : Nat) (v0 v1 v2 v3 v4 v5 v6 v7 v8 : Value) :
  Chg (fun k => k = b) w (((((((((w.setCell ⟨b, 0, none⟩ v0).setCell ⟨b, 1, none⟩ v1).setCell ⟨b, 2, none⟩ v2).setCell ⟨b, 3, none⟩ v3).setCell ⟨b, 4, none⟩ v4).setCell ⟨b, 5, none⟩ v5).setCell ⟨b, 6, none⟩ v6).setCell ⟨b, 7, none⟩ v7).setCell ⟨b, 8, none⟩ v8) :=
 (((((((((Chg.refl (fun k => k = b) w).set (Or.inr rfl) 0 v0).set (Or.inr rfl) 1 v1).set (Or.inr rfl) 2 v2).set (Or.inr rfl) 3 v3).set (Or.inr rfl) 4 v4).set (Or.inr rfl) 5 v5).set (Or.inr rfl) 6 v6).set (Or.inr rfl) 7 v7).set (Or.inr rfl) 8 v8
end Go.Proofs.Ytbciopieciglmaa
namespace Go.Proofs.Ytbciopieciglmaa
open Go.RowKit Go.Buf Go.LB Go.Lib
set_option linter.unusedSimpArgs false
set_option linter.unusedVariables false
theorem refmay05_any (kk : Nat) (n : Int) (t r i s : Nat) (x : ByteArray) (ia : Option Addr) (il ic : Nat) (da : Option Addr) (dl dc : Nat) (li : List Lm.It) (ld : List Dt.Dot) (W : World) (hi : IRow W ia ic li) (hil : li.length = il) (hd : VRow W da dc ld) (hdl : ld.length = dl) (hx : x.size ≤ 9223372036854775807) (hn1 : il ≤ 1000000) (hn2 : dl ≤ 1000000) :
  Calls Try.prog 13 #[leafV kk n t r i s x ia il ic da dl dc] W fun e w' => e = .returned (.bool (Lm.may ⟨kk, n, t, ((r, i), s), x, li, ld⟩)) ∧ Below W.heap.size W w' := by
 rw [← Lm.refMay_eq]
 by_cases k0 : kk < 1
 ·exact refmayK0 kk n t r i s x ia il ic da dl dc li ld W hi hil hd hdl hx k0
 by_cases k5 : 4 < kk
 ·exact refmayK5 kk n t r i s x ia il ic da dl dc li ld W hi hil hd hdl hx k5
 have hs : kk = 1 ∨ kk = 2 ∨ kk = 3 ∨ kk = 4 := by omega
 clear k0 k5
 rcases hs with hk | hk | hk | hk
 ·by_cases h0 : il = 0
  case neg => exact refmayI1 kk n t r i s x ia il ic da dl dc li ld W hi hil hd hdl hx hk (by omega)
  by_cases h1 : dl = 0
  case neg => exact refmayD1 kk n t r i s x ia il ic da dl dc li ld W hi hil hd hdl hx hk h0 (by omega)
  by_cases ht : t = 0
  case neg => exact refmayT1 kk n t r i s x ia il ic da dl dc li ld W hi hil hd hdl hx hk h0 h1 ht
  by_cases zr : r = 0
  case neg => exact refmayB1_r kk n t r i s x ia il ic da dl dc li ld W hi hil hd hdl hx hk h0 h1 ht zr
  by_cases zi : i = 0
  case neg => exact refmayB1_i kk n t r i s x ia il ic da dl dc li ld W hi hil hd hdl hx hk h0 h1 ht zr zi
  by_cases zs : s = 0
  case neg => exact refmayB1_s kk n t r i s x ia il ic da dl dc li ld W hi hil hd hdl hx hk h0 h1 ht zr zi zs
  by_cases zx : x.size = 0
  case neg => exact refmayB1_x kk n t r i s x ia il ic da dl dc li ld W hi hil hd hdl hx hk h0 h1 ht zr zi zs zx
  exact refmayY1 kk n t r i s x ia il ic da dl dc li ld W hi hil hd hdl hx hn1 hn2 hk ht zr zi zs (Lm.text_zero.2 zx) h0 h1
 ·by_cases hn : n = 0
  case neg => exact refmayN2 kk n t r i s x ia il ic da dl dc li ld W hi hil hd hdl hx hk hn
  by_cases h0 : il = 0
  case neg => exact refmayI2 kk n t r i s x ia il ic da dl dc li ld W hi hil hd hdl hx hk hn (by omega)
  by_cases h1 : dl = 0
  case neg => exact refmayD2 kk n t r i s x ia il ic da dl dc li ld W hi hil hd hdl hx hk hn h0 (by omega)
  by_cases ht : t = 0
  ·by_cases zr : r = 0
   case neg => exact refmayB2_r kk n t r i s x ia il ic da dl dc li ld W hi hil hd hdl hx hk hn h0 h1 ht zr
   by_cases zi : i = 0
   case neg => exact refmayB2_i kk n t r i s x ia il ic da dl dc li ld W hi hil hd hdl hx hk hn h0 h1 ht zr zi
   by_cases zs : s = 0
   case neg => exact refmayB2_s kk n t r i s x ia il ic da dl dc li ld W hi hil hd hdl hx hk hn h0 h1 ht zr zi zs
   by_cases zx : x.size = 0
   case neg => exact refmayB2_x kk n t r i s x ia il ic da dl dc li ld W hi hil hd hdl hx hk hn h0 h1 ht zr zi zs zx
   exact refmayY2 kk n t r i s x ia il ic da dl dc li ld W hi hil hd hdl hx hn1 hn2 hk hn ht zr zi zs (Lm.text_zero.2 zx) h0 h1
  by_cases ht2 : 1099511627776 < t
  ·exact refmayT2 kk n t r i s x ia il ic da dl dc li ld W hi hil hd hdl hx hk hn h0 h1 ht ht2
  cases hm : Dt.may ((r, i), s)
  ·exact refmayM2 kk n t r i s x ia il ic da dl dc li ld W hi hil hd hdl hx hk hn h0 h1 ht (by omega) hm
  by_cases hxs : 40 < x.size
  ·exact refmayX2 kk n t r i s x ia il ic da dl dc li ld W hi hil hd hdl hx hk hn h0 h1 ht (by omega) hm hxs
  exact refmayX2y kk n t r i s x ia il ic da dl dc li ld W hi hil hd hdl hx hn1 hn2 hk hn h0 h1 ht (by omega) hm (by omega)
 ·by_cases hn : n = 0
  case neg => exact refmayN3 kk n t r i s x ia il ic da dl dc li ld W hi hil hd hdl hx hk hn
  by_cases ht : t = 0
  case neg => exact refmayT3 kk n t r i s x ia il ic da dl dc li ld W hi hil hd hdl hx hk hn ht
  by_cases zr : r = 0
  case neg => exact refmayB3_r kk n t r i s x ia il ic da dl dc li ld W hi hil hd hdl hx hk hn ht zr
  by_cases zi : i = 0
  case neg => exact refmayB3_i kk n t r i s x ia il ic da dl dc li ld W hi hil hd hdl hx hk hn ht zr zi
  by_cases zs : s = 0
  case neg => exact refmayB3_s kk n t r i s x ia il ic da dl dc li ld W hi hil hd hdl hx hk hn ht zr zi zs
  by_cases zx : x.size = 0
  case neg => exact refmayB3_x kk n t r i s x ia il ic da dl dc li ld W hi hil hd hdl hx hk hn ht zr zi zs zx
  exact refmayY3 kk n t r i s x ia il ic da dl dc li ld W hi hil hd hdl hx hn1 hn2 hk hn ht zr zi zs (Lm.text_zero.2 zx)
 ·by_cases hn : n = 0
  case neg => exact refmayN4 kk n t r i s x ia il ic da dl dc li ld W hi hil hd hdl hx hk hn
  by_cases h1 : dl = 0
  case neg => exact refmayD4 kk n t r i s x ia il ic da dl dc li ld W hi hil hd hdl hx hk hn (by omega)
  by_cases ht : t = 0
  case neg => exact refmayT4 kk n t r i s x ia il ic da dl dc li ld W hi hil hd hdl hx hk hn h1 ht
  by_cases zr : r = 0
  case neg => exact refmayB4_r kk n t r i s x ia il ic da dl dc li ld W hi hil hd hdl hx hk hn h1 ht zr
  by_cases zi : i = 0
  case neg => exact refmayB4_i kk n t r i s x ia il ic da dl dc li ld W hi hil hd hdl hx hk hn h1 ht zr zi
  by_cases zs : s = 0
  case neg => exact refmayB4_s kk n t r i s x ia il ic da dl dc li ld W hi hil hd hdl hx hk hn h1 ht zr zi zs
  by_cases zx : x.size = 0
  case neg => exact refmayB4_x kk n t r i s x ia il ic da dl dc li ld W hi hil hd hdl hx hk hn h1 ht zr zi zs zx
  exact refmayY4 kk n t r i s x ia il ic da dl dc li ld W hi hil hd hdl hx hn1 hn2 hk hn ht zr zi zs (Lm.text_zero.2 zx) h1
end Go.Proofs.Ytbciopieciglmaa
namespace Go.Proofs.Ytbciopieciglmaa
open Go.RowKit Go.Buf Go.LB Go.Lib
set_option linter.unusedSimpArgs false
set_option linter.unusedVariables false
def RE (w : World) (L : Lm.L) (err : Int) (e : Ending) : Prop := ∃ ia ic da dc, e = .returned (.tuple #[.agg #[.int .u8 (L.kind : Int), .int .i64 L.n, .int .u64 (L.time : Int), .int .u8 (L.dot.1.1 : Int), .int .u32 (L.dot.1.2 : Int), .int .u64 (L.dot.2 : Int), .string L.text, .slice ia L.items.length ic, .slice da L.tombs.length dc], .int .i64 err]) ∧ IRow w ia ic L.items ∧ VRow w da dc L.tombs
def REK (K : Nat → Prop) (w : World) (L : Lm.L) (err : Int) (e : Ending) : Prop := ∃ ia ic da dc, e = .returned (.tuple #[.agg #[.int .u8 (L.kind : Int), .int .i64 L.n, .int .u64 (L.time : Int), .int .u8 (L.dot.1.1 : Int), .int .u32 (L.dot.1.2 : Int), .int .u64 (L.dot.2 : Int), .string L.text, .slice ia L.items.length ic, .slice da L.tombs.length dc], .int .i64 err]) ∧ (∀ w2, Chg K w w2 → IRow w2 ia ic L.items) ∧ (∀ w2, Chg K w w2 → VRow w2 da dc L.tombs)
theorem keptK {K : Nat → Prop} {W w : World} {R : World → Prop} (h : ∀ w2, Chg K W w2 → R w2) (hb : Below W.heap.size W w) : ∀ w2, Chg K w w2 → R w2 := fun w2 h2 => h w2 ((Chg.of_below hb).trans h2 (fun _ _ e => e))
set_option maxRecDepth 100000 in
set_option maxHeartbeats 6400000 in
theorem refapply_a (kk : Nat) (n : Int) (t r i s : Nat) (x : ByteArray) (ia : Option Addr) (il ic : Nat) (da : Option Addr) (dl dc : Nat) (li : List Lm.It) (ld : List Dt.Dot) (r' i' s' tm k : Nat) (pa : Option Addr) (pl pc : Nat) (n' : Int) (t' : ByteArray) (ea : Option Addr) (el ec : Nat) (p : List ByteArray) (d : List Dt.Dot) (W : World) (K : Nat → Prop) (hKx : ∀ b, K b → b < W.heap.size) (hiK : ∀ w2, Chg K W w2 → IRow w2 ia ic li) (hdK : ∀ w2, Chg K W w2 → VRow w2 da dc ld) (hi : IRow W ia ic li) (hil : li.length = il) (hd : VRow W da dc ld) (hdl : ld.length = dl) (hx : x.size ≤ 9223372036854775807) (hn : il ≤ 1000000) (hn2 : dl ≤ 1000000) (hk256 : k < 256) (hp : SRow W pa pc p) (hpl : p.length = pl) (hed : VRow W ea ec d) (hel : d.length = el) (hmay : Lm.may ⟨kk, n, t, ((r, i), s), x, li, ld⟩ = false) :
  Calls Try.prog 10 #[leafV kk n t r i s x ia il ic da dl dc, evV r' i' s' tm k pa pl pc n' t' ea el ec] W fun e w' => REK K w' Lm.zeroL 2 e ∧ Below W.heap.size W w' := by
 have HKx := Lib.hid hKx; have HiK := Lib.hid hiK; have HdK := Lib.hid hdK
 clear hKx hiK hdK
 obtain ⟨hB1, hL0, hE0, hR0⟩ := boxes3 W [.int .u8 (kk : Int), .int .i64 n, .int .u64 (t : Int), .int .u8 (r : Int), .int .u32 (i : Int), .int .u64 (s : Int), .string x, .slice ia il ic, .slice da dl dc] [.int .u8 (r' : Int), .int .u32 (i' : Int), .int .u64 (s' : Int), .int .u64 (tm : Int), .int .u8 (k : Int), .slice pa pl pc, .int .i64 n', .string t', .slice ea el ec] [.int .u8 0, .int .i64 0, .int .u64 0, .int .u8 0, .int .u32 0, .int .u64 0, .string ⟨#[]⟩, .slice none 0 0, .slice none 0 0] 40 37 40
 have HB1 := Lib.hid hB1; have HL0 := Lib.hid hL0; have HE0 := Lib.hid hE0; have HR0 := Lib.hid hR0
 have HI := Lib.hid hi; have HIl := Lib.hid hil; have HD := Lib.hid hd; have HDl := Lib.hid hdl; have HP := Lib.hid hp; have HPl := Lib.hid hpl; have HED := Lib.hid hed; have HEl := Lib.hid hel
 obtain ⟨a0, a1, a2, a3, a4, a5, a6, a7, a8⟩ := hL0.nine
 clear hB1 hL0 hE0 hR0 hi hil hd hdl hp hpl hed hel
 go_enter Try.func10, Try.ntmps10
 go_wp2_with fail
 refine (refmay05_any kk n t r i s x ia il ic da dl dc li ld _ (HI.out.below HB1.out) HIl.out (HD.out.below HB1.out) HDl.out hx (by omega) (by omega)).mono ?_
 rintro e w1 ⟨rfl, hb⟩
 rw [hmay]
 have HB2 := Lib.hid hb
 have HW2 := Lib.hid (HB1.out.trans (hb.mono HB1.out.size))
 have hL1 := HL0.out.below hb; have hE1 := HE0.out.below hb; have hR1 := HR0.out.below hb
 have HL1 := Lib.hid hL1; have HE1 := Lib.hid hE1; have HR1 := Lib.hid hR1
 clear a0 a1 a2 a3 a4 a5 a6 a7 a8 hb
 obtain ⟨z0, z1, z2, z3, z4, z5, z6, z7, z8⟩ := hR1.nine
 obtain ⟨y0, y1, y2, y3, y4, y5, y6, y7, y8⟩ := hR1.froz9
 clear hL1 hE1 hR1
 go_wp2_with fail
 have hc9 := chg9 w1 (W.heap.size + 1 + 1) (.int .u8 0) (.int .i64 0) (.int .u64 0) (.int .u8 0) (.int .u32 0) (.int .u64 0) (.string ⟨#[]⟩) (.slice none 0 0) (.slice none 0 0)
 have hfin := Chg.belowTrans HW2.out hc9 (fun k hk e => by have : k = W.heap.size + 1 + 1 := e; omega) HW2.out.size
 have HFin := Lib.hid hfin
 refine bodyPost_ret (v := .tuple #[.agg #[.int .u8 0, .int .i64 0, .int .u64 0, .int .u8 0, .int .u32 0, .int .u64 0, .string ⟨#[]⟩, .slice none 0 0, .slice none 0 0], .int .i64 2]) (res_leaf2 (b := W.heap.size + 1 + 1) Try.results10 (by simp) (by simp) (blk9 HR1.out _ _ _ _ _ _ _ _ _)) rfl ⟨⟨none, 0, none, 0, rfl, fun _ _ => IRow.nil _, fun _ _ => VRow.nil _⟩, HFin.out⟩
set_option maxRecDepth 100000 in
set_option maxHeartbeats 6400000 in
theorem refapply_b (kk : Nat) (n : Int) (t r i s : Nat) (x : ByteArray) (ia : Option Addr) (il ic : Nat) (da : Option Addr) (dl dc : Nat) (li : List Lm.It) (ld : List Dt.Dot) (r' i' s' tm k : Nat) (pa : Option Addr) (pl pc : Nat) (n' : Int) (t' : ByteArray) (ea : Option Addr) (el ec : Nat) (p : List ByteArray) (d : List Dt.Dot) (W : World) (K : Nat → Prop) (hKx : ∀ b, K b → b < W.heap.size) (hiK : ∀ w2, Chg K W w2 → IRow w2 ia ic li) (hdK : ∀ w2, Chg K W w2 → VRow w2 da dc ld) (hi : IRow W ia ic li) (hil : li.length = il) (hd : VRow W da dc ld) (hdl : ld.length = dl) (hx : x.size ≤ 9223372036854775807) (hn : il ≤ 1000000) (hn2 : dl ≤ 1000000) (hk256 : k < 256) (hp : SRow W pa pc p) (hpl : p.length = pl) (hed : VRow W ea ec d) (hel : d.length = el) (hmay : Lm.may ⟨kk, n, t, ((r, i), s), x, li, ld⟩ = true) (hev : Om.mayEvent ⟨((r', i'), s'), tm, ⟨k, p, n', t', d⟩⟩ = false) :
  Calls Try.prog 10 #[leafV kk n t r i s x ia il ic da dl dc, evV r' i' s' tm k pa pl pc n' t' ea el ec] W fun e w' => REK K w' Lm.zeroL 2 e ∧ Below W.heap.size W w' := by
 have HKx := Lib.hid hKx; have HiK := Lib.hid hiK; have HdK := Lib.hid hdK
 clear hKx hiK hdK
 have HMe := Lib.hid hev
 clear hev
 obtain ⟨hB1, hL0, hE0, hR0⟩ := boxes3 W [.int .u8 (kk : Int), .int .i64 n, .int .u64 (t : Int), .int .u8 (r : Int), .int .u32 (i : Int), .int .u64 (s : Int), .string x, .slice ia il ic, .slice da dl dc] [.int .u8 (r' : Int), .int .u32 (i' : Int), .int .u64 (s' : Int), .int .u64 (tm : Int), .int .u8 (k : Int), .slice pa pl pc, .int .i64 n', .string t', .slice ea el ec] [.int .u8 0, .int .i64 0, .int .u64 0, .int .u8 0, .int .u32 0, .int .u64 0, .string ⟨#[]⟩, .slice none 0 0, .slice none 0 0] 40 37 40
 have HB1 := Lib.hid hB1; have HL0 := Lib.hid hL0; have HE0 := Lib.hid hE0; have HR0 := Lib.hid hR0
 have HI := Lib.hid hi; have HIl := Lib.hid hil; have HD := Lib.hid hd; have HDl := Lib.hid hdl; have HP := Lib.hid hp; have HPl := Lib.hid hpl; have HED := Lib.hid hed; have HEl := Lib.hid hel
 obtain ⟨a0, a1, a2, a3, a4, a5, a6, a7, a8⟩ := hL0.nine
 clear hB1 hL0 hE0 hR0 hi hil hd hdl hp hpl hed hel
 go_enter Try.func10, Try.ntmps10
 go_wp2_with fail
 refine (refmay05_any kk n t r i s x ia il ic da dl dc li ld _ (HI.out.below HB1.out) HIl.out (HD.out.below HB1.out) HDl.out hx (by omega) (by omega)).mono ?_
 rintro e w1 ⟨rfl, hb⟩
 rw [hmay]
 have HB2 := Lib.hid hb
 have HW2 := Lib.hid (HB1.out.trans (hb.mono HB1.out.size))
 have hL1 := HL0.out.below hb; have hE1 := HE0.out.below hb; have hR1 := HR0.out.below hb
 have HL1 := Lib.hid hL1; have HE1 := Lib.hid hE1; have HR1 := Lib.hid hR1
 clear a0 a1 a2 a3 a4 a5 a6 a7 a8 hb
 obtain ⟨x0, x1, x2, x3, x4, x5, x6, x7, x8⟩ := hE1.nine
 clear hL1 hE1 hR1
 go_wp2_with fail
 refine (refmayEvent_any r' i' s' tm k hk256 pa pl pc n' t' ea el ec p d _ (HP.out.below HW2.out) HPl.out (HED.out.below HW2.out) HEl.out).mono ?_
 rintro e w2 ⟨rfl, hb⟩
 rw [HMe.out]
 have HW3 := Lib.hid (HW2.out.trans (hb.mono HW2.out.size))
 have hL1 := HL1.out.below hb; have hE1 := HE1.out.below hb; have hR1 := HR1.out.below hb
 have HL2 := Lib.hid hL1; have HE2 := Lib.hid hE1; have HR2 := Lib.hid hR1
 clear x0 x1 x2 x3 x4 x5 x6 x7 x8 hb
 obtain ⟨z0, z1, z2, z3, z4, z5, z6, z7, z8⟩ := hR1.nine
 obtain ⟨y0, y1, y2, y3, y4, y5, y6, y7, y8⟩ := hR1.froz9
 clear hL1 hE1 hR1
 go_wp2_with fail
 have hc9 := chg9 w2 (W.heap.size + 1 + 1) (.int .u8 0) (.int .i64 0) (.int .u64 0) (.int .u8 0) (.int .u32 0) (.int .u64 0) (.string ⟨#[]⟩) (.slice none 0 0) (.slice none 0 0)
 have hfin := Chg.belowTrans HW3.out hc9 (fun k hk e => by have : k = W.heap.size + 1 + 1 := e; omega) HW3.out.size
 have HFin := Lib.hid hfin
 refine bodyPost_ret (v := .tuple #[.agg #[.int .u8 0, .int .i64 0, .int .u64 0, .int .u8 0, .int .u32 0, .int .u64 0, .string ⟨#[]⟩, .slice none 0 0, .slice none 0 0], .int .i64 2]) (res_leaf2 (b := W.heap.size + 1 + 1) Try.results10 (by simp) (by simp) (blk9 HR2.out _ _ _ _ _ _ _ _ _)) rfl ⟨⟨none, 0, none, 0, rfl, fun _ _ => IRow.nil _, fun _ _ => VRow.nil _⟩, HFin.out⟩
set_option maxRecDepth 100000 in
set_option maxHeartbeats 6400000 in
theorem refapply_c (kk : Nat) (n : Int) (t r i s : Nat) (x : ByteArray) (ia : Option Addr) (il ic : Nat) (da : Option Addr) (dl dc : Nat) (li : List Lm.It) (ld : List Dt.Dot) (r' i' s' tm k : Nat) (pa : Option Addr) (pl pc : Nat) (n' : Int) (t' : ByteArray) (ea : Option Addr) (el ec : Nat) (p : List ByteArray) (d : List Dt.Dot) (W : World) (K : Nat → Prop) (hKx : ∀ b, K b → b < W.heap.size) (hiK : ∀ w2, Chg K W w2 → IRow w2 ia ic li) (hdK : ∀ w2, Chg K W w2 → VRow w2 da dc ld) (hi : IRow W ia ic li) (hil : li.length = il) (hd : VRow W da dc ld) (hdl : ld.length = dl) (hx : x.size ≤ 9223372036854775807) (hn : il ≤ 1000000) (hn2 : dl ≤ 1000000) (hk256 : k < 256) (hp : SRow W pa pc p) (hpl : p.length = pl) (hed : VRow W ea ec d) (hel : d.length = el) (hmay : Lm.may ⟨kk, n, t, ((r, i), s), x, li, ld⟩ = true) (hev : Om.mayEvent ⟨((r', i'), s'), tm, ⟨k, p, n', t', d⟩⟩ = true) (hty : Om.type k ≠ kk) :
  Calls Try.prog 10 #[leafV kk n t r i s x ia il ic da dl dc, evV r' i' s' tm k pa pl pc n' t' ea el ec] W fun e w' => REK K w' Lm.zeroL 15 e ∧ Below W.heap.size W w' := by
 have HKx := Lib.hid hKx; have HiK := Lib.hid hiK; have HdK := Lib.hid hdK
 clear hKx hiK hdK
 have HMe := Lib.hid hev
 have hneq : ¬ ((Om.type k : Int) = (kk : Int)) := by omega
 clear hev
 obtain ⟨hB1, hL0, hE0, hR0⟩ := boxes3 W [.int .u8 (kk : Int), .int .i64 n, .int .u64 (t : Int), .int .u8 (r : Int), .int .u32 (i : Int), .int .u64 (s : Int), .string x, .slice ia il ic, .slice da dl dc] [.int .u8 (r' : Int), .int .u32 (i' : Int), .int .u64 (s' : Int), .int .u64 (tm : Int), .int .u8 (k : Int), .slice pa pl pc, .int .i64 n', .string t', .slice ea el ec] [.int .u8 0, .int .i64 0, .int .u64 0, .int .u8 0, .int .u32 0, .int .u64 0, .string ⟨#[]⟩, .slice none 0 0, .slice none 0 0] 40 37 40
 have HB1 := Lib.hid hB1; have HL0 := Lib.hid hL0; have HE0 := Lib.hid hE0; have HR0 := Lib.hid hR0
 have HI := Lib.hid hi; have HIl := Lib.hid hil; have HD := Lib.hid hd; have HDl := Lib.hid hdl; have HP := Lib.hid hp; have HPl := Lib.hid hpl; have HED := Lib.hid hed; have HEl := Lib.hid hel
 obtain ⟨a0, a1, a2, a3, a4, a5, a6, a7, a8⟩ := hL0.nine
 clear hB1 hL0 hE0 hR0 hi hil hd hdl hp hpl hed hel
 go_enter Try.func10, Try.ntmps10
 go_wp2_with fail
 refine (refmay05_any kk n t r i s x ia il ic da dl dc li ld _ (HI.out.below HB1.out) HIl.out (HD.out.below HB1.out) HDl.out hx (by omega) (by omega)).mono ?_
 rintro e w1 ⟨rfl, hb⟩
 rw [hmay]
 have HB2 := Lib.hid hb
 have HW2 := Lib.hid (HB1.out.trans (hb.mono HB1.out.size))
 have hL1 := HL0.out.below hb; have hE1 := HE0.out.below hb; have hR1 := HR0.out.below hb
 have HL1 := Lib.hid hL1; have HE1 := Lib.hid hE1; have HR1 := Lib.hid hR1
 clear a0 a1 a2 a3 a4 a5 a6 a7 a8 hb
 obtain ⟨x0, x1, x2, x3, x4, x5, x6, x7, x8⟩ := hE1.nine
 clear hL1 hE1 hR1
 go_wp2_with fail
 refine (refmayEvent_any r' i' s' tm k hk256 pa pl pc n' t' ea el ec p d _ (HP.out.below HW2.out) HPl.out (HED.out.below HW2.out) HEl.out).mono ?_
 rintro e w2 ⟨rfl, hb⟩
 rw [HMe.out]
 have HW3 := Lib.hid (HW2.out.trans (hb.mono HW2.out.size))
 have hL1 := HL1.out.below hb; have hE1 := HE1.out.below hb; have hR1 := HR1.out.below hb
 have HL2 := Lib.hid hL1; have HE2 := Lib.hid hE1; have HR2 := Lib.hid hR1
 clear x0 x1 x2 x3 x4 x5 x6 x7 x8 hb
 clear hL1 hE1 hR1
 go_wp2_with fail
 refine Reg.region_list (by kernel_rfl) [fun v _ => v = .pointer (some ⟨W.heap.size + 1, 4, none⟩), fun v _ => v = .pointer (some ⟨W.heap.size + 1, 4, none⟩), fun v _ => v = .int .u8 (k : Int), fun v _ => v = .int .u8 (Om.type k : Nat), fun v _ => v = .pointer (some ⟨W.heap.size, 0, none⟩), fun v _ => v = .int .u8 (kk : Int), fun v _ => v = .bool true] (by kernel_rfl) ?_ ?_ ?_
 ·refine ⟨k4, k4, k4, k4, k4, k4, k4, trivial⟩
 ·refine ⟨?_, ?_, ?_, ?_, ?_, ?_, ?_, trivial⟩
  ·intro ev w hc hf hg hfix hdep hbel
   have e3 : ev (.tmp 3) = _ := hfix 3 (by decide)
   exact okb trivial rfl (by go_simp)
  ·intro ev w hc hf hg hfix hdep hbel
   have e16 : ev (.tmp 16) = _ := hdep 0 (by decide)
   exact okb trivial rfl (by go_simp)
  ·intro ev w hc hf hg hfix hdep hbel
   have e17 : ev (.tmp 17) = _ := hdep 1 (by decide)
   have d0 := (HL2.out.below (undrew hbel)).cell 0; have d4 := (HE2.out.below (undrew hbel)).cell 4
   simp only [List.getElem?_cons_succ, List.getElem?_cons_zero] at d0 d4
   exact okb trivial rfl (by go_simp)
  ·intro ev w hc hf hg hfix hdep hbel
   have e18 : ev (.tmp 18) = _ := hdep 2 (by decide)
   refine Or.inl ⟨trivial, Or.inr ⟨15, #[.int .u8 (k : Int)], w, by go_simp, ?_⟩⟩
   refine (reftype_any k w).mono ?_
   rintro e w2 ⟨rfl, rfl⟩
   exact ⟨_, rfl, rfl, Below.refl _ _⟩
  ·intro ev w hc hf hg hfix hdep hbel
   have e2 : ev (.tmp 2) = _ := hfix 2 (by decide)
   exact okb trivial rfl (by go_simp)
  ·intro ev w hc hf hg hfix hdep hbel
   have e20 : ev (.tmp 20) = _ := hdep 4 (by decide)
   have d0 := (HL2.out.below (undrew hbel)).cell 0; have d4 := (HE2.out.below (undrew hbel)).cell 4
   simp only [List.getElem?_cons_succ, List.getElem?_cons_zero] at d0 d4
   exact okb trivial rfl (by go_simp)
  ·intro ev w hc hf hg hfix hdep hbel
   have e19 : ev (.tmp 19) = _ := hdep 3 (by decide)
   have e21 : ev (.tmp 21) = _ := hdep 5 (by decide)
   exact okb trivial rfl (by go_simp)
 ·intro v w2 hv hb2
  have r0 : v 0 = _ := hv 0 (by decide)
  have r1 : v 1 = _ := hv 1 (by decide)
  have r2 : v 2 = _ := hv 2 (by decide)
  have r3 : v 3 = _ := hv 3 (by decide)
  have r4 : v 4 = _ := hv 4 (by decide)
  have r5 : v 5 = _ := hv 5 (by decide)
  have r6 : v 6 = _ := hv 6 (by decide)
  simp only [Reg.putAll, Act.put, List.setIfInBounds_toArray, List.set_cons_zero, List.set_cons_succ, r0, r1, r2, r3, r4, r5, r6]
  clear r0 r1 r2 r3 r4 r5 r6 hv
  have HW4 := Lib.hid (HW3.out.trans (hb2.mono HW3.out.size))
  have hL1 := HL2.out.below hb2; have hE1 := HE2.out.below hb2; have hR1 := HR2.out.below hb2
  have HL3 := Lib.hid hL1; have HE3 := Lib.hid hE1; have HR3 := Lib.hid hR1
  clear hb2
  obtain ⟨z0, z1, z2, z3, z4, z5, z6, z7, z8⟩ := hR1.nine
  obtain ⟨y0, y1, y2, y3, y4, y5, y6, y7, y8⟩ := hR1.froz9
  clear hL1 hE1 hR1
  go_wp2_with fail
  have hc9 := chg9 w2 (W.heap.size + 1 + 1) (.int .u8 0) (.int .i64 0) (.int .u64 0) (.int .u8 0) (.int .u32 0) (.int .u64 0) (.string ⟨#[]⟩) (.slice none 0 0) (.slice none 0 0)
  have hfin := Chg.belowTrans HW4.out hc9 (fun k hk e => by have : k = W.heap.size + 1 + 1 := e; omega) HW4.out.size
  have HFin := Lib.hid hfin
  refine bodyPost_ret (v := .tuple #[.agg #[.int .u8 0, .int .i64 0, .int .u64 0, .int .u8 0, .int .u32 0, .int .u64 0, .string ⟨#[]⟩, .slice none 0 0, .slice none 0 0], .int .i64 15]) (res_leaf2 (b := W.heap.size + 1 + 1) Try.results10 (by simp) (by simp) (blk9 HR3.out _ _ _ _ _ _ _ _ _)) rfl ⟨⟨none, 0, none, 0, rfl, fun _ _ => IRow.nil _, fun _ _ => VRow.nil _⟩, HFin.out⟩
end Go.Proofs.Ytbciopieciglmaa
