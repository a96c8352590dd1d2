import Derived.Test.YteakbfbacfhhoaaGreatZLeaf14
import Derived.Test.YteakbfbacfhhoaaGreatZLeaf20
namespace Go.Proofs.YteakbfbacfhhoaaGreat
open Go.RowKit Go.Buf Go.LB Go.Lib
set_option linter.unusedSimpArgs false
set_option linter.unusedVariables false
theorem GS.below {B : Nat} {w w' : World} {g : Nat} {kk : Nat} {n : Int} {t r i s : Nat} {x : ByteArray} {li : List Lm.It} {ld : List Dt.Dot} {vI : Value} {rI : Option Nat} {vD : Value} {rD : Option Nat} (h : GS B w g kk n t r i s x li ld vI rI vD rD) (hb : Below w.heap.size w w') : GS B w' g kk n t r i s x li ld vI rI vD rD :=
 ⟨h.blk.below hb, h.items.below hb, h.tombs.below hb, h.base, h.gi, h.gd, h.id⟩
theorem GS.ge {B : Nat} {w : World} {g : Nat} {kk : Nat} {n : Int} {t r i s : Nat} {x : ByteArray} {li : List Lm.It} {ld : List Dt.Dot} {vI : Value} {rI : Option Nat} {vD : Value} {rD : Option Nat} (h : GS B w g kk n t r i s x li ld vI rI vD rD) : GE B w g kk n t r i s x li ld := ⟨vI, rI, vD, rD, h⟩
set_option maxRecDepth 100000 in
set_option maxHeartbeats 6400000 in
theorem put_a (W u : World) (g : Nat) (kk : Nat) (n : Int) (t r i s : Nat) (x : ByteArray) (li : List Lm.It) (ld : List Dt.Dot) (vI : Value) (rI : Option Nat) (vD : Value) (rD : Option Nat) (r' i' s' tm k : Nat) (pa : Option Addr) (pl pc : Nat) (n' : Int) (t' : ByteArray) (da : Option Addr) (dl dc : Nat) (h : GS W.heap.size u g kk n t r i s x li ld vI rI vD rD) (hW : Below W.heap.size W u) (hok : ∀ y ∈ li, okI y) (hokD : ∀ y ∈ ld, Dt.okD y) (hasc : li.Pairwise (fun x y => Lm.aheadI x y = true)) (hp : (Lm.dots li).Pairwise Dt.lt) (hpt : ld.Pairwise Dt.lt) (hn : li.length ≤ 100000000) (hn2 : ld.length ≤ 100000000) (hI : Lm.hasI li ((r', i'), s') = true) :
  Calls Tryz.prog 53 #[.pointer (some ⟨g, 0, none⟩), evV r' i' s' tm k pa pl pc n' t' da dl dc] u fun e w' => e = .returned (.tuple #[]) ∧ GE W.heap.size w' g kk n t r i s x li ld ∧ Below W.heap.size W w' ∧ u.heap.size ≤ w'.heap.size := by
 have hbase := h.base
 obtain ⟨a, cap, rfl, hrow⟩ := ownI_row h.items hok
 have hus := hW.size
 have hg0 := h.blk.lt
 have hBox := below_box u #[.int .u8 (r' : Int), .int .u32 (i' : Int), .int .u64 (s' : Int), .int .u64 (tm : Int), .int .u8 (k : Int), .slice pa pl pc, .int .i64 n', .string t', .slice da dl dc] 36
 have HBox := Lib.hid hBox
 have HE1 := Lib.hid (Blk.new u #[.int .u8 (r' : Int), .int .u32 (i' : Int), .int .u64 (s' : Int), .int .u64 (tm : Int), .int .u8 (k : Int), .slice pa pl pc, .int .i64 n', .string t', .slice da dl dc] 36)
 have HR1 := Lib.hid (hrow.below hBox)
 have HGS := Lib.hid (GS.below h hBox)
 have HW1 := Lib.hid (hW.trans (hBox.mono hus))
 have HAsc := Lib.hid hasc; have HOk := Lib.hid hok
 obtain ⟨a2, cap2, rfl, hrowd⟩ := ownD_row h.tombs hokD
 have HRD := Lib.hid (hrowd.below hBox)
 have HP := Lib.hid hp; have HPt := Lib.hid hpt; have HHI := Lib.hid hI
 have hC : ∀ w2, Below (u.alloc (.cells #[.int .u8 (r' : Int), .int .u32 (i' : Int), .int .u64 (s' : Int), .int .u64 (tm : Int), .int .u8 (k : Int), .slice pa pl pc, .int .i64 n', .string t', .slice da dl dc] 36)).drew.heap.size (u.alloc (.cells #[.int .u8 (r' : Int), .int .u32 (i' : Int), .int .u64 (s' : Int), .int .u64 (tm : Int), .int .u8 (k : Int), .slice pa pl pc, .int .i64 n', .string t', .slice da dl dc] 36)).drew w2 →
   w2.cell? ⟨g, 7, none⟩ = some (.slice a li.length cap) ∧ w2.cell? ⟨g, 8, none⟩ = some (.slice a2 ld.length cap2) ∧
   w2.cell? ⟨u.heap.size, 0, none⟩ = some (.int .u8 (r' : Int)) ∧ w2.cell? ⟨u.heap.size, 1, none⟩ = some (.int .u32 (i' : Int)) ∧ w2.cell? ⟨u.heap.size, 2, none⟩ = some (.int .u64 (s' : Int)) := fun w2 h =>
  ⟨(HGS.out.blk.below (undrew h)).cell 7, (HGS.out.blk.below (undrew h)).cell 8, (HE1.out.below (undrew h)).cell 0, (HE1.out.below (undrew h)).cell 1, (HE1.out.below (undrew h)).cell 2⟩
 have HC := Lib.hid hC
 clear hC h hok hokD hasc hp hpt hBox hrow hrowd hI
 go_enter Tryz.func53, Tryz.ntmps53
 go_wp2_with fail
 refine Reg.region_list (by kernel_rfl) [fun v _ => v = .pointer (some ⟨g, 0, none⟩), fun v _ => v = .pointer (some ⟨g, 0, none⟩), fun v _ => v = .pointer (some ⟨g, 0, none⟩), fun v _ => v = .pointer (some ⟨g, 7, none⟩), fun v _ => v = .slice a li.length cap, fun v _ => v = .pointer (some ⟨u.heap.size, 0, none⟩), fun v _ => v = .agg #[.int .u8 (r' : Int), .int .u32 (i' : Int), .int .u64 (s' : Int)], fun v _ => v = .bool true, fun v _ => v = .bool false, fun v _ => v = .bool false, fun v _ => v = undef, fun v _ => v = undef, fun v _ => v = undef, fun v _ => v = undef, fun v _ => v = undef, fun v _ => v = undef, fun v _ => v = undef, fun v _ => v = undef, fun v _ => v = undef, fun v _ => v = .bool false] (by kernel_rfl) ?_ ?_ ?_
 ·refine ⟨k4, k4, k4, k4, k4, k4, k4, k4, k4, k4, k4, k4, k4, k4, k4, k4, k4, k4, k4, k4, trivial⟩
 ·refine ⟨?_, ?_, ?_, ?_, ?_, ?_, ?_, ?_, ?_, ?_, ?_, ?_, ?_, ?_, ?_, ?_, ?_, ?_, ?_, ?_, trivial⟩
  ·intro ev w hc hf hg hfix hdep hbel
   have e0 : ev (.tmp 0) = _ := hfix 0 (by decide)
   exact okb trivial rfl (by go_simp)
  ·intro ev w hc hf hg hfix hdep hbel
   have e4 : ev (.tmp 4) = _ := hdep 0 (by decide)
   exact okb trivial rfl (by go_simp)
  ·intro ev w hc hf hg hfix hdep hbel
   have e5 : ev (.tmp 5) = _ := hdep 1 (by decide)
   exact okb trivial rfl (by go_simp)
  ·intro ev w hc hf hg hfix hdep hbel
   have e6 : ev (.tmp 6) = _ := hdep 2 (by decide)
   exact okb trivial rfl (by go_simp)
  ·intro ev w hc hf hg hfix hdep hbel
   have e7 : ev (.tmp 7) = _ := hdep 3 (by decide)
   obtain ⟨c7, c8, b0, b1, b2⟩ := HC.out w hbel
   exact okb trivial rfl (by go_simp)
  ·intro ev w hc hf hg hfix hdep hbel
   have e3 : ev (.tmp 3) = _ := hfix 3 (by decide)
   exact okb trivial rfl (by go_simp)
  ·intro ev w hc hf hg hfix hdep hbel
   have e9 : ev (.tmp 9) = _ := hdep 5 (by decide)
   obtain ⟨c7, c8, b0, b1, b2⟩ := HC.out w hbel
   exact okb trivial rfl (by go_simp)
  ·intro ev w hc hf hg hfix hdep hbel
   have e8 : ev (.tmp 8) = _ := hdep 4 (by decide)
   have e10 : ev (.tmp 10) = _ := hdep 6 (by decide)
   refine Or.inl ⟨trivial, Or.inr ⟨42, #[.slice a li.length cap, .agg #[.int .u8 (r' : Int), .int .u32 (i' : Int), .int .u64 (s' : Int)]], w, by go_simp, ?_⟩⟩
   refine (hasItem_any a li.length cap r' i' s' li w (HR1.out.below (undrew hbel)) rfl (by omega) HP.out).mono ?_
   rintro e w2 ⟨rfl, hb⟩
   exact ⟨_, rfl, by rw [HHI.out], hb⟩
  ·intro ev w hc hf hg hfix hdep hbel
   have e11 : ev (.tmp 11) = _ := hdep 7 (by decide)
   exact okb trivial rfl (by go_simp)
  ·intro ev w hc hf hg hfix hdep hbel
   have e12 : ev (.tmp 12) = _ := hdep 8 (by decide)
   exact okb trivial rfl (by go_simp)
  ·intro ev w hc hf hg hfix hdep hbel
   have fg : ev (.tmp 13) = _ := hdep 9 (by decide)
   exact Or.inr ⟨Or.inl fg, rfl⟩
  ·intro ev w hc hf hg hfix hdep hbel
   have fg : ev (.tmp 13) = _ := hdep 9 (by decide)
   exact Or.inr ⟨Or.inl fg, rfl⟩
  ·intro ev w hc hf hg hfix hdep hbel
   have fg : ev (.tmp 13) = _ := hdep 9 (by decide)
   exact Or.inr ⟨Or.inl fg, rfl⟩
  ·intro ev w hc hf hg hfix hdep hbel
   have fg : ev (.tmp 13) = _ := hdep 9 (by decide)
   exact Or.inr ⟨Or.inl fg, rfl⟩
  ·intro ev w hc hf hg hfix hdep hbel
   have fg : ev (.tmp 13) = _ := hdep 9 (by decide)
   exact Or.inr ⟨Or.inl fg, rfl⟩
  ·intro ev w hc hf hg hfix hdep hbel
   have fg : ev (.tmp 13) = _ := hdep 9 (by decide)
   exact Or.inr ⟨Or.inl fg, rfl⟩
  ·intro ev w hc hf hg hfix hdep hbel
   have fg : ev (.tmp 13) = _ := hdep 9 (by decide)
   exact Or.inr ⟨Or.inl fg, rfl⟩
  ·intro ev w hc hf hg hfix hdep hbel
   have fg : ev (.tmp 13) = _ := hdep 9 (by decide)
   exact Or.inr ⟨Or.inl fg, rfl⟩
  ·intro ev w hc hf hg hfix hdep hbel
   have fg : ev (.tmp 13) = _ := hdep 9 (by decide)
   exact Or.inr ⟨Or.inl fg, rfl⟩
  ·intro ev w hc hf hg hfix hdep hbel
   have e13 : ev (.tmp 13) = _ := hdep 9 (by decide)
   have e22 : ev (.tmp 22) = _ := hdep 18 (by decide)
   exact okb trivial rfl (by go_simp)
 ·intro v w2 hv hb2
  have r0 : v 0 = _ := hv 0 (by decide)
  have r1 : v 1 = _ := hv 1 (by decide)
  have r2 : v 2 = _ := hv 2 (by decide)
  have r3 : v 3 = _ := hv 3 (by decide)
  have r4 : v 4 = _ := hv 4 (by decide)
  have r5 : v 5 = _ := hv 5 (by decide)
  have r6 : v 6 = _ := hv 6 (by decide)
  have r7 : v 7 = _ := hv 7 (by decide)
  have r8 : v 8 = _ := hv 8 (by decide)
  have r9 : v 9 = _ := hv 9 (by decide)
  have r10 : v 10 = _ := hv 10 (by decide)
  have r11 : v 11 = _ := hv 11 (by decide)
  have r12 : v 12 = _ := hv 12 (by decide)
  have r13 : v 13 = _ := hv 13 (by decide)
  have r14 : v 14 = _ := hv 14 (by decide)
  have r15 : v 15 = _ := hv 15 (by decide)
  have r16 : v 16 = _ := hv 16 (by decide)
  have r17 : v 17 = _ := hv 17 (by decide)
  have r18 : v 18 = _ := hv 18 (by decide)
  have r19 : v 19 = _ := hv 19 (by decide)
  simp only [Reg.putAll, Act.put, List.setIfInBounds_toArray, List.set_cons_zero, List.set_cons_succ, r0, r1, r2, r3, r4, r5, r6, r7, r8, r9, r10, r11, r12, r13, r14, r15, r16, r17, r18, r19]
  clear r0 r1 r2 r3 r4 r5 r6 r7 r8 r9 r10 r11 r12 r13 r14 r15 r16 r17 r18 r19 hv
  have s0 := HBox.out.size; have s1 := hb2.size
  have HGS2 := Lib.hid (GS.below HGS.out hb2)
  have HW2 := Lib.hid (HW1.out.trans (hb2.mono HW1.out.size))
  have HE2 := Lib.hid (HE1.out.below hb2)
  clear hb2
  go_wp2_with fail
  go_end0
  exact ⟨rfl, GS.ge HGS2.out, HW2.out, by omega⟩
set_option maxRecDepth 100000 in
set_option maxHeartbeats 6400000 in
theorem put_b (W u : World) (g : Nat) (kk : Nat) (n : Int) (t r i s : Nat) (x : ByteArray) (li : List Lm.It) (ld : List Dt.Dot) (vI : Value) (rI : Option Nat) (vD : Value) (rD : Option Nat) (r' i' s' tm k : Nat) (pa : Option Addr) (pl pc : Nat) (n' : Int) (t' : ByteArray) (da : Option Addr) (dl dc : Nat) (h : GS W.heap.size u g kk n t r i s x li ld vI rI vD rD) (hW : Below W.heap.size W u) (hok : ∀ y ∈ li, okI y) (hokD : ∀ y ∈ ld, Dt.okD y) (hasc : li.Pairwise (fun x y => Lm.aheadI x y = true)) (hp : (Lm.dots li).Pairwise Dt.lt) (hpt : ld.Pairwise Dt.lt) (hn : li.length ≤ 100000000) (hn2 : ld.length ≤ 100000000) (hI : Lm.hasI li ((r', i'), s') = false) (hD : Lm.hasD ld ((r', i'), s') = true) :
  Calls Tryz.prog 53 #[.pointer (some ⟨g, 0, none⟩), evV r' i' s' tm k pa pl pc n' t' da dl dc] u fun e w' => e = .returned (.tuple #[]) ∧ GE W.heap.size w' g kk n t r i s x li ld ∧ Below W.heap.size W w' ∧ u.heap.size ≤ w'.heap.size := by
 have hbase := h.base
 obtain ⟨a, cap, rfl, hrow⟩ := ownI_row h.items hok
 have hus := hW.size
 have hg0 := h.blk.lt
 have hBox := below_box u #[.int .u8 (r' : Int), .int .u32 (i' : Int), .int .u64 (s' : Int), .int .u64 (tm : Int), .int .u8 (k : Int), .slice pa pl pc, .int .i64 n', .string t', .slice da dl dc] 36
 have HBox := Lib.hid hBox
 have HE1 := Lib.hid (Blk.new u #[.int .u8 (r' : Int), .int .u32 (i' : Int), .int .u64 (s' : Int), .int .u64 (tm : Int), .int .u8 (k : Int), .slice pa pl pc, .int .i64 n', .string t', .slice da dl dc] 36)
 have HR1 := Lib.hid (hrow.below hBox)
 have HGS := Lib.hid (GS.below h hBox)
 have HW1 := Lib.hid (hW.trans (hBox.mono hus))
 have HAsc := Lib.hid hasc; have HOk := Lib.hid hok
 obtain ⟨a2, cap2, rfl, hrowd⟩ := ownD_row h.tombs hokD
 have HRD := Lib.hid (hrowd.below hBox)
 have HP := Lib.hid hp; have HPt := Lib.hid hpt; have HHI := Lib.hid hI
 have HHD := Lib.hid hD
 have hC : ∀ w2, Below (u.alloc (.cells #[.int .u8 (r' : Int), .int .u32 (i' : Int), .int .u64 (s' : Int), .int .u64 (tm : Int), .int .u8 (k : Int), .slice pa pl pc, .int .i64 n', .string t', .slice da dl dc] 36)).drew.heap.size (u.alloc (.cells #[.int .u8 (r' : Int), .int .u32 (i' : Int), .int .u64 (s' : Int), .int .u64 (tm : Int), .int .u8 (k : Int), .slice pa pl pc, .int .i64 n', .string t', .slice da dl dc] 36)).drew w2 →
   w2.cell? ⟨g, 7, none⟩ = some (.slice a li.length cap) ∧ w2.cell? ⟨g, 8, none⟩ = some (.slice a2 ld.length cap2) ∧
   w2.cell? ⟨u.heap.size, 0, none⟩ = some (.int .u8 (r' : Int)) ∧ w2.cell? ⟨u.heap.size, 1, none⟩ = some (.int .u32 (i' : Int)) ∧ w2.cell? ⟨u.heap.size, 2, none⟩ = some (.int .u64 (s' : Int)) := fun w2 h =>
  ⟨(HGS.out.blk.below (undrew h)).cell 7, (HGS.out.blk.below (undrew h)).cell 8, (HE1.out.below (undrew h)).cell 0, (HE1.out.below (undrew h)).cell 1, (HE1.out.below (undrew h)).cell 2⟩
 have HC := Lib.hid hC
 clear hC h hok hokD hasc hp hpt hBox hrow hrowd hI hD
 go_enter Tryz.func53, Tryz.ntmps53
 go_wp2_with fail
 refine Reg.region_list (by kernel_rfl) [fun v _ => v = .pointer (some ⟨g, 0, none⟩), fun v _ => v = .pointer (some ⟨g, 0, none⟩), fun v _ => v = .pointer (some ⟨g, 0, none⟩), fun v _ => v = .pointer (some ⟨g, 7, none⟩), fun v _ => v = .slice a li.length cap, fun v _ => v = .pointer (some ⟨u.heap.size, 0, none⟩), fun v _ => v = .agg #[.int .u8 (r' : Int), .int .u32 (i' : Int), .int .u64 (s' : Int)], fun v _ => v = .bool false, fun v _ => v = .bool true, fun v _ => v = .bool true, fun v _ => v = .pointer (some ⟨g, 0, none⟩), fun v _ => v = .pointer (some ⟨g, 0, none⟩), fun v _ => v = .pointer (some ⟨g, 0, none⟩), fun v _ => v = .pointer (some ⟨g, 8, none⟩), fun v _ => v = .slice a2 ld.length cap2, fun v _ => v = .pointer (some ⟨u.heap.size, 0, none⟩), fun v _ => v = .agg #[.int .u8 (r' : Int), .int .u32 (i' : Int), .int .u64 (s' : Int)], fun v _ => v = .bool true, fun v _ => v = .bool false, fun v _ => v = .bool false] (by kernel_rfl) ?_ ?_ ?_
 ·refine ⟨k4, k4, k4, k4, k4, k4, k4, k4, k4, k4, k4, k4, k4, k4, k4, k4, k4, k4, k4, k4, trivial⟩
 ·refine ⟨?_, ?_, ?_, ?_, ?_, ?_, ?_, ?_, ?_, ?_, ?_, ?_, ?_, ?_, ?_, ?_, ?_, ?_, ?_, ?_, trivial⟩
  ·intro ev w hc hf hg hfix hdep hbel
   have e0 : ev (.tmp 0) = _ := hfix 0 (by decide)
   exact okb trivial rfl (by go_simp)
  ·intro ev w hc hf hg hfix hdep hbel
   have e4 : ev (.tmp 4) = _ := hdep 0 (by decide)
   exact okb trivial rfl (by go_simp)
  ·intro ev w hc hf hg hfix hdep hbel
   have e5 : ev (.tmp 5) = _ := hdep 1 (by decide)
   exact okb trivial rfl (by go_simp)
  ·intro ev w hc hf hg hfix hdep hbel
   have e6 : ev (.tmp 6) = _ := hdep 2 (by decide)
   exact okb trivial rfl (by go_simp)
  ·intro ev w hc hf hg hfix hdep hbel
   have e7 : ev (.tmp 7) = _ := hdep 3 (by decide)
   obtain ⟨c7, c8, b0, b1, b2⟩ := HC.out w hbel
   exact okb trivial rfl (by go_simp)
  ·intro ev w hc hf hg hfix hdep hbel
   have e3 : ev (.tmp 3) = _ := hfix 3 (by decide)
   exact okb trivial rfl (by go_simp)
  ·intro ev w hc hf hg hfix hdep hbel
   have e9 : ev (.tmp 9) = _ := hdep 5 (by decide)
   obtain ⟨c7, c8, b0, b1, b2⟩ := HC.out w hbel
   exact okb trivial rfl (by go_simp)
  ·intro ev w hc hf hg hfix hdep hbel
   have e8 : ev (.tmp 8) = _ := hdep 4 (by decide)
   have e10 : ev (.tmp 10) = _ := hdep 6 (by decide)
   refine Or.inl ⟨trivial, Or.inr ⟨42, #[.slice a li.length cap, .agg #[.int .u8 (r' : Int), .int .u32 (i' : Int), .int .u64 (s' : Int)]], w, by go_simp, ?_⟩⟩
   refine (hasItem_any a li.length cap r' i' s' li w (HR1.out.below (undrew hbel)) rfl (by omega) HP.out).mono ?_
   rintro e w2 ⟨rfl, hb⟩
   exact ⟨_, rfl, by rw [HHI.out], hb⟩
  ·intro ev w hc hf hg hfix hdep hbel
   have e11 : ev (.tmp 11) = _ := hdep 7 (by decide)
   exact okb trivial rfl (by go_simp)
  ·intro ev w hc hf hg hfix hdep hbel
   have e12 : ev (.tmp 12) = _ := hdep 8 (by decide)
   exact okb trivial rfl (by go_simp)
  ·intro ev w hc hf hg hfix hdep hbel
   have fg : ev (.tmp 13) = _ := hdep 9 (by decide)
   have e0 : ev (.tmp 0) = _ := hfix 0 (by decide)
   exact okb fg rfl (by go_simp)
  ·intro ev w hc hf hg hfix hdep hbel
   have fg : ev (.tmp 13) = _ := hdep 9 (by decide)
   have e14 : ev (.tmp 14) = _ := hdep 10 (by decide)
   exact okb fg rfl (by go_simp)
  ·intro ev w hc hf hg hfix hdep hbel
   have fg : ev (.tmp 13) = _ := hdep 9 (by decide)
   have e15 : ev (.tmp 15) = _ := hdep 11 (by decide)
   exact okb fg rfl (by go_simp)
  ·intro ev w hc hf hg hfix hdep hbel
   have fg : ev (.tmp 13) = _ := hdep 9 (by decide)
   have e16 : ev (.tmp 16) = _ := hdep 12 (by decide)
   exact okb fg rfl (by go_simp)
  ·intro ev w hc hf hg hfix hdep hbel
   have fg : ev (.tmp 13) = _ := hdep 9 (by decide)
   have e17 : ev (.tmp 17) = _ := hdep 13 (by decide)
   obtain ⟨c7, c8, b0, b1, b2⟩ := HC.out w hbel
   exact okb fg rfl (by go_simp)
  ·intro ev w hc hf hg hfix hdep hbel
   have fg : ev (.tmp 13) = _ := hdep 9 (by decide)
   have e3 : ev (.tmp 3) = _ := hfix 3 (by decide)
   exact okb fg rfl (by go_simp)
  ·intro ev w hc hf hg hfix hdep hbel
   have fg : ev (.tmp 13) = _ := hdep 9 (by decide)
   have e19 : ev (.tmp 19) = _ := hdep 15 (by decide)
   obtain ⟨c7, c8, b0, b1, b2⟩ := HC.out w hbel
   exact okb fg rfl (by go_simp)
  ·intro ev w hc hf hg hfix hdep hbel
   have fg : ev (.tmp 13) = _ := hdep 9 (by decide)
   have e18 : ev (.tmp 18) = _ := hdep 14 (by decide)
   have e20 : ev (.tmp 20) = _ := hdep 16 (by decide)
   refine Or.inl ⟨fg, Or.inr ⟨66, #[.slice a2 ld.length cap2, .agg #[.int .u8 (r' : Int), .int .u32 (i' : Int), .int .u64 (s' : Int)]], w, by go_simp, ?_⟩⟩
   refine (hasDot_any a2 ld.length cap2 r' i' s' ld w (HRD.out.below (undrew hbel)) rfl (by omega) HPt.out).mono ?_
   rintro e w2 ⟨rfl, hb⟩
   exact ⟨_, rfl, by rw [HHD.out], hb⟩
  ·intro ev w hc hf hg hfix hdep hbel
   have fg : ev (.tmp 13) = _ := hdep 9 (by decide)
   have e21 : ev (.tmp 21) = _ := hdep 17 (by decide)
   exact okb fg rfl (by go_simp)
  ·intro ev w hc hf hg hfix hdep hbel
   have e13 : ev (.tmp 13) = _ := hdep 9 (by decide)
   have e22 : ev (.tmp 22) = _ := hdep 18 (by decide)
   exact okb trivial rfl (by go_simp)
 ·intro v w2 hv hb2
  have r0 : v 0 = _ := hv 0 (by decide)
  have r1 : v 1 = _ := hv 1 (by decide)
  have r2 : v 2 = _ := hv 2 (by decide)
  have r3 : v 3 = _ := hv 3 (by decide)
  have r4 : v 4 = _ := hv 4 (by decide)
  have r5 : v 5 = _ := hv 5 (by decide)
  have r6 : v 6 = _ := hv 6 (by decide)
  have r7 : v 7 = _ := hv 7 (by decide)
  have r8 : v 8 = _ := hv 8 (by decide)
  have r9 : v 9 = _ := hv 9 (by decide)
  have r10 : v 10 = _ := hv 10 (by decide)
  have r11 : v 11 = _ := hv 11 (by decide)
  have r12 : v 12 = _ := hv 12 (by decide)
  have r13 : v 13 = _ := hv 13 (by decide)
  have r14 : v 14 = _ := hv 14 (by decide)
  have r15 : v 15 = _ := hv 15 (by decide)
  have r16 : v 16 = _ := hv 16 (by decide)
  have r17 : v 17 = _ := hv 17 (by decide)
  have r18 : v 18 = _ := hv 18 (by decide)
  have r19 : v 19 = _ := hv 19 (by decide)
  simp only [Reg.putAll, Act.put, List.setIfInBounds_toArray, List.set_cons_zero, List.set_cons_succ, r0, r1, r2, r3, r4, r5, r6, r7, r8, r9, r10, r11, r12, r13, r14, r15, r16, r17, r18, r19]
  clear r0 r1 r2 r3 r4 r5 r6 r7 r8 r9 r10 r11 r12 r13 r14 r15 r16 r17 r18 r19 hv
  have s0 := HBox.out.size; have s1 := hb2.size
  have HGS2 := Lib.hid (GS.below HGS.out hb2)
  have HW2 := Lib.hid (HW1.out.trans (hb2.mono HW1.out.size))
  have HE2 := Lib.hid (HE1.out.below hb2)
  clear hb2
  go_wp2_with fail
  go_end0
  exact ⟨rfl, GS.ge HGS2.out, HW2.out, by omega⟩
set_option maxRecDepth 100000 in
set_option maxHeartbeats 6400000 in
theorem put_c (W u : World) (g : Nat) (kk : Nat) (n : Int) (t r i s : Nat) (x : ByteArray) (li : List Lm.It) (ld : List Dt.Dot) (vI : Value) (rI : Option Nat) (vD : Value) (rD : Option Nat) (r' i' s' tm k : Nat) (pa : Option Addr) (pl pc : Nat) (n' : Int) (t' : ByteArray) (da : Option Addr) (dl dc : Nat) (h : GS W.heap.size u g kk n t r i s x li ld vI rI vD rD) (hW : Below W.heap.size W u) (hok : ∀ y ∈ li, okI y) (hokD : ∀ y ∈ ld, Dt.okD y) (hasc : li.Pairwise (fun x y => Lm.aheadI x y = true)) (hp : (Lm.dots li).Pairwise Dt.lt) (hpt : ld.Pairwise Dt.lt) (hn : li.length ≤ 100000000) (hn2 : ld.length ≤ 100000000) (hI : Lm.hasI li ((r', i'), s') = false) (hD : Lm.hasD ld ((r', i'), s') = false) :
  Calls Tryz.prog 53 #[.pointer (some ⟨g, 0, none⟩), evV r' i' s' tm k pa pl pc n' t' da dl dc] u fun e w' => e = .returned (.tuple #[]) ∧ GE W.heap.size w' g kk n t r i s x (Lm.lay li (0, ((r', i'), s'), t')) ld ∧ Below W.heap.size W w' ∧ u.heap.size ≤ w'.heap.size := by
 have hbase := h.base
 obtain ⟨a, cap, rfl, hrow⟩ := ownI_row h.items hok
 have hus := hW.size
 have hg0 := h.blk.lt
 have hBox := below_box u #[.int .u8 (r' : Int), .int .u32 (i' : Int), .int .u64 (s' : Int), .int .u64 (tm : Int), .int .u8 (k : Int), .slice pa pl pc, .int .i64 n', .string t', .slice da dl dc] 36
 have HBox := Lib.hid hBox
 have HE1 := Lib.hid (Blk.new u #[.int .u8 (r' : Int), .int .u32 (i' : Int), .int .u64 (s' : Int), .int .u64 (tm : Int), .int .u8 (k : Int), .slice pa pl pc, .int .i64 n', .string t', .slice da dl dc] 36)
 have HR1 := Lib.hid (hrow.below hBox)
 have HGS := Lib.hid (GS.below h hBox)
 have HW1 := Lib.hid (hW.trans (hBox.mono hus))
 have HAsc := Lib.hid hasc; have HOk := Lib.hid hok
 obtain ⟨a2, cap2, rfl, hrowd⟩ := ownD_row h.tombs hokD
 have HRD := Lib.hid (hrowd.below hBox)
 have HP := Lib.hid hp; have HPt := Lib.hid hpt; have HHI := Lib.hid hI
 have HHD := Lib.hid hD
 have hC : ∀ w2, Below (u.alloc (.cells #[.int .u8 (r' : Int), .int .u32 (i' : Int), .int .u64 (s' : Int), .int .u64 (tm : Int), .int .u8 (k : Int), .slice pa pl pc, .int .i64 n', .string t', .slice da dl dc] 36)).drew.heap.size (u.alloc (.cells #[.int .u8 (r' : Int), .int .u32 (i' : Int), .int .u64 (s' : Int), .int .u64 (tm : Int), .int .u8 (k : Int), .slice pa pl pc, .int .i64 n', .string t', .slice da dl dc] 36)).drew w2 →
   w2.cell? ⟨g, 7, none⟩ = some (.slice a li.length cap) ∧ w2.cell? ⟨g, 8, none⟩ = some (.slice a2 ld.length cap2) ∧
   w2.cell? ⟨u.heap.size, 0, none⟩ = some (.int .u8 (r' : Int)) ∧ w2.cell? ⟨u.heap.size, 1, none⟩ = some (.int .u32 (i' : Int)) ∧ w2.cell? ⟨u.heap.size, 2, none⟩ = some (.int .u64 (s' : Int)) := fun w2 h =>
  ⟨(HGS.out.blk.below (undrew h)).cell 7, (HGS.out.blk.below (undrew h)).cell 8, (HE1.out.below (undrew h)).cell 0, (HE1.out.below (undrew h)).cell 1, (HE1.out.below (undrew h)).cell 2⟩
 have HC := Lib.hid hC
 clear hC h hok hokD hasc hp hpt hBox hrow hrowd hI hD
 go_enter Tryz.func53, Tryz.ntmps53
 go_wp2_with fail
 refine Reg.region_list (by kernel_rfl) [fun v _ => v = .pointer (some ⟨g, 0, none⟩), fun v _ => v = .pointer (some ⟨g, 0, none⟩), fun v _ => v = .pointer (some ⟨g, 0, none⟩), fun v _ => v = .pointer (some ⟨g, 7, none⟩), fun v _ => v = .slice a li.length cap, fun v _ => v = .pointer (some ⟨u.heap.size, 0, none⟩), fun v _ => v = .agg #[.int .u8 (r' : Int), .int .u32 (i' : Int), .int .u64 (s' : Int)], fun v _ => v = .bool false, fun v _ => v = .bool true, fun v _ => v = .bool true, fun v _ => v = .pointer (some ⟨g, 0, none⟩), fun v _ => v = .pointer (some ⟨g, 0, none⟩), fun v _ => v = .pointer (some ⟨g, 0, none⟩), fun v _ => v = .pointer (some ⟨g, 8, none⟩), fun v _ => v = .slice a2 ld.length cap2, fun v _ => v = .pointer (some ⟨u.heap.size, 0, none⟩), fun v _ => v = .agg #[.int .u8 (r' : Int), .int .u32 (i' : Int), .int .u64 (s' : Int)], fun v _ => v = .bool false, fun v _ => v = .bool true, fun v _ => v = .bool true] (by kernel_rfl) ?_ ?_ ?_
 ·refine ⟨k4, k4, k4, k4, k4, k4, k4, k4, k4, k4, k4, k4, k4, k4, k4, k4, k4, k4, k4, k4, trivial⟩
 ·refine ⟨?_, ?_, ?_, ?_, ?_, ?_, ?_, ?_, ?_, ?_, ?_, ?_, ?_, ?_, ?_, ?_, ?_, ?_, ?_, ?_, trivial⟩
  ·intro ev w hc hf hg hfix hdep hbel
   have e0 : ev (.tmp 0) = _ := hfix 0 (by decide)
   exact okb trivial rfl (by go_simp)
  ·intro ev w hc hf hg hfix hdep hbel
   have e4 : ev (.tmp 4) = _ := hdep 0 (by decide)
   exact okb trivial rfl (by go_simp)
  ·intro ev w hc hf hg hfix hdep hbel
   have e5 : ev (.tmp 5) = _ := hdep 1 (by decide)
   exact okb trivial rfl (by go_simp)
  ·intro ev w hc hf hg hfix hdep hbel
   have e6 : ev (.tmp 6) = _ := hdep 2 (by decide)
   exact okb trivial rfl (by go_simp)
  ·intro ev w hc hf hg hfix hdep hbel
   have e7 : ev (.tmp 7) = _ := hdep 3 (by decide)
   obtain ⟨c7, c8, b0, b1, b2⟩ := HC.out w hbel
   exact okb trivial rfl (by go_simp)
  ·intro ev w hc hf hg hfix hdep hbel
   have e3 : ev (.tmp 3) = _ := hfix 3 (by decide)
   exact okb trivial rfl (by go_simp)
  ·intro ev w hc hf hg hfix hdep hbel
   have e9 : ev (.tmp 9) = _ := hdep 5 (by decide)
   obtain ⟨c7, c8, b0, b1, b2⟩ := HC.out w hbel
   exact okb trivial rfl (by go_simp)
  ·intro ev w hc hf hg hfix hdep hbel
   have e8 : ev (.tmp 8) = _ := hdep 4 (by decide)
   have e10 : ev (.tmp 10) = _ := hdep 6 (by decide)
   refine Or.inl ⟨trivial, Or.inr ⟨42, #[.slice a li.length cap, .agg #[.int .u8 (r' : Int), .int .u32 (i' : Int), .int .u64 (s' : Int)]], w, by go_simp, ?_⟩⟩
   refine (hasItem_any a li.length cap r' i' s' li w (HR1.out.below (undrew hbel)) rfl (by omega) HP.out).mono ?_
   rintro e w2 ⟨rfl, hb⟩
   exact ⟨_, rfl, by rw [HHI.out], hb⟩
  ·intro ev w hc hf hg hfix hdep hbel
   have e11 : ev (.tmp 11) = _ := hdep 7 (by decide)
   exact okb trivial rfl (by go_simp)
  ·intro ev w hc hf hg hfix hdep hbel
   have e12 : ev (.tmp 12) = _ := hdep 8 (by decide)
   exact okb trivial rfl (by go_simp)
  ·intro ev w hc hf hg hfix hdep hbel
   have fg : ev (.tmp 13) = _ := hdep 9 (by decide)
   have e0 : ev (.tmp 0) = _ := hfix 0 (by decide)
   exact okb fg rfl (by go_simp)
  ·intro ev w hc hf hg hfix hdep hbel
   have fg : ev (.tmp 13) = _ := hdep 9 (by decide)
   have e14 : ev (.tmp 14) = _ := hdep 10 (by decide)
   exact okb fg rfl (by go_simp)
  ·intro ev w hc hf hg hfix hdep hbel
   have fg : ev (.tmp 13) = _ := hdep 9 (by decide)
   have e15 : ev (.tmp 15) = _ := hdep 11 (by decide)
   exact okb fg rfl (by go_simp)
  ·intro ev w hc hf hg hfix hdep hbel
   have fg : ev (.tmp 13) = _ := hdep 9 (by decide)
   have e16 : ev (.tmp 16) = _ := hdep 12 (by decide)
   exact okb fg rfl (by go_simp)
  ·intro ev w hc hf hg hfix hdep hbel
   have fg : ev (.tmp 13) = _ := hdep 9 (by decide)
   have e17 : ev (.tmp 17) = _ := hdep 13 (by decide)
   obtain ⟨c7, c8, b0, b1, b2⟩ := HC.out w hbel
   exact okb fg rfl (by go_simp)
  ·intro ev w hc hf hg hfix hdep hbel
   have fg : ev (.tmp 13) = _ := hdep 9 (by decide)
   have e3 : ev (.tmp 3) = _ := hfix 3 (by decide)
   exact okb fg rfl (by go_simp)
  ·intro ev w hc hf hg hfix hdep hbel
   have fg : ev (.tmp 13) = _ := hdep 9 (by decide)
   have e19 : ev (.tmp 19) = _ := hdep 15 (by decide)
   obtain ⟨c7, c8, b0, b1, b2⟩ := HC.out w hbel
   exact okb fg rfl (by go_simp)
  ·intro ev w hc hf hg hfix hdep hbel
   have fg : ev (.tmp 13) = _ := hdep 9 (by decide)
   have e18 : ev (.tmp 18) = _ := hdep 14 (by decide)
   have e20 : ev (.tmp 20) = _ := hdep 16 (by decide)
   refine Or.inl ⟨fg, Or.inr ⟨66, #[.slice a2 ld.length cap2, .agg #[.int .u8 (r' : Int), .int .u32 (i' : Int), .int .u64 (s' : Int)]], w, by go_simp, ?_⟩⟩
   refine (hasDot_any a2 ld.length cap2 r' i' s' ld w (HRD.out.below (undrew hbel)) rfl (by omega) HPt.out).mono ?_
   rintro e w2 ⟨rfl, hb⟩
   exact ⟨_, rfl, by rw [HHD.out], hb⟩
  ·intro ev w hc hf hg hfix hdep hbel
   have fg : ev (.tmp 13) = _ := hdep 9 (by decide)
   have e21 : ev (.tmp 21) = _ := hdep 17 (by decide)
   exact okb fg rfl (by go_simp)
  ·intro ev w hc hf hg hfix hdep hbel
   have e13 : ev (.tmp 13) = _ := hdep 9 (by decide)
   have e22 : ev (.tmp 22) = _ := hdep 18 (by decide)
   exact okb trivial rfl (by go_simp)
 ·intro v w2 hv hb2
  have r0 : v 0 = _ := hv 0 (by decide)
  have r1 : v 1 = _ := hv 1 (by decide)
  have r2 : v 2 = _ := hv 2 (by decide)
  have r3 : v 3 = _ := hv 3 (by decide)
  have r4 : v 4 = _ := hv 4 (by decide)
  have r5 : v 5 = _ := hv 5 (by decide)
  have r6 : v 6 = _ := hv 6 (by decide)
  have r7 : v 7 = _ := hv 7 (by decide)
  have r8 : v 8 = _ := hv 8 (by decide)
  have r9 : v 9 = _ := hv 9 (by decide)
  have r10 : v 10 = _ := hv 10 (by decide)
  have r11 : v 11 = _ := hv 11 (by decide)
  have r12 : v 12 = _ := hv 12 (by decide)
  have r13 : v 13 = _ := hv 13 (by decide)
  have r14 : v 14 = _ := hv 14 (by decide)
  have r15 : v 15 = _ := hv 15 (by decide)
  have r16 : v 16 = _ := hv 16 (by decide)
  have r17 : v 17 = _ := hv 17 (by decide)
  have r18 : v 18 = _ := hv 18 (by decide)
  have r19 : v 19 = _ := hv 19 (by decide)
  simp only [Reg.putAll, Act.put, List.setIfInBounds_toArray, List.set_cons_zero, List.set_cons_succ, r0, r1, r2, r3, r4, r5, r6, r7, r8, r9, r10, r11, r12, r13, r14, r15, r16, r17, r18, r19]
  clear r0 r1 r2 r3 r4 r5 r6 r7 r8 r9 r10 r11 r12 r13 r14 r15 r16 r17 r18 r19 hv
  have s0 := HBox.out.size; have s1 := hb2.size
  have HGS2 := Lib.hid (GS.below HGS.out hb2)
  have HW2 := Lib.hid (HW1.out.trans (hb2.mono HW1.out.size))
  have HE2 := Lib.hid (HE1.out.below hb2)
  clear hb2
  have e0 := HE2.out.cell 0; have e1 := HE2.out.cell 1; have e2 := HE2.out.cell 2; have e7 := HE2.out.cell 7
  simp only [List.getElem?_cons_succ, List.getElem?_cons_zero] at e0 e1 e2 e7
  go_wp2_with fail
  refine (insert_any W _ g kk n t r i s x li ld _ rI _ rD (0, ((r', i'), s'), t') HGS2.out HW2.out HOk.out HHI.out HAsc.out hn).mono ?_
  rintro e w3 ⟨rfl, hge, hb, s2⟩
  have HGE := Lib.hid hge; have HB := Lib.hid hb; clear hge hb
  go_wp2_with fail
  go_end0
  exact ⟨rfl, HGE.out, HB.out, by omega⟩
set_option maxRecDepth 100000 in
set_option maxHeartbeats 2000000 in
theorem say1_any (y : Lm.It) (c r' i' s' : Nat) (w : World) (c0 : w.cell? ⟨c, 0, none⟩ = some (.int .u8 (r' : Int))) (c1 : w.cell? ⟨c, 1, none⟩ = some (.int .u32 (i' : Int))) (c2 : w.cell? ⟨c, 2, none⟩ = some (.int .u64 (s' : Int))) :
  Calls Tryz.prog 73 #[itVd y, .pointer (some ⟨c, 0, none⟩)] w fun e w' => e = .returned (.bool (decide (y.2.1 = ((r', i'), s')))) ∧ Below w.heap.size w w' := by
 obtain ⟨t, ⟨⟨r, i⟩, s⟩, x⟩ := y
 have HBox := Lib.hid (below_box w #[.int .u64 (t : Int), .int .u8 (r : Int), .int .u32 (i : Int), .int .u64 (s : Int), .string x] 47)
 have d0 := (HBox.out.cell (p := ⟨c, 0, none⟩) (World.block_lt_of_cell? _ _ c0)).trans c0
 have d1 := (HBox.out.cell (p := ⟨c, 1, none⟩) (World.block_lt_of_cell? _ _ c1)).trans c1
 have d2 := (HBox.out.cell (p := ⟨c, 2, none⟩) (World.block_lt_of_cell? _ _ c2)).trans c2
 clear c0 c1 c2
 by_cases he : ((r, i), s) = ((r', i'), s')
 ·simp only [Prod.mk.injEq] at he
  obtain ⟨⟨rfl, rfl⟩, rfl⟩ := he
  go_enter Tryz.func73, Tryz.ntmps73
  go_wp2_with fail
  go_ret
  exact ⟨ret_bool (by simp), HBox.out⟩
 ·have hne := dot_neO he
  have HE := Lib.hid he
  clear he
  rcases hne with h1 | ⟨rfl, h1⟩ | ⟨rfl, rfl, h1⟩
  ·have d3 : ((r : Int) == (r' : Int)) = false := by simp; (try simp only at h1); omega
   have H1 := Lib.hid h1
   clear h1
   go_enter Tryz.func73, Tryz.ntmps73
   go_wp2_with fail
   go_ret
   exact ⟨ret_bool (by first | exact (decide_eq_false HE.out).symm | (have := H1.out; (try simp only at this); simp [this])), HBox.out⟩
  ·have d3 : ((i : Int) == (i' : Int)) = false := by simp; (try simp only at h1); omega
   have H1 := Lib.hid h1
   clear h1
   go_enter Tryz.func73, Tryz.ntmps73
   go_wp2_with fail
   go_ret
   exact ⟨ret_bool (by first | exact (decide_eq_false HE.out).symm | (have := H1.out; (try simp only at this); simp [this])), HBox.out⟩
  ·have d3 : ((s : Int) == (s' : Int)) = false := by simp; (try simp only at h1); omega
   have H1 := Lib.hid h1
   clear h1
   go_enter Tryz.func73, Tryz.ntmps73
   go_wp2_with fail
   go_ret
   exact ⟨ret_bool (by first | exact (decide_eq_false HE.out).symm | (have := H1.out; (try simp only at this); simp [this])), HBox.out⟩
set_option maxRecDepth 100000 in
set_option maxHeartbeats 6400000 in
theorem say_a (W u : World) (g : Nat) (kk : Nat) (n : Int) (t r i s : Nat) (x : ByteArray) (li : List Lm.It) (ld : List Dt.Dot) (vI : Value) (rI : Option Nat) (vD : Value) (rD : Option Nat) (r' i' s' tm k : Nat) (pa : Option Addr) (pl pc : Nat) (n' : Int) (t' : ByteArray) (da : Option Addr) (dl dc : Nat) (h : GS W.heap.size u g kk n t r i s x li ld vI rI vD rD) (hW : Below W.heap.size W u) (hok : ∀ y ∈ li, okI y) (hasc : li.Pairwise (fun x y => Lm.aheadI x y = true)) (hn : li.length ≤ 100000000) (hI : Lm.hasI li ((r', i'), s') = true) :
  Calls Tryz.prog 55 #[.pointer (some ⟨g, 0, none⟩), evV r' i' s' tm k pa pl pc n' t' da dl dc] u fun e w' => e = .returned (.tuple #[]) ∧ GE W.heap.size w' g kk n t r i s x li ld ∧ Below W.heap.size W w' ∧ u.heap.size ≤ w'.heap.size := by
 have hbase := h.base
 obtain ⟨a, cap, rfl, hrow⟩ := ownI_row h.items hok
 have hus := hW.size
 have hg0 := h.blk.lt
 have hBox := below_box u #[.int .u8 (r' : Int), .int .u32 (i' : Int), .int .u64 (s' : Int), .int .u64 (tm : Int), .int .u8 (k : Int), .slice pa pl pc, .int .i64 n', .string t', .slice da dl dc] 36
 have HBox := Lib.hid hBox
 have HE1 := Lib.hid (Blk.new u #[.int .u8 (r' : Int), .int .u32 (i' : Int), .int .u64 (s' : Int), .int .u64 (tm : Int), .int .u8 (k : Int), .slice pa pl pc, .int .i64 n', .string t', .slice da dl dc] 36)
 have HR1 := Lib.hid (hrow.below hBox)
 have HGS := Lib.hid (GS.below h hBox)
 have HW1 := Lib.hid (hW.trans (hBox.mono hus))
 have HAsc := Lib.hid hasc; have HOk := Lib.hid hok
 have HHI := Lib.hid hI
 have c7 := HGS.out.blk.cell 7
 simp only [List.getElem?_cons_succ, List.getElem?_cons_zero] at c7
 clear h hok hasc hBox hrow hI
 go_enter Tryz.func55, Tryz.ntmps55
 go_wp2_with fail
 refine (containsI_any a li.length cap 73 #[.pointer (some ⟨u.heap.size, 0, none⟩)] (fun y => decide (y.2.1 = ((r', i'), s'))) li _ HR1.out rfl enters_say (fun j d w hd hb => ?_)).mono ?_
 ·have hev := HE1.out.below hb
  exact say1_any d u.heap.size r' i' s' w (hev.cell 0) (hev.cell 1) (hev.cell 2)
 rintro e w1 ⟨rfl, hb⟩
 have hany : li.any (fun y => decide (y.2.1 = ((r', i'), s'))) = true := HHI.out
 rw [hany]
 have s0 := HBox.out.size; have s1 := hb.size
 have HGS2 := Lib.hid (GS.below HGS.out hb)
 have HW2 := Lib.hid (HW1.out.trans (hb.mono HW1.out.size))
 have HE2 := Lib.hid (HE1.out.below hb)
 clear hb c7 hany
 go_wp2_with fail
 go_end0
 exact ⟨rfl, GS.ge HGS2.out, HW2.out, by omega⟩
set_option maxRecDepth 100000 in
set_option maxHeartbeats 6400000 in
theorem say_b (W u : World) (g : Nat) (kk : Nat) (n : Int) (t r i s : Nat) (x : ByteArray) (li : List Lm.It) (ld : List Dt.Dot) (vI : Value) (rI : Option Nat) (vD : Value) (rD : Option Nat) (r' i' s' tm k : Nat) (pa : Option Addr) (pl pc : Nat) (n' : Int) (t' : ByteArray) (da : Option Addr) (dl dc : Nat) (h : GS W.heap.size u g kk n t r i s x li ld vI rI vD rD) (hW : Below W.heap.size W u) (hok : ∀ y ∈ li, okI y) (hasc : li.Pairwise (fun x y => Lm.aheadI x y = true)) (hn : li.length ≤ 100000000) (hI : Lm.hasI li ((r', i'), s') = false) :
  Calls Tryz.prog 55 #[.pointer (some ⟨g, 0, none⟩), evV r' i' s' tm k pa pl pc n' t' da dl dc] u fun e w' => e = .returned (.tuple #[]) ∧ GE W.heap.size w' g kk n t r i s x (Lm.lay li (tm, ((r', i'), s'), t')) ld ∧ Below W.heap.size W w' ∧ u.heap.size ≤ w'.heap.size := by
 have hbase := h.base
 obtain ⟨a, cap, rfl, hrow⟩ := ownI_row h.items hok
 have hus := hW.size
 have hg0 := h.blk.lt
 have hBox := below_box u #[.int .u8 (r' : Int), .int .u32 (i' : Int), .int .u64 (s' : Int), .int .u64 (tm : Int), .int .u8 (k : Int), .slice pa pl pc, .int .i64 n', .string t', .slice da dl dc] 36
 have HBox := Lib.hid hBox
 have HE1 := Lib.hid (Blk.new u #[.int .u8 (r' : Int), .int .u32 (i' : Int), .int .u64 (s' : Int), .int .u64 (tm : Int), .int .u8 (k : Int), .slice pa pl pc, .int .i64 n', .string t', .slice da dl dc] 36)
 have HR1 := Lib.hid (hrow.below hBox)
 have HGS := Lib.hid (GS.below h hBox)
 have HW1 := Lib.hid (hW.trans (hBox.mono hus))
 have HAsc := Lib.hid hasc; have HOk := Lib.hid hok
 have HHI := Lib.hid hI
 have c7 := HGS.out.blk.cell 7
 simp only [List.getElem?_cons_succ, List.getElem?_cons_zero] at c7
 clear h hok hasc hBox hrow hI
 go_enter Tryz.func55, Tryz.ntmps55
 go_wp2_with fail
 refine (containsI_any a li.length cap 73 #[.pointer (some ⟨u.heap.size, 0, none⟩)] (fun y => decide (y.2.1 = ((r', i'), s'))) li _ HR1.out rfl enters_say (fun j d w hd hb => ?_)).mono ?_
 ·have hev := HE1.out.below hb
  exact say1_any d u.heap.size r' i' s' w (hev.cell 0) (hev.cell 1) (hev.cell 2)
 rintro e w1 ⟨rfl, hb⟩
 have hany : li.any (fun y => decide (y.2.1 = ((r', i'), s'))) = false := HHI.out
 rw [hany]
 have s0 := HBox.out.size; have s1 := hb.size
 have HGS2 := Lib.hid (GS.below HGS.out hb)
 have HW2 := Lib.hid (HW1.out.trans (hb.mono HW1.out.size))
 have HE2 := Lib.hid (HE1.out.below hb)
 clear hb c7 hany
 have e0 := HE2.out.cell 0; have e1 := HE2.out.cell 1; have e2 := HE2.out.cell 2; have e3 := HE2.out.cell 3; have e7 := HE2.out.cell 7
 simp only [List.getElem?_cons_succ, List.getElem?_cons_zero] at e0 e1 e2 e3 e7
 go_wp2_with fail
 refine (insert_any W _ g kk n t r i s x li ld _ rI _ rD (tm, ((r', i'), s'), t') HGS2.out HW2.out HOk.out HHI.out HAsc.out hn).mono ?_
 rintro e w3 ⟨rfl, hge, hb, s2⟩
 have HGE := Lib.hid hge; have HB := Lib.hid hb; clear hge hb
 go_wp2_with fail
 go_end0
 exact ⟨rfl, HGE.out, HB.out, by omega⟩
end Go.Proofs.YteakbfbacfhhoaaGreat
namespace Go.Proofs.YteakbfbacfhhoaaGreat
open Go.RowKit Go.Buf Go.LB Go.Lib
set_option linter.unusedSimpArgs false
set_option linter.unusedVariables false
def GEL (B : Nat) (w : World) (g : Nat) (L : Lm.L) : Prop := GE B w g L.kind L.n L.time L.dot.1.1 L.dot.1.2 L.dot.2 L.text L.items L.tombs
theorem drops_lt {d : List Dt.Dot} (h : Om.mayDrops d = true) : d.Pairwise Dt.lt ∧ d.length ≤ 64 := by
 unfold Om.mayDrops at h
 rw [Bool.and_eq_true, decide_eq_true_eq] at h
 exact ⟨(Lm.mayTombs_iff.1 h.2).2, h.1⟩
theorem leafstep_any (kk : Nat) (n : Int) (t r i s : Nat) (x : ByteArray) (li : List Lm.It) (ld : List Dt.Dot) (r' i' s' tm k : Nat) (p : List ByteArray) (n' : Int) (t' : ByteArray) (d : List Dt.Dot)
  (hmay : Lm.may ⟨kk, n, t, ((r, i), s), x, li, ld⟩ = true) (hev : Om.mayEvent ⟨((r', i'), s'), tm, ⟨k, p, n', t', d⟩⟩ = true) (hty : Om.type k = kk) (hok : ∀ y ∈ li, okI y) (hokD : ∀ y ∈ ld, Dt.okD y) (hn : li.length ≤ 100000000) (hn2 : ld.length ≤ 100000000) :
  ∃ f, Enters f ∧ (∀ (w : World) (b : Nat), w.heap[b]? = some (.map ES 5) → (Instr.lookup 63 (.map (some b)) (.int .u8 (k : Int)) false).run Tryz.prog w = .ok (.func (.func f) #[] #[]) w) ∧
  ∀ (W u : World) (g : Nat) (pa : Option Addr) (pl pc : Nat) (da : Option Addr) (dl dc : Nat) (vI : Value) (rI : Option Nat) (vD : Value) (rD : Option Nat), GS W.heap.size u g kk n t r i s x li ld vI rI vD rD → Below W.heap.size W u → VRow W da dc d → d.length = dl →
  Calls Tryz.prog f #[.pointer (some ⟨g, 0, none⟩), evV r' i' s' tm k pa pl pc n' t' da dl dc] u fun e w' => e = .returned (.tuple #[]) ∧ GEL W.heap.size w' g (Lm.applied ⟨kk, n, t, ((r, i), s), x, li, ld⟩ ⟨((r', i'), s'), tm, ⟨k, p, n', t', d⟩⟩) ∧ Below W.heap.size W w' ∧ u.heap.size ≤ w'.heap.size := by
 have hk : k = 1 ∨ k = 2 ∨ k = 3 ∨ k = 4 ∨ k = 5 := by
  have h0 : kk ≠ 0 := fun e => by rw [Lm.may0 (by simp [e])] at hmay; cases hmay
  unfold Om.type at hty
  split at hty <;> (try omega)
  split at hty <;> (try omega)
  split at hty <;> (try omega)
  split at hty <;> (try omega)
  split at hty <;> omega
 rcases hk with rfl | rfl | rfl | rfl | rfl
 ·refine ⟨51, enters_of Tryz.func51 (by kernel_rfl) (by kernel_rfl), fun w b h => (steps_look h).1, ?_⟩
  intro W u g pa pl pc da dl dc vI rI vD rD h hW hd hdl
  refine (add_any W u g kk n t r i s x li ld vI rI vD rD r' i' s' tm 1 pa pl pc n' t' da dl dc h hW).mono ?_
  rintro e w' ⟨h1, h2, h3, h4⟩
  exact ⟨h1, h2, h3, h4⟩
 ·refine ⟨52, enters_of Tryz.func52 (by kernel_rfl) (by kernel_rfl), fun w b h => (steps_look h).2.1, ?_⟩
  intro W u g pa pl pc da dl dc vI rI vD rD h hW hd hdl
  refine (set_any W u g kk n t r i s x li ld vI rI vD rD r' i' s' tm 2 pa pl pc n' t' da dl dc h hW).mono ?_
  rintro e w' ⟨h1, ⟨h2, h2'⟩, h3, h4⟩
  refine ⟨h1, ?_, h3, h4⟩
  cases ha : Lm.ahead t ((r, i), s) tm ((r', i'), s')
  ·simp [Lm.applied, ha]; exact h2' ha
  ·simp [Lm.applied, ha]; exact h2 ha
 ·have hkk : kk = 3 := hty.symm
  obtain ⟨_, _, _, _, ⟨hmi, hasc⟩, hmt, _⟩ := (Lm.may3 (l := ⟨kk, n, t, ((r, i), s), x, li, ld⟩) hkk).1 hmay
  have hdots := Lm.dots_of_asc hasc (fun x hx => by have := Lm.mayI_iff.1 (hmi x hx); omega)
  have hpt := (Lm.mayTombs_iff.1 hmt).2
  refine ⟨53, enters_of Tryz.func53 (by kernel_rfl) (by kernel_rfl), fun w b h => (steps_look h).2.2.1, ?_⟩
  intro W u g pa pl pc da dl dc vI rI vD rD h hW hd hdl
  cases hI : Lm.hasI li ((r', i'), s')
  ·cases hD : Lm.hasD ld ((r', i'), s')
   ·refine (put_c W u g kk n t r i s x li ld vI rI vD rD r' i' s' tm 3 pa pl pc n' t' da dl dc h hW hok hokD hasc hdots hpt hn hn2 hI hD).mono ?_
    rintro e w' ⟨h1, h2, h3, h4⟩
    refine ⟨h1, ?_, h3, h4⟩
    simp [Lm.applied, hI, hD]; exact h2
   ·refine (put_b W u g kk n t r i s x li ld vI rI vD rD r' i' s' tm 3 pa pl pc n' t' da dl dc h hW hok hokD hasc hdots hpt hn hn2 hI hD).mono ?_
    rintro e w' ⟨h1, h2, h3, h4⟩
    refine ⟨h1, ?_, h3, h4⟩
    simp [Lm.applied, hI, hD]; exact h2
  ·refine (put_a W u g kk n t r i s x li ld vI rI vD rD r' i' s' tm 3 pa pl pc n' t' da dl dc h hW hok hokD hasc hdots hpt hn hn2 hI).mono ?_
   rintro e w' ⟨h1, h2, h3, h4⟩
   refine ⟨h1, ?_, h3, h4⟩
   simp [Lm.applied, hI]; exact h2
 ·have hkk : kk = 3 := hty.symm
  obtain ⟨_, _, _, _, _, hmt, _⟩ := (Lm.may3 (l := ⟨kk, n, t, ((r, i), s), x, li, ld⟩) hkk).1 hmay
  have hpt := (Lm.mayTombs_iff.1 hmt).2
  have hdr : Om.mayDrops d = true := by
   unfold Om.mayEvent Om.may Om.asked Om.mayDrop at hev
   simp at hev
   exact hev.2.2.2
  have hpd := drops_lt hdr
  refine ⟨54, enters_of Tryz.func54 (by kernel_rfl) (by kernel_rfl), fun w b h => (steps_look h).2.2.2.1, ?_⟩
  intro W u g pa pl pc da dl dc vI rI vD rD h hW hd hdl
  refine (drop_any W u g kk n t r i s x li ld vI rI vD rD r' i' s' tm 4 pa pl pc n' t' da dl dc d h hW hd hdl hok hpt hpd.1 hn2 (by omega)).mono ?_
  rintro e w' ⟨h1, h2, h3, h4⟩
  exact ⟨h1, h2, h3, h4⟩
 ·have hkk : kk = 4 := hty.symm
  obtain ⟨_, _, _, _, _, ⟨hmi, hasc⟩, _⟩ := (Lm.may4 (l := ⟨kk, n, t, ((r, i), s), x, li, ld⟩) hkk).1 hmay
  refine ⟨55, enters_of Tryz.func55 (by kernel_rfl) (by kernel_rfl), fun w b h => (steps_look h).2.2.2.2, ?_⟩
  intro W u g pa pl pc da dl dc vI rI vD rD h hW hd hdl
  cases hI : Lm.hasI li ((r', i'), s')
  ·refine (say_b W u g kk n t r i s x li ld vI rI vD rD r' i' s' tm 5 pa pl pc n' t' da dl dc h hW hok hasc hn hI).mono ?_
   rintro e w' ⟨h1, h2, h3, h4⟩
   refine ⟨h1, ?_, h3, h4⟩
   simp [Lm.applied, hI]; exact h2
  ·refine (say_a W u g kk n t r i s x li ld vI rI vD rD r' i' s' tm 5 pa pl pc n' t' da dl dc h hW hok hasc hn hI).mono ?_
   rintro e w' ⟨h1, h2, h3, h4⟩
   refine ⟨h1, ?_, h3, h4⟩
   simp [Lm.applied, hI]; exact h2
end Go.Proofs.YteakbfbacfhhoaaGreat
