import Derived.Test.YtbciopieciglmaaZLeaf23
namespace Go.Proofs.Ytbciopieciglmaa
open Go.RowKit Go.Buf Go.LB Go.Lib
set_option linter.unusedSimpArgs false
set_option linter.unusedVariables false
def itail (a : Option Addr) (k c : Nat) : Option Addr := if c = k then a else a.map (fun p => p.add (k * 5))
theorem IRow.drop {w : World} {a : Option Addr} {cap : Nat} {l : List Lm.It} (h : IRow w a cap l) (k : Nat) (hk : k ≤ l.length) : IRow w (itail a k cap) (cap - k) (l.drop k) := by
 obtain ⟨h1, h2, h3, h4, h5⟩ := h
 refine ⟨by simp; omega, by omega, fun x hx => h3 x (List.mem_of_mem_drop hx), fun hn => ?_, fun i d hd => ?_⟩
 ·unfold itail at hn
  split at hn
  ·omega
  ·cases a with
   | none => have := h4 rfl; omega
   | some p => simp at hn
 ·rw [List.getElem?_drop] at hd
  obtain ⟨p, hp, g0, g1, g2, g3, g4⟩ := h5 (k + i) d hd
  have hlt : k + i < l.length := (List.getElem?_eq_some_iff.1 hd).1
  refine ⟨p.add (k * 5), ?_, ?_, ?_, ?_, ?_, ?_⟩
  ·unfold itail
   rw [if_neg (by omega), hp]; rfl
  ·rw [Addr.add_add, show k * 5 + i * 5 = (k + i) * 5 from by omega]; exact g0
  ·rw [Addr.add_add, show k * 5 + (i * 5 + 1) = (k + i) * 5 + 1 from by omega]; exact g1
  ·rw [Addr.add_add, show k * 5 + (i * 5 + 2) = (k + i) * 5 + 2 from by omega]; exact g2
  ·rw [Addr.add_add, show k * 5 + (i * 5 + 3) = (k + i) * 5 + 3 from by omega]; exact g3
  ·rw [Addr.add_add, show k * 5 + (i * 5 + 4) = (k + i) * 5 + 4 from by omega]; exact g4
theorem srcE_I (w : World) (a : Option Addr) (c : Nat) : Src Try.prog 5 38 (.slice a 0 c) ([] : List Lm.It).length (([] : List Lm.It).flatMap encI) w := by
 cases a with
 | none => exact Src.ofNil w Try.underlying38 c
 | some p => exact Src.ofSlice w Try.underlying38 p 0 c [] rfl (by simp) (by simp)
theorem srcE_D (w : World) (a : Option Addr) (c : Nat) : Src Try.prog 3 33 (.slice a 0 c) ([] : List Dt.Dot).length (([] : List Dt.Dot).flatMap encD) w := by
 cases a with
 | none => exact Src.ofNil w Try.underlying33 c
 | some p => exact Src.ofSlice w Try.underlying33 p 0 c [] rfl (by simp) (by simp)
def dtail (a : Option Addr) (k c : Nat) : Option Addr := if c = k then a else a.map (fun p => p.add (k * 3))
theorem VRow.dropL {w : World} {a : Option Addr} {cap : Nat} {l : List Dt.Dot} (h : VRow w a cap l) (k : Nat) (hk : k ≤ l.length) : VRow w (dtail a k cap) (cap - k) (l.drop k) := by
 obtain ⟨h1, h2, h3, h4, h5⟩ := h
 refine ⟨by simp; omega, by omega, fun x hx => h3 x (List.mem_of_mem_drop hx), fun hn => ?_, fun i d hd => ?_⟩
 ·unfold dtail at hn
  split at hn
  ·omega
  ·cases a with
   | none => have := h4 rfl; omega
   | some p => simp at hn
 ·rw [List.getElem?_drop] at hd
  obtain ⟨p, hp, g0, g1, g2⟩ := h5 (k + i) d hd
  have hlt : k + i < l.length := (List.getElem?_eq_some_iff.1 hd).1
  refine ⟨p.add (k * 3), ?_, ?_, ?_, ?_⟩
  ·unfold dtail
   rw [if_neg (by omega), hp]; rfl
  ·rw [Addr.add_add, show k * 3 + i * 3 = (k + i) * 3 from by omega]; exact g0
  ·rw [Addr.add_add, show k * 3 + (i * 3 + 1) = (k + i) * 3 + 1 from by omega]; exact g1
  ·rw [Addr.add_add, show k * 3 + (i * 3 + 2) = (k + i) * 3 + 2 from by omega]; exact g2
def IRowS (B : Nat) (w : World) (a : Option Addr) (c : Nat) (l : List Lm.It) : Prop := ∀ w', Chg (fun k => k < B) w w' → IRow w' a c l
theorem IRowS.row {B : Nat} {w : World} {a : Option Addr} {c : Nat} {l : List Lm.It} (h : IRowS B w a c l) : IRow w a c l := h w (Chg.refl _ _)
theorem IRowS.base {B B' : Nat} {w : World} {a : Option Addr} {c : Nat} {l : List Lm.It} (h : IRowS B w a c l) (hB : B' ≤ B) : IRowS B' w a c l := fun w' hc => h w' (hc.mono (fun _ _ e => Nat.lt_of_lt_of_le e hB))
theorem IRowS.chg {B : Nat} {w w' : World} {a : Option Addr} {c : Nat} {l : List Lm.It} (h : IRowS B w a c l) (hc : Chg (fun k => k < B) w w') : IRowS B w' a c l := fun w2 h2 => h w2 (hc.trans h2 (fun _ _ e => e))
theorem ownI_rowS {B : Nat} {w : World} {v : Value} {l : List Lm.It} {row : Option Nat} (h : OwnI B w v l row) (hok : ∀ x ∈ l, okI x) : ∃ a c, v = .slice a l.length c ∧ IRowS B w a c l := by
 obtain ⟨a, c, rfl, _⟩ := ownI_row h hok
 refine ⟨a, c, rfl, fun w' hc => ?_⟩
 obtain ⟨a2, c2, e, r⟩ := ownI_row (h.chg hc (fun k e f => by have := (h.lt k e).1; omega)) hok
 cases e
 exact r
def VRowS (B : Nat) (w : World) (a : Option Addr) (c : Nat) (l : List Dt.Dot) : Prop := ∀ w', Chg (fun k => k < B) w w' → VRow w' a c l
theorem VRowS.row {B : Nat} {w : World} {a : Option Addr} {c : Nat} {l : List Dt.Dot} (h : VRowS B w a c l) : VRow w a c l := h w (Chg.refl _ _)
theorem VRowS.base {B B' : Nat} {w : World} {a : Option Addr} {c : Nat} {l : List Dt.Dot} (h : VRowS B w a c l) (hB : B' ≤ B) : VRowS B' w a c l := fun w' hc => h w' (hc.mono (fun _ _ e => Nat.lt_of_lt_of_le e hB))
theorem VRowS.chg {B : Nat} {w w' : World} {a : Option Addr} {c : Nat} {l : List Dt.Dot} (h : VRowS B w a c l) (hc : Chg (fun k => k < B) w w') : VRowS B w' a c l := fun w2 h2 => h w2 (hc.trans h2 (fun _ _ e => e))
theorem ownD_rowS {B : Nat} {w : World} {v : Value} {l : List Dt.Dot} {row : Option Nat} (h : OwnD B w v l row) (hok : ∀ x ∈ l, Dt.okD x) : ∃ a c, v = .slice a l.length c ∧ VRowS B w a c l := by
 obtain ⟨a, c, rfl, _⟩ := ownD_row h hok
 refine ⟨a, c, rfl, fun w' hc => ?_⟩
 obtain ⟨a2, c2, e, r⟩ := ownD_row (h.chg hc (fun k e f => by have := (h.lt k e).1; omega)) hok
 cases e
 exact r
theorem take_one {α : Type} {l : List α} {i : Nat} {y : α} (h : l[i]? = some y) : l.take (i + 1) = l.take i ++ [y] := by rw [List.take_add_one, h]; rfl
theorem split_at {α : Type} (p : α → Bool) : ∀ (l : List α) (i : Nat) (y : α), (∀ x ∈ l.take i, p x = true) → l[i]? = some y → p y = false → l.take i = l.takeWhile p ∧ l.drop i = l.dropWhile p
 | [], i, y, _, h, _ => by simp at h
 | x :: l, 0, y, _, h, hp => by
  simp at h; subst h
  simp [hp]
 | x :: l, i + 1, y, ha, h, hp => by
  have hx : p x = true := ha x (by simp)
  have ih := split_at p l i y (fun z hz => ha z (by simp [hz])) (by simpa using h) hp
  simp [hx, ih.1, ih.2]
theorem split_end {α : Type} (p : α → Bool) : ∀ (l : List α), (∀ x ∈ l, p x = true) → l.takeWhile p = l ∧ l.dropWhile p = []
 | [], _ => by simp
 | x :: l, ha => by
  have hx : p x = true := ha x (by simp)
  have ih := split_end p l (fun z hz => ha z (by simp [hz]))
  simp [hx, ih.1, ih.2]
theorem mem_split {α : Type} {p : α → Bool} {l : List α} {z x : α} (h : x ∈ l.takeWhile p ++ z :: l.dropWhile p) : x = z ∨ x ∈ l := by
 rcases List.mem_append.1 h with h | h
 ·exact Or.inr ((List.takeWhile_sublist p).subset h)
 ·rcases List.mem_cons.1 h with h | h
  ·exact Or.inl h
  ·exact Or.inr ((List.dropWhile_sublist p).subset h)
set_option maxRecDepth 100000 in
set_option maxHeartbeats 12800000 in
theorem reflay_has (a : Option Addr) (n cap : Nat) (z : Lm.It) (l : List Lm.It) (W : World) (hr : IRow W a cap l) (hl : l.length = n) (hz : okI z) (hn : n ≤ 1000000) (hh : Lm.hasI l z.2.1 = true) :
  Calls Try.prog 18 #[.slice a n cap, itVd z] W fun e w' => (∃ a' c', e = .returned (.slice a' l.length c') ∧ IRowS W.heap.size w' a' c' l) ∧ Below W.heap.size W w' := by
 have hle := hr.le
 have hcap := hr.cap
 rw [hl] at hle
 obtain ⟨X, hX⟩ : ∃ X, X = (W.alloc (.cells #[.int .u64 (z.1 : Int), .int .u8 (z.2.1.1.1 : Int), .int .u32 (z.2.1.1.2 : Int), .int .u64 (z.2.1.2 : Int), .string z.2.2] 51)) := ⟨_, rfl⟩
 have hWX : Below W.heap.size W X := by rw [hX]; exact below_box W _ _
 have hXs : X.heap.size = W.heap.size + 1 := by rw [hX]; simp
 have hZ : Blk X W.heap.size 51 (encI z) := by rw [hX]; exact Blk.new W #[.int .u64 (z.1 : Int), .int .u8 (z.2.1.1.1 : Int), .int .u32 (z.2.1.1.2 : Int), .int .u64 (z.2.1.2 : Int), .string z.2.2] 51
 have b0 := hZ.cell 0; have b1 := hZ.cell 1; have b2 := hZ.cell 2; have b3 := hZ.cell 3; have b4 := hZ.cell 4
 simp only [encI, List.getElem?_cons_succ, List.getElem?_cons_zero] at b0 b1 b2 b3 b4
 have HR := Lib.hid hr; have HL := Lib.hid hl; have HZ := Lib.hid hZ; have HWX := Lib.hid hWX; have HOkz := Lib.hid hz
 clear hr hl hZ hWX hz
 go_enter Try.func18, Try.ntmps18
 rw [hX] at b0 b1 b2 b3 b4
 go_wp2_with fail
 refine (refitem_any a n cap z.2.1.1.1 z.2.1.1.2 z.2.1.2 l _ (HR.out.below (below_box W _ _)) HL.out).mono ?_
 rintro e w1 ⟨he, hb⟩
 rw [← hX] at hb
 obtain ⟨N, hN⟩ : ∃ N, N = Lm.idx l z.2.1 := ⟨_, rfl⟩
 have he2 : e = .returned (.int .i64 N) := by rw [he, hN]
 subst he2
 have hge : (0 : Int) ≤ N := by rw [hN]; exact Lm.idx_ge.2 hh
 have HB1 := Lib.hid hb
 have HHas := Lib.hid hh
 have HW1 := Lib.hid (HWX.out.trans (hb.mono HWX.out.size))
 clear he hh hb hN b0 b1 b2 b3 b4
 have hs := srcI (HR.out.below (HW1.out.alloc HW1.out.size (.cells #[] 51)))
 rw [HL.out] at hs
 obtain ⟨v', w2, row', h1, h2, h3, h4⟩ := appsI (.slice (some ⟨w1.heap.size, 0, none⟩) 0 0) none [] l (.slice a n cap) W.heap.size (w1.alloc (.cells #[] 51)) (Own.empty (by have := HW1.out.size; simp; omega) _) (by rw [HL.out]; exact hs) (by have := HL.out; simp; omega) 38
 rw [List.nil_append] at h2
 have HW2 := Lib.hid ((HW1.out.alloc HW1.out.size (.cells #[] 51)).grown h3 (by have := HW1.out.size; simp; omega) (fun b e => by cases e))
 obtain ⟨a', c', rfl, hrow⟩ := ownI_rowS h2 HR.out.ok
 have HRow := Lib.hid hrow
 clear hs h2 h3 h4 hrow
 go_wp2_with (at_builtin; refine Lib.wpList_append_run _ rfl _ _ _ _ rfl _ _ rfl rfl _ _ h1 ?_)
 go_ret
 exact ⟨⟨a', c', rfl, HRow.out⟩, HW2.out⟩
set_option maxRecDepth 100000 in
set_option maxHeartbeats 12800000 in
theorem reflay_not (a : Option Addr) (n cap : Nat) (z : Lm.It) (l : List Lm.It) (W : World) (hr : IRow W a cap l) (hl : l.length = n) (hz : okI z) (hn : n ≤ 1000000) (hh : Lm.hasI l z.2.1 = false) :
  Calls Try.prog 18 #[.slice a n cap, itVd z] W fun e w' => (∃ a' c', e = .returned (.slice a' (l.takeWhile (fun y => Lm.aheadI y z) ++ z :: l.dropWhile (fun y => Lm.aheadI y z)).length c') ∧ IRowS W.heap.size w' a' c' (l.takeWhile (fun y => Lm.aheadI y z) ++ z :: l.dropWhile (fun y => Lm.aheadI y z))) ∧ Below W.heap.size W w' := by
 have hle := hr.le
 have hcap := hr.cap
 rw [hl] at hle
 obtain ⟨X, hX⟩ : ∃ X, X = (W.alloc (.cells #[.int .u64 (z.1 : Int), .int .u8 (z.2.1.1.1 : Int), .int .u32 (z.2.1.1.2 : Int), .int .u64 (z.2.1.2 : Int), .string z.2.2] 51)) := ⟨_, rfl⟩
 have hWX : Below W.heap.size W X := by rw [hX]; exact below_box W _ _
 have hXs : X.heap.size = W.heap.size + 1 := by rw [hX]; simp
 have hZ : Blk X W.heap.size 51 (encI z) := by rw [hX]; exact Blk.new W #[.int .u64 (z.1 : Int), .int .u8 (z.2.1.1.1 : Int), .int .u32 (z.2.1.1.2 : Int), .int .u64 (z.2.1.2 : Int), .string z.2.2] 51
 have b0 := hZ.cell 0; have b1 := hZ.cell 1; have b2 := hZ.cell 2; have b3 := hZ.cell 3; have b4 := hZ.cell 4
 simp only [encI, List.getElem?_cons_succ, List.getElem?_cons_zero] at b0 b1 b2 b3 b4
 have HR := Lib.hid hr; have HL := Lib.hid hl; have HZ := Lib.hid hZ; have HWX := Lib.hid hWX; have HOkz := Lib.hid hz
 clear hr hl hZ hWX hz
 go_enter Try.func18, Try.ntmps18
 rw [hX] at b0 b1 b2 b3 b4
 go_wp2_with fail
 refine (refitem_any a n cap z.2.1.1.1 z.2.1.1.2 z.2.1.2 l _ (HR.out.below (below_box W _ _)) HL.out).mono ?_
 rintro e w1 ⟨he, hb⟩
 rw [← hX] at hb
 obtain ⟨N, hN⟩ : ∃ N, N = Lm.idx l z.2.1 := ⟨_, rfl⟩
 have he2 : e = .returned (.int .i64 N) := by rw [he, hN]
 subst he2
 have hge : ¬ ((0 : Int) ≤ N) := by rw [hN]; intro h; have := Lm.idx_ge.1 h; rw [hh] at this; cases this
 have HB1 := Lib.hid hb
 have HHas := Lib.hid hh
 have HW1 := Lib.hid (HWX.out.trans (hb.mono HWX.out.size))
 clear he hh hb hN b0 b1 b2 b3 b4
 go_wp2_with fail
 go_loopw [5, 6] (fun x v wr => ∃ (i : Nat) (row : Option Nat), v = .int .i64 i ∧ i ≤ n ∧ OwnI X.heap.size wr x (l.take i) row ∧ Below X.heap.size X wr ∧ ∀ y ∈ l.take i, Lm.aheadI y z = true) (fun _ v _ => n - (intOf v).toNat)
 case atStart => exact ⟨0, none, rfl, by omega, Own.empty HB1.out.size none, HB1.out, by simp⟩
 case round =>
  obtain ⟨i, row, rfl, hin, hown, hbel, hall⟩ := hrel
  have HO := Lib.hid hown; have HW := Lib.hid hbel; have HAll := Lib.hid hall
  have hz := HZ.out.below hbel
  have HW2 := Lib.hid (HWX.out.trans (hbel.mono HWX.out.size))
  clear hown hbel hall
  by_cases hlt : i < n
  ·obtain ⟨y, hy⟩ := geti_some (l := l) (i := i) (by rw [HL.out]; exact hlt)
   obtain ⟨blk, off, rfl, hblk, hcells⟩ := HR.out.at (by rw [HL.out]; omega)
   obtain ⟨g0, g1, g2, g3, g4⟩ := hcells i y hy
   have q0 := (HW2.out.cell (p := ⟨blk, off + i * 5, none⟩) hblk).trans g0
   have q1 := (HW2.out.cell (p := ⟨blk, off + i * 5 + 1, none⟩) hblk).trans g1
   have q2 := (HW2.out.cell (p := ⟨blk, off + i * 5 + 2, none⟩) hblk).trans g2
   have q3 := (HW2.out.cell (p := ⟨blk, off + i * 5 + 3, none⟩) hblk).trans g3
   have q4 := (HW2.out.cell (p := ⟨blk, off + i * 5 + 4, none⟩) hblk).trans g4
   have b0 := hz.cell 0; have b1 := hz.cell 1; have b2 := hz.cell 2; have b3 := hz.cell 3; have b4 := hz.cell 4
   simp only [encI, List.getElem?_cons_succ, List.getElem?_cons_zero] at b0 b1 b2 b3 b4
   have hC : ∀ w2, Below wr.heap.size wr w2 → w2.cell? ⟨W.heap.size, 0, none⟩ = some (.int .u64 (z.1 : Int)) ∧ w2.cell? ⟨W.heap.size, 1, none⟩ = some (.int .u8 (z.2.1.1.1 : Int)) ∧ w2.cell? ⟨W.heap.size, 2, none⟩ = some (.int .u32 (z.2.1.1.2 : Int)) ∧ w2.cell? ⟨W.heap.size, 3, none⟩ = some (.int .u64 (z.2.1.2 : Int)) ∧ w2.cell? ⟨W.heap.size, 4, none⟩ = some (.string z.2.2) ∧ w2.cell? ⟨blk, off + i * 5, none⟩ = some (.int .u64 (y.1 : Int)) ∧ w2.cell? ⟨blk, off + i * 5 + 1, none⟩ = some (.int .u8 (y.2.1.1.1 : Int)) ∧ w2.cell? ⟨blk, off + i * 5 + 2, none⟩ = some (.int .u32 (y.2.1.1.2 : Int)) ∧ w2.cell? ⟨blk, off + i * 5 + 3, none⟩ = some (.int .u64 (y.2.1.2 : Int)) ∧ w2.cell? ⟨blk, off + i * 5 + 4, none⟩ = some (.string y.2.2) := fun w2 h =>
    ⟨(h.cell (World.block_lt_of_cell? _ _ b0)).trans b0, (h.cell (World.block_lt_of_cell? _ _ b1)).trans b1, (h.cell (World.block_lt_of_cell? _ _ b2)).trans b2, (h.cell (World.block_lt_of_cell? _ _ b3)).trans b3, (h.cell (World.block_lt_of_cell? _ _ b4)).trans b4, (h.cell (World.block_lt_of_cell? _ _ q0)).trans q0, (h.cell (World.block_lt_of_cell? _ _ q1)).trans q1, (h.cell (World.block_lt_of_cell? _ _ q2)).trans q2, (h.cell (World.block_lt_of_cell? _ _ q3)).trans q3, (h.cell (World.block_lt_of_cell? _ _ q4)).trans q4⟩
   have HC := Lib.hid hC; have HY := Lib.hid hy
   have i0 : (0 : Int) ≤ (i : Int) := by omega
   have i1 : (i : Int) < (n : Int) := by omega
   have hw1 : IntKind.i64.wrap ((i : Int) + 1) = (i : Int) + 1 := by simp [IntKind.wrap, IntKind.bits, IntKind.signed]; omega
   clear hC hy hcells g0 g1 g2 g3 g4 q0 q1 q2 q3 q4 b0 b1 b2 b3 b4
   cases hA : Lm.aheadI y z
   ·have HA := Lib.hid hA
    clear hA
    go_wp2_with fail
    refine Reg.region_list (by kernel_rfl) [fun v _ => v = .int .i64 (i : Int), fun v _ => v = .slice (some ⟨blk, off, none⟩) n cap, fun v _ => v = .int .i64 n, fun v _ => v = .bool true, fun v _ => v = .bool true, fun v _ => v = .slice (some ⟨blk, off, none⟩) n cap, fun v _ => v = .int .i64 (i : Int), fun v _ => v = .pointer (some ⟨blk, off + i * 5, none⟩), fun v _ => v = .pointer (some ⟨blk, off + i * 5, none⟩), fun v _ => v = .int .u64 (y.1 : Int), fun v _ => v = .slice (some ⟨blk, off, none⟩) n cap, fun v _ => v = .int .i64 (i : Int), fun v _ => v = .pointer (some ⟨blk, off + i * 5, none⟩), fun v _ => v = .pointer (some ⟨blk, off + i * 5 + 1, none⟩), fun v _ => v = .agg #[.int .u8 (y.2.1.1.1 : Int), .int .u32 (y.2.1.1.2 : Int), .int .u64 (y.2.1.2 : Int)], fun v _ => v = .pointer (some ⟨W.heap.size, 0, none⟩), fun v _ => v = .int .u64 (z.1 : Int), fun v _ => v = .pointer (some ⟨W.heap.size, 1, none⟩), fun v _ => v = .agg #[.int .u8 (z.2.1.1.1 : Int), .int .u32 (z.2.1.1.2 : Int), .int .u64 (z.2.1.2 : Int)], fun v _ => v = .bool false, fun v _ => v = .bool false] (by kernel_rfl) ?_ ?_ ?_
    ·refine ⟨k4, k4, k4, k4, k4, k4, k4, k4, k4, k4, k4, k4, k4, k4, k4, k4, k4, k4, k4, k4, k4, trivial⟩
    ·refine ⟨?_, ?_, ?_, ?_, ?_, ?_, ?_, ?_, ?_, ?_, ?_, ?_, ?_, ?_, ?_, ?_, ?_, ?_, ?_, ?_, ?_, trivial⟩
     ·intro ev w hc hf hg hfix hdep hbel
      have e6 : ev (.tmp 6) = _ := hfix 6 (by decide)
      exact okb trivial rfl (by go_simp)
     ·intro ev w hc hf hg hfix hdep hbel
      have e0 : ev (.tmp 0) = _ := hfix 0 (by decide)
      exact okb trivial rfl (by go_simp)
     ·intro ev w hc hf hg hfix hdep hbel
      have e16 : ev (.tmp 16) = _ := hdep 1 (by decide)
      exact okb trivial rfl (by go_simp)
     ·intro ev w hc hf hg hfix hdep hbel
      have e15 : ev (.tmp 15) = _ := hdep 0 (by decide)
      have e17 : ev (.tmp 17) = _ := hdep 2 (by decide)
      exact okb trivial rfl (by go_simp)
     ·intro ev w hc hf hg hfix hdep hbel
      have e18 : ev (.tmp 18) = _ := hdep 3 (by decide)
      exact okb trivial rfl (by go_simp)
     ·intro ev w hc hf hg hfix hdep hbel
      have fg : ev (.tmp 19) = _ := hdep 4 (by decide)
      have e0 : ev (.tmp 0) = _ := hfix 0 (by decide)
      exact okb fg rfl (by go_simp)
     ·intro ev w hc hf hg hfix hdep hbel
      have fg : ev (.tmp 19) = _ := hdep 4 (by decide)
      have e6 : ev (.tmp 6) = _ := hfix 6 (by decide)
      exact okb fg rfl (by go_simp)
     ·intro ev w hc hf hg hfix hdep hbel
      have fg : ev (.tmp 19) = _ := hdep 4 (by decide)
      have e20 : ev (.tmp 20) = _ := hdep 5 (by decide)
      have e21 : ev (.tmp 21) = _ := hdep 6 (by decide)
      exact okb fg rfl (by go_simp)
     ·intro ev w hc hf hg hfix hdep hbel
      have fg : ev (.tmp 19) = _ := hdep 4 (by decide)
      have e22 : ev (.tmp 22) = _ := hdep 7 (by decide)
      exact okb fg rfl (by go_simp)
     ·intro ev w hc hf hg hfix hdep hbel
      have fg : ev (.tmp 19) = _ := hdep 4 (by decide)
      have e23 : ev (.tmp 23) = _ := hdep 8 (by decide)
      obtain ⟨b0, b1, b2, b3, b4, q0, q1, q2, q3, q4⟩ := HC.out w (undrew hbel)
      exact okb fg rfl (by go_simp)
     ·intro ev w hc hf hg hfix hdep hbel
      have fg : ev (.tmp 19) = _ := hdep 4 (by decide)
      have e0 : ev (.tmp 0) = _ := hfix 0 (by decide)
      exact okb fg rfl (by go_simp)
     ·intro ev w hc hf hg hfix hdep hbel
      have fg : ev (.tmp 19) = _ := hdep 4 (by decide)
      have e6 : ev (.tmp 6) = _ := hfix 6 (by decide)
      exact okb fg rfl (by go_simp)
     ·intro ev w hc hf hg hfix hdep hbel
      have fg : ev (.tmp 19) = _ := hdep 4 (by decide)
      have e25 : ev (.tmp 25) = _ := hdep 10 (by decide)
      have e26 : ev (.tmp 26) = _ := hdep 11 (by decide)
      exact okb fg rfl (by go_simp)
     ·intro ev w hc hf hg hfix hdep hbel
      have fg : ev (.tmp 19) = _ := hdep 4 (by decide)
      have e27 : ev (.tmp 27) = _ := hdep 12 (by decide)
      exact okb fg rfl (by go_simp)
     ·intro ev w hc hf hg hfix hdep hbel
      have fg : ev (.tmp 19) = _ := hdep 4 (by decide)
      have e28 : ev (.tmp 28) = _ := hdep 13 (by decide)
      obtain ⟨b0, b1, b2, b3, b4, q0, q1, q2, q3, q4⟩ := HC.out w (undrew hbel)
      exact okb fg rfl (by go_simp)
     ·intro ev w hc hf hg hfix hdep hbel
      have fg : ev (.tmp 19) = _ := hdep 4 (by decide)
      have e3 : ev (.tmp 3) = _ := hfix 3 (by decide)
      exact okb fg rfl (by go_simp)
     ·intro ev w hc hf hg hfix hdep hbel
      have fg : ev (.tmp 19) = _ := hdep 4 (by decide)
      have e30 : ev (.tmp 30) = _ := hdep 15 (by decide)
      obtain ⟨b0, b1, b2, b3, b4, q0, q1, q2, q3, q4⟩ := HC.out w (undrew hbel)
      exact okb fg rfl (by go_simp)
     ·intro ev w hc hf hg hfix hdep hbel
      have fg : ev (.tmp 19) = _ := hdep 4 (by decide)
      have e3 : ev (.tmp 3) = _ := hfix 3 (by decide)
      exact okb fg rfl (by go_simp)
     ·intro ev w hc hf hg hfix hdep hbel
      have fg : ev (.tmp 19) = _ := hdep 4 (by decide)
      have e32 : ev (.tmp 32) = _ := hdep 17 (by decide)
      obtain ⟨b0, b1, b2, b3, b4, q0, q1, q2, q3, q4⟩ := HC.out w (undrew hbel)
      exact okb fg rfl (by go_simp)
     ·intro ev w hc hf hg hfix hdep hbel
      have fg : ev (.tmp 19) = _ := hdep 4 (by decide)
      have e24 : ev (.tmp 24) = _ := hdep 9 (by decide)
      have e29 : ev (.tmp 29) = _ := hdep 14 (by decide)
      have e31 : ev (.tmp 31) = _ := hdep 16 (by decide)
      have e33 : ev (.tmp 33) = _ := hdep 18 (by decide)
      refine Or.inl ⟨fg, Or.inr ⟨16, #[.int .u64 (y.1 : Int), .agg #[.int .u8 (y.2.1.1.1 : Int), .int .u32 (y.2.1.1.2 : Int), .int .u64 (y.2.1.2 : Int)], .int .u64 (z.1 : Int), .agg #[.int .u8 (z.2.1.1.1 : Int), .int .u32 (z.2.1.1.2 : Int), .int .u64 (z.2.1.2 : Int)]], w, by go_simp, ?_⟩⟩
      refine (refahead_any y.1 y.2.1.1.1 y.2.1.1.2 y.2.1.2 z.1 z.2.1.1.1 z.2.1.1.2 z.2.1.2 w).mono ?_
      rintro e w2 ⟨rfl, hb⟩
      exact ⟨_, rfl, by rw [← HA.out]; rfl, hb⟩
     ·intro ev w hc hf hg hfix hdep hbel
      have e19 : ev (.tmp 19) = _ := hdep 4 (by decide)
      have e34 : ev (.tmp 34) = _ := hdep 19 (by decide)
      exact okb trivial rfl (by go_simp)
    ·intro v w2 hv hb2
     have r0 : v 0 = _ := hv 0 (by decide)
     have r1 : v 1 = _ := hv 1 (by decide)
     have r2 : v 2 = _ := hv 2 (by decide)
     have r3 : v 3 = _ := hv 3 (by decide)
     have r4 : v 4 = _ := hv 4 (by decide)
     have r5 : v 5 = _ := hv 5 (by decide)
     have r6 : v 6 = _ := hv 6 (by decide)
     have r7 : v 7 = _ := hv 7 (by decide)
     have r8 : v 8 = _ := hv 8 (by decide)
     have r9 : v 9 = _ := hv 9 (by decide)
     have r10 : v 10 = _ := hv 10 (by decide)
     have r11 : v 11 = _ := hv 11 (by decide)
     have r12 : v 12 = _ := hv 12 (by decide)
     have r13 : v 13 = _ := hv 13 (by decide)
     have r14 : v 14 = _ := hv 14 (by decide)
     have r15 : v 15 = _ := hv 15 (by decide)
     have r16 : v 16 = _ := hv 16 (by decide)
     have r17 : v 17 = _ := hv 17 (by decide)
     have r18 : v 18 = _ := hv 18 (by decide)
     have r19 : v 19 = _ := hv 19 (by decide)
     have r20 : v 20 = _ := hv 20 (by decide)
     simp only [Reg.putAll, Act.put, List.setIfInBounds_toArray, List.set_cons_zero, List.set_cons_succ, r0, r1, r2, r3, r4, r5, r6, r7, r8, r9, r10, r11, r12, r13, r14, r15, r16, r17, r18, r19, r20]
     clear r0 r1 r2 r3 r4 r5 r6 r7 r8 r9 r10 r11 r12 r13 r14 r15 r16 r17 r18 r19 r20 hv
     have HZ8 := Lib.hid (HZ.out.below (HW.out.trans (hb2.mono HW.out.size)))
     have HO8 := Lib.hid (HO.out.below hb2)
     have HW8 := Lib.hid (HW.out.trans (hb2.mono HW.out.size))
     clear hb2 hz
     have hT : ∀ w, Below X.heap.size X w → Src Try.prog 5 38 (.slice (some ⟨blk, off + i * 5, none⟩) (n - i) (cap - i)) (l.drop i).length ((l.drop i).flatMap encI) w := fun w hb => by
      have h := (HR.out.below (HWX.out.trans (hb.mono HWX.out.size))).drop i (by rw [HL.out]; omega)
      have h2 := srcI h
      have e : (l.drop i).length = n - i := by rw [List.length_drop, HL.out]
      have e2 : itail (some ⟨blk, off, none⟩) i cap = some ⟨blk, off + i * 5, none⟩ := by unfold itail; rw [if_neg (by omega)]; show some (Addr.add ⟨blk, off, none⟩ _) = _; rw [Addr.add_lit]
      rw [e2] at h2
      rw [← e]
      exact h2
     have HTail := Lib.hid hT
     clear hT
     go_wp2_with fail
     refine RegD.region_list (by kernel_rfl) (fun _ => True) [3, 7] [8] [RegD.plain (fun v _ => v = u5), RegD.plain (fun v _ => v = .agg #[.int .u64 (z.1 : Int), .int .u8 (z.2.1.1.1 : Int), .int .u32 (z.2.1.1.2 : Int), .int .u64 (z.2.1.2 : Int), .string z.2.2]), RegD.plain (fun v w => ∃ b, v = .slice (some ⟨b, 0, none⟩) 1 1 ∧ Blk w b 51 (encI z) ∧ w2.heap.size ≤ b), RegD.change (fun v w => ∃ row1, OwnI X.heap.size w v (l.take i ++ [z]) row1 ∧ (row1 = row ∨ ∃ q, row1 = some q ∧ w2.heap.size ≤ q)) (fun k => some k = row) (Chg (fun k => some k = row)), RegD.plain (fun v _ => v = .slice (some ⟨blk, off, none⟩) n cap), RegD.plain (fun v _ => v = .int .i64 (i : Int)), RegD.plain (fun v _ => v = .slice (some ⟨blk, off + i * 5, none⟩) (n - i) (cap - i)), RegD.change (fun v w => ∃ row2, OwnI X.heap.size w v (l.take i ++ [z] ++ l.drop i) row2) (fun k => some k = row ∨ w2.heap.size ≤ k) (Chg (fun k => some k = row ∨ w2.heap.size ≤ k)), RegD.plain (fun v w => ∃ row2, OwnI X.heap.size w v (l.take i ++ [z] ++ l.drop i) row2)] (by kernel_rfl) (trivial) (fun (_ _ : World) _ _ => trivial) ?_ ?_ ?_ ?_ ?_ ?_
     ·exact ⟨Or.inr ⟨fun _ h => h, rfl⟩, Or.inr ⟨fun _ h => h, rfl⟩, Or.inr ⟨fun _ h => h, rfl⟩, Or.inl (by decide), Or.inr ⟨fun _ h => h, rfl⟩, Or.inr ⟨fun _ h => h, rfl⟩, Or.inr ⟨fun _ h => h, rfl⟩, Or.inl (by decide), Or.inr ⟨fun _ h => h, rfl⟩, trivial⟩
     ·exact ⟨⟨fun _ _ h => h, fun wx wy h => (fun (_ _ : World) _ _ => trivial) wx wy (RegD.to_below h (fun _ h => h))⟩, ⟨fun _ _ h => h, fun wx wy h => (fun (_ _ : World) _ _ => trivial) wx wy (RegD.to_below h (fun _ h => h))⟩, ⟨fun _ _ h => h, fun wx wy h => (fun (_ _ : World) _ _ => trivial) wx wy (RegD.to_below h (fun _ h => h))⟩, ⟨(fun _ _ h => h), (fun _ _ _ _ => trivial)⟩, ⟨fun _ _ h => h, fun wx wy h => (fun (_ _ : World) _ _ => trivial) wx wy (RegD.to_below h (fun _ h => h))⟩, ⟨fun _ _ h => h, fun wx wy h => (fun (_ _ : World) _ _ => trivial) wx wy (RegD.to_below h (fun _ h => h))⟩, ⟨fun _ _ h => h, fun wx wy h => (fun (_ _ : World) _ _ => trivial) wx wy (RegD.to_below h (fun _ h => h))⟩, ⟨(fun _ _ h => h), (fun _ _ _ _ => trivial)⟩, ⟨fun _ _ h => h, fun wx wy h => (fun (_ _ : World) _ _ => trivial) wx wy (RegD.to_below h (fun _ h => h))⟩, trivial⟩
     ·refine ⟨k4, k4, (fun v wa wb hb h => by obtain ⟨b, h1, h2, h3⟩ := h; exact ⟨b, h1, h2.below hb, h3⟩), (fun v wa wb hb h => by obtain ⟨row1, h1, h2⟩ := h; exact ⟨row1, h1.below hb, h2⟩), k4, k4, k4, (fun v wa wb hb h => by obtain ⟨row2, h1⟩ := h; exact ⟨row2, h1.below hb⟩), (fun v wa wb hb h => by obtain ⟨row2, h1⟩ := h; exact ⟨row2, h1.below hb⟩), trivial⟩
     ·refine ⟨⟨Or.inr (Or.inr (Or.inr k4)), Or.inr (Or.inr (Or.inr k4)), Or.inr (Or.inr (Or.inl (by kernel_rfl))), Or.inl rfl, Or.inr (Or.inr (Or.inr k4)), Or.inr (Or.inr (Or.inr k4)), Or.inr (Or.inr (Or.inr k4)), Or.inr (Or.inl (by kernel_rfl)), Or.inr (Or.inl (by kernel_rfl)), trivial⟩, ⟨Or.inr (Or.inr (Or.inr k4)), Or.inr (Or.inr (Or.inr k4)), Or.inr (Or.inr (Or.inl (by kernel_rfl))), Or.inr (Or.inr (Or.inl (by kernel_rfl))), Or.inr (Or.inr (Or.inr k4)), Or.inr (Or.inr (Or.inr k4)), Or.inr (Or.inr (Or.inr k4)), Or.inl rfl, Or.inr (Or.inl (by kernel_rfl)), trivial⟩, trivial⟩
     ·refine ⟨?_, ?_, ?_, ?_, ?_, ?_, ?_, ?_, ?_, trivial⟩
      ·intro ev w hc hf hg hfix hdep hchg hinv
       have e5 : ev (.tmp 5) = _ := hfix 5 (by decide)
       exact Or.inl ⟨trivial, Or.inl ⟨_, w, by go_simp, rfl, Chg.refl _ _⟩⟩
      ·intro ev w hc hf hg hfix hdep hchg hinv
       have e3 : ev (.tmp 3) = _ := hfix 3 (by decide)
       have hz := HZ8.out.below (RegD.chg0 (hchg [] (by kernel_rfl)))
       have b0 := hz.cell 0; have b1 := hz.cell 1; have b2 := hz.cell 2; have b3 := hz.cell 3; have b4 := hz.cell 4
       simp only [encI, List.getElem?_cons_succ, List.getElem?_cons_zero] at b0 b1 b2 b3 b4
       exact Or.inl ⟨trivial, Or.inl ⟨_, w, by go_simp, rfl, Chg.refl _ _⟩⟩
      ·intro ev w hc hf hg hfix hdep hchg hinv
       have e46 : ev (.tmp 46) = _ := hdep 1 (by decide)
       exact Or.inl ⟨trivial, Or.inl ⟨.slice (some ⟨w.heap.size, 0, none⟩) 1 1, w.alloc (.cells #[.int .u64 (z.1 : Int), .int .u8 (z.2.1.1.1 : Int), .int .u32 (z.2.1.1.2 : Int), .int .u64 (z.2.1.2 : Int), .string z.2.2] 51), by go_simp, ⟨w.heap.size, rfl, Blk.new w _ _, (RegD.chg0 (hchg [] (by kernel_rfl))).size⟩, (Chg.refl _ w).alloc _⟩⟩
      ·intro ev w hc hf hg hfix hdep hchg hinv
       have e45 : ev (.tmp 45) = _ := hdep 0 (by decide)
       have e47 := hdep 2 (by decide)
       obtain ⟨b, hv, hbk, hbu⟩ := e47
       have e47 : ev (.tmp 47) = .slice (some ⟨b, 0, none⟩) 1 1 := hv
       have hb0 : Below w2.heap.size w2 w := RegD.chg0 (hchg [] (by kernel_rfl))
       obtain ⟨v', w', row', h1, h2, h3, h4⟩ := appsI u5 row (l.take i) [z] _ X.heap.size w (HO8.out.below hb0) (src1I w b z hbk) (by have := HL.out; simp; omega) 38
       refine Or.inl ⟨trivial, Or.inl ⟨v', w', RegD.exec_append (.tmp 45) (.tmp 47) 38 38 rfl e45 e47 h1, ⟨row', h2, ?_⟩, (Chg.of_grown h3).mono (fun k _ e => e)⟩⟩
       rcases h4 with rfl | ⟨q, rfl, hq⟩
       ·exact Or.inl rfl
       ·exact Or.inr ⟨q, rfl, Nat.le_trans hb0.size hq⟩
      ·intro ev w hc hf hg hfix hdep hchg hinv
       have e0 : ev (.tmp 0) = _ := hfix 0 (by decide)
       exact Or.inl ⟨trivial, Or.inl ⟨_, w, by go_simp, rfl, Chg.refl _ _⟩⟩
      ·intro ev w hc hf hg hfix hdep hchg hinv
       have e6 : ev (.tmp 6) = _ := hfix 6 (by decide)
       exact Or.inl ⟨trivial, Or.inl ⟨_, w, by go_simp, rfl, Chg.refl _ _⟩⟩
      ·intro ev w hc hf hg hfix hdep hchg hinv
       have e49 : ev (.tmp 49) = _ := hdep 4 (by decide)
       have e50 : ev (.tmp 50) = _ := hdep 5 (by decide)
       exact Or.inl ⟨trivial, Or.inl ⟨.slice (some ⟨blk, off + i * 5, none⟩) (n - i) (cap - i), w, by go_simp; try (intro h; omega), rfl, Chg.refl _ _⟩⟩
      ·intro ev w hc hf hg hfix hdep hchg hinv
       have e48 := hdep 3 (by decide)
       have e51 : ev (.tmp 51) = _ := hdep 6 (by decide)
       obtain ⟨row1, h1, h2⟩ := e48
       have hc := RegD.chg1 (hchg [3] (by kernel_rfl))
       have hbw : Below X.heap.size X w := Chg.belowTrans HW8.out hc (fun k _ e => (HO8.out.lt k (Eq.symm e)).1) HW8.out.size
       obtain ⟨v', w', row', g1, g2, g3, g4⟩ := appsI _ row1 (l.take i ++ [z]) (l.drop i) (.slice (some ⟨blk, off + i * 5, none⟩) (n - i) (cap - i)) X.heap.size w h1 (HTail.out w hbw) (by have := HL.out; simp; omega) 38
       have hS7 : ∀ j, some j = row1 → (fun k => some k = row ∨ w2.heap.size ≤ k) j := fun j e => by
        rcases h2 with h2 | ⟨q, h2, hq⟩
        ·exact Or.inl (e.trans h2)
        ·rw [h2] at e; cases e; exact Or.inr hq
       exact Or.inl ⟨trivial, Or.inl ⟨v', w', RegD.exec_append (.tmp 48) (.tmp 51) 38 38 rfl rfl e51 g1, ⟨row', g2⟩, (Chg.of_grown g3).mono (fun j _ e => hS7 j e)⟩⟩
      ·intro ev w hc hf hg hfix hdep hchg hinv
       have e52 := hdep 7 (by decide)
       obtain ⟨row2, h1⟩ := e52
       exact Or.inl ⟨trivial, Or.inl ⟨ev (.tmp 52), w, by go_simp, ⟨row2, h1⟩, Chg.refl _ w⟩⟩
     ·intro v w2 hv hb2 hJ2
      have r8 := hv 8 (by decide) (by decide)
      simp only [Reg.putAll, Act.put, List.setIfInBounds_toArray, List.set_cons_zero, List.set_cons_succ]
      clear hv
      obtain ⟨row2, hfin⟩ := r8
      have hc2 := RegD.end2 hb2
      have hbw := Chg.belowTrans HW8.out hc2 (fun k hk e => by rcases e with e | e | e; exact (HO8.out.lt k (Eq.symm e)).1; exact (HO8.out.lt k (Eq.symm e)).1; exact Nat.le_trans HW8.out.size e) HW8.out.size
      obtain ⟨eqs1, eqs2⟩ := split_at (fun y => Lm.aheadI y z) l i y HAll.out HY.out HA.out
      rw [eqs1, eqs2, List.append_assoc, List.singleton_append] at hfin
      obtain ⟨a', c', hv8, hrow⟩ := ownI_rowS (hfin.base (B' := W.heap.size) (by omega)) (fun x hx => by rcases mem_split hx with rfl | h; exact HOkz.out; exact HR.out.ok x h)
      have HRow := Lib.hid hrow; have HBw := Lib.hid hbw
      clear hb2 hc2 hfin hbw hrow eqs1 eqs2
      simp only [Nat.zero_add, Nat.reduceAdd]
      rw [hv8]
      clear hv8
      go_wp2_with fail
      go_ret
      exact ⟨⟨a', c', rfl, HRow.out⟩, HWX.out.trans (HBw.out.mono HWX.out.size)⟩
   ·have HA := Lib.hid hA
    clear hA
    go_wp2_with fail
    refine Reg.region_list (by kernel_rfl) [fun v _ => v = .int .i64 (i : Int), fun v _ => v = .slice (some ⟨blk, off, none⟩) n cap, fun v _ => v = .int .i64 n, fun v _ => v = .bool true, fun v _ => v = .bool true, fun v _ => v = .slice (some ⟨blk, off, none⟩) n cap, fun v _ => v = .int .i64 (i : Int), fun v _ => v = .pointer (some ⟨blk, off + i * 5, none⟩), fun v _ => v = .pointer (some ⟨blk, off + i * 5, none⟩), fun v _ => v = .int .u64 (y.1 : Int), fun v _ => v = .slice (some ⟨blk, off, none⟩) n cap, fun v _ => v = .int .i64 (i : Int), fun v _ => v = .pointer (some ⟨blk, off + i * 5, none⟩), fun v _ => v = .pointer (some ⟨blk, off + i * 5 + 1, none⟩), fun v _ => v = .agg #[.int .u8 (y.2.1.1.1 : Int), .int .u32 (y.2.1.1.2 : Int), .int .u64 (y.2.1.2 : Int)], fun v _ => v = .pointer (some ⟨W.heap.size, 0, none⟩), fun v _ => v = .int .u64 (z.1 : Int), fun v _ => v = .pointer (some ⟨W.heap.size, 1, none⟩), fun v _ => v = .agg #[.int .u8 (z.2.1.1.1 : Int), .int .u32 (z.2.1.1.2 : Int), .int .u64 (z.2.1.2 : Int)], fun v _ => v = .bool true, fun v _ => v = .bool true] (by kernel_rfl) ?_ ?_ ?_
    ·refine ⟨k4, k4, k4, k4, k4, k4, k4, k4, k4, k4, k4, k4, k4, k4, k4, k4, k4, k4, k4, k4, k4, trivial⟩
    ·refine ⟨?_, ?_, ?_, ?_, ?_, ?_, ?_, ?_, ?_, ?_, ?_, ?_, ?_, ?_, ?_, ?_, ?_, ?_, ?_, ?_, ?_, trivial⟩
     ·intro ev w hc hf hg hfix hdep hbel
      have e6 : ev (.tmp 6) = _ := hfix 6 (by decide)
      exact okb trivial rfl (by go_simp)
     ·intro ev w hc hf hg hfix hdep hbel
      have e0 : ev (.tmp 0) = _ := hfix 0 (by decide)
      exact okb trivial rfl (by go_simp)
     ·intro ev w hc hf hg hfix hdep hbel
      have e16 : ev (.tmp 16) = _ := hdep 1 (by decide)
      exact okb trivial rfl (by go_simp)
     ·intro ev w hc hf hg hfix hdep hbel
      have e15 : ev (.tmp 15) = _ := hdep 0 (by decide)
      have e17 : ev (.tmp 17) = _ := hdep 2 (by decide)
      exact okb trivial rfl (by go_simp)
     ·intro ev w hc hf hg hfix hdep hbel
      have e18 : ev (.tmp 18) = _ := hdep 3 (by decide)
      exact okb trivial rfl (by go_simp)
     ·intro ev w hc hf hg hfix hdep hbel
      have fg : ev (.tmp 19) = _ := hdep 4 (by decide)
      have e0 : ev (.tmp 0) = _ := hfix 0 (by decide)
      exact okb fg rfl (by go_simp)
     ·intro ev w hc hf hg hfix hdep hbel
      have fg : ev (.tmp 19) = _ := hdep 4 (by decide)
      have e6 : ev (.tmp 6) = _ := hfix 6 (by decide)
      exact okb fg rfl (by go_simp)
     ·intro ev w hc hf hg hfix hdep hbel
      have fg : ev (.tmp 19) = _ := hdep 4 (by decide)
      have e20 : ev (.tmp 20) = _ := hdep 5 (by decide)
      have e21 : ev (.tmp 21) = _ := hdep 6 (by decide)
      exact okb fg rfl (by go_simp)
     ·intro ev w hc hf hg hfix hdep hbel
      have fg : ev (.tmp 19) = _ := hdep 4 (by decide)
      have e22 : ev (.tmp 22) = _ := hdep 7 (by decide)
      exact okb fg rfl (by go_simp)
     ·intro ev w hc hf hg hfix hdep hbel
      have fg : ev (.tmp 19) = _ := hdep 4 (by decide)
      have e23 : ev (.tmp 23) = _ := hdep 8 (by decide)
      obtain ⟨b0, b1, b2, b3, b4, q0, q1, q2, q3, q4⟩ := HC.out w (undrew hbel)
      exact okb fg rfl (by go_simp)
     ·intro ev w hc hf hg hfix hdep hbel
      have fg : ev (.tmp 19) = _ := hdep 4 (by decide)
      have e0 : ev (.tmp 0) = _ := hfix 0 (by decide)
      exact okb fg rfl (by go_simp)
     ·intro ev w hc hf hg hfix hdep hbel
      have fg : ev (.tmp 19) = _ := hdep 4 (by decide)
      have e6 : ev (.tmp 6) = _ := hfix 6 (by decide)
      exact okb fg rfl (by go_simp)
     ·intro ev w hc hf hg hfix hdep hbel
      have fg : ev (.tmp 19) = _ := hdep 4 (by decide)
      have e25 : ev (.tmp 25) = _ := hdep 10 (by decide)
      have e26 : ev (.tmp 26) = _ := hdep 11 (by decide)
      exact okb fg rfl (by go_simp)
     ·intro ev w hc hf hg hfix hdep hbel
      have fg : ev (.tmp 19) = _ := hdep 4 (by decide)
      have e27 : ev (.tmp 27) = _ := hdep 12 (by decide)
      exact okb fg rfl (by go_simp)
     ·intro ev w hc hf hg hfix hdep hbel
      have fg : ev (.tmp 19) = _ := hdep 4 (by decide)
      have e28 : ev (.tmp 28) = _ := hdep 13 (by decide)
      obtain ⟨b0, b1, b2, b3, b4, q0, q1, q2, q3, q4⟩ := HC.out w (undrew hbel)
      exact okb fg rfl (by go_simp)
     ·intro ev w hc hf hg hfix hdep hbel
      have fg : ev (.tmp 19) = _ := hdep 4 (by decide)
      have e3 : ev (.tmp 3) = _ := hfix 3 (by decide)
      exact okb fg rfl (by go_simp)
     ·intro ev w hc hf hg hfix hdep hbel
      have fg : ev (.tmp 19) = _ := hdep 4 (by decide)
      have e30 : ev (.tmp 30) = _ := hdep 15 (by decide)
      obtain ⟨b0, b1, b2, b3, b4, q0, q1, q2, q3, q4⟩ := HC.out w (undrew hbel)
      exact okb fg rfl (by go_simp)
     ·intro ev w hc hf hg hfix hdep hbel
      have fg : ev (.tmp 19) = _ := hdep 4 (by decide)
      have e3 : ev (.tmp 3) = _ := hfix 3 (by decide)
      exact okb fg rfl (by go_simp)
     ·intro ev w hc hf hg hfix hdep hbel
      have fg : ev (.tmp 19) = _ := hdep 4 (by decide)
      have e32 : ev (.tmp 32) = _ := hdep 17 (by decide)
      obtain ⟨b0, b1, b2, b3, b4, q0, q1, q2, q3, q4⟩ := HC.out w (undrew hbel)
      exact okb fg rfl (by go_simp)
     ·intro ev w hc hf hg hfix hdep hbel
      have fg : ev (.tmp 19) = _ := hdep 4 (by decide)
      have e24 : ev (.tmp 24) = _ := hdep 9 (by decide)
      have e29 : ev (.tmp 29) = _ := hdep 14 (by decide)
      have e31 : ev (.tmp 31) = _ := hdep 16 (by decide)
      have e33 : ev (.tmp 33) = _ := hdep 18 (by decide)
      refine Or.inl ⟨fg, Or.inr ⟨16, #[.int .u64 (y.1 : Int), .agg #[.int .u8 (y.2.1.1.1 : Int), .int .u32 (y.2.1.1.2 : Int), .int .u64 (y.2.1.2 : Int)], .int .u64 (z.1 : Int), .agg #[.int .u8 (z.2.1.1.1 : Int), .int .u32 (z.2.1.1.2 : Int), .int .u64 (z.2.1.2 : Int)]], w, by go_simp, ?_⟩⟩
      refine (refahead_any y.1 y.2.1.1.1 y.2.1.1.2 y.2.1.2 z.1 z.2.1.1.1 z.2.1.1.2 z.2.1.2 w).mono ?_
      rintro e w2 ⟨rfl, hb⟩
      exact ⟨_, rfl, by rw [← HA.out]; rfl, hb⟩
     ·intro ev w hc hf hg hfix hdep hbel
      have e19 : ev (.tmp 19) = _ := hdep 4 (by decide)
      have e34 : ev (.tmp 34) = _ := hdep 19 (by decide)
      exact okb trivial rfl (by go_simp)
    ·intro v w2 hv hb2
     have r0 : v 0 = _ := hv 0 (by decide)
     have r1 : v 1 = _ := hv 1 (by decide)
     have r2 : v 2 = _ := hv 2 (by decide)
     have r3 : v 3 = _ := hv 3 (by decide)
     have r4 : v 4 = _ := hv 4 (by decide)
     have r5 : v 5 = _ := hv 5 (by decide)
     have r6 : v 6 = _ := hv 6 (by decide)
     have r7 : v 7 = _ := hv 7 (by decide)
     have r8 : v 8 = _ := hv 8 (by decide)
     have r9 : v 9 = _ := hv 9 (by decide)
     have r10 : v 10 = _ := hv 10 (by decide)
     have r11 : v 11 = _ := hv 11 (by decide)
     have r12 : v 12 = _ := hv 12 (by decide)
     have r13 : v 13 = _ := hv 13 (by decide)
     have r14 : v 14 = _ := hv 14 (by decide)
     have r15 : v 15 = _ := hv 15 (by decide)
     have r16 : v 16 = _ := hv 16 (by decide)
     have r17 : v 17 = _ := hv 17 (by decide)
     have r18 : v 18 = _ := hv 18 (by decide)
     have r19 : v 19 = _ := hv 19 (by decide)
     have r20 : v 20 = _ := hv 20 (by decide)
     simp only [Reg.putAll, Act.put, List.setIfInBounds_toArray, List.set_cons_zero, List.set_cons_succ, r0, r1, r2, r3, r4, r5, r6, r7, r8, r9, r10, r11, r12, r13, r14, r15, r16, r17, r18, r19, r20]
     clear r0 r1 r2 r3 r4 r5 r6 r7 r8 r9 r10 r11 r12 r13 r14 r15 r16 r17 r18 r19 r20 hv
     have hO1 := HO.out.below hb2
     have HW1' := Lib.hid (HW.out.trans (hb2.mono HW.out.size))
     obtain ⟨b0, b1, b2, b3, b4, q0, q1, q2, q3, q4⟩ := HC.out w2 hb2
     have hl1 : (l.take i).length ≤ 1000000 := by rw [List.length_take]; omega
     obtain ⟨v', w3, row', h1, h2, h3, h4⟩ := app1I u5 row _ y X.heap.size w2 hO1 hl1 38
     rw [← take_one HY.out] at h2
     have HO1 := Lib.hid hO1; have H2 := Lib.hid h2; have H3 := Lib.hid h3
     clear hO1 h2 h3 h4 hb2 b0 b1 b2 b3 b4
     go_wp2_with (at_builtin; refine Lib.wpList_append_run _ rfl _ _ _ _ rfl _ _ rfl rfl _ _ h1 ?_)
     clear h1 q0 q1 q2 q3 q4
     go_roundw
     case rel => exact ⟨i + 1, row', by go_num, by omega, H2.out, ((HW1'.out.alloc HW1'.out.size _).grown H3.out (by simp; have := HW1'.out.size; omega) (fun b e => (HO1.out.lt b e).1)), fun x hx => by
      rw [take_one HY.out] at hx
      rcases List.mem_append.1 hx with h | h
      ·exact HAll.out x h
      ·rw [List.mem_singleton.1 h]; exact HA.out⟩
     case measure => simp [intOf]; omega
  ·obtain rfl : i = n := by omega
   have hC : ∀ w2, Below wr.heap.size wr w2 → True := fun _ _ => trivial
   clear hC hz
   have hall := HAll.out
   rw [List.take_of_length_le (Nat.le_of_eq HL.out)] at hall
   go_wp2_with fail
   refine Reg.region_list (by kernel_rfl) [fun v _ => v = .int .i64 (i : Int), fun v _ => v = .slice a i cap, fun v _ => v = .int .i64 i, fun v _ => v = .bool false, fun v _ => v = .bool false, fun v _ => v = undef, fun v _ => v = undef, fun v _ => v = undef, fun v _ => v = undef, fun v _ => v = undef, fun v _ => v = undef, fun v _ => v = undef, fun v _ => v = undef, fun v _ => v = undef, fun v _ => v = undef, fun v _ => v = undef, fun v _ => v = undef, fun v _ => v = undef, fun v _ => v = undef, fun v _ => v = undef, fun v _ => v = .bool false] (by kernel_rfl) ?_ ?_ ?_
   ·refine ⟨k4, k4, k4, k4, k4, k4, k4, k4, k4, k4, k4, k4, k4, k4, k4, k4, k4, k4, k4, k4, k4, trivial⟩
   ·refine ⟨?_, ?_, ?_, ?_, ?_, ?_, ?_, ?_, ?_, ?_, ?_, ?_, ?_, ?_, ?_, ?_, ?_, ?_, ?_, ?_, ?_, trivial⟩
    ·intro ev w hc hf hg hfix hdep hbel
     have e6 : ev (.tmp 6) = _ := hfix 6 (by decide)
     exact okb trivial rfl (by go_simp)
    ·intro ev w hc hf hg hfix hdep hbel
     have e0 : ev (.tmp 0) = _ := hfix 0 (by decide)
     exact okb trivial rfl (by go_simp)
    ·intro ev w hc hf hg hfix hdep hbel
     have e16 : ev (.tmp 16) = _ := hdep 1 (by decide)
     exact okb trivial rfl (by go_simp)
    ·intro ev w hc hf hg hfix hdep hbel
     have e15 : ev (.tmp 15) = _ := hdep 0 (by decide)
     have e17 : ev (.tmp 17) = _ := hdep 2 (by decide)
     exact okb trivial rfl (by go_simp)
    ·intro ev w hc hf hg hfix hdep hbel
     have e18 : ev (.tmp 18) = _ := hdep 3 (by decide)
     exact okb trivial rfl (by go_simp)
    ·intro ev w hc hf hg hfix hdep hbel
     have fg : ev (.tmp 19) = _ := hdep 4 (by decide)
     exact Or.inr ⟨Or.inl fg, rfl⟩
    ·intro ev w hc hf hg hfix hdep hbel
     have fg : ev (.tmp 19) = _ := hdep 4 (by decide)
     exact Or.inr ⟨Or.inl fg, rfl⟩
    ·intro ev w hc hf hg hfix hdep hbel
     have fg : ev (.tmp 19) = _ := hdep 4 (by decide)
     exact Or.inr ⟨Or.inl fg, rfl⟩
    ·intro ev w hc hf hg hfix hdep hbel
     have fg : ev (.tmp 19) = _ := hdep 4 (by decide)
     exact Or.inr ⟨Or.inl fg, rfl⟩
    ·intro ev w hc hf hg hfix hdep hbel
     have fg : ev (.tmp 19) = _ := hdep 4 (by decide)
     exact Or.inr ⟨Or.inl fg, rfl⟩
    ·intro ev w hc hf hg hfix hdep hbel
     have fg : ev (.tmp 19) = _ := hdep 4 (by decide)
     exact Or.inr ⟨Or.inl fg, rfl⟩
    ·intro ev w hc hf hg hfix hdep hbel
     have fg : ev (.tmp 19) = _ := hdep 4 (by decide)
     exact Or.inr ⟨Or.inl fg, rfl⟩
    ·intro ev w hc hf hg hfix hdep hbel
     have fg : ev (.tmp 19) = _ := hdep 4 (by decide)
     exact Or.inr ⟨Or.inl fg, rfl⟩
    ·intro ev w hc hf hg hfix hdep hbel
     have fg : ev (.tmp 19) = _ := hdep 4 (by decide)
     exact Or.inr ⟨Or.inl fg, rfl⟩
    ·intro ev w hc hf hg hfix hdep hbel
     have fg : ev (.tmp 19) = _ := hdep 4 (by decide)
     exact Or.inr ⟨Or.inl fg, rfl⟩
    ·intro ev w hc hf hg hfix hdep hbel
     have fg : ev (.tmp 19) = _ := hdep 4 (by decide)
     exact Or.inr ⟨Or.inl fg, rfl⟩
    ·intro ev w hc hf hg hfix hdep hbel
     have fg : ev (.tmp 19) = _ := hdep 4 (by decide)
     exact Or.inr ⟨Or.inl fg, rfl⟩
    ·intro ev w hc hf hg hfix hdep hbel
     have fg : ev (.tmp 19) = _ := hdep 4 (by decide)
     exact Or.inr ⟨Or.inl fg, rfl⟩
    ·intro ev w hc hf hg hfix hdep hbel
     have fg : ev (.tmp 19) = _ := hdep 4 (by decide)
     exact Or.inr ⟨Or.inl fg, rfl⟩
    ·intro ev w hc hf hg hfix hdep hbel
     have fg : ev (.tmp 19) = _ := hdep 4 (by decide)
     exact Or.inr ⟨Or.inl fg, rfl⟩
    ·intro ev w hc hf hg hfix hdep hbel
     have e19 : ev (.tmp 19) = _ := hdep 4 (by decide)
     have e34 : ev (.tmp 34) = _ := hdep 19 (by decide)
     exact okb trivial rfl (by go_simp)
   ·intro v w2 hv hb2
    have r0 : v 0 = _ := hv 0 (by decide)
    have r1 : v 1 = _ := hv 1 (by decide)
    have r2 : v 2 = _ := hv 2 (by decide)
    have r3 : v 3 = _ := hv 3 (by decide)
    have r4 : v 4 = _ := hv 4 (by decide)
    have r5 : v 5 = _ := hv 5 (by decide)
    have r6 : v 6 = _ := hv 6 (by decide)
    have r7 : v 7 = _ := hv 7 (by decide)
    have r8 : v 8 = _ := hv 8 (by decide)
    have r9 : v 9 = _ := hv 9 (by decide)
    have r10 : v 10 = _ := hv 10 (by decide)
    have r11 : v 11 = _ := hv 11 (by decide)
    have r12 : v 12 = _ := hv 12 (by decide)
    have r13 : v 13 = _ := hv 13 (by decide)
    have r14 : v 14 = _ := hv 14 (by decide)
    have r15 : v 15 = _ := hv 15 (by decide)
    have r16 : v 16 = _ := hv 16 (by decide)
    have r17 : v 17 = _ := hv 17 (by decide)
    have r18 : v 18 = _ := hv 18 (by decide)
    have r19 : v 19 = _ := hv 19 (by decide)
    have r20 : v 20 = _ := hv 20 (by decide)
    simp only [Reg.putAll, Act.put, List.setIfInBounds_toArray, List.set_cons_zero, List.set_cons_succ, r0, r1, r2, r3, r4, r5, r6, r7, r8, r9, r10, r11, r12, r13, r14, r15, r16, r17, r18, r19, r20]
    clear r0 r1 r2 r3 r4 r5 r6 r7 r8 r9 r10 r11 r12 r13 r14 r15 r16 r17 r18 r19 r20 hv
    by_cases hcn : cap = i
    ·have HZ8 := Lib.hid (HZ.out.below (HW.out.trans (hb2.mono HW.out.size)))
     have HO8 := Lib.hid (HO.out.below hb2)
     have HW8 := Lib.hid (HW.out.trans (hb2.mono HW.out.size))
     have hT : ∀ w, Below X.heap.size X w → Src Try.prog 5 38 (.slice a 0 0) (l.drop i).length ((l.drop i).flatMap encI) w := fun w hb => by
      rw [List.drop_of_length_le (Nat.le_of_eq HL.out)]
      exact srcE_I w _ _
     have HTail := Lib.hid hT
     clear hT hb2
     go_wp2_with fail
     refine RegD.region_list (by kernel_rfl) (fun _ => True) [3, 7] [8] [RegD.plain (fun v _ => v = u5), RegD.plain (fun v _ => v = .agg #[.int .u64 (z.1 : Int), .int .u8 (z.2.1.1.1 : Int), .int .u32 (z.2.1.1.2 : Int), .int .u64 (z.2.1.2 : Int), .string z.2.2]), RegD.plain (fun v w => ∃ b, v = .slice (some ⟨b, 0, none⟩) 1 1 ∧ Blk w b 51 (encI z) ∧ w2.heap.size ≤ b), RegD.change (fun v w => ∃ row1, OwnI X.heap.size w v (l.take i ++ [z]) row1 ∧ (row1 = row ∨ ∃ q, row1 = some q ∧ w2.heap.size ≤ q)) (fun k => some k = row) (Chg (fun k => some k = row)), RegD.plain (fun v _ => v = .slice a i cap), RegD.plain (fun v _ => v = .int .i64 (i : Int)), RegD.plain (fun v _ => v = .slice a 0 0), RegD.change (fun v w => ∃ row2, OwnI X.heap.size w v (l.take i ++ [z] ++ l.drop i) row2) (fun k => some k = row ∨ w2.heap.size ≤ k) (Chg (fun k => some k = row ∨ w2.heap.size ≤ k)), RegD.plain (fun v w => ∃ row2, OwnI X.heap.size w v (l.take i ++ [z] ++ l.drop i) row2)] (by kernel_rfl) (trivial) (fun (_ _ : World) _ _ => trivial) ?_ ?_ ?_ ?_ ?_ ?_
     ·exact ⟨Or.inr ⟨fun _ h => h, rfl⟩, Or.inr ⟨fun _ h => h, rfl⟩, Or.inr ⟨fun _ h => h, rfl⟩, Or.inl (by decide), Or.inr ⟨fun _ h => h, rfl⟩, Or.inr ⟨fun _ h => h, rfl⟩, Or.inr ⟨fun _ h => h, rfl⟩, Or.inl (by decide), Or.inr ⟨fun _ h => h, rfl⟩, trivial⟩
     ·exact ⟨⟨fun _ _ h => h, fun wx wy h => (fun (_ _ : World) _ _ => trivial) wx wy (RegD.to_below h (fun _ h => h))⟩, ⟨fun _ _ h => h, fun wx wy h => (fun (_ _ : World) _ _ => trivial) wx wy (RegD.to_below h (fun _ h => h))⟩, ⟨fun _ _ h => h, fun wx wy h => (fun (_ _ : World) _ _ => trivial) wx wy (RegD.to_below h (fun _ h => h))⟩, ⟨(fun _ _ h => h), (fun _ _ _ _ => trivial)⟩, ⟨fun _ _ h => h, fun wx wy h => (fun (_ _ : World) _ _ => trivial) wx wy (RegD.to_below h (fun _ h => h))⟩, ⟨fun _ _ h => h, fun wx wy h => (fun (_ _ : World) _ _ => trivial) wx wy (RegD.to_below h (fun _ h => h))⟩, ⟨fun _ _ h => h, fun wx wy h => (fun (_ _ : World) _ _ => trivial) wx wy (RegD.to_below h (fun _ h => h))⟩, ⟨(fun _ _ h => h), (fun _ _ _ _ => trivial)⟩, ⟨fun _ _ h => h, fun wx wy h => (fun (_ _ : World) _ _ => trivial) wx wy (RegD.to_below h (fun _ h => h))⟩, trivial⟩
     ·refine ⟨k4, k4, (fun v wa wb hb h => by obtain ⟨b, h1, h2, h3⟩ := h; exact ⟨b, h1, h2.below hb, h3⟩), (fun v wa wb hb h => by obtain ⟨row1, h1, h2⟩ := h; exact ⟨row1, h1.below hb, h2⟩), k4, k4, k4, (fun v wa wb hb h => by obtain ⟨row2, h1⟩ := h; exact ⟨row2, h1.below hb⟩), (fun v wa wb hb h => by obtain ⟨row2, h1⟩ := h; exact ⟨row2, h1.below hb⟩), trivial⟩
     ·refine ⟨⟨Or.inr (Or.inr (Or.inr k4)), Or.inr (Or.inr (Or.inr k4)), Or.inr (Or.inr (Or.inl (by kernel_rfl))), Or.inl rfl, Or.inr (Or.inr (Or.inr k4)), Or.inr (Or.inr (Or.inr k4)), Or.inr (Or.inr (Or.inr k4)), Or.inr (Or.inl (by kernel_rfl)), Or.inr (Or.inl (by kernel_rfl)), trivial⟩, ⟨Or.inr (Or.inr (Or.inr k4)), Or.inr (Or.inr (Or.inr k4)), Or.inr (Or.inr (Or.inl (by kernel_rfl))), Or.inr (Or.inr (Or.inl (by kernel_rfl))), Or.inr (Or.inr (Or.inr k4)), Or.inr (Or.inr (Or.inr k4)), Or.inr (Or.inr (Or.inr k4)), Or.inl rfl, Or.inr (Or.inl (by kernel_rfl)), trivial⟩, trivial⟩
     ·refine ⟨?_, ?_, ?_, ?_, ?_, ?_, ?_, ?_, ?_, trivial⟩
      ·intro ev w hc hf hg hfix hdep hchg hinv
       have e5 : ev (.tmp 5) = _ := hfix 5 (by decide)
       exact Or.inl ⟨trivial, Or.inl ⟨_, w, by go_simp, rfl, Chg.refl _ _⟩⟩
      ·intro ev w hc hf hg hfix hdep hchg hinv
       have e3 : ev (.tmp 3) = _ := hfix 3 (by decide)
       have hz := HZ8.out.below (RegD.chg0 (hchg [] (by kernel_rfl)))
       have b0 := hz.cell 0; have b1 := hz.cell 1; have b2 := hz.cell 2; have b3 := hz.cell 3; have b4 := hz.cell 4
       simp only [encI, List.getElem?_cons_succ, List.getElem?_cons_zero] at b0 b1 b2 b3 b4
       exact Or.inl ⟨trivial, Or.inl ⟨_, w, by go_simp, rfl, Chg.refl _ _⟩⟩
      ·intro ev w hc hf hg hfix hdep hchg hinv
       have e46 : ev (.tmp 46) = _ := hdep 1 (by decide)
       exact Or.inl ⟨trivial, Or.inl ⟨.slice (some ⟨w.heap.size, 0, none⟩) 1 1, w.alloc (.cells #[.int .u64 (z.1 : Int), .int .u8 (z.2.1.1.1 : Int), .int .u32 (z.2.1.1.2 : Int), .int .u64 (z.2.1.2 : Int), .string z.2.2] 51), by go_simp, ⟨w.heap.size, rfl, Blk.new w _ _, (RegD.chg0 (hchg [] (by kernel_rfl))).size⟩, (Chg.refl _ w).alloc _⟩⟩
      ·intro ev w hc hf hg hfix hdep hchg hinv
       have e45 : ev (.tmp 45) = _ := hdep 0 (by decide)
       have e47 := hdep 2 (by decide)
       obtain ⟨b, hv, hbk, hbu⟩ := e47
       have e47 : ev (.tmp 47) = .slice (some ⟨b, 0, none⟩) 1 1 := hv
       have hb0 : Below w2.heap.size w2 w := RegD.chg0 (hchg [] (by kernel_rfl))
       obtain ⟨v', w', row', h1, h2, h3, h4⟩ := appsI u5 row (l.take i) [z] _ X.heap.size w (HO8.out.below hb0) (src1I w b z hbk) (by have := HL.out; simp; omega) 38
       refine Or.inl ⟨trivial, Or.inl ⟨v', w', RegD.exec_append (.tmp 45) (.tmp 47) 38 38 rfl e45 e47 h1, ⟨row', h2, ?_⟩, (Chg.of_grown h3).mono (fun k _ e => e)⟩⟩
       rcases h4 with rfl | ⟨q, rfl, hq⟩
       ·exact Or.inl rfl
       ·exact Or.inr ⟨q, rfl, Nat.le_trans hb0.size hq⟩
      ·intro ev w hc hf hg hfix hdep hchg hinv
       have e0 : ev (.tmp 0) = _ := hfix 0 (by decide)
       exact Or.inl ⟨trivial, Or.inl ⟨_, w, by go_simp, rfl, Chg.refl _ _⟩⟩
      ·intro ev w hc hf hg hfix hdep hchg hinv
       have e6 : ev (.tmp 6) = _ := hfix 6 (by decide)
       exact Or.inl ⟨trivial, Or.inl ⟨_, w, by go_simp, rfl, Chg.refl _ _⟩⟩
      ·intro ev w hc hf hg hfix hdep hchg hinv
       have e49 : ev (.tmp 49) = _ := hdep 4 (by decide)
       have e50 : ev (.tmp 50) = _ := hdep 5 (by decide)
       exact Or.inl ⟨trivial, Or.inl ⟨.slice a 0 0, w, by go_simp; try (intro h; omega), rfl, Chg.refl _ _⟩⟩
      ·intro ev w hc hf hg hfix hdep hchg hinv
       have e48 := hdep 3 (by decide)
       have e51 : ev (.tmp 51) = _ := hdep 6 (by decide)
       obtain ⟨row1, h1, h2⟩ := e48
       have hc := RegD.chg1 (hchg [3] (by kernel_rfl))
       have hbw : Below X.heap.size X w := Chg.belowTrans HW8.out hc (fun k _ e => (HO8.out.lt k (Eq.symm e)).1) HW8.out.size
       obtain ⟨v', w', row', g1, g2, g3, g4⟩ := appsI _ row1 (l.take i ++ [z]) (l.drop i) (.slice a 0 0) X.heap.size w h1 (HTail.out w hbw) (by have := HL.out; simp; omega) 38
       have hS7 : ∀ j, some j = row1 → (fun k => some k = row ∨ w2.heap.size ≤ k) j := fun j e => by
        rcases h2 with h2 | ⟨q, h2, hq⟩
        ·exact Or.inl (e.trans h2)
        ·rw [h2] at e; cases e; exact Or.inr hq
       exact Or.inl ⟨trivial, Or.inl ⟨v', w', RegD.exec_append (.tmp 48) (.tmp 51) 38 38 rfl rfl e51 g1, ⟨row', g2⟩, (Chg.of_grown g3).mono (fun j _ e => hS7 j e)⟩⟩
      ·intro ev w hc hf hg hfix hdep hchg hinv
       have e52 := hdep 7 (by decide)
       obtain ⟨row2, h1⟩ := e52
       exact Or.inl ⟨trivial, Or.inl ⟨ev (.tmp 52), w, by go_simp, ⟨row2, h1⟩, Chg.refl _ w⟩⟩
     ·intro v w2 hv hb2 hJ2
      have r8 := hv 8 (by decide) (by decide)
      simp only [Reg.putAll, Act.put, List.setIfInBounds_toArray, List.set_cons_zero, List.set_cons_succ]
      clear hv
      obtain ⟨row2, hfin⟩ := r8
      have hc2 := RegD.end2 hb2
      have hbw := Chg.belowTrans HW8.out hc2 (fun k hk e => by rcases e with e | e | e; exact (HO8.out.lt k (Eq.symm e)).1; exact (HO8.out.lt k (Eq.symm e)).1; exact Nat.le_trans HW8.out.size e) HW8.out.size
      obtain ⟨eqs1, eqs2⟩ := split_end (fun y => Lm.aheadI y z) l hall
      have eqs1 : l.take i = l.takeWhile (fun y => Lm.aheadI y z) := by rw [eqs1]; exact List.take_of_length_le (Nat.le_of_eq HL.out)
      have eqs2 : l.drop i = l.dropWhile (fun y => Lm.aheadI y z) := by rw [eqs2]; exact List.drop_of_length_le (Nat.le_of_eq HL.out)
      rw [eqs1, eqs2, List.append_assoc, List.singleton_append] at hfin
      obtain ⟨a', c', hv8, hrow⟩ := ownI_rowS (hfin.base (B' := W.heap.size) (by omega)) (fun x hx => by rcases mem_split hx with rfl | h; exact HOkz.out; exact HR.out.ok x h)
      have HRow := Lib.hid hrow; have HBw := Lib.hid hbw
      clear hb2 hc2 hfin hbw hrow eqs1 eqs2
      simp only [Nat.zero_add, Nat.reduceAdd]
      rw [hv8]
      clear hv8
      go_wp2_with fail
      go_ret
      exact ⟨⟨a', c', rfl, HRow.out⟩, HWX.out.trans (HBw.out.mono HWX.out.size)⟩


    ·have HZ8 := Lib.hid (HZ.out.below (HW.out.trans (hb2.mono HW.out.size)))
     have HO8 := Lib.hid (HO.out.below hb2)
     have HW8 := Lib.hid (HW.out.trans (hb2.mono HW.out.size))
     have hT : ∀ w, Below X.heap.size X w → Src Try.prog 5 38 (.slice (Option.map (fun x => x.add (i * 5)) a) 0 (cap - i)) (l.drop i).length ((l.drop i).flatMap encI) w := fun w hb => by
      rw [List.drop_of_length_le (Nat.le_of_eq HL.out)]
      exact srcE_I w _ _
     have HTail := Lib.hid hT
     clear hT hb2
     go_wp2_with fail
     refine RegD.region_list (by kernel_rfl) (fun _ => True) [3, 7] [8] [RegD.plain (fun v _ => v = u5), RegD.plain (fun v _ => v = .agg #[.int .u64 (z.1 : Int), .int .u8 (z.2.1.1.1 : Int), .int .u32 (z.2.1.1.2 : Int), .int .u64 (z.2.1.2 : Int), .string z.2.2]), RegD.plain (fun v w => ∃ b, v = .slice (some ⟨b, 0, none⟩) 1 1 ∧ Blk w b 51 (encI z) ∧ w2.heap.size ≤ b), RegD.change (fun v w => ∃ row1, OwnI X.heap.size w v (l.take i ++ [z]) row1 ∧ (row1 = row ∨ ∃ q, row1 = some q ∧ w2.heap.size ≤ q)) (fun k => some k = row) (Chg (fun k => some k = row)), RegD.plain (fun v _ => v = .slice a i cap), RegD.plain (fun v _ => v = .int .i64 (i : Int)), RegD.plain (fun v _ => v = .slice (Option.map (fun x => x.add (i * 5)) a) 0 (cap - i)), RegD.change (fun v w => ∃ row2, OwnI X.heap.size w v (l.take i ++ [z] ++ l.drop i) row2) (fun k => some k = row ∨ w2.heap.size ≤ k) (Chg (fun k => some k = row ∨ w2.heap.size ≤ k)), RegD.plain (fun v w => ∃ row2, OwnI X.heap.size w v (l.take i ++ [z] ++ l.drop i) row2)] (by kernel_rfl) (trivial) (fun (_ _ : World) _ _ => trivial) ?_ ?_ ?_ ?_ ?_ ?_
     ·exact ⟨Or.inr ⟨fun _ h => h, rfl⟩, Or.inr ⟨fun _ h => h, rfl⟩, Or.inr ⟨fun _ h => h, rfl⟩, Or.inl (by decide), Or.inr ⟨fun _ h => h, rfl⟩, Or.inr ⟨fun _ h => h, rfl⟩, Or.inr ⟨fun _ h => h, rfl⟩, Or.inl (by decide), Or.inr ⟨fun _ h => h, rfl⟩, trivial⟩
     ·exact ⟨⟨fun _ _ h => h, fun wx wy h => (fun (_ _ : World) _ _ => trivial) wx wy (RegD.to_below h (fun _ h => h))⟩, ⟨fun _ _ h => h, fun wx wy h => (fun (_ _ : World) _ _ => trivial) wx wy (RegD.to_below h (fun _ h => h))⟩, ⟨fun _ _ h => h, fun wx wy h => (fun (_ _ : World) _ _ => trivial) wx wy (RegD.to_below h (fun _ h => h))⟩, ⟨(fun _ _ h => h), (fun _ _ _ _ => trivial)⟩, ⟨fun _ _ h => h, fun wx wy h => (fun (_ _ : World) _ _ => trivial) wx wy (RegD.to_below h (fun _ h => h))⟩, ⟨fun _ _ h => h, fun wx wy h => (fun (_ _ : World) _ _ => trivial) wx wy (RegD.to_below h (fun _ h => h))⟩, ⟨fun _ _ h => h, fun wx wy h => (fun (_ _ : World) _ _ => trivial) wx wy (RegD.to_below h (fun _ h => h))⟩, ⟨(fun _ _ h => h), (fun _ _ _ _ => trivial)⟩, ⟨fun _ _ h => h, fun wx wy h => (fun (_ _ : World) _ _ => trivial) wx wy (RegD.to_below h (fun _ h => h))⟩, trivial⟩
     ·refine ⟨k4, k4, (fun v wa wb hb h => by obtain ⟨b, h1, h2, h3⟩ := h; exact ⟨b, h1, h2.below hb, h3⟩), (fun v wa wb hb h => by obtain ⟨row1, h1, h2⟩ := h; exact ⟨row1, h1.below hb, h2⟩), k4, k4, k4, (fun v wa wb hb h => by obtain ⟨row2, h1⟩ := h; exact ⟨row2, h1.below hb⟩), (fun v wa wb hb h => by obtain ⟨row2, h1⟩ := h; exact ⟨row2, h1.below hb⟩), trivial⟩
     ·refine ⟨⟨Or.inr (Or.inr (Or.inr k4)), Or.inr (Or.inr (Or.inr k4)), Or.inr (Or.inr (Or.inl (by kernel_rfl))), Or.inl rfl, Or.inr (Or.inr (Or.inr k4)), Or.inr (Or.inr (Or.inr k4)), Or.inr (Or.inr (Or.inr k4)), Or.inr (Or.inl (by kernel_rfl)), Or.inr (Or.inl (by kernel_rfl)), trivial⟩, ⟨Or.inr (Or.inr (Or.inr k4)), Or.inr (Or.inr (Or.inr k4)), Or.inr (Or.inr (Or.inl (by kernel_rfl))), Or.inr (Or.inr (Or.inl (by kernel_rfl))), Or.inr (Or.inr (Or.inr k4)), Or.inr (Or.inr (Or.inr k4)), Or.inr (Or.inr (Or.inr k4)), Or.inl rfl, Or.inr (Or.inl (by kernel_rfl)), trivial⟩, trivial⟩
     ·refine ⟨?_, ?_, ?_, ?_, ?_, ?_, ?_, ?_, ?_, trivial⟩
      ·intro ev w hc hf hg hfix hdep hchg hinv
       have e5 : ev (.tmp 5) = _ := hfix 5 (by decide)
       exact Or.inl ⟨trivial, Or.inl ⟨_, w, by go_simp, rfl, Chg.refl _ _⟩⟩
      ·intro ev w hc hf hg hfix hdep hchg hinv
       have e3 : ev (.tmp 3) = _ := hfix 3 (by decide)
       have hz := HZ8.out.below (RegD.chg0 (hchg [] (by kernel_rfl)))
       have b0 := hz.cell 0; have b1 := hz.cell 1; have b2 := hz.cell 2; have b3 := hz.cell 3; have b4 := hz.cell 4
       simp only [encI, List.getElem?_cons_succ, List.getElem?_cons_zero] at b0 b1 b2 b3 b4
       exact Or.inl ⟨trivial, Or.inl ⟨_, w, by go_simp, rfl, Chg.refl _ _⟩⟩
      ·intro ev w hc hf hg hfix hdep hchg hinv
       have e46 : ev (.tmp 46) = _ := hdep 1 (by decide)
       exact Or.inl ⟨trivial, Or.inl ⟨.slice (some ⟨w.heap.size, 0, none⟩) 1 1, w.alloc (.cells #[.int .u64 (z.1 : Int), .int .u8 (z.2.1.1.1 : Int), .int .u32 (z.2.1.1.2 : Int), .int .u64 (z.2.1.2 : Int), .string z.2.2] 51), by go_simp, ⟨w.heap.size, rfl, Blk.new w _ _, (RegD.chg0 (hchg [] (by kernel_rfl))).size⟩, (Chg.refl _ w).alloc _⟩⟩
      ·intro ev w hc hf hg hfix hdep hchg hinv
       have e45 : ev (.tmp 45) = _ := hdep 0 (by decide)
       have e47 := hdep 2 (by decide)
       obtain ⟨b, hv, hbk, hbu⟩ := e47
       have e47 : ev (.tmp 47) = .slice (some ⟨b, 0, none⟩) 1 1 := hv
       have hb0 : Below w2.heap.size w2 w := RegD.chg0 (hchg [] (by kernel_rfl))
       obtain ⟨v', w', row', h1, h2, h3, h4⟩ := appsI u5 row (l.take i) [z] _ X.heap.size w (HO8.out.below hb0) (src1I w b z hbk) (by have := HL.out; simp; omega) 38
       refine Or.inl ⟨trivial, Or.inl ⟨v', w', RegD.exec_append (.tmp 45) (.tmp 47) 38 38 rfl e45 e47 h1, ⟨row', h2, ?_⟩, (Chg.of_grown h3).mono (fun k _ e => e)⟩⟩
       rcases h4 with rfl | ⟨q, rfl, hq⟩
       ·exact Or.inl rfl
       ·exact Or.inr ⟨q, rfl, Nat.le_trans hb0.size hq⟩
      ·intro ev w hc hf hg hfix hdep hchg hinv
       have e0 : ev (.tmp 0) = _ := hfix 0 (by decide)
       exact Or.inl ⟨trivial, Or.inl ⟨_, w, by go_simp, rfl, Chg.refl _ _⟩⟩
      ·intro ev w hc hf hg hfix hdep hchg hinv
       have e6 : ev (.tmp 6) = _ := hfix 6 (by decide)
       exact Or.inl ⟨trivial, Or.inl ⟨_, w, by go_simp, rfl, Chg.refl _ _⟩⟩
      ·intro ev w hc hf hg hfix hdep hchg hinv
       have e49 : ev (.tmp 49) = _ := hdep 4 (by decide)
       have e50 : ev (.tmp 50) = _ := hdep 5 (by decide)
       exact Or.inl ⟨trivial, Or.inl ⟨.slice (Option.map (fun x => x.add (i * 5)) a) 0 (cap - i), w, by go_simp; try (intro h; omega), rfl, Chg.refl _ _⟩⟩
      ·intro ev w hc hf hg hfix hdep hchg hinv
       have e48 := hdep 3 (by decide)
       have e51 : ev (.tmp 51) = _ := hdep 6 (by decide)
       obtain ⟨row1, h1, h2⟩ := e48
       have hc := RegD.chg1 (hchg [3] (by kernel_rfl))
       have hbw : Below X.heap.size X w := Chg.belowTrans HW8.out hc (fun k _ e => (HO8.out.lt k (Eq.symm e)).1) HW8.out.size
       obtain ⟨v', w', row', g1, g2, g3, g4⟩ := appsI _ row1 (l.take i ++ [z]) (l.drop i) (.slice (Option.map (fun x => x.add (i * 5)) a) 0 (cap - i)) X.heap.size w h1 (HTail.out w hbw) (by have := HL.out; simp; omega) 38
       have hS7 : ∀ j, some j = row1 → (fun k => some k = row ∨ w2.heap.size ≤ k) j := fun j e => by
        rcases h2 with h2 | ⟨q, h2, hq⟩
        ·exact Or.inl (e.trans h2)
        ·rw [h2] at e; cases e; exact Or.inr hq
       exact Or.inl ⟨trivial, Or.inl ⟨v', w', RegD.exec_append (.tmp 48) (.tmp 51) 38 38 rfl rfl e51 g1, ⟨row', g2⟩, (Chg.of_grown g3).mono (fun j _ e => hS7 j e)⟩⟩
      ·intro ev w hc hf hg hfix hdep hchg hinv
       have e52 := hdep 7 (by decide)
       obtain ⟨row2, h1⟩ := e52
       exact Or.inl ⟨trivial, Or.inl ⟨ev (.tmp 52), w, by go_simp, ⟨row2, h1⟩, Chg.refl _ w⟩⟩
     ·intro v w2 hv hb2 hJ2
      have r8 := hv 8 (by decide) (by decide)
      simp only [Reg.putAll, Act.put, List.setIfInBounds_toArray, List.set_cons_zero, List.set_cons_succ]
      clear hv
      obtain ⟨row2, hfin⟩ := r8
      have hc2 := RegD.end2 hb2
      have hbw := Chg.belowTrans HW8.out hc2 (fun k hk e => by rcases e with e | e | e; exact (HO8.out.lt k (Eq.symm e)).1; exact (HO8.out.lt k (Eq.symm e)).1; exact Nat.le_trans HW8.out.size e) HW8.out.size
      obtain ⟨eqs1, eqs2⟩ := split_end (fun y => Lm.aheadI y z) l hall
      have eqs1 : l.take i = l.takeWhile (fun y => Lm.aheadI y z) := by rw [eqs1]; exact List.take_of_length_le (Nat.le_of_eq HL.out)
      have eqs2 : l.drop i = l.dropWhile (fun y => Lm.aheadI y z) := by rw [eqs2]; exact List.drop_of_length_le (Nat.le_of_eq HL.out)
      rw [eqs1, eqs2, List.append_assoc, List.singleton_append] at hfin
      obtain ⟨a', c', hv8, hrow⟩ := ownI_rowS (hfin.base (B' := W.heap.size) (by omega)) (fun x hx => by rcases mem_split hx with rfl | h; exact HOkz.out; exact HR.out.ok x h)
      have HRow := Lib.hid hrow; have HBw := Lib.hid hbw
      clear hb2 hc2 hfin hbw hrow eqs1 eqs2
      simp only [Nat.zero_add, Nat.reduceAdd]
      rw [hv8]
      clear hv8
      go_wp2_with fail
      go_ret
      exact ⟨⟨a', c', rfl, HRow.out⟩, HWX.out.trans (HBw.out.mono HWX.out.size)⟩
set_option maxRecDepth 100000 in
set_option maxHeartbeats 12800000 in
theorem refbury_has (a : Option Addr) (n cap : Nat) (z : Dt.Dot) (l : List Dt.Dot) (W : World) (hr : VRow W a cap l) (hl : l.length = n) (hz : Dt.okD z) (hn : n ≤ 1000000) (hh : Lm.hasD l z = true) :
  Calls Try.prog 19 #[.slice a n cap, dotV z] W fun e w' => e = .returned (.slice a n cap) ∧ Below W.heap.size W w' := by
 have hle := hr.le
 have hcap := hr.cap
 rw [hl] at hle
 obtain ⟨X, hX⟩ : ∃ X, X = (W.alloc (.cells #[.int .u8 (z.1.1 : Int), .int .u32 (z.1.2 : Int), .int .u64 (z.2 : Int)] 31)) := ⟨_, rfl⟩
 have hWX : Below W.heap.size W X := by rw [hX]; exact below_box W _ _
 have hXs : X.heap.size = W.heap.size + 1 := by rw [hX]; simp
 have hZ : Blk X W.heap.size 31 (encD z) := by rw [hX]; exact Blk.new W #[.int .u8 (z.1.1 : Int), .int .u32 (z.1.2 : Int), .int .u64 (z.2 : Int)] 31
 have b0 := hZ.cell 0; have b1 := hZ.cell 1; have b2 := hZ.cell 2
 simp only [encD, List.getElem?_cons_succ, List.getElem?_cons_zero] at b0 b1 b2
 have HR := Lib.hid hr; have HL := Lib.hid hl; have HZ := Lib.hid hZ; have HWX := Lib.hid hWX; have HOkz := Lib.hid hz
 clear hr hl hZ hWX hz
 go_enter Try.func19, Try.ntmps19
 rw [hX] at b0 b1 b2
 go_wp2_with fail
 refine (reftomb_any a n cap z.1.1 z.1.2 z.2 l _ (HR.out.below (below_box W _ _)) HL.out).mono ?_
 rintro e w1 ⟨he, hb⟩
 rw [← hX] at hb
 have he2 : e = .returned (.bool true) := by rw [he, ← hh]
 subst he2
 have HB1 := Lib.hid hb
 have HHas := Lib.hid hh
 have HW1 := Lib.hid (HWX.out.trans (hb.mono HWX.out.size))
 clear he hh hb b0 b1 b2
 go_wp2_with fail
 go_ret
 exact ⟨rfl, HW1.out⟩
set_option maxRecDepth 100000 in
set_option maxHeartbeats 12800000 in
theorem refbury_not (a : Option Addr) (n cap : Nat) (z : Dt.Dot) (l : List Dt.Dot) (W : World) (hr : VRow W a cap l) (hl : l.length = n) (hz : Dt.okD z) (hn : n ≤ 1000000) (hh : Lm.hasD l z = false) :
  Calls Try.prog 19 #[.slice a n cap, dotV z] W fun e w' => (∃ a' c', e = .returned (.slice a' (l.takeWhile (fun y => Dt.less y z) ++ z :: l.dropWhile (fun y => Dt.less y z)).length c') ∧ VRowS W.heap.size w' a' c' (l.takeWhile (fun y => Dt.less y z) ++ z :: l.dropWhile (fun y => Dt.less y z))) ∧ Below W.heap.size W w' := by
 have hle := hr.le
 have hcap := hr.cap
 rw [hl] at hle
 obtain ⟨X, hX⟩ : ∃ X, X = (W.alloc (.cells #[.int .u8 (z.1.1 : Int), .int .u32 (z.1.2 : Int), .int .u64 (z.2 : Int)] 31)) := ⟨_, rfl⟩
 have hWX : Below W.heap.size W X := by rw [hX]; exact below_box W _ _
 have hXs : X.heap.size = W.heap.size + 1 := by rw [hX]; simp
 have hZ : Blk X W.heap.size 31 (encD z) := by rw [hX]; exact Blk.new W #[.int .u8 (z.1.1 : Int), .int .u32 (z.1.2 : Int), .int .u64 (z.2 : Int)] 31
 have b0 := hZ.cell 0; have b1 := hZ.cell 1; have b2 := hZ.cell 2
 simp only [encD, List.getElem?_cons_succ, List.getElem?_cons_zero] at b0 b1 b2
 have HR := Lib.hid hr; have HL := Lib.hid hl; have HZ := Lib.hid hZ; have HWX := Lib.hid hWX; have HOkz := Lib.hid hz
 clear hr hl hZ hWX hz
 go_enter Try.func19, Try.ntmps19
 rw [hX] at b0 b1 b2
 go_wp2_with fail
 refine (reftomb_any a n cap z.1.1 z.1.2 z.2 l _ (HR.out.below (below_box W _ _)) HL.out).mono ?_
 rintro e w1 ⟨he, hb⟩
 rw [← hX] at hb
 have he2 : e = .returned (.bool false) := by rw [he, ← hh]
 subst he2
 have HB1 := Lib.hid hb
 have HHas := Lib.hid hh
 have HW1 := Lib.hid (HWX.out.trans (hb.mono HWX.out.size))
 clear he hh hb b0 b1 b2
 go_wp2_with fail
 go_loopw [5, 6] (fun x v wr => ∃ (i : Nat) (row : Option Nat), v = .int .i64 i ∧ i ≤ n ∧ OwnD X.heap.size wr x (l.take i) row ∧ Below X.heap.size X wr ∧ ∀ y ∈ l.take i, Dt.less y z = true) (fun _ v _ => n - (intOf v).toNat)
 case atStart => exact ⟨0, none, rfl, by omega, Own.empty HB1.out.size none, HB1.out, by simp⟩
 case round =>
  obtain ⟨i, row, rfl, hin, hown, hbel, hall⟩ := hrel
  have HO := Lib.hid hown; have HW := Lib.hid hbel; have HAll := Lib.hid hall
  have hz := HZ.out.below hbel
  have HW2 := Lib.hid (HWX.out.trans (hbel.mono HWX.out.size))
  clear hown hbel hall
  by_cases hlt : i < n
  ·obtain ⟨y, hy⟩ := getD_some (l := l) (i := i) (by rw [HL.out]; exact hlt)
   obtain ⟨blk, off, rfl, hblk, hcells⟩ := HR.out.at (by rw [HL.out]; omega)
   obtain ⟨g0, g1, g2⟩ := hcells i y hy
   have q0 := (HW2.out.cell (p := ⟨blk, off + i * 3, none⟩) hblk).trans g0
   have q1 := (HW2.out.cell (p := ⟨blk, off + i * 3 + 1, none⟩) hblk).trans g1
   have q2 := (HW2.out.cell (p := ⟨blk, off + i * 3 + 2, none⟩) hblk).trans g2
   have b0 := hz.cell 0; have b1 := hz.cell 1; have b2 := hz.cell 2
   simp only [encD, List.getElem?_cons_succ, List.getElem?_cons_zero] at b0 b1 b2
   have hC : ∀ w2, Below wr.heap.size wr w2 → w2.cell? ⟨W.heap.size, 0, none⟩ = some (.int .u8 (z.1.1 : Int)) ∧ w2.cell? ⟨W.heap.size, 1, none⟩ = some (.int .u32 (z.1.2 : Int)) ∧ w2.cell? ⟨W.heap.size, 2, none⟩ = some (.int .u64 (z.2 : Int)) ∧ w2.cell? ⟨blk, off + i * 3, none⟩ = some (.int .u8 (y.1.1 : Int)) ∧ w2.cell? ⟨blk, off + i * 3 + 1, none⟩ = some (.int .u32 (y.1.2 : Int)) ∧ w2.cell? ⟨blk, off + i * 3 + 2, none⟩ = some (.int .u64 (y.2 : Int)) := fun w2 h =>
    ⟨(h.cell (World.block_lt_of_cell? _ _ b0)).trans b0, (h.cell (World.block_lt_of_cell? _ _ b1)).trans b1, (h.cell (World.block_lt_of_cell? _ _ b2)).trans b2, (h.cell (World.block_lt_of_cell? _ _ q0)).trans q0, (h.cell (World.block_lt_of_cell? _ _ q1)).trans q1, (h.cell (World.block_lt_of_cell? _ _ q2)).trans q2⟩
   have HC := Lib.hid hC; have HY := Lib.hid hy
   have i0 : (0 : Int) ≤ (i : Int) := by omega
   have i1 : (i : Int) < (n : Int) := by omega
   have hw1 : IntKind.i64.wrap ((i : Int) + 1) = (i : Int) + 1 := by simp [IntKind.wrap, IntKind.bits, IntKind.signed]; omega
   clear hC hy hcells g0 g1 g2 q0 q1 q2 b0 b1 b2
   cases hA : Dt.less y z
   ·have HA := Lib.hid hA
    clear hA
    go_wp2_with fail
    refine Reg.region_list (by kernel_rfl) [fun v _ => v = .int .i64 (i : Int), fun v _ => v = .slice (some ⟨blk, off, none⟩) n cap, fun v _ => v = .int .i64 n, fun v _ => v = .bool true, fun v _ => v = .bool true, fun v _ => v = .slice (some ⟨blk, off, none⟩) n cap, fun v _ => v = .int .i64 (i : Int), fun v _ => v = .pointer (some ⟨blk, off + i * 3, none⟩), fun v _ => v = .agg #[.int .u8 (y.1.1 : Int), .int .u32 (y.1.2 : Int), .int .u64 (y.2 : Int)], fun v _ => v = .agg #[.int .u8 (z.1.1 : Int), .int .u32 (z.1.2 : Int), .int .u64 (z.2 : Int)], fun v _ => v = .bool false, fun v _ => v = .bool false] (by kernel_rfl) ?_ ?_ ?_
    ·refine ⟨k4, k4, k4, k4, k4, k4, k4, k4, k4, k4, k4, k4, trivial⟩
    ·refine ⟨?_, ?_, ?_, ?_, ?_, ?_, ?_, ?_, ?_, ?_, ?_, ?_, trivial⟩
     ·intro ev w hc hf hg hfix hdep hbel
      have e6 : ev (.tmp 6) = _ := hfix 6 (by decide)
      exact okb trivial rfl (by go_simp)
     ·intro ev w hc hf hg hfix hdep hbel
      have e0 : ev (.tmp 0) = _ := hfix 0 (by decide)
      exact okb trivial rfl (by go_simp)
     ·intro ev w hc hf hg hfix hdep hbel
      have e12 : ev (.tmp 12) = _ := hdep 1 (by decide)
      exact okb trivial rfl (by go_simp)
     ·intro ev w hc hf hg hfix hdep hbel
      have e11 : ev (.tmp 11) = _ := hdep 0 (by decide)
      have e13 : ev (.tmp 13) = _ := hdep 2 (by decide)
      exact okb trivial rfl (by go_simp)
     ·intro ev w hc hf hg hfix hdep hbel
      have e14 : ev (.tmp 14) = _ := hdep 3 (by decide)
      exact okb trivial rfl (by go_simp)
     ·intro ev w hc hf hg hfix hdep hbel
      have fg : ev (.tmp 15) = _ := hdep 4 (by decide)
      have e0 : ev (.tmp 0) = _ := hfix 0 (by decide)
      exact okb fg rfl (by go_simp)
     ·intro ev w hc hf hg hfix hdep hbel
      have fg : ev (.tmp 15) = _ := hdep 4 (by decide)
      have e6 : ev (.tmp 6) = _ := hfix 6 (by decide)
      exact okb fg rfl (by go_simp)
     ·intro ev w hc hf hg hfix hdep hbel
      have fg : ev (.tmp 15) = _ := hdep 4 (by decide)
      have e16 : ev (.tmp 16) = _ := hdep 5 (by decide)
      have e17 : ev (.tmp 17) = _ := hdep 6 (by decide)
      exact okb fg rfl (by go_simp)
     ·intro ev w hc hf hg hfix hdep hbel
      have fg : ev (.tmp 15) = _ := hdep 4 (by decide)
      have e18 : ev (.tmp 18) = _ := hdep 7 (by decide)
      obtain ⟨b0, b1, b2, q0, q1, q2⟩ := HC.out w (undrew hbel)
      exact okb fg rfl (by go_simp)
     ·intro ev w hc hf hg hfix hdep hbel
      have fg : ev (.tmp 15) = _ := hdep 4 (by decide)
      have e3 : ev (.tmp 3) = _ := hfix 3 (by decide)
      obtain ⟨b0, b1, b2, q0, q1, q2⟩ := HC.out w (undrew hbel)
      exact okb fg rfl (by go_simp)
     ·intro ev w hc hf hg hfix hdep hbel
      have fg : ev (.tmp 15) = _ := hdep 4 (by decide)
      have e19 : ev (.tmp 19) = _ := hdep 8 (by decide)
      have e20 : ev (.tmp 20) = _ := hdep 9 (by decide)
      refine Or.inl ⟨fg, Or.inr ⟨31, #[.agg #[.int .u8 (y.1.1 : Int), .int .u32 (y.1.2 : Int), .int .u64 (y.2 : Int)], .agg #[.int .u8 (z.1.1 : Int), .int .u32 (z.1.2 : Int), .int .u64 (z.2 : Int)]], w, by go_simp, ?_⟩⟩
      refine (refless_any y.1.1 y.1.2 y.2 z.1.1 z.1.2 z.2 w).mono ?_
      rintro e w2 ⟨rfl, hb⟩
      exact ⟨_, rfl, by rw [← HA.out], hb⟩
     ·intro ev w hc hf hg hfix hdep hbel
      have e15 : ev (.tmp 15) = _ := hdep 4 (by decide)
      have e21 : ev (.tmp 21) = _ := hdep 10 (by decide)
      exact okb trivial rfl (by go_simp)
    ·intro v w2 hv hb2
     have r0 : v 0 = _ := hv 0 (by decide)
     have r1 : v 1 = _ := hv 1 (by decide)
     have r2 : v 2 = _ := hv 2 (by decide)
     have r3 : v 3 = _ := hv 3 (by decide)
     have r4 : v 4 = _ := hv 4 (by decide)
     have r5 : v 5 = _ := hv 5 (by decide)
     have r6 : v 6 = _ := hv 6 (by decide)
     have r7 : v 7 = _ := hv 7 (by decide)
     have r8 : v 8 = _ := hv 8 (by decide)
     have r9 : v 9 = _ := hv 9 (by decide)
     have r10 : v 10 = _ := hv 10 (by decide)
     have r11 : v 11 = _ := hv 11 (by decide)
     simp only [Reg.putAll, Act.put, List.setIfInBounds_toArray, List.set_cons_zero, List.set_cons_succ, r0, r1, r2, r3, r4, r5, r6, r7, r8, r9, r10, r11]
     clear r0 r1 r2 r3 r4 r5 r6 r7 r8 r9 r10 r11 hv
     have HZ8 := Lib.hid (HZ.out.below (HW.out.trans (hb2.mono HW.out.size)))
     have HO8 := Lib.hid (HO.out.below hb2)
     have HW8 := Lib.hid (HW.out.trans (hb2.mono HW.out.size))
     clear hb2 hz
     have hT : ∀ w, Below X.heap.size X w → Src Try.prog 3 33 (.slice (some ⟨blk, off + i * 3, none⟩) (n - i) (cap - i)) (l.drop i).length ((l.drop i).flatMap encD) w := fun w hb => by
      have h := (HR.out.below (HWX.out.trans (hb.mono HWX.out.size))).dropL i (by rw [HL.out]; omega)
      have h2 := srcD h
      have e : (l.drop i).length = n - i := by rw [List.length_drop, HL.out]
      have e2 : dtail (some ⟨blk, off, none⟩) i cap = some ⟨blk, off + i * 3, none⟩ := by unfold dtail; rw [if_neg (by omega)]; show some (Addr.add ⟨blk, off, none⟩ _) = _; rw [Addr.add_lit]
      rw [e2] at h2
      rw [← e]
      exact h2
     have HTail := Lib.hid hT
     clear hT
     go_wp2_with fail
     refine RegD.region_list (by kernel_rfl) (fun _ => True) [3, 7] [8] [RegD.plain (fun v _ => v = u5), RegD.plain (fun v _ => v = .agg #[.int .u8 (z.1.1 : Int), .int .u32 (z.1.2 : Int), .int .u64 (z.2 : Int)]), RegD.plain (fun v w => ∃ b, v = .slice (some ⟨b, 0, none⟩) 1 1 ∧ Blk w b 31 (encD z) ∧ w2.heap.size ≤ b), RegD.change (fun v w => ∃ row1, OwnD X.heap.size w v (l.take i ++ [z]) row1 ∧ (row1 = row ∨ ∃ q, row1 = some q ∧ w2.heap.size ≤ q)) (fun k => some k = row) (Chg (fun k => some k = row)), RegD.plain (fun v _ => v = .slice (some ⟨blk, off, none⟩) n cap), RegD.plain (fun v _ => v = .int .i64 (i : Int)), RegD.plain (fun v _ => v = .slice (some ⟨blk, off + i * 3, none⟩) (n - i) (cap - i)), RegD.change (fun v w => ∃ row2, OwnD X.heap.size w v (l.take i ++ [z] ++ l.drop i) row2) (fun k => some k = row ∨ w2.heap.size ≤ k) (Chg (fun k => some k = row ∨ w2.heap.size ≤ k)), RegD.plain (fun v w => ∃ row2, OwnD X.heap.size w v (l.take i ++ [z] ++ l.drop i) row2)] (by kernel_rfl) (trivial) (fun (_ _ : World) _ _ => trivial) ?_ ?_ ?_ ?_ ?_ ?_
     ·exact ⟨Or.inr ⟨fun _ h => h, rfl⟩, Or.inr ⟨fun _ h => h, rfl⟩, Or.inr ⟨fun _ h => h, rfl⟩, Or.inl (by decide), Or.inr ⟨fun _ h => h, rfl⟩, Or.inr ⟨fun _ h => h, rfl⟩, Or.inr ⟨fun _ h => h, rfl⟩, Or.inl (by decide), Or.inr ⟨fun _ h => h, rfl⟩, trivial⟩
     ·exact ⟨⟨fun _ _ h => h, fun wx wy h => (fun (_ _ : World) _ _ => trivial) wx wy (RegD.to_below h (fun _ h => h))⟩, ⟨fun _ _ h => h, fun wx wy h => (fun (_ _ : World) _ _ => trivial) wx wy (RegD.to_below h (fun _ h => h))⟩, ⟨fun _ _ h => h, fun wx wy h => (fun (_ _ : World) _ _ => trivial) wx wy (RegD.to_below h (fun _ h => h))⟩, ⟨(fun _ _ h => h), (fun _ _ _ _ => trivial)⟩, ⟨fun _ _ h => h, fun wx wy h => (fun (_ _ : World) _ _ => trivial) wx wy (RegD.to_below h (fun _ h => h))⟩, ⟨fun _ _ h => h, fun wx wy h => (fun (_ _ : World) _ _ => trivial) wx wy (RegD.to_below h (fun _ h => h))⟩, ⟨fun _ _ h => h, fun wx wy h => (fun (_ _ : World) _ _ => trivial) wx wy (RegD.to_below h (fun _ h => h))⟩, ⟨(fun _ _ h => h), (fun _ _ _ _ => trivial)⟩, ⟨fun _ _ h => h, fun wx wy h => (fun (_ _ : World) _ _ => trivial) wx wy (RegD.to_below h (fun _ h => h))⟩, trivial⟩
     ·refine ⟨k4, k4, (fun v wa wb hb h => by obtain ⟨b, h1, h2, h3⟩ := h; exact ⟨b, h1, h2.below hb, h3⟩), (fun v wa wb hb h => by obtain ⟨row1, h1, h2⟩ := h; exact ⟨row1, h1.below hb, h2⟩), k4, k4, k4, (fun v wa wb hb h => by obtain ⟨row2, h1⟩ := h; exact ⟨row2, h1.below hb⟩), (fun v wa wb hb h => by obtain ⟨row2, h1⟩ := h; exact ⟨row2, h1.below hb⟩), trivial⟩
     ·refine ⟨⟨Or.inr (Or.inr (Or.inr k4)), Or.inr (Or.inr (Or.inr k4)), Or.inr (Or.inr (Or.inl (by kernel_rfl))), Or.inl rfl, Or.inr (Or.inr (Or.inr k4)), Or.inr (Or.inr (Or.inr k4)), Or.inr (Or.inr (Or.inr k4)), Or.inr (Or.inl (by kernel_rfl)), Or.inr (Or.inl (by kernel_rfl)), trivial⟩, ⟨Or.inr (Or.inr (Or.inr k4)), Or.inr (Or.inr (Or.inr k4)), Or.inr (Or.inr (Or.inl (by kernel_rfl))), Or.inr (Or.inr (Or.inl (by kernel_rfl))), Or.inr (Or.inr (Or.inr k4)), Or.inr (Or.inr (Or.inr k4)), Or.inr (Or.inr (Or.inr k4)), Or.inl rfl, Or.inr (Or.inl (by kernel_rfl)), trivial⟩, trivial⟩
     ·refine ⟨?_, ?_, ?_, ?_, ?_, ?_, ?_, ?_, ?_, trivial⟩
      ·intro ev w hc hf hg hfix hdep hchg hinv
       have e5 : ev (.tmp 5) = _ := hfix 5 (by decide)
       exact Or.inl ⟨trivial, Or.inl ⟨_, w, by go_simp, rfl, Chg.refl _ _⟩⟩
      ·intro ev w hc hf hg hfix hdep hchg hinv
       have e3 : ev (.tmp 3) = _ := hfix 3 (by decide)
       have hz := HZ8.out.below (RegD.chg0 (hchg [] (by kernel_rfl)))
       have b0 := hz.cell 0; have b1 := hz.cell 1; have b2 := hz.cell 2
       simp only [encD, List.getElem?_cons_succ, List.getElem?_cons_zero] at b0 b1 b2
       exact Or.inl ⟨trivial, Or.inl ⟨_, w, by go_simp, rfl, Chg.refl _ _⟩⟩
      ·intro ev w hc hf hg hfix hdep hchg hinv
       have e33 : ev (.tmp 33) = _ := hdep 1 (by decide)
       exact Or.inl ⟨trivial, Or.inl ⟨.slice (some ⟨w.heap.size, 0, none⟩) 1 1, w.alloc (.cells #[.int .u8 (z.1.1 : Int), .int .u32 (z.1.2 : Int), .int .u64 (z.2 : Int)] 31), by go_simp, ⟨w.heap.size, rfl, Blk.new w _ _, (RegD.chg0 (hchg [] (by kernel_rfl))).size⟩, (Chg.refl _ w).alloc _⟩⟩
      ·intro ev w hc hf hg hfix hdep hchg hinv
       have e32 : ev (.tmp 32) = _ := hdep 0 (by decide)
       have e34 := hdep 2 (by decide)
       obtain ⟨b, hv, hbk, hbu⟩ := e34
       have e34 : ev (.tmp 34) = .slice (some ⟨b, 0, none⟩) 1 1 := hv
       have hb0 : Below w2.heap.size w2 w := RegD.chg0 (hchg [] (by kernel_rfl))
       obtain ⟨v', w', row', h1, h2, h3, h4⟩ := appsD u5 row (l.take i) [z] _ X.heap.size w (HO8.out.below hb0) (src1D w b z hbk) (by have := HL.out; simp; omega) 33
       refine Or.inl ⟨trivial, Or.inl ⟨v', w', RegD.exec_append (.tmp 32) (.tmp 34) 33 33 rfl e32 e34 h1, ⟨row', h2, ?_⟩, (Chg.of_grown h3).mono (fun k _ e => e)⟩⟩
       rcases h4 with rfl | ⟨q, rfl, hq⟩
       ·exact Or.inl rfl
       ·exact Or.inr ⟨q, rfl, Nat.le_trans hb0.size hq⟩
      ·intro ev w hc hf hg hfix hdep hchg hinv
       have e0 : ev (.tmp 0) = _ := hfix 0 (by decide)
       exact Or.inl ⟨trivial, Or.inl ⟨_, w, by go_simp, rfl, Chg.refl _ _⟩⟩
      ·intro ev w hc hf hg hfix hdep hchg hinv
       have e6 : ev (.tmp 6) = _ := hfix 6 (by decide)
       exact Or.inl ⟨trivial, Or.inl ⟨_, w, by go_simp, rfl, Chg.refl _ _⟩⟩
      ·intro ev w hc hf hg hfix hdep hchg hinv
       have e36 : ev (.tmp 36) = _ := hdep 4 (by decide)
       have e37 : ev (.tmp 37) = _ := hdep 5 (by decide)
       exact Or.inl ⟨trivial, Or.inl ⟨.slice (some ⟨blk, off + i * 3, none⟩) (n - i) (cap - i), w, by go_simp; try (intro h; omega), rfl, Chg.refl _ _⟩⟩
      ·intro ev w hc hf hg hfix hdep hchg hinv
       have e35 := hdep 3 (by decide)
       have e38 : ev (.tmp 38) = _ := hdep 6 (by decide)
       obtain ⟨row1, h1, h2⟩ := e35
       have hc := RegD.chg1 (hchg [3] (by kernel_rfl))
       have hbw : Below X.heap.size X w := Chg.belowTrans HW8.out hc (fun k _ e => (HO8.out.lt k (Eq.symm e)).1) HW8.out.size
       obtain ⟨v', w', row', g1, g2, g3, g4⟩ := appsD _ row1 (l.take i ++ [z]) (l.drop i) (.slice (some ⟨blk, off + i * 3, none⟩) (n - i) (cap - i)) X.heap.size w h1 (HTail.out w hbw) (by have := HL.out; simp; omega) 33
       have hS7 : ∀ j, some j = row1 → (fun k => some k = row ∨ w2.heap.size ≤ k) j := fun j e => by
        rcases h2 with h2 | ⟨q, h2, hq⟩
        ·exact Or.inl (e.trans h2)
        ·rw [h2] at e; cases e; exact Or.inr hq
       exact Or.inl ⟨trivial, Or.inl ⟨v', w', RegD.exec_append (.tmp 35) (.tmp 38) 33 33 rfl rfl e38 g1, ⟨row', g2⟩, (Chg.of_grown g3).mono (fun j _ e => hS7 j e)⟩⟩
      ·intro ev w hc hf hg hfix hdep hchg hinv
       have e39 := hdep 7 (by decide)
       obtain ⟨row2, h1⟩ := e39
       exact Or.inl ⟨trivial, Or.inl ⟨ev (.tmp 39), w, by go_simp, ⟨row2, h1⟩, Chg.refl _ w⟩⟩
     ·intro v w2 hv hb2 hJ2
      have r8 := hv 8 (by decide) (by decide)
      simp only [Reg.putAll, Act.put, List.setIfInBounds_toArray, List.set_cons_zero, List.set_cons_succ]
      clear hv
      obtain ⟨row2, hfin⟩ := r8
      have hc2 := RegD.end2 hb2
      have hbw := Chg.belowTrans HW8.out hc2 (fun k hk e => by rcases e with e | e | e; exact (HO8.out.lt k (Eq.symm e)).1; exact (HO8.out.lt k (Eq.symm e)).1; exact Nat.le_trans HW8.out.size e) HW8.out.size
      obtain ⟨eqs1, eqs2⟩ := split_at (fun y => Dt.less y z) l i y HAll.out HY.out HA.out
      rw [eqs1, eqs2, List.append_assoc, List.singleton_append] at hfin
      obtain ⟨a', c', hv8, hrow⟩ := ownD_rowS (hfin.base (B' := W.heap.size) (by omega)) (fun x hx => by rcases mem_split hx with rfl | h; exact HOkz.out; exact HR.out.ok x h)
      have HRow := Lib.hid hrow; have HBw := Lib.hid hbw
      clear hb2 hc2 hfin hbw hrow eqs1 eqs2
      simp only [Nat.zero_add, Nat.reduceAdd]
      rw [hv8]
      clear hv8
      go_wp2_with fail
      go_ret
      exact ⟨⟨a', c', rfl, HRow.out⟩, HWX.out.trans (HBw.out.mono HWX.out.size)⟩
   ·have HA := Lib.hid hA
    clear hA
    go_wp2_with fail
    refine Reg.region_list (by kernel_rfl) [fun v _ => v = .int .i64 (i : Int), fun v _ => v = .slice (some ⟨blk, off, none⟩) n cap, fun v _ => v = .int .i64 n, fun v _ => v = .bool true, fun v _ => v = .bool true, fun v _ => v = .slice (some ⟨blk, off, none⟩) n cap, fun v _ => v = .int .i64 (i : Int), fun v _ => v = .pointer (some ⟨blk, off + i * 3, none⟩), fun v _ => v = .agg #[.int .u8 (y.1.1 : Int), .int .u32 (y.1.2 : Int), .int .u64 (y.2 : Int)], fun v _ => v = .agg #[.int .u8 (z.1.1 : Int), .int .u32 (z.1.2 : Int), .int .u64 (z.2 : Int)], fun v _ => v = .bool true, fun v _ => v = .bool true] (by kernel_rfl) ?_ ?_ ?_
    ·refine ⟨k4, k4, k4, k4, k4, k4, k4, k4, k4, k4, k4, k4, trivial⟩
    ·refine ⟨?_, ?_, ?_, ?_, ?_, ?_, ?_, ?_, ?_, ?_, ?_, ?_, trivial⟩
     ·intro ev w hc hf hg hfix hdep hbel
      have e6 : ev (.tmp 6) = _ := hfix 6 (by decide)
      exact okb trivial rfl (by go_simp)
     ·intro ev w hc hf hg hfix hdep hbel
      have e0 : ev (.tmp 0) = _ := hfix 0 (by decide)
      exact okb trivial rfl (by go_simp)
     ·intro ev w hc hf hg hfix hdep hbel
      have e12 : ev (.tmp 12) = _ := hdep 1 (by decide)
      exact okb trivial rfl (by go_simp)
     ·intro ev w hc hf hg hfix hdep hbel
      have e11 : ev (.tmp 11) = _ := hdep 0 (by decide)
      have e13 : ev (.tmp 13) = _ := hdep 2 (by decide)
      exact okb trivial rfl (by go_simp)
     ·intro ev w hc hf hg hfix hdep hbel
      have e14 : ev (.tmp 14) = _ := hdep 3 (by decide)
      exact okb trivial rfl (by go_simp)
     ·intro ev w hc hf hg hfix hdep hbel
      have fg : ev (.tmp 15) = _ := hdep 4 (by decide)
      have e0 : ev (.tmp 0) = _ := hfix 0 (by decide)
      exact okb fg rfl (by go_simp)
     ·intro ev w hc hf hg hfix hdep hbel
      have fg : ev (.tmp 15) = _ := hdep 4 (by decide)
      have e6 : ev (.tmp 6) = _ := hfix 6 (by decide)
      exact okb fg rfl (by go_simp)
     ·intro ev w hc hf hg hfix hdep hbel
      have fg : ev (.tmp 15) = _ := hdep 4 (by decide)
      have e16 : ev (.tmp 16) = _ := hdep 5 (by decide)
      have e17 : ev (.tmp 17) = _ := hdep 6 (by decide)
      exact okb fg rfl (by go_simp)
     ·intro ev w hc hf hg hfix hdep hbel
      have fg : ev (.tmp 15) = _ := hdep 4 (by decide)
      have e18 : ev (.tmp 18) = _ := hdep 7 (by decide)
      obtain ⟨b0, b1, b2, q0, q1, q2⟩ := HC.out w (undrew hbel)
      exact okb fg rfl (by go_simp)
     ·intro ev w hc hf hg hfix hdep hbel
      have fg : ev (.tmp 15) = _ := hdep 4 (by decide)
      have e3 : ev (.tmp 3) = _ := hfix 3 (by decide)
      obtain ⟨b0, b1, b2, q0, q1, q2⟩ := HC.out w (undrew hbel)
      exact okb fg rfl (by go_simp)
     ·intro ev w hc hf hg hfix hdep hbel
      have fg : ev (.tmp 15) = _ := hdep 4 (by decide)
      have e19 : ev (.tmp 19) = _ := hdep 8 (by decide)
      have e20 : ev (.tmp 20) = _ := hdep 9 (by decide)
      refine Or.inl ⟨fg, Or.inr ⟨31, #[.agg #[.int .u8 (y.1.1 : Int), .int .u32 (y.1.2 : Int), .int .u64 (y.2 : Int)], .agg #[.int .u8 (z.1.1 : Int), .int .u32 (z.1.2 : Int), .int .u64 (z.2 : Int)]], w, by go_simp, ?_⟩⟩
      refine (refless_any y.1.1 y.1.2 y.2 z.1.1 z.1.2 z.2 w).mono ?_
      rintro e w2 ⟨rfl, hb⟩
      exact ⟨_, rfl, by rw [← HA.out], hb⟩
     ·intro ev w hc hf hg hfix hdep hbel
      have e15 : ev (.tmp 15) = _ := hdep 4 (by decide)
      have e21 : ev (.tmp 21) = _ := hdep 10 (by decide)
      exact okb trivial rfl (by go_simp)
    ·intro v w2 hv hb2
     have r0 : v 0 = _ := hv 0 (by decide)
     have r1 : v 1 = _ := hv 1 (by decide)
     have r2 : v 2 = _ := hv 2 (by decide)
     have r3 : v 3 = _ := hv 3 (by decide)
     have r4 : v 4 = _ := hv 4 (by decide)
     have r5 : v 5 = _ := hv 5 (by decide)
     have r6 : v 6 = _ := hv 6 (by decide)
     have r7 : v 7 = _ := hv 7 (by decide)
     have r8 : v 8 = _ := hv 8 (by decide)
     have r9 : v 9 = _ := hv 9 (by decide)
     have r10 : v 10 = _ := hv 10 (by decide)
     have r11 : v 11 = _ := hv 11 (by decide)
     simp only [Reg.putAll, Act.put, List.setIfInBounds_toArray, List.set_cons_zero, List.set_cons_succ, r0, r1, r2, r3, r4, r5, r6, r7, r8, r9, r10, r11]
     clear r0 r1 r2 r3 r4 r5 r6 r7 r8 r9 r10 r11 hv
     have hO1 := HO.out.below hb2
     have HW1' := Lib.hid (HW.out.trans (hb2.mono HW.out.size))
     obtain ⟨b0, b1, b2, q0, q1, q2⟩ := HC.out w2 hb2
     have hl1 : (l.take i).length ≤ 1000000 := by rw [List.length_take]; omega
     obtain ⟨v', w3, row', h1, h2, h3, h4⟩ := app1D u5 row _ y X.heap.size w2 hO1 hl1 33
     rw [← take_one HY.out] at h2
     have HO1 := Lib.hid hO1; have H2 := Lib.hid h2; have H3 := Lib.hid h3
     clear hO1 h2 h3 h4 hb2 b0 b1 b2
     go_wp2_with (at_builtin; refine Lib.wpList_append_run _ rfl _ _ _ _ rfl _ _ rfl rfl _ _ h1 ?_)
     clear h1 q0 q1 q2
     go_roundw
     case rel => exact ⟨i + 1, row', by go_num, by omega, H2.out, ((HW1'.out.alloc HW1'.out.size _).grown H3.out (by simp; have := HW1'.out.size; omega) (fun b e => (HO1.out.lt b e).1)), fun x hx => by
      rw [take_one HY.out] at hx
      rcases List.mem_append.1 hx with h | h
      ·exact HAll.out x h
      ·rw [List.mem_singleton.1 h]; exact HA.out⟩
     case measure => simp [intOf]; omega
  ·obtain rfl : i = n := by omega
   have hC : ∀ w2, Below wr.heap.size wr w2 → True := fun _ _ => trivial
   clear hC hz
   have hall := HAll.out
   rw [List.take_of_length_le (Nat.le_of_eq HL.out)] at hall
   go_wp2_with fail
   refine Reg.region_list (by kernel_rfl) [fun v _ => v = .int .i64 (i : Int), fun v _ => v = .slice a i cap, fun v _ => v = .int .i64 i, fun v _ => v = .bool false, fun v _ => v = .bool false, fun v _ => v = undef, fun v _ => v = undef, fun v _ => v = undef, fun v _ => v = undef, fun v _ => v = undef, fun v _ => v = undef, fun v _ => v = .bool false] (by kernel_rfl) ?_ ?_ ?_
   ·refine ⟨k4, k4, k4, k4, k4, k4, k4, k4, k4, k4, k4, k4, trivial⟩
   ·refine ⟨?_, ?_, ?_, ?_, ?_, ?_, ?_, ?_, ?_, ?_, ?_, ?_, trivial⟩
    ·intro ev w hc hf hg hfix hdep hbel
     have e6 : ev (.tmp 6) = _ := hfix 6 (by decide)
     exact okb trivial rfl (by go_simp)
    ·intro ev w hc hf hg hfix hdep hbel
     have e0 : ev (.tmp 0) = _ := hfix 0 (by decide)
     exact okb trivial rfl (by go_simp)
    ·intro ev w hc hf hg hfix hdep hbel
     have e12 : ev (.tmp 12) = _ := hdep 1 (by decide)
     exact okb trivial rfl (by go_simp)
    ·intro ev w hc hf hg hfix hdep hbel
     have e11 : ev (.tmp 11) = _ := hdep 0 (by decide)
     have e13 : ev (.tmp 13) = _ := hdep 2 (by decide)
     exact okb trivial rfl (by go_simp)
    ·intro ev w hc hf hg hfix hdep hbel
     have e14 : ev (.tmp 14) = _ := hdep 3 (by decide)
     exact okb trivial rfl (by go_simp)
    ·intro ev w hc hf hg hfix hdep hbel
     have fg : ev (.tmp 15) = _ := hdep 4 (by decide)
     exact Or.inr ⟨Or.inl fg, rfl⟩
    ·intro ev w hc hf hg hfix hdep hbel
     have fg : ev (.tmp 15) = _ := hdep 4 (by decide)
     exact Or.inr ⟨Or.inl fg, rfl⟩
    ·intro ev w hc hf hg hfix hdep hbel
     have fg : ev (.tmp 15) = _ := hdep 4 (by decide)
     exact Or.inr ⟨Or.inl fg, rfl⟩
    ·intro ev w hc hf hg hfix hdep hbel
     have fg : ev (.tmp 15) = _ := hdep 4 (by decide)
     exact Or.inr ⟨Or.inl fg, rfl⟩
    ·intro ev w hc hf hg hfix hdep hbel
     have fg : ev (.tmp 15) = _ := hdep 4 (by decide)
     exact Or.inr ⟨Or.inl fg, rfl⟩
    ·intro ev w hc hf hg hfix hdep hbel
     have fg : ev (.tmp 15) = _ := hdep 4 (by decide)
     exact Or.inr ⟨Or.inl fg, rfl⟩
    ·intro ev w hc hf hg hfix hdep hbel
     have e15 : ev (.tmp 15) = _ := hdep 4 (by decide)
     have e21 : ev (.tmp 21) = _ := hdep 10 (by decide)
     exact okb trivial rfl (by go_simp)
   ·intro v w2 hv hb2
    have r0 : v 0 = _ := hv 0 (by decide)
    have r1 : v 1 = _ := hv 1 (by decide)
    have r2 : v 2 = _ := hv 2 (by decide)
    have r3 : v 3 = _ := hv 3 (by decide)
    have r4 : v 4 = _ := hv 4 (by decide)
    have r5 : v 5 = _ := hv 5 (by decide)
    have r6 : v 6 = _ := hv 6 (by decide)
    have r7 : v 7 = _ := hv 7 (by decide)
    have r8 : v 8 = _ := hv 8 (by decide)
    have r9 : v 9 = _ := hv 9 (by decide)
    have r10 : v 10 = _ := hv 10 (by decide)
    have r11 : v 11 = _ := hv 11 (by decide)
    simp only [Reg.putAll, Act.put, List.setIfInBounds_toArray, List.set_cons_zero, List.set_cons_succ, r0, r1, r2, r3, r4, r5, r6, r7, r8, r9, r10, r11]
    clear r0 r1 r2 r3 r4 r5 r6 r7 r8 r9 r10 r11 hv
    by_cases hcn : cap = i
    ·have HZ8 := Lib.hid (HZ.out.below (HW.out.trans (hb2.mono HW.out.size)))
     have HO8 := Lib.hid (HO.out.below hb2)
     have HW8 := Lib.hid (HW.out.trans (hb2.mono HW.out.size))
     have hT : ∀ w, Below X.heap.size X w → Src Try.prog 3 33 (.slice a 0 0) (l.drop i).length ((l.drop i).flatMap encD) w := fun w hb => by
      rw [List.drop_of_length_le (Nat.le_of_eq HL.out)]
      exact srcE_D w _ _
     have HTail := Lib.hid hT
     clear hT hb2
     go_wp2_with fail
     refine RegD.region_list (by kernel_rfl) (fun _ => True) [3, 7] [8] [RegD.plain (fun v _ => v = u5), RegD.plain (fun v _ => v = .agg #[.int .u8 (z.1.1 : Int), .int .u32 (z.1.2 : Int), .int .u64 (z.2 : Int)]), RegD.plain (fun v w => ∃ b, v = .slice (some ⟨b, 0, none⟩) 1 1 ∧ Blk w b 31 (encD z) ∧ w2.heap.size ≤ b), RegD.change (fun v w => ∃ row1, OwnD X.heap.size w v (l.take i ++ [z]) row1 ∧ (row1 = row ∨ ∃ q, row1 = some q ∧ w2.heap.size ≤ q)) (fun k => some k = row) (Chg (fun k => some k = row)), RegD.plain (fun v _ => v = .slice a i cap), RegD.plain (fun v _ => v = .int .i64 (i : Int)), RegD.plain (fun v _ => v = .slice a 0 0), RegD.change (fun v w => ∃ row2, OwnD X.heap.size w v (l.take i ++ [z] ++ l.drop i) row2) (fun k => some k = row ∨ w2.heap.size ≤ k) (Chg (fun k => some k = row ∨ w2.heap.size ≤ k)), RegD.plain (fun v w => ∃ row2, OwnD X.heap.size w v (l.take i ++ [z] ++ l.drop i) row2)] (by kernel_rfl) (trivial) (fun (_ _ : World) _ _ => trivial) ?_ ?_ ?_ ?_ ?_ ?_
     ·exact ⟨Or.inr ⟨fun _ h => h, rfl⟩, Or.inr ⟨fun _ h => h, rfl⟩, Or.inr ⟨fun _ h => h, rfl⟩, Or.inl (by decide), Or.inr ⟨fun _ h => h, rfl⟩, Or.inr ⟨fun _ h => h, rfl⟩, Or.inr ⟨fun _ h => h, rfl⟩, Or.inl (by decide), Or.inr ⟨fun _ h => h, rfl⟩, trivial⟩
     ·exact ⟨⟨fun _ _ h => h, fun wx wy h => (fun (_ _ : World) _ _ => trivial) wx wy (RegD.to_below h (fun _ h => h))⟩, ⟨fun _ _ h => h, fun wx wy h => (fun (_ _ : World) _ _ => trivial) wx wy (RegD.to_below h (fun _ h => h))⟩, ⟨fun _ _ h => h, fun wx wy h => (fun (_ _ : World) _ _ => trivial) wx wy (RegD.to_below h (fun _ h => h))⟩, ⟨(fun _ _ h => h), (fun _ _ _ _ => trivial)⟩, ⟨fun _ _ h => h, fun wx wy h => (fun (_ _ : World) _ _ => trivial) wx wy (RegD.to_below h (fun _ h => h))⟩, ⟨fun _ _ h => h, fun wx wy h => (fun (_ _ : World) _ _ => trivial) wx wy (RegD.to_below h (fun _ h => h))⟩, ⟨fun _ _ h => h, fun wx wy h => (fun (_ _ : World) _ _ => trivial) wx wy (RegD.to_below h (fun _ h => h))⟩, ⟨(fun _ _ h => h), (fun _ _ _ _ => trivial)⟩, ⟨fun _ _ h => h, fun wx wy h => (fun (_ _ : World) _ _ => trivial) wx wy (RegD.to_below h (fun _ h => h))⟩, trivial⟩
     ·refine ⟨k4, k4, (fun v wa wb hb h => by obtain ⟨b, h1, h2, h3⟩ := h; exact ⟨b, h1, h2.below hb, h3⟩), (fun v wa wb hb h => by obtain ⟨row1, h1, h2⟩ := h; exact ⟨row1, h1.below hb, h2⟩), k4, k4, k4, (fun v wa wb hb h => by obtain ⟨row2, h1⟩ := h; exact ⟨row2, h1.below hb⟩), (fun v wa wb hb h => by obtain ⟨row2, h1⟩ := h; exact ⟨row2, h1.below hb⟩), trivial⟩
     ·refine ⟨⟨Or.inr (Or.inr (Or.inr k4)), Or.inr (Or.inr (Or.inr k4)), Or.inr (Or.inr (Or.inl (by kernel_rfl))), Or.inl rfl, Or.inr (Or.inr (Or.inr k4)), Or.inr (Or.inr (Or.inr k4)), Or.inr (Or.inr (Or.inr k4)), Or.inr (Or.inl (by kernel_rfl)), Or.inr (Or.inl (by kernel_rfl)), trivial⟩, ⟨Or.inr (Or.inr (Or.inr k4)), Or.inr (Or.inr (Or.inr k4)), Or.inr (Or.inr (Or.inl (by kernel_rfl))), Or.inr (Or.inr (Or.inl (by kernel_rfl))), Or.inr (Or.inr (Or.inr k4)), Or.inr (Or.inr (Or.inr k4)), Or.inr (Or.inr (Or.inr k4)), Or.inl rfl, Or.inr (Or.inl (by kernel_rfl)), trivial⟩, trivial⟩
     ·refine ⟨?_, ?_, ?_, ?_, ?_, ?_, ?_, ?_, ?_, trivial⟩
      ·intro ev w hc hf hg hfix hdep hchg hinv
       have e5 : ev (.tmp 5) = _ := hfix 5 (by decide)
       exact Or.inl ⟨trivial, Or.inl ⟨_, w, by go_simp, rfl, Chg.refl _ _⟩⟩
      ·intro ev w hc hf hg hfix hdep hchg hinv
       have e3 : ev (.tmp 3) = _ := hfix 3 (by decide)
       have hz := HZ8.out.below (RegD.chg0 (hchg [] (by kernel_rfl)))
       have b0 := hz.cell 0; have b1 := hz.cell 1; have b2 := hz.cell 2
       simp only [encD, List.getElem?_cons_succ, List.getElem?_cons_zero] at b0 b1 b2
       exact Or.inl ⟨trivial, Or.inl ⟨_, w, by go_simp, rfl, Chg.refl _ _⟩⟩
      ·intro ev w hc hf hg hfix hdep hchg hinv
       have e33 : ev (.tmp 33) = _ := hdep 1 (by decide)
       exact Or.inl ⟨trivial, Or.inl ⟨.slice (some ⟨w.heap.size, 0, none⟩) 1 1, w.alloc (.cells #[.int .u8 (z.1.1 : Int), .int .u32 (z.1.2 : Int), .int .u64 (z.2 : Int)] 31), by go_simp, ⟨w.heap.size, rfl, Blk.new w _ _, (RegD.chg0 (hchg [] (by kernel_rfl))).size⟩, (Chg.refl _ w).alloc _⟩⟩
      ·intro ev w hc hf hg hfix hdep hchg hinv
       have e32 : ev (.tmp 32) = _ := hdep 0 (by decide)
       have e34 := hdep 2 (by decide)
       obtain ⟨b, hv, hbk, hbu⟩ := e34
       have e34 : ev (.tmp 34) = .slice (some ⟨b, 0, none⟩) 1 1 := hv
       have hb0 : Below w2.heap.size w2 w := RegD.chg0 (hchg [] (by kernel_rfl))
       obtain ⟨v', w', row', h1, h2, h3, h4⟩ := appsD u5 row (l.take i) [z] _ X.heap.size w (HO8.out.below hb0) (src1D w b z hbk) (by have := HL.out; simp; omega) 33
       refine Or.inl ⟨trivial, Or.inl ⟨v', w', RegD.exec_append (.tmp 32) (.tmp 34) 33 33 rfl e32 e34 h1, ⟨row', h2, ?_⟩, (Chg.of_grown h3).mono (fun k _ e => e)⟩⟩
       rcases h4 with rfl | ⟨q, rfl, hq⟩
       ·exact Or.inl rfl
       ·exact Or.inr ⟨q, rfl, Nat.le_trans hb0.size hq⟩
      ·intro ev w hc hf hg hfix hdep hchg hinv
       have e0 : ev (.tmp 0) = _ := hfix 0 (by decide)
       exact Or.inl ⟨trivial, Or.inl ⟨_, w, by go_simp, rfl, Chg.refl _ _⟩⟩
      ·intro ev w hc hf hg hfix hdep hchg hinv
       have e6 : ev (.tmp 6) = _ := hfix 6 (by decide)
       exact Or.inl ⟨trivial, Or.inl ⟨_, w, by go_simp, rfl, Chg.refl _ _⟩⟩
      ·intro ev w hc hf hg hfix hdep hchg hinv
       have e36 : ev (.tmp 36) = _ := hdep 4 (by decide)
       have e37 : ev (.tmp 37) = _ := hdep 5 (by decide)
       exact Or.inl ⟨trivial, Or.inl ⟨.slice a 0 0, w, by go_simp; try (intro h; omega), rfl, Chg.refl _ _⟩⟩
      ·intro ev w hc hf hg hfix hdep hchg hinv
       have e35 := hdep 3 (by decide)
       have e38 : ev (.tmp 38) = _ := hdep 6 (by decide)
       obtain ⟨row1, h1, h2⟩ := e35
       have hc := RegD.chg1 (hchg [3] (by kernel_rfl))
       have hbw : Below X.heap.size X w := Chg.belowTrans HW8.out hc (fun k _ e => (HO8.out.lt k (Eq.symm e)).1) HW8.out.size
       obtain ⟨v', w', row', g1, g2, g3, g4⟩ := appsD _ row1 (l.take i ++ [z]) (l.drop i) (.slice a 0 0) X.heap.size w h1 (HTail.out w hbw) (by have := HL.out; simp; omega) 33
       have hS7 : ∀ j, some j = row1 → (fun k => some k = row ∨ w2.heap.size ≤ k) j := fun j e => by
        rcases h2 with h2 | ⟨q, h2, hq⟩
        ·exact Or.inl (e.trans h2)
        ·rw [h2] at e; cases e; exact Or.inr hq
       exact Or.inl ⟨trivial, Or.inl ⟨v', w', RegD.exec_append (.tmp 35) (.tmp 38) 33 33 rfl rfl e38 g1, ⟨row', g2⟩, (Chg.of_grown g3).mono (fun j _ e => hS7 j e)⟩⟩
      ·intro ev w hc hf hg hfix hdep hchg hinv
       have e39 := hdep 7 (by decide)
       obtain ⟨row2, h1⟩ := e39
       exact Or.inl ⟨trivial, Or.inl ⟨ev (.tmp 39), w, by go_simp, ⟨row2, h1⟩, Chg.refl _ w⟩⟩
     ·intro v w2 hv hb2 hJ2
      have r8 := hv 8 (by decide) (by decide)
      simp only [Reg.putAll, Act.put, List.setIfInBounds_toArray, List.set_cons_zero, List.set_cons_succ]
      clear hv
      obtain ⟨row2, hfin⟩ := r8
      have hc2 := RegD.end2 hb2
      have hbw := Chg.belowTrans HW8.out hc2 (fun k hk e => by rcases e with e | e | e; exact (HO8.out.lt k (Eq.symm e)).1; exact (HO8.out.lt k (Eq.symm e)).1; exact Nat.le_trans HW8.out.size e) HW8.out.size
      obtain ⟨eqs1, eqs2⟩ := split_end (fun y => Dt.less y z) l hall
      have eqs1 : l.take i = l.takeWhile (fun y => Dt.less y z) := by rw [eqs1]; exact List.take_of_length_le (Nat.le_of_eq HL.out)
      have eqs2 : l.drop i = l.dropWhile (fun y => Dt.less y z) := by rw [eqs2]; exact List.drop_of_length_le (Nat.le_of_eq HL.out)
      rw [eqs1, eqs2, List.append_assoc, List.singleton_append] at hfin
      obtain ⟨a', c', hv8, hrow⟩ := ownD_rowS (hfin.base (B' := W.heap.size) (by omega)) (fun x hx => by rcases mem_split hx with rfl | h; exact HOkz.out; exact HR.out.ok x h)
      have HRow := Lib.hid hrow; have HBw := Lib.hid hbw
      clear hb2 hc2 hfin hbw hrow eqs1 eqs2
      simp only [Nat.zero_add, Nat.reduceAdd]
      rw [hv8]
      clear hv8
      go_wp2_with fail
      go_ret
      exact ⟨⟨a', c', rfl, HRow.out⟩, HWX.out.trans (HBw.out.mono HWX.out.size)⟩


    ·have HZ8 := Lib.hid (HZ.out.below (HW.out.trans (hb2.mono HW.out.size)))
     have HO8 := Lib.hid (HO.out.below hb2)
     have HW8 := Lib.hid (HW.out.trans (hb2.mono HW.out.size))
     have hT : ∀ w, Below X.heap.size X w → Src Try.prog 3 33 (.slice (Option.map (fun x => x.add (i * 3)) a) 0 (cap - i)) (l.drop i).length ((l.drop i).flatMap encD) w := fun w hb => by
      rw [List.drop_of_length_le (Nat.le_of_eq HL.out)]
      exact srcE_D w _ _
     have HTail := Lib.hid hT
     clear hT hb2
     go_wp2_with fail
     refine RegD.region_list (by kernel_rfl) (fun _ => True) [3, 7] [8] [RegD.plain (fun v _ => v = u5), RegD.plain (fun v _ => v = .agg #[.int .u8 (z.1.1 : Int), .int .u32 (z.1.2 : Int), .int .u64 (z.2 : Int)]), RegD.plain (fun v w => ∃ b, v = .slice (some ⟨b, 0, none⟩) 1 1 ∧ Blk w b 31 (encD z) ∧ w2.heap.size ≤ b), RegD.change (fun v w => ∃ row1, OwnD X.heap.size w v (l.take i ++ [z]) row1 ∧ (row1 = row ∨ ∃ q, row1 = some q ∧ w2.heap.size ≤ q)) (fun k => some k = row) (Chg (fun k => some k = row)), RegD.plain (fun v _ => v = .slice a i cap), RegD.plain (fun v _ => v = .int .i64 (i : Int)), RegD.plain (fun v _ => v = .slice (Option.map (fun x => x.add (i * 3)) a) 0 (cap - i)), RegD.change (fun v w => ∃ row2, OwnD X.heap.size w v (l.take i ++ [z] ++ l.drop i) row2) (fun k => some k = row ∨ w2.heap.size ≤ k) (Chg (fun k => some k = row ∨ w2.heap.size ≤ k)), RegD.plain (fun v w => ∃ row2, OwnD X.heap.size w v (l.take i ++ [z] ++ l.drop i) row2)] (by kernel_rfl) (trivial) (fun (_ _ : World) _ _ => trivial) ?_ ?_ ?_ ?_ ?_ ?_
     ·exact ⟨Or.inr ⟨fun _ h => h, rfl⟩, Or.inr ⟨fun _ h => h, rfl⟩, Or.inr ⟨fun _ h => h, rfl⟩, Or.inl (by decide), Or.inr ⟨fun _ h => h, rfl⟩, Or.inr ⟨fun _ h => h, rfl⟩, Or.inr ⟨fun _ h => h, rfl⟩, Or.inl (by decide), Or.inr ⟨fun _ h => h, rfl⟩, trivial⟩
     ·exact ⟨⟨fun _ _ h => h, fun wx wy h => (fun (_ _ : World) _ _ => trivial) wx wy (RegD.to_below h (fun _ h => h))⟩, ⟨fun _ _ h => h, fun wx wy h => (fun (_ _ : World) _ _ => trivial) wx wy (RegD.to_below h (fun _ h => h))⟩, ⟨fun _ _ h => h, fun wx wy h => (fun (_ _ : World) _ _ => trivial) wx wy (RegD.to_below h (fun _ h => h))⟩, ⟨(fun _ _ h => h), (fun _ _ _ _ => trivial)⟩, ⟨fun _ _ h => h, fun wx wy h => (fun (_ _ : World) _ _ => trivial) wx wy (RegD.to_below h (fun _ h => h))⟩, ⟨fun _ _ h => h, fun wx wy h => (fun (_ _ : World) _ _ => trivial) wx wy (RegD.to_below h (fun _ h => h))⟩, ⟨fun _ _ h => h, fun wx wy h => (fun (_ _ : World) _ _ => trivial) wx wy (RegD.to_below h (fun _ h => h))⟩, ⟨(fun _ _ h => h), (fun _ _ _ _ => trivial)⟩, ⟨fun _ _ h => h, fun wx wy h => (fun (_ _ : World) _ _ => trivial) wx wy (RegD.to_below h (fun _ h => h))⟩, trivial⟩
     ·refine ⟨k4, k4, (fun v wa wb hb h => by obtain ⟨b, h1, h2, h3⟩ := h; exact ⟨b, h1, h2.below hb, h3⟩), (fun v wa wb hb h => by obtain ⟨row1, h1, h2⟩ := h; exact ⟨row1, h1.below hb, h2⟩), k4, k4, k4, (fun v wa wb hb h => by obtain ⟨row2, h1⟩ := h; exact ⟨row2, h1.below hb⟩), (fun v wa wb hb h => by obtain ⟨row2, h1⟩ := h; exact ⟨row2, h1.below hb⟩), trivial⟩
     ·refine ⟨⟨Or.inr (Or.inr (Or.inr k4)), Or.inr (Or.inr (Or.inr k4)), Or.inr (Or.inr (Or.inl (by kernel_rfl))), Or.inl rfl, Or.inr (Or.inr (Or.inr k4)), Or.inr (Or.inr (Or.inr k4)), Or.inr (Or.inr (Or.inr k4)), Or.inr (Or.inl (by kernel_rfl)), Or.inr (Or.inl (by kernel_rfl)), trivial⟩, ⟨Or.inr (Or.inr (Or.inr k4)), Or.inr (Or.inr (Or.inr k4)), Or.inr (Or.inr (Or.inl (by kernel_rfl))), Or.inr (Or.inr (Or.inl (by kernel_rfl))), Or.inr (Or.inr (Or.inr k4)), Or.inr (Or.inr (Or.inr k4)), Or.inr (Or.inr (Or.inr k4)), Or.inl rfl, Or.inr (Or.inl (by kernel_rfl)), trivial⟩, trivial⟩
     ·refine ⟨?_, ?_, ?_, ?_, ?_, ?_, ?_, ?_, ?_, trivial⟩
      ·intro ev w hc hf hg hfix hdep hchg hinv
       have e5 : ev (.tmp 5) = _ := hfix 5 (by decide)
       exact Or.inl ⟨trivial, Or.inl ⟨_, w, by go_simp, rfl, Chg.refl _ _⟩⟩
      ·intro ev w hc hf hg hfix hdep hchg hinv
       have e3 : ev (.tmp 3) = _ := hfix 3 (by decide)
       have hz := HZ8.out.below (RegD.chg0 (hchg [] (by kernel_rfl)))
       have b0 := hz.cell 0; have b1 := hz.cell 1; have b2 := hz.cell 2
       simp only [encD, List.getElem?_cons_succ, List.getElem?_cons_zero] at b0 b1 b2
       exact Or.inl ⟨trivial, Or.inl ⟨_, w, by go_simp, rfl, Chg.refl _ _⟩⟩
      ·intro ev w hc hf hg hfix hdep hchg hinv
       have e33 : ev (.tmp 33) = _ := hdep 1 (by decide)
       exact Or.inl ⟨trivial, Or.inl ⟨.slice (some ⟨w.heap.size, 0, none⟩) 1 1, w.alloc (.cells #[.int .u8 (z.1.1 : Int), .int .u32 (z.1.2 : Int), .int .u64 (z.2 : Int)] 31), by go_simp, ⟨w.heap.size, rfl, Blk.new w _ _, (RegD.chg0 (hchg [] (by kernel_rfl))).size⟩, (Chg.refl _ w).alloc _⟩⟩
      ·intro ev w hc hf hg hfix hdep hchg hinv
       have e32 : ev (.tmp 32) = _ := hdep 0 (by decide)
       have e34 := hdep 2 (by decide)
       obtain ⟨b, hv, hbk, hbu⟩ := e34
       have e34 : ev (.tmp 34) = .slice (some ⟨b, 0, none⟩) 1 1 := hv
       have hb0 : Below w2.heap.size w2 w := RegD.chg0 (hchg [] (by kernel_rfl))
       obtain ⟨v', w', row', h1, h2, h3, h4⟩ := appsD u5 row (l.take i) [z] _ X.heap.size w (HO8.out.below hb0) (src1D w b z hbk) (by have := HL.out; simp; omega) 33
       refine Or.inl ⟨trivial, Or.inl ⟨v', w', RegD.exec_append (.tmp 32) (.tmp 34) 33 33 rfl e32 e34 h1, ⟨row', h2, ?_⟩, (Chg.of_grown h3).mono (fun k _ e => e)⟩⟩
       rcases h4 with rfl | ⟨q, rfl, hq⟩
       ·exact Or.inl rfl
       ·exact Or.inr ⟨q, rfl, Nat.le_trans hb0.size hq⟩
      ·intro ev w hc hf hg hfix hdep hchg hinv
       have e0 : ev (.tmp 0) = _ := hfix 0 (by decide)
       exact Or.inl ⟨trivial, Or.inl ⟨_, w, by go_simp, rfl, Chg.refl _ _⟩⟩
      ·intro ev w hc hf hg hfix hdep hchg hinv
       have e6 : ev (.tmp 6) = _ := hfix 6 (by decide)
       exact Or.inl ⟨trivial, Or.inl ⟨_, w, by go_simp, rfl, Chg.refl _ _⟩⟩
      ·intro ev w hc hf hg hfix hdep hchg hinv
       have e36 : ev (.tmp 36) = _ := hdep 4 (by decide)
       have e37 : ev (.tmp 37) = _ := hdep 5 (by decide)
       exact Or.inl ⟨trivial, Or.inl ⟨.slice (Option.map (fun x => x.add (i * 3)) a) 0 (cap - i), w, by go_simp; try (intro h; omega), rfl, Chg.refl _ _⟩⟩
      ·intro ev w hc hf hg hfix hdep hchg hinv
       have e35 := hdep 3 (by decide)
       have e38 : ev (.tmp 38) = _ := hdep 6 (by decide)
       obtain ⟨row1, h1, h2⟩ := e35
       have hc := RegD.chg1 (hchg [3] (by kernel_rfl))
       have hbw : Below X.heap.size X w := Chg.belowTrans HW8.out hc (fun k _ e => (HO8.out.lt k (Eq.symm e)).1) HW8.out.size
       obtain ⟨v', w', row', g1, g2, g3, g4⟩ := appsD _ row1 (l.take i ++ [z]) (l.drop i) (.slice (Option.map (fun x => x.add (i * 3)) a) 0 (cap - i)) X.heap.size w h1 (HTail.out w hbw) (by have := HL.out; simp; omega) 33
       have hS7 : ∀ j, some j = row1 → (fun k => some k = row ∨ w2.heap.size ≤ k) j := fun j e => by
        rcases h2 with h2 | ⟨q, h2, hq⟩
        ·exact Or.inl (e.trans h2)
        ·rw [h2] at e; cases e; exact Or.inr hq
       exact Or.inl ⟨trivial, Or.inl ⟨v', w', RegD.exec_append (.tmp 35) (.tmp 38) 33 33 rfl rfl e38 g1, ⟨row', g2⟩, (Chg.of_grown g3).mono (fun j _ e => hS7 j e)⟩⟩
      ·intro ev w hc hf hg hfix hdep hchg hinv
       have e39 := hdep 7 (by decide)
       obtain ⟨row2, h1⟩ := e39
       exact Or.inl ⟨trivial, Or.inl ⟨ev (.tmp 39), w, by go_simp, ⟨row2, h1⟩, Chg.refl _ w⟩⟩
     ·intro v w2 hv hb2 hJ2
      have r8 := hv 8 (by decide) (by decide)
      simp only [Reg.putAll, Act.put, List.setIfInBounds_toArray, List.set_cons_zero, List.set_cons_succ]
      clear hv
      obtain ⟨row2, hfin⟩ := r8
      have hc2 := RegD.end2 hb2
      have hbw := Chg.belowTrans HW8.out hc2 (fun k hk e => by rcases e with e | e | e; exact (HO8.out.lt k (Eq.symm e)).1; exact (HO8.out.lt k (Eq.symm e)).1; exact Nat.le_trans HW8.out.size e) HW8.out.size
      obtain ⟨eqs1, eqs2⟩ := split_end (fun y => Dt.less y z) l hall
      have eqs1 : l.take i = l.takeWhile (fun y => Dt.less y z) := by rw [eqs1]; exact List.take_of_length_le (Nat.le_of_eq HL.out)
      have eqs2 : l.drop i = l.dropWhile (fun y => Dt.less y z) := by rw [eqs2]; exact List.drop_of_length_le (Nat.le_of_eq HL.out)
      rw [eqs1, eqs2, List.append_assoc, List.singleton_append] at hfin
      obtain ⟨a', c', hv8, hrow⟩ := ownD_rowS (hfin.base (B' := W.heap.size) (by omega)) (fun x hx => by rcases mem_split hx with rfl | h; exact HOkz.out; exact HR.out.ok x h)
      have HRow := Lib.hid hrow; have HBw := Lib.hid hbw
      clear hb2 hc2 hfin hbw hrow eqs1 eqs2
      simp only [Nat.zero_add, Nat.reduceAdd]
      rw [hv8]
      clear hv8
      go_wp2_with fail
      go_ret
      exact ⟨⟨a', c', rfl, HRow.out⟩, HWX.out.trans (HBw.out.mono HWX.out.size)⟩
end Go.Proofs.Ytbciopieciglmaa
