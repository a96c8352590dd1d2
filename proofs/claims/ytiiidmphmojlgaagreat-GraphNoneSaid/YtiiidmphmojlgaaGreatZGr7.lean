import Derived.Test.YtiiidmphmojlgaaGreatZGr5
import Derived.Test.YtiiidmphmojlgaaGreatZDot13
namespace Go.Proofs.YtiiidmphmojlgaaGreat
open Go.RowKit Go.Buf Go.LB Go.Lib
set_option linter.unusedSimpArgs false
set_option linter.unusedVariables false
theorem cloneD_none (W : World) : Calls Tryz.prog 27 #[.slice none 0 0] W fun e w' => e = .returned (.slice none 0 0) ∧ Below W.heap.size W w' := by
 have ke := fun (w : World) (a : Option Addr) (n c : Nat) => Lib.run_eql_slice_nil (P := Tryz.prog) w 28 27 a n c 0 0 Tryz.underlying28
 go_enter Tryz.func27, Tryz.ntmps27
 go_wp2_with fail
 go_ret
 exact ⟨rfl, Below.refl _ _⟩
theorem cloneV_none (W : World) : Calls Tryz.prog 32 #[.slice none 0 0] W fun e w' => e = .returned (.slice none 0 0) ∧ Below W.heap.size W w' := by
 have ke := fun (w : World) (a : Option Addr) (n c : Nat) => Lib.run_eql_slice_nil (P := Tryz.prog) w 29 27 a n c 0 0 Tryz.underlying29
 go_enter Tryz.func32, Tryz.ntmps32
 go_wp2_with fail
 go_ret
 exact ⟨rfl, Below.refl _ _⟩
theorem cloneT_none (W : World) : Calls Tryz.prog 95 #[.slice none 0 0] W fun e w' => e = .returned (.slice none 0 0) ∧ Below W.heap.size W w' := by
 have ke := fun (w : World) (a : Option Addr) (n c : Nat) => Lib.run_eql_slice_nil (P := Tryz.prog) w 36 100 a n c 0 0 Tryz.underlying36
 go_enter Tryz.func95, Tryz.ntmps95
 go_wp2_with fail
 go_ret
 exact ⟨rfl, Below.refl _ _⟩
set_option maxRecDepth 100000 in
set_option maxHeartbeats 3200000 in
theorem ownTree1_none (p : Value) (W : World) : Calls Tryz.prog 94 #[.slice none 0 0, p] W fun e w' => e = .returned (.slice none 0 0) ∧ Below W.heap.size W w' := by
 go_enter Tryz.func94, Tryz.ntmps94
 go_wp2_with fail
 refine (cloneT_none _).mono ?_
 rintro e w1 ⟨rfl, hb⟩
 have HB := Lib.hid hb
 clear hb
 go_wp2_with fail
 go_loopw [4, 5, 10] (fun _ _ v wr => v = .int .i64 0 ∧ wr = w1) (fun _ _ _ _ => 0)
 case atStart => exact ⟨rfl, rfl⟩
 case round =>
  obtain ⟨rfl, rfl⟩ := hrel
  go_wp2_with fail
  go_ret
  exact ⟨rfl, HB.out⟩
set_option maxRecDepth 100000 in
set_option maxHeartbeats 3200000 in
theorem ownTree_none (W : World) : Calls Tryz.prog 54 #[.slice none 0 0] W fun e w' => e = .returned (.slice none 0 0) ∧ Below W.heap.size W w' := by
 go_enter Tryz.func54, Tryz.ntmps54
 go_wp2_with fail
 refine (ownTree1_none _ _).mono ?_
 rintro e w1 ⟨rfl, hb⟩
 have HB := Lib.hid (((Below.refl W.heap.size W).alloc (Nat.le_refl _) _).trans (hb.mono (by simp)))
 clear hb
 go_wp2_with fail
 go_ret
 exact ⟨rfl, HB.out⟩
theorem _root_.Go.LB.Blk.set5 {w : World} {b : Nat} {t : TypeId} {c0 c1 c2 c3 c4 : Value} (h : Blk w b t [c0, c1, c2, c3, c4]) (x0 x1 x2 x3 x4 : Value) : Blk (((((w.setCell ⟨b, 0, none⟩ x0).setCell ⟨b, 1, none⟩ x1).setCell ⟨b, 2, none⟩ x2).setCell ⟨b, 3, none⟩ x3).setCell ⟨b, 4, none⟩ x4) b t [x0, x1, x2, x3, x4] := ((((h.set 0 x0).set 1 x1).set 2 x2).set 3 x3).set 4 x4
theorem below5 {B : Nat} {W w : World} (h : Below B W w) {b : Nat} (hb : B ≤ b) (x0 x1 x2 x3 x4 : Value) : Below B W (((((w.setCell ⟨b, 0, none⟩ x0).setCell ⟨b, 1, none⟩ x1).setCell ⟨b, 2, none⟩ x2).setCell ⟨b, 3, none⟩ x3).setCell ⟨b, 4, none⟩ x4) := ((((h.setCell hb x0).setCell hb x1).setCell hb x2).setCell hb x3).setCell hb x4
set_option maxRecDepth 100000 in
set_option maxHeartbeats 6400000 in
theorem ownBase_none (W : World) : Calls Tryz.prog 36 #[base0] W fun e w' => e = .returned base0 ∧ Below W.heap.size W w' := by
 have HB2 := Lib.hid (show Below W.heap.size W ((W.alloc (.cells #[.int .u64 0, .slice none 0 0, .slice none 0 0, .int .u64 0, .slice none 0 0] 38)).alloc (.cells #[.int .u64 0, .slice none 0 0, .slice none 0 0, .int .u64 0, .slice none 0 0] 38)) from ((Below.refl _ _).alloc (Nat.le_refl _) _).alloc (by simp) _)
 have HBk := Lib.hid (show ∀ w, Below ((W.alloc (.cells #[.int .u64 0, .slice none 0 0, .slice none 0 0, .int .u64 0, .slice none 0 0] 38)).alloc (.cells #[.int .u64 0, .slice none 0 0, .slice none 0 0, .int .u64 0, .slice none 0 0] 38)).heap.size ((W.alloc (.cells #[.int .u64 0, .slice none 0 0, .slice none 0 0, .int .u64 0, .slice none 0 0] 38)).alloc (.cells #[.int .u64 0, .slice none 0 0, .slice none 0 0, .int .u64 0, .slice none 0 0] 38)) w → Blk w (W.heap.size) 38 [.int .u64 0, .slice none 0 0, .slice none 0 0, .int .u64 0, .slice none 0 0] from fun w h => ((Blk.new W #[.int .u64 0, .slice none 0 0, .slice none 0 0, .int .u64 0, .slice none 0 0] 38).below ((Below.refl _ _).alloc (Nat.le_refl _) _)).below h)
 have HCs := Lib.hid (show ∀ w, Below ((W.alloc (.cells #[.int .u64 0, .slice none 0 0, .slice none 0 0, .int .u64 0, .slice none 0 0] 38)).alloc (.cells #[.int .u64 0, .slice none 0 0, .slice none 0 0, .int .u64 0, .slice none 0 0] 38)).heap.size ((W.alloc (.cells #[.int .u64 0, .slice none 0 0, .slice none 0 0, .int .u64 0, .slice none 0 0] 38)).alloc (.cells #[.int .u64 0, .slice none 0 0, .slice none 0 0, .int .u64 0, .slice none 0 0] 38)) w → w.cell? ⟨W.heap.size, 0, none⟩ = some (.int .u64 0) ∧ w.cell? ⟨W.heap.size, 1, none⟩ = some (.slice none 0 0) ∧ w.cell? ⟨W.heap.size, 2, none⟩ = some (.slice none 0 0) ∧ w.cell? ⟨W.heap.size, 3, none⟩ = some (.int .u64 0) ∧ w.cell? ⟨W.heap.size, 4, none⟩ = some (.slice none 0 0) from fun w h => by
  have hk := HBk.out w h
  exact ⟨hk.cell 0, hk.cell 1, hk.cell 2, hk.cell 3, hk.cell 4⟩)
 have HZ0 := Lib.hid (show Blk ((W.alloc (.cells #[.int .u64 0, .slice none 0 0, .slice none 0 0, .int .u64 0, .slice none 0 0] 38)).alloc (.cells #[.int .u64 0, .slice none 0 0, .slice none 0 0, .int .u64 0, .slice none 0 0] 38)) (W.heap.size + 1) 38 [.int .u64 0, .slice none 0 0, .slice none 0 0, .int .u64 0, .slice none 0 0] by
  have h := Blk.new (W.alloc (.cells #[.int .u64 0, .slice none 0 0, .slice none 0 0, .int .u64 0, .slice none 0 0] 38)) #[.int .u64 0, .slice none 0 0, .slice none 0 0, .int .u64 0, .slice none 0 0] 38
  simpa using h)
 go_enter Tryz.func36, Tryz.ntmps36
 go_wp2_with fail
 refine RegE.region_list (by kernel_rfl) (fun _ => True) [10, 12, 14] [14] [RegE.plain (fun v _ => v = .pointer (some ⟨W.heap.size, 1, none⟩)), RegE.plain (fun v _ => v = .slice none 0 0), RegE.plain (fun v _ => v = .slice none 0 0), RegE.plain (fun v _ => v = .pointer (some ⟨W.heap.size, 2, none⟩)), RegE.plain (fun v _ => v = .slice none 0 0), RegE.plain (fun v _ => v = .slice none 0 0), RegE.plain (fun v _ => v = .pointer (some ⟨W.heap.size, 4, none⟩)), RegE.plain (fun v _ => v = .slice none 0 0), RegE.plain (fun v _ => v = .slice none 0 0), RegE.plain (fun v _ => v = .pointer (some ⟨W.heap.size, 1, none⟩)), RegE.change (fun v w => v = .pointer (some ⟨W.heap.size, 1, none⟩) ∧ Blk w (W.heap.size) 38 [.int .u64 0, .slice none 0 0, .slice none 0 0, .int .u64 0, .slice none 0 0]) (fun k => k = W.heap.size) (fun w w' => ∃ u, w' = w.setCell ⟨W.heap.size, 1, none⟩ u), RegE.plain (fun v _ => v = .pointer (some ⟨W.heap.size, 2, none⟩)), RegE.change (fun v w => v = .pointer (some ⟨W.heap.size, 2, none⟩) ∧ Blk w (W.heap.size) 38 [.int .u64 0, .slice none 0 0, .slice none 0 0, .int .u64 0, .slice none 0 0]) (fun k => k = W.heap.size) (fun w w' => ∃ u, w' = w.setCell ⟨W.heap.size, 2, none⟩ u), RegE.plain (fun v _ => v = .pointer (some ⟨W.heap.size, 4, none⟩)), RegE.change (fun v w => v = .pointer (some ⟨W.heap.size, 4, none⟩) ∧ Blk w (W.heap.size) 38 [.int .u64 0, .slice none 0 0, .slice none 0 0, .int .u64 0, .slice none 0 0]) (fun k => k = W.heap.size) (fun w w' => ∃ u, w' = w.setCell ⟨W.heap.size, 4, none⟩ u)] (by kernel_rfl) (by kernel_rfl) (trivial) (fun (_ _ : World) _ _ => trivial) ?_ ?_ ?_ ?_ ?_ ?_
 ·exact ⟨Or.inr ⟨fun _ h => h, rfl⟩, Or.inr ⟨fun _ h => h, rfl⟩, Or.inr ⟨fun _ h => h, rfl⟩, Or.inr ⟨fun _ h => h, rfl⟩, Or.inr ⟨fun _ h => h, rfl⟩, Or.inr ⟨fun _ h => h, rfl⟩, Or.inr ⟨fun _ h => h, rfl⟩, Or.inr ⟨fun _ h => h, rfl⟩, Or.inr ⟨fun _ h => h, rfl⟩, Or.inr ⟨fun _ h => h, rfl⟩, Or.inl (by decide), Or.inr ⟨fun _ h => h, rfl⟩, Or.inl (by decide), Or.inr ⟨fun _ h => h, rfl⟩, Or.inl (by decide), trivial⟩
 ·exact ⟨⟨fun _ _ h => h, fun wx wy h => (fun (_ _ : World) _ _ => trivial) wx wy (RegE.to_below h (fun _ h => h))⟩, ⟨fun _ _ h => h, fun wx wy h => (fun (_ _ : World) _ _ => trivial) wx wy (RegE.to_below h (fun _ h => h))⟩, ⟨fun _ _ h => h, fun wx wy h => (fun (_ _ : World) _ _ => trivial) wx wy (RegE.to_below h (fun _ h => h))⟩, ⟨fun _ _ h => h, fun wx wy h => (fun (_ _ : World) _ _ => trivial) wx wy (RegE.to_below h (fun _ h => h))⟩, ⟨fun _ _ h => h, fun wx wy h => (fun (_ _ : World) _ _ => trivial) wx wy (RegE.to_below h (fun _ h => h))⟩, ⟨fun _ _ h => h, fun wx wy h => (fun (_ _ : World) _ _ => trivial) wx wy (RegE.to_below h (fun _ h => h))⟩, ⟨fun _ _ h => h, fun wx wy h => (fun (_ _ : World) _ _ => trivial) wx wy (RegE.to_below h (fun _ h => h))⟩, ⟨fun _ _ h => h, fun wx wy h => (fun (_ _ : World) _ _ => trivial) wx wy (RegE.to_below h (fun _ h => h))⟩, ⟨fun _ _ h => h, fun wx wy h => (fun (_ _ : World) _ _ => trivial) wx wy (RegE.to_below h (fun _ h => h))⟩, ⟨fun _ _ h => h, fun wx wy h => (fun (_ _ : World) _ _ => trivial) wx wy (RegE.to_below h (fun _ h => h))⟩, ⟨(fun wa wb h => by obtain ⟨u, rfl⟩ := h; exact (Chg.refl (fun k => k = W.heap.size) wa).set (Or.inr rfl) _ _), (fun _ _ _ _ => trivial)⟩, ⟨fun _ _ h => h, fun wx wy h => (fun (_ _ : World) _ _ => trivial) wx wy (RegE.to_below h (fun _ h => h))⟩, ⟨(fun wa wb h => by obtain ⟨u, rfl⟩ := h; exact (Chg.refl (fun k => k = W.heap.size) wa).set (Or.inr rfl) _ _), (fun _ _ _ _ => trivial)⟩, ⟨fun _ _ h => h, fun wx wy h => (fun (_ _ : World) _ _ => trivial) wx wy (RegE.to_below h (fun _ h => h))⟩, ⟨(fun wa wb h => by obtain ⟨u, rfl⟩ := h; exact (Chg.refl (fun k => k = W.heap.size) wa).set (Or.inr rfl) _ _), (fun _ _ _ _ => trivial)⟩, trivial⟩
 ·refine ⟨k4, k4, k4, k4, k4, k4, k4, k4, k4, k4, (fun v wa wb hb h => by obtain ⟨h1, h2⟩ := h; exact ⟨h1, h2.below hb⟩), k4, (fun v wa wb hb h => by obtain ⟨h1, h2⟩ := h; exact ⟨h1, h2.below hb⟩), k4, (fun v wa wb hb h => by obtain ⟨h1, h2⟩ := h; exact ⟨h1, h2.below hb⟩), trivial⟩
 ·refine ⟨⟨Or.inr (Or.inr (Or.inr k4)), Or.inr (Or.inr (Or.inr k4)), Or.inr (Or.inr (Or.inr k4)), Or.inr (Or.inr (Or.inr k4)), Or.inr (Or.inr (Or.inr k4)), Or.inr (Or.inr (Or.inr k4)), Or.inr (Or.inr (Or.inr k4)), Or.inr (Or.inr (Or.inr k4)), Or.inr (Or.inr (Or.inr k4)), Or.inr (Or.inr (Or.inr k4)), Or.inl rfl, Or.inr (Or.inr (Or.inr k4)), Or.inr (Or.inl (by kernel_rfl)), Or.inr (Or.inr (Or.inr k4)), Or.inr (Or.inl (by kernel_rfl)), trivial⟩, ⟨Or.inr (Or.inr (Or.inr k4)), Or.inr (Or.inr (Or.inr k4)), Or.inr (Or.inr (Or.inr k4)), Or.inr (Or.inr (Or.inr k4)), Or.inr (Or.inr (Or.inr k4)), Or.inr (Or.inr (Or.inr k4)), Or.inr (Or.inr (Or.inr k4)), Or.inr (Or.inr (Or.inr k4)), Or.inr (Or.inr (Or.inr k4)), Or.inr (Or.inr (Or.inr k4)), Or.inr (Or.inr (Or.inl (by kernel_rfl))), Or.inr (Or.inr (Or.inr k4)), Or.inl rfl, Or.inr (Or.inr (Or.inr k4)), Or.inr (Or.inl (by kernel_rfl)), trivial⟩, ⟨Or.inr (Or.inr (Or.inr k4)), Or.inr (Or.inr (Or.inr k4)), Or.inr (Or.inr (Or.inr k4)), Or.inr (Or.inr (Or.inr k4)), Or.inr (Or.inr (Or.inr k4)), Or.inr (Or.inr (Or.inr k4)), Or.inr (Or.inr (Or.inr k4)), Or.inr (Or.inr (Or.inr k4)), Or.inr (Or.inr (Or.inr k4)), Or.inr (Or.inr (Or.inr k4)), Or.inr (Or.inr (Or.inl (by kernel_rfl))), Or.inr (Or.inr (Or.inr k4)), Or.inr (Or.inr (Or.inl (by kernel_rfl))), Or.inr (Or.inr (Or.inr k4)), Or.inl rfl, trivial⟩, trivial⟩
 ·refine ⟨?_, ?_, ?_, ?_, ?_, ?_, ?_, ?_, ?_, ?_, ?_, ?_, ?_, ?_, ?_, trivial⟩
  ·intro ev w hc hf hg hfix hdep hchg hinv
   have e1 : ev (.tmp 1) = _ := hfix 1 (by decide)
   exact Or.inl ⟨trivial, Or.inl ⟨_, w, by go_simp, rfl, Chg.refl _ _⟩⟩
  ·intro ev w hc hf hg hfix hdep hchg hinv
   have e3 : ev (.tmp 3) = _ := hdep 0 (by decide)
   have hb0 := RegE.chg0 (hchg [] (by kernel_rfl))
   obtain ⟨hc0, hc1, hc2, hc3, hc4⟩ := HCs.out w hb0
   exact Or.inl ⟨trivial, Or.inl ⟨_, w, by go_simp, rfl, Chg.refl _ _⟩⟩
  ·intro ev w hc hf hg hfix hdep hchg hinv
   have e4 : ev (.tmp 4) = _ := hdep 1 (by decide)
   refine Or.inl ⟨trivial, Or.inr (Or.inl ⟨32, #[.slice none 0 0], w, by go_simp, ?_⟩)⟩
   refine (cloneV_none w).mono ?_
   rintro e w9 ⟨rfl, hb⟩
   exact ⟨_, rfl, rfl, Chg.of_below hb⟩
  ·intro ev w hc hf hg hfix hdep hchg hinv
   have e1 : ev (.tmp 1) = _ := hfix 1 (by decide)
   exact Or.inl ⟨trivial, Or.inl ⟨_, w, by go_simp, rfl, Chg.refl _ _⟩⟩
  ·intro ev w hc hf hg hfix hdep hchg hinv
   have e6 : ev (.tmp 6) = _ := hdep 3 (by decide)
   have hb0 := RegE.chg0 (hchg [] (by kernel_rfl))
   obtain ⟨hc0, hc1, hc2, hc3, hc4⟩ := HCs.out w hb0
   exact Or.inl ⟨trivial, Or.inl ⟨_, w, by go_simp, rfl, Chg.refl _ _⟩⟩
  ·intro ev w hc hf hg hfix hdep hchg hinv
   have e7 : ev (.tmp 7) = _ := hdep 4 (by decide)
   refine Or.inl ⟨trivial, Or.inr (Or.inl ⟨27, #[.slice none 0 0], w, by go_simp, ?_⟩)⟩
   refine (cloneD_none w).mono ?_
   rintro e w9 ⟨rfl, hb⟩
   exact ⟨_, rfl, rfl, Chg.of_below hb⟩
  ·intro ev w hc hf hg hfix hdep hchg hinv
   have e1 : ev (.tmp 1) = _ := hfix 1 (by decide)
   exact Or.inl ⟨trivial, Or.inl ⟨_, w, by go_simp, rfl, Chg.refl _ _⟩⟩
  ·intro ev w hc hf hg hfix hdep hchg hinv
   have e9 : ev (.tmp 9) = _ := hdep 6 (by decide)
   have hb0 := RegE.chg0 (hchg [] (by kernel_rfl))
   obtain ⟨hc0, hc1, hc2, hc3, hc4⟩ := HCs.out w hb0
   exact Or.inl ⟨trivial, Or.inl ⟨_, w, by go_simp, rfl, Chg.refl _ _⟩⟩
  ·intro ev w hc hf hg hfix hdep hchg hinv
   have e10 : ev (.tmp 10) = _ := hdep 7 (by decide)
   refine Or.inl ⟨trivial, Or.inr (Or.inl ⟨54, #[.slice none 0 0], w, by go_simp, ?_⟩)⟩
   refine (ownTree_none w).mono ?_
   rintro e w9 ⟨rfl, hb⟩
   exact ⟨_, rfl, rfl, Chg.of_below hb⟩
  ·intro ev w hc hf hg hfix hdep hchg hinv
   have e1 : ev (.tmp 1) = _ := hfix 1 (by decide)
   exact Or.inl ⟨trivial, Or.inl ⟨_, w, by go_simp, rfl, Chg.refl _ _⟩⟩
  ·intro ev w hc hf hg hfix hdep hchg hinv
   have e12 : ev (.tmp 12) = _ := hdep 9 (by decide)
   have e5 := hdep 2 (by decide)
   have hb0 := RegE.chg0 (hchg [] (by kernel_rfl))
   have hblk := HBk.out w hb0
   have ev5 : ev (.tmp 5) = .slice none 0 0 := e5
   have hc1 := hblk.cell 1
   simp only [List.getElem?_cons_succ, List.getElem?_cons_zero] at hc1
   have hy := hblk.frozen 1
   exact Or.inl ⟨trivial, Or.inr (Or.inr ⟨w.setCell ⟨W.heap.size, 1, none⟩ (.slice none 0 0), by go_simp, ⟨e12, hblk.set 1 _⟩, ⟨_, rfl⟩⟩)⟩
  ·intro ev w hc hf hg hfix hdep hchg hinv
   have e1 : ev (.tmp 1) = _ := hfix 1 (by decide)
   exact Or.inl ⟨trivial, Or.inl ⟨_, w, by go_simp, rfl, Chg.refl _ _⟩⟩
  ·intro ev w hc hf hg hfix hdep hchg hinv
   have e13 : ev (.tmp 13) = _ := hdep 11 (by decide)
   have e8 := hdep 5 (by decide)
   obtain ⟨_, hblk⟩ := hdep 10 (by decide)
   have ev8 : ev (.tmp 8) = .slice none 0 0 := e8
   have hc2 := hblk.cell 2
   simp only [List.getElem?_cons_succ, List.getElem?_cons_zero] at hc2
   have hy := hblk.frozen 2
   exact Or.inl ⟨trivial, Or.inr (Or.inr ⟨w.setCell ⟨W.heap.size, 2, none⟩ (.slice none 0 0), by go_simp, ⟨e13, hblk.set 2 _⟩, ⟨_, rfl⟩⟩)⟩
  ·intro ev w hc hf hg hfix hdep hchg hinv
   have e1 : ev (.tmp 1) = _ := hfix 1 (by decide)
   exact Or.inl ⟨trivial, Or.inl ⟨_, w, by go_simp, rfl, Chg.refl _ _⟩⟩
  ·intro ev w hc hf hg hfix hdep hchg hinv
   have e14 : ev (.tmp 14) = _ := hdep 13 (by decide)
   have e11 := hdep 8 (by decide)
   obtain ⟨_, hblk⟩ := hdep 12 (by decide)
   have ev11 : ev (.tmp 11) = .slice none 0 0 := e11
   have hc4 := hblk.cell 4
   simp only [List.getElem?_cons_succ, List.getElem?_cons_zero] at hc4
   have hy := hblk.frozen 4
   exact Or.inl ⟨trivial, Or.inr (Or.inr ⟨w.setCell ⟨W.heap.size, 4, none⟩ (.slice none 0 0), by go_simp, ⟨e14, hblk.set 4 _⟩, ⟨_, rfl⟩⟩)⟩
 ·intro v w2 hv hlk hb2 hJ2
  have r14 := hv 14 (by decide) (by decide)
  simp only [Reg.putAll, Act.put, List.setIfInBounds_toArray, List.set_cons_zero, List.set_cons_succ]
  clear hv hlk
  obtain ⟨_, hblk⟩ := r14
  have hbW : Below W.heap.size W w2 := HB2.out.trans (hb2.below (fun k _ h => by rcases h with h | h | h | h <;> first | exact h.elim | (have : k = W.heap.size := h; omega)) HB2.out.size)
  have hz : Blk w2 (W.heap.size + 1) 38 [.int .u64 0, .slice none 0 0, .slice none 0 0, .int .u64 0, .slice none 0 0] := HZ0.out.chg hb2 (fun h => by rcases h with h | h | h | h <;> first | exact h.elim | (have : W.heap.size + 1 = W.heap.size := h; omega))
  have HBW := Lib.hid hbW; have HZ := Lib.hid hz
  have d0 := hblk.cell 0; have d1 := hblk.cell 1; have d2 := hblk.cell 2; have d3 := hblk.cell 3; have d4 := hblk.cell 4
  have z0 := hz.cell 0; have z1 := hz.cell 1; have z2 := hz.cell 2; have z3 := hz.cell 3; have z4 := hz.cell 4
  have y0 := hz.frozen 0; have y1 := hz.frozen 1; have y2 := hz.frozen 2; have y3 := hz.frozen 3; have y4 := hz.frozen 4
  simp only [List.getElem?_cons_succ, List.getElem?_cons_zero] at d0 d1 d2 d3 d4 z0 z1 z2 z3 z4
  clear hb2 hbW hz hblk
  go_wp2_with fail
  exact bodyPost_ret (v := base0) (res_base (b := W.heap.size + 1) Tryz.results36 (by simp) (HZ.out.set5 (.int .u64 0) (.slice none 0 0) (.slice none 0 0) (.int .u64 0) (.slice none 0 0))) rfl ⟨rfl, below5 HBW.out (by omega) (.int .u64 0) (.slice none 0 0) (.slice none 0 0) (.int .u64 0) (.slice none 0 0)⟩
end Go.Proofs.YtiiidmphmojlgaaGreat
namespace Go.Proofs.YtiiidmphmojlgaaGreat
open Go.RowKit Go.Maps
theorem dot_ne {d e : Dt.Dot} (h : d ≠ e) : d.1.1 ≠ e.1.1 ∨ (d.1.1 = e.1.1 ∧ d.1.2 ≠ e.1.2) ∨ (d.1.1 = e.1.1 ∧ d.1.2 = e.1.2 ∧ d.2 ≠ e.2) := by
 rcases d with ⟨⟨a, b⟩, c⟩; rcases e with ⟨⟨x, y⟩, z⟩
 simp only [ne_eq, Prod.mk.injEq] at *
 omega
theorem take_eq_succ {la lb : List Dt.Dot} {k : Nat} {d : Dt.Dot} (h : la.take k = lb.take k) (ha : la[k]? = some d) (hb : lb[k]? = some d) : la.take (k + 1) = lb.take (k + 1) := by
 obtain ⟨h1, rfl⟩ := List.getElem?_eq_some_iff.1 ha
 obtain ⟨h2, e⟩ := List.getElem?_eq_some_iff.1 hb
 rw [List.take_succ_eq_append_getElem h1, List.take_succ_eq_append_getElem h2, h, e]
set_option maxRecDepth 100000 in
set_option maxHeartbeats 1600000 in
theorem refsame_any (a : Option Addr) (n cap : Nat) (la : List Dt.Dot) (c : Option Addr) (m capc : Nat) (lb : List Dt.Dot) (W : World) (hr : VRow W a cap la) (hl : la.length = n) (hs : VRow W c capc lb) (hm : lb.length = m) :
  Calls Tryz.prog 34 #[.slice a n cap, .slice c m capc] W fun e w' => e = .returned (.bool (decide (la = lb))) ∧ Below W.heap.size W w' := by
 have hle := hr.le
 have hcap := hr.cap
 rw [hl] at hle
 have HR := Lib.hid hr; have HL := Lib.hid hl; have HS := Lib.hid hs; have HM := Lib.hid hm
 clear hr hl hs hm
 by_cases hnm : n = m
 ·subst hnm
  go_enter Tryz.func34, Tryz.ntmps34
  go_wp2
  go_loopw [5] (fun i wr => ∃ k : Nat, k ≤ n ∧ i = .int .i64 k ∧ la.take k = lb.take k ∧ Below W.heap.size W wr) (fun i _ => n - (intOf i).toNat)
  case atStart => exact ⟨0, Nat.zero_le _, rfl, rfl, Below.refl _ _⟩
  case round =>
   obtain ⟨k, hk, rfl, htk, hbel⟩ := hrel
   have HT := Lib.hid htk; have HBel := Lib.hid hbel; clear htk hbel
   by_cases hlt : k < n
   ·obtain ⟨d, hd⟩ := getD_some (l := la) (i := k) (by rw [HL.out]; exact hlt)
    obtain ⟨e, he⟩ := getD_some (l := lb) (i := k) (by rw [HM.out]; exact hlt)
    obtain ⟨b1, o1, rfl, hb1, hc1⟩ := HR.out.at (by rw [HL.out]; omega)
    obtain ⟨b2, o2, rfl, hb2, hc2⟩ := HS.out.at (by rw [HM.out]; omega)
    obtain ⟨g0, g1, g2⟩ := hc1 k d hd
    obtain ⟨g3, g4, g5⟩ := hc2 k e he
    have q0 := (HBel.out.cell (p := ⟨b1, o1 + k * 3, none⟩) hb1).trans g0
    have q1 := (HBel.out.cell (p := ⟨b1, o1 + k * 3 + 1, none⟩) hb1).trans g1
    have q2 := (HBel.out.cell (p := ⟨b1, o1 + k * 3 + 2, none⟩) hb1).trans g2
    have q3 := (HBel.out.cell (p := ⟨b2, o2 + k * 3, none⟩) hb2).trans g3
    have q4 := (HBel.out.cell (p := ⟨b2, o2 + k * 3 + 1, none⟩) hb2).trans g4
    have q5 := (HBel.out.cell (p := ⟨b2, o2 + k * 3 + 2, none⟩) hb2).trans g5
    have i0 : (0 : Int) ≤ (k : Int) := by omega
    have i1 : (k : Int) < (n : Int) := by omega
    have Hd := Lib.hid hd; have He := Lib.hid he
    clear hc1 hc2 g0 g1 g2 g3 g4 g5 hd he
    by_cases hde : d = e
    ·subst hde
     have Hs := Lib.hid (take_eq_succ HT.out Hd.out He.out)
     obtain ⟨⟨r, i⟩, s⟩ := d
     simp only at q0 q1 q2 q3 q4 q5
     go_wp2
     go_quiet (fail)
     go_wp2
     clear q0 q1 q2 q3 q4 q5
     go_roundw
     case rel => exact ⟨k + 1, by omega, by go_num, Hs.out, below_drewN HBel.out _⟩
     case measure => simp [intOf]; omega
    ·have hfin : decide (la = lb) = false := decide_eq_false fun g => hde (by have h1 := Hd.out; have h2 := He.out; rw [g, h2] at h1; exact (Option.some.inj h1).symm)
     have Hfin := Lib.hid hfin; clear hfin
     have hne := dot_ne hde
     obtain ⟨⟨r, i⟩, s⟩ := d
     obtain ⟨⟨r', i'⟩, s'⟩ := e
     simp only at q0 q1 q2 q3 q4 q5 hne
     clear hde
     rcases hne with h1 | ⟨rfl, h1⟩ | ⟨rfl, rfl, h1⟩
     ·have d1 : ((r : Int) == (r' : Int)) = false := by simp; omega
      clear h1
      go_wp2
      go_quiet (fail)
      go_wp2
      go_ret
      exact ⟨ret_bool Hfin.out.symm, below_drewN HBel.out _⟩
     ·have d1 : ((i : Int) == (i' : Int)) = false := by simp; omega
      clear h1
      go_wp2
      go_quiet (fail)
      go_wp2
      go_ret
      exact ⟨ret_bool Hfin.out.symm, below_drewN HBel.out _⟩
     ·have d1 : ((s : Int) == (s' : Int)) = false := by simp; omega
      clear h1
      go_wp2
      go_quiet (fail)
      go_wp2
      go_ret
      exact ⟨ret_bool Hfin.out.symm, below_drewN HBel.out _⟩
   ·have hfin : decide (la = lb) = true := decide_eq_true (by have := HT.out; rwa [List.take_of_length_le (by rw [HL.out]; omega), List.take_of_length_le (by rw [HM.out]; omega)] at this)
    have Hfin := Lib.hid hfin; clear hfin
    go_wp2
    go_ret
    exact ⟨ret_bool Hfin.out.symm, HBel.out⟩
 ·have hfin : decide (la = lb) = false := decide_eq_false fun g => hnm (by rw [← HL.out, ← HM.out, g])
  have Hfin := Lib.hid hfin; clear hfin
  have d1 : ((n : Int) == (m : Int)) = false := by simp; omega
  go_enter Tryz.func34, Tryz.ntmps34
  go_wp2
  go_ret
  exact ⟨ret_bool Hfin.out.symm, Below.refl _ _⟩
end Go.Proofs.YtiiidmphmojlgaaGreat
namespace Go.Proofs.YtiiidmphmojlgaaGreat
open Go.RowKit Go.Buf Go.LB Go.Lib
set_option linter.unusedSimpArgs false
set_option linter.unusedVariables false
set_option maxRecDepth 100000 in
set_option maxHeartbeats 6400000 in
theorem base_none (p : Option Addr) (mb : Option Nat) (W : World) (hG : GAt W p mb) :
  Calls Tryz.prog 12 #[.pointer p] W fun e w' => e = .returned base0 ∧ Below W.heap.size W w' := by
 have HG := Lib.hid hG
 clear hG
 have HB0 := Lib.hid (show Below W.heap.size W (W.alloc b0C) from (Below.refl _ _).alloc (Nat.le_refl _) _)
 have HZ := Lib.hid (Blk.new W #[.int .u64 0, .slice none 0 0, .slice none 0 0, .int .u64 0, .slice none 0 0] 38)
 go_enter Tryz.func12, Tryz.ntmps12
 go_wp2_with fail
 refine (parts_any p mb _ (HG.out.below HB0.out)).mono ?_
 rintro e w1 ⟨rfl, hb⟩
 have hb1 := HB0.out.trans (hb.mono HB0.out.size)
 have HB1 := Lib.hid (hb1.alloc hb1.size b0C)
 have hZ1 := (HZ.out.below hb).below ((Below.refl _ _).alloc (Nat.le_refl _) b0C)
 have HZ1 := Lib.hid hZ1
 clear hb hb1 hZ1
 go_wp2_with fail
 refine (ownBase_none _).mono ?_
 rintro e w2 ⟨rfl, hb⟩
 have HB2 := Lib.hid (HB1.out.trans (hb.mono HB1.out.size))
 have hZ2 := HZ1.out.below hb
 have HZ2 := Lib.hid hZ2
 have hl := hZ2.lt
 have z0 := hZ2.cell 0; have z1 := hZ2.cell 1; have z2 := hZ2.cell 2; have z3 := hZ2.cell 3; have z4 := hZ2.cell 4
 have y0 := hZ2.frozen 0; have y1 := hZ2.frozen 1; have y2 := hZ2.frozen 2; have y3 := hZ2.frozen 3; have y4 := hZ2.frozen 4
 simp only [List.getElem?_cons_succ, List.getElem?_cons_zero] at z0 z1 z2 z3 z4
 clear hb hZ2
 go_wp2_with fail
 exact bodyPost_ret (v := base0) (res_base (b := W.heap.size) Tryz.results12 (by simp) (HZ2.out.set5 (.int .u64 0) (.slice none 0 0) (.slice none 0 0) (.int .u64 0) (.slice none 0 0))) rfl ⟨rfl, below5 HB2.out (Nat.le_refl _) (.int .u64 0) (.slice none 0 0) (.slice none 0 0) (.int .u64 0) (.slice none 0 0)⟩
set_option maxRecDepth 100000 in
set_option maxHeartbeats 6400000 in
theorem treeSame_none (W : World) : Calls Tryz.prog 35 #[.slice none 0 0, .slice none 0 0] W fun e w' => e = .returned (.bool true) ∧ Below W.heap.size W w' := by
 go_enter Tryz.func35, Tryz.ntmps35
 go_wp2_with fail
 go_loopw [5] (fun v wr => v = .int .i64 0 ∧ wr = W) (fun _ _ => 0)
 case atStart => exact ⟨rfl, rfl⟩
 case round =>
  obtain ⟨rfl, rfl⟩ := hrel
  go_wp2_with fail
  go_ret
  exact ⟨rfl, Below.refl _ _⟩
set_option maxRecDepth 100000 in
set_option maxHeartbeats 6400000 in
theorem sameBase_none (W : World) : Calls Tryz.prog 11 #[base0, base0] W fun e w' => e = .returned (.bool true) ∧ Below W.heap.size W w' := by
 have HB0 := Lib.hid (show Below W.heap.size W ((W.alloc b0C).alloc b0C) from ((Below.refl _ _).alloc (Nat.le_refl _) _).alloc (by simp) _)
 have HX := Lib.hid ((Blk.new W #[.int .u64 0, .slice none 0 0, .slice none 0 0, .int .u64 0, .slice none 0 0] 38).below ((Below.refl _ _).alloc (Nat.le_refl _) b0C))
 have hY := Blk.new (W.alloc b0C) #[.int .u64 0, .slice none 0 0, .slice none 0 0, .int .u64 0, .slice none 0 0] 38
 rw [World.size_alloc] at hY
 have HY := Lib.hid hY
 clear hY
 go_enter Tryz.func11, Tryz.ntmps11
 go_wp2_with fail
 refine (refsame_any none 0 0 [] none 0 0 [] _ (VRow.nil _) rfl (VRow.nil _) rfl).mono ?_
 rintro e w1 ⟨rfl, hb⟩
 have HB1 := Lib.hid (HB0.out.trans (hb.mono HB0.out.size))
 have hX := HX.out.below hb; have hY := HY.out.below hb
 have HX1 := Lib.hid hX; have HY1 := Lib.hid hY
 have x0 := hX.cell 0; have x1 := hX.cell 1; have x2 := hX.cell 2; have x3 := hX.cell 3; have x4 := hX.cell 4
 have y0 := hY.cell 0; have y1 := hY.cell 1; have y2 := hY.cell 2; have y3 := hY.cell 3; have y4 := hY.cell 4
 simp only [List.getElem?_cons_succ, List.getElem?_cons_zero] at x0 x1 x2 x3 x4 y0 y1 y2 y3 y4
 rw [show decide (([] : List Dt.Dot) = []) = true from rfl]
 clear hb hX hY
 go_wp2_with fail
 clear x0 x1 x2 x3 x4 y0 y1 y2 y3 y4
 refine (refsame_any none 0 0 [] none 0 0 [] _ (VRow.nil _) rfl (VRow.nil _) rfl).mono ?_
 rintro e w2 ⟨rfl, hb⟩
 have HB2 := Lib.hid (HB1.out.trans (hb.mono HB1.out.size))
 have hX := HX1.out.below hb; have hY := HY1.out.below hb
 have x0 := hX.cell 0; have x1 := hX.cell 1; have x2 := hX.cell 2; have x3 := hX.cell 3; have x4 := hX.cell 4
 have y0 := hY.cell 0; have y1 := hY.cell 1; have y2 := hY.cell 2; have y3 := hY.cell 3; have y4 := hY.cell 4
 simp only [List.getElem?_cons_succ, List.getElem?_cons_zero] at x0 x1 x2 x3 x4 y0 y1 y2 y3 y4
 rw [show decide (([] : List Dt.Dot) = []) = true from rfl]
 clear hb hX hY
 go_wp2_with fail
 clear x0 x1 x2 x3 x4 y0 y1 y2 y3 y4
 refine (treeSame_none _).mono ?_
 rintro e w3 ⟨rfl, hb⟩
 have HB3 := Lib.hid (HB2.out.trans (hb.mono HB2.out.size))
 clear hb
 go_wp2_with fail
 go_ret
 exact ⟨rfl, HB3.out⟩
end Go.Proofs.YtiiidmphmojlgaaGreat
