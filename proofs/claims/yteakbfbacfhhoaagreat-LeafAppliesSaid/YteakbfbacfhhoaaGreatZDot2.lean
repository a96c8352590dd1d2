import Derived.Test.YteakbfbacfhhoaaGreatZDot1
import Derived.Test.YteakbfbacfhhoaaGreatZRegG
import Derived.Sort.Grow
namespace Go.Proofs.YteakbfbacfhhoaaGreat
open Go.RowKit
open Go.RegG (Gr)
theorem grow_of_gr {w w' : World} (h : Gr w.heap.size w w') : ∃ q os, w' = Sort.grow (w.drewN q) os := by
 obtain ⟨⟨h1, h2, h3, h4, h5⟩, h6⟩ := h
 refine ⟨w'.drawn - w.drawn, w'.heap.extract w.heap.size w'.heap.size, ?_⟩
 obtain ⟨hp, tp, dr, os, out⟩ := w
 obtain ⟨hp', tp', dr', os', out'⟩ := w'
 simp only at h1 h2 h3 h4 h5 h6
 subst h1; subst h2; subst h3
 simp only [Sort.grow, World.drewN, World.mk.injEq, true_and, and_true]
 refine ⟨?_, by omega⟩
 apply Array.ext_getElem?
 intro k
 rw [Array.getElem?_append]
 by_cases hk : k < hp.size
 ·rw [if_pos hk]; exact h5 k hk
 ·rw [if_neg hk, Array.getElem?_extract]
  by_cases hk' : k < hp'.size
  ·rw [if_pos (by omega)]; congr 1; omega
  ·rw [if_neg (by omega)]; simp; omega
theorem or_any (x y : Int) (b cap : Nat) (w : World) (h0 : w.cell? ⟨b, 0, none⟩ = some (.int .i64 x)) (h1 : w.cell? ⟨b, 1, none⟩ = some (.int .i64 y)) :
  Calls Tryz.prog 45 #[.slice (some ⟨b, 0, none⟩) 2 cap] w fun e w' => e = .returned (.int .i64 (if x ≠ 0 then x else y)) ∧ w = w' := by
 by_cases hx : x = 0
 ·subst hx
  by_cases hy : y = 0
  ·subst hy
   go_enter Tryz.func45, Tryz.ntmps45
   go_wp2
   refine wp_loop_rounds 3 ?_
   rw [rounds_succ]
   go_wp2
   rw [rounds_succ]
   go_wp2
   rw [rounds_succ]
   go_wp2
   go_ret
   exact ⟨by simp, rfl⟩
  ·have d : (y == 0) = false := by simpa using hy
   have d' : (y != 0) = true := by simpa using hy
   go_enter Tryz.func45, Tryz.ntmps45
   go_wp2
   refine wp_loop_rounds 3 ?_
   rw [rounds_succ]
   go_wp2
   rw [rounds_succ]
   go_wp2
   go_ret
   exact ⟨by simp, rfl⟩
 ·have d : (x == 0) = false := by simpa using hx
  have d' : (x != 0) = true := by simpa using hx
  go_enter Tryz.func45, Tryz.ntmps45
  go_wp2
  refine wp_loop_rounds 3 ?_
  rw [rounds_succ]
  go_wp2
  go_ret
  exact ⟨by simp, rfl⟩
end Go.Proofs.YteakbfbacfhhoaaGreat
namespace Go.Proofs.YteakbfbacfhhoaaGreat
open Go.RowKit
open Go.RegG (Gr)
theorem cmpg_u8 (x y : Nat) (w : World) : Calls Tryz.prog 60 #[.int .u8 (x : Int), .int .u8 (y : Int)] w fun e w' => e = .returned (.int .i64 (Dt.cmpN x y)) ∧ Gr w.heap.size w w' :=
 (cmp_u8 x y w).mono fun _ _ ⟨h1, h2⟩ => ⟨h1, h2 ▸ Gr.refl _ _⟩
theorem cmpg_u32 (x y : Nat) (w : World) : Calls Tryz.prog 61 #[.int .u32 (x : Int), .int .u32 (y : Int)] w fun e w' => e = .returned (.int .i64 (Dt.cmpN x y)) ∧ Gr w.heap.size w w' :=
 (cmp_u32 x y w).mono fun _ _ ⟨h1, h2⟩ => ⟨h1, h2 ▸ Gr.refl _ _⟩
theorem cmpg_u64 (x y : Nat) (w : World) : Calls Tryz.prog 47 #[.int .u64 (x : Int), .int .u64 (y : Int)] w fun e w' => e = .returned (.int .i64 (Dt.cmpN x y)) ∧ Gr w.heap.size w w' :=
 (cmp_u64 x y w).mono fun _ _ ⟨h1, h2⟩ => ⟨h1, h2 ▸ Gr.refl _ _⟩
set_option maxRecDepth 100000 in
set_option maxHeartbeats 1600000 in
theorem compareActors_any (r i r' i' : Nat) (W : World) :
  Calls Tryz.prog 46 #[acV (r, i), acV (r', i')] W fun e w' => e = .returned (.int .i64 (Dt.cmpA (r, i) (r', i'))) ∧ Gr W.heap.size W w' := by
 have HC : Hid (∀ w2, Gr ((W.alloc (.cells #[(.int .u8 (r : Int)), (.int .u32 (i : Int))] 25)).alloc (.cells #[(.int .u8 (r' : Int)), (.int .u32 (i' : Int))] 25)).drew.heap.size ((W.alloc (.cells #[(.int .u8 (r : Int)), (.int .u32 (i : Int))] 25)).alloc (.cells #[(.int .u8 (r' : Int)), (.int .u32 (i' : Int))] 25)).drew w2 → w2.cell? ⟨W.heap.size, 0, none⟩ = some (.int .u8 (r : Int)) ∧ w2.cell? ⟨W.heap.size + 1, 0, none⟩ = some (.int .u8 (r' : Int)) ∧ w2.cell? ⟨W.heap.size, 1, none⟩ = some (.int .u32 (i : Int)) ∧ w2.cell? ⟨W.heap.size + 1, 1, none⟩ = some (.int .u32 (i' : Int)) ∧ w2.cell? ⟨W.heap.size, 0, none⟩ = some (.int .u8 (r : Int)) ∧ w2.cell? ⟨W.heap.size + 1, 0, none⟩ = some (.int .u8 (r' : Int))) := fun w2 h => ⟨(h.below.cell (p := ⟨W.heap.size, 0, none⟩) (by simp <;> omega)).trans (by simp), (h.below.cell (p := ⟨W.heap.size + 1, 0, none⟩) (by simp <;> omega)).trans (by simp), (h.below.cell (p := ⟨W.heap.size, 1, none⟩) (by simp <;> omega)).trans (by simp), (h.below.cell (p := ⟨W.heap.size + 1, 1, none⟩) (by simp <;> omega)).trans (by simp), (h.below.cell (p := ⟨W.heap.size, 0, none⟩) (by simp <;> omega)).trans (by simp), (h.below.cell (p := ⟨W.heap.size + 1, 0, none⟩) (by simp <;> omega)).trans (by simp)⟩
 have HE : Hid (Value.int .i64 (if Dt.cmpN r r' ≠ 0 then Dt.cmpN r r' else Dt.cmpN i i') = .int .i64 (Dt.cmpA (r, i) (r', i'))) := by exact congrArg (Value.int .i64) (Dt.cmpA_eq (r, i) (r', i')).symm
 go_enter Tryz.func46, Tryz.ntmps46
 go_wp2_with fail
 refine RegG.region_list (by kernel_rfl) [fun v _ => v = .pointer (some ⟨W.heap.size, 0, none⟩), fun v _ => v = .int .u8 (r : Int), fun v _ => v = .pointer (some ⟨W.heap.size + 1, 0, none⟩), fun v _ => v = .int .u8 (r' : Int), fun v _ => v = .int .i64 (Dt.cmpN r r'), fun v _ => v = .pointer (some ⟨W.heap.size, 1, none⟩), fun v _ => v = .int .u32 (i : Int), fun v _ => v = .pointer (some ⟨W.heap.size + 1, 1, none⟩), fun v _ => v = .int .u32 (i' : Int), fun v _ => v = .int .i64 (Dt.cmpN i i'), fun v w => ∃ b, v = .slice (some ⟨b, 0, none⟩) 2 2 ∧ w.cell? ⟨b, 0, none⟩ = some (.int .i64 (Dt.cmpN r r')) ∧ w.cell? ⟨b, 1, none⟩ = some (.int .i64 (Dt.cmpN i i')), fun v _ => v = .int .i64 (Dt.cmpA (r, i) (r', i')), fun v _ => v = .int .i64 (Dt.cmpA (r, i) (r', i'))] (by kernel_rfl) ?_ ?_ ?_
 ·refine ⟨k4, k4, k4, k4, k4, k4, k4, k4, k4, k4, (fun v wa wb hb h => by obtain ⟨b, h1, h2, h3⟩ := h; exact ⟨b, h1, (hb.below.cell (p := ⟨b, 0, none⟩) (World.block_lt_of_cell? _ _ h2)).trans h2, (hb.below.cell (p := ⟨b, 1, none⟩) (World.block_lt_of_cell? _ _ h3)).trans h3⟩), k4, k4, trivial⟩
 ·refine ⟨?_, ?_, ?_, ?_, ?_, ?_, ?_, ?_, ?_, ?_, ?_, ?_, ?_, trivial⟩
  ·intro ev w hc hf hg hfix hdep hbel
   have e2 : ev (.tmp 2) = _ := hfix 2 (by decide)
   exact Or.inl ⟨trivial, Or.inl ⟨_, w, by go_simp, rfl, Gr.refl _ _⟩⟩
  ·intro ev w hc hf hg hfix hdep hbel
   have e5 : ev (.tmp 5) = _ := hdep 0 (by decide)
   have hcs := HC.out w hbel
   obtain ⟨hc0, hc1, hc2, hc3, hc4, hc5⟩ := hcs
   exact Or.inl ⟨trivial, Or.inl ⟨_, w, by go_simp, rfl, Gr.refl _ _⟩⟩
  ·intro ev w hc hf hg hfix hdep hbel
   have e3 : ev (.tmp 3) = _ := hfix 3 (by decide)
   exact Or.inl ⟨trivial, Or.inl ⟨_, w, by go_simp, rfl, Gr.refl _ _⟩⟩
  ·intro ev w hc hf hg hfix hdep hbel
   have e7 : ev (.tmp 7) = _ := hdep 2 (by decide)
   have hcs := HC.out w hbel
   obtain ⟨hc0, hc1, hc2, hc3, hc4, hc5⟩ := hcs
   exact Or.inl ⟨trivial, Or.inl ⟨_, w, by go_simp, rfl, Gr.refl _ _⟩⟩
  ·intro ev w hc hf hg hfix hdep hbel
   have e6 : ev (.tmp 6) = _ := hdep 1 (by decide)
   have e8 : ev (.tmp 8) = _ := hdep 3 (by decide)
   refine Or.inl ⟨trivial, Or.inr ⟨60, #[.int .u8 (r : Int), .int .u8 (r' : Int)], w, by go_simp, ?_⟩⟩
   refine (cmpg_u8 r r' w).mono ?_
   rintro e w1 ⟨rfl, hb1⟩
   exact ⟨_, rfl, rfl, hb1⟩
  ·intro ev w hc hf hg hfix hdep hbel
   have e2 : ev (.tmp 2) = _ := hfix 2 (by decide)
   exact Or.inl ⟨trivial, Or.inl ⟨_, w, by go_simp, rfl, Gr.refl _ _⟩⟩
  ·intro ev w hc hf hg hfix hdep hbel
   have e10 : ev (.tmp 10) = _ := hdep 5 (by decide)
   have hcs := HC.out w hbel
   obtain ⟨hc0, hc1, hc2, hc3, hc4, hc5⟩ := hcs
   exact Or.inl ⟨trivial, Or.inl ⟨_, w, by go_simp, rfl, Gr.refl _ _⟩⟩
  ·intro ev w hc hf hg hfix hdep hbel
   have e3 : ev (.tmp 3) = _ := hfix 3 (by decide)
   exact Or.inl ⟨trivial, Or.inl ⟨_, w, by go_simp, rfl, Gr.refl _ _⟩⟩
  ·intro ev w hc hf hg hfix hdep hbel
   have e12 : ev (.tmp 12) = _ := hdep 7 (by decide)
   have hcs := HC.out w hbel
   obtain ⟨hc0, hc1, hc2, hc3, hc4, hc5⟩ := hcs
   exact Or.inl ⟨trivial, Or.inl ⟨_, w, by go_simp, rfl, Gr.refl _ _⟩⟩
  ·intro ev w hc hf hg hfix hdep hbel
   have e11 : ev (.tmp 11) = _ := hdep 6 (by decide)
   have e13 : ev (.tmp 13) = _ := hdep 8 (by decide)
   refine Or.inl ⟨trivial, Or.inr ⟨61, #[.int .u32 (i : Int), .int .u32 (i' : Int)], w, by go_simp, ?_⟩⟩
   refine (cmpg_u32 i i' w).mono ?_
   rintro e w1 ⟨rfl, hb1⟩
   exact ⟨_, rfl, rfl, hb1⟩
  ·intro ev w hc hf hg hfix hdep hbel
   have e9 : ev (.tmp 9) = _ := hdep 4 (by decide)
   have e14 : ev (.tmp 14) = _ := hdep 9 (by decide)
   exact Or.inl ⟨trivial, Or.inl ⟨.slice (some ⟨w.heap.size, 0, none⟩) 2 2, w.alloc (.cells #[.int .i64 (Dt.cmpN r r'), .int .i64 (Dt.cmpN i i')] 3) , by go_simp, ⟨w.heap.size, rfl, by simp, by simp⟩, (Gr.refl _ _).alloc (Nat.le_refl _) _⟩⟩
  ·intro ev w hc hf hg hfix hdep hbel
   have e15 := hdep 10 (by decide)
   obtain ⟨b, hb0, hb1, hb2⟩ := e15
   have hb9 : ev (.tmp 15) = .slice (some ⟨b, 0, none⟩) 2 2 := hb0
   refine Or.inl ⟨trivial, Or.inr ⟨45, #[.slice (some ⟨b, 0, none⟩) 2 2], w, by go_simp, ?_⟩⟩
   refine (or_any _ _ b 2 w hb1 hb2).mono ?_
   rintro e w1 ⟨rfl, rfl⟩
   exact ⟨_, rfl, HE.out, Gr.refl _ _⟩
  ·intro ev w hc hf hg hfix hdep hbel
   have e16 : ev (.tmp 16) = _ := hdep 11 (by decide)
   exact Or.inl ⟨trivial, Or.inl ⟨_, w, by go_simp, rfl, Gr.refl _ _⟩⟩
 ·intro v w2 hv hb2
  have r0 : v 0 = _ := hv 0 (by decide)
  have r1 : v 1 = _ := hv 1 (by decide)
  have r2 : v 2 = _ := hv 2 (by decide)
  have r3 : v 3 = _ := hv 3 (by decide)
  have r4 : v 4 = _ := hv 4 (by decide)
  have r5 : v 5 = _ := hv 5 (by decide)
  have r6 : v 6 = _ := hv 6 (by decide)
  have r7 : v 7 = _ := hv 7 (by decide)
  have r8 : v 8 = _ := hv 8 (by decide)
  have r9 : v 9 = _ := hv 9 (by decide)
  have r10 := hv 10 (by decide)
  have r11 : v 11 = _ := hv 11 (by decide)
  have r12 : v 12 = _ := hv 12 (by decide)
  simp only [RegG.putAll, Act.put, List.setIfInBounds_toArray, List.set_cons_zero, List.set_cons_succ, r0, r1, r2, r3, r4, r5, r6, r7, r8, r9, r11, r12]
  clear r0 r1 r2 r3 r4 r5 r6 r7 r8 r9 r11 r12 hv
  clear r10
  go_wp2_with fail
  go_ret
  exact ⟨rfl, (((Gr.refl _ _).alloc (Nat.le_refl _) _).alloc (by simp) _).trans (hb2.mono (by simp; omega))⟩
set_option maxRecDepth 100000 in
set_option maxHeartbeats 1600000 in
theorem compare_any (r i s r' i' s' : Nat) (W : World) :
  Calls Tryz.prog 26 #[dotV ((r, i), s), dotV ((r', i'), s')] W fun e w' => e = .returned (.int .i64 (Dt.cmp ((r, i), s) ((r', i'), s'))) ∧ Gr W.heap.size W w' := by
 have HC : Hid (∀ w2, Gr ((W.alloc (.cells #[(.int .u8 (r : Int)), (.int .u32 (i : Int)), (.int .u64 (s : Int))] 27)).alloc (.cells #[(.int .u8 (r' : Int)), (.int .u32 (i' : Int)), (.int .u64 (s' : Int))] 27)).drew.heap.size ((W.alloc (.cells #[(.int .u8 (r : Int)), (.int .u32 (i : Int)), (.int .u64 (s : Int))] 27)).alloc (.cells #[(.int .u8 (r' : Int)), (.int .u32 (i' : Int)), (.int .u64 (s' : Int))] 27)).drew w2 → w2.cell? ⟨W.heap.size, 0, none⟩ = some (.int .u8 (r : Int)) ∧ w2.cell? ⟨W.heap.size + 1, 0, none⟩ = some (.int .u8 (r' : Int)) ∧ w2.cell? ⟨W.heap.size, 1, none⟩ = some (.int .u32 (i : Int)) ∧ w2.cell? ⟨W.heap.size + 1, 1, none⟩ = some (.int .u32 (i' : Int)) ∧ w2.cell? ⟨W.heap.size, 2, none⟩ = some (.int .u64 (s : Int)) ∧ w2.cell? ⟨W.heap.size + 1, 2, none⟩ = some (.int .u64 (s' : Int))) := fun w2 h => ⟨(h.below.cell (p := ⟨W.heap.size, 0, none⟩) (by simp <;> omega)).trans (by simp), (h.below.cell (p := ⟨W.heap.size + 1, 0, none⟩) (by simp <;> omega)).trans (by simp), (h.below.cell (p := ⟨W.heap.size, 1, none⟩) (by simp <;> omega)).trans (by simp), (h.below.cell (p := ⟨W.heap.size + 1, 1, none⟩) (by simp <;> omega)).trans (by simp), (h.below.cell (p := ⟨W.heap.size, 2, none⟩) (by simp <;> omega)).trans (by simp), (h.below.cell (p := ⟨W.heap.size + 1, 2, none⟩) (by simp <;> omega)).trans (by simp)⟩
 have HE : Hid (Value.int .i64 (if Dt.cmpA (r, i) (r', i') ≠ 0 then Dt.cmpA (r, i) (r', i') else Dt.cmpN s s') = .int .i64 (Dt.cmp ((r, i), s) ((r', i'), s'))) := by exact congrArg (Value.int .i64) (Dt.cmp_eq ((r, i), s) ((r', i'), s')).symm
 go_enter Tryz.func26, Tryz.ntmps26
 go_wp2_with fail
 refine RegG.region_list (by kernel_rfl) [fun v _ => v = .pointer (some ⟨W.heap.size, 0, none⟩), fun v _ => v = acV (r, i), fun v _ => v = .pointer (some ⟨W.heap.size + 1, 0, none⟩), fun v _ => v = acV (r', i'), fun v _ => v = .int .i64 (Dt.cmpA (r, i) (r', i')), fun v _ => v = .pointer (some ⟨W.heap.size, 2, none⟩), fun v _ => v = .int .u64 (s : Int), fun v _ => v = .pointer (some ⟨W.heap.size + 1, 2, none⟩), fun v _ => v = .int .u64 (s' : Int), fun v _ => v = .int .i64 (Dt.cmpN s s'), fun v w => ∃ b, v = .slice (some ⟨b, 0, none⟩) 2 2 ∧ w.cell? ⟨b, 0, none⟩ = some (.int .i64 (Dt.cmpA (r, i) (r', i'))) ∧ w.cell? ⟨b, 1, none⟩ = some (.int .i64 (Dt.cmpN s s')), fun v _ => v = .int .i64 (Dt.cmp ((r, i), s) ((r', i'), s')), fun v _ => v = .int .i64 (Dt.cmp ((r, i), s) ((r', i'), s'))] (by kernel_rfl) ?_ ?_ ?_
 ·refine ⟨k4, k4, k4, k4, k4, k4, k4, k4, k4, k4, (fun v wa wb hb h => by obtain ⟨b, h1, h2, h3⟩ := h; exact ⟨b, h1, (hb.below.cell (p := ⟨b, 0, none⟩) (World.block_lt_of_cell? _ _ h2)).trans h2, (hb.below.cell (p := ⟨b, 1, none⟩) (World.block_lt_of_cell? _ _ h3)).trans h3⟩), k4, k4, trivial⟩
 ·refine ⟨?_, ?_, ?_, ?_, ?_, ?_, ?_, ?_, ?_, ?_, ?_, ?_, ?_, trivial⟩
  ·intro ev w hc hf hg hfix hdep hbel
   have e2 : ev (.tmp 2) = _ := hfix 2 (by decide)
   exact Or.inl ⟨trivial, Or.inl ⟨_, w, by go_simp, rfl, Gr.refl _ _⟩⟩
  ·intro ev w hc hf hg hfix hdep hbel
   have e5 : ev (.tmp 5) = _ := hdep 0 (by decide)
   have hcs := HC.out w hbel
   obtain ⟨hc0, hc1, hc2, hc3, hc4, hc5⟩ := hcs
   exact Or.inl ⟨trivial, Or.inl ⟨_, w, by go_simp, rfl, Gr.refl _ _⟩⟩
  ·intro ev w hc hf hg hfix hdep hbel
   have e3 : ev (.tmp 3) = _ := hfix 3 (by decide)
   exact Or.inl ⟨trivial, Or.inl ⟨_, w, by go_simp, rfl, Gr.refl _ _⟩⟩
  ·intro ev w hc hf hg hfix hdep hbel
   have e7 : ev (.tmp 7) = _ := hdep 2 (by decide)
   have hcs := HC.out w hbel
   obtain ⟨hc0, hc1, hc2, hc3, hc4, hc5⟩ := hcs
   exact Or.inl ⟨trivial, Or.inl ⟨_, w, by go_simp, rfl, Gr.refl _ _⟩⟩
  ·intro ev w hc hf hg hfix hdep hbel
   have e6 : ev (.tmp 6) = _ := hdep 1 (by decide)
   have e8 : ev (.tmp 8) = _ := hdep 3 (by decide)
   refine Or.inl ⟨trivial, Or.inr ⟨46, #[acV (r, i), acV (r', i')], w, by go_simp, ?_⟩⟩
   refine (compareActors_any r i r' i' w).mono ?_
   rintro e w1 ⟨rfl, hb1⟩
   exact ⟨_, rfl, rfl, hb1⟩
  ·intro ev w hc hf hg hfix hdep hbel
   have e2 : ev (.tmp 2) = _ := hfix 2 (by decide)
   exact Or.inl ⟨trivial, Or.inl ⟨_, w, by go_simp, rfl, Gr.refl _ _⟩⟩
  ·intro ev w hc hf hg hfix hdep hbel
   have e10 : ev (.tmp 10) = _ := hdep 5 (by decide)
   have hcs := HC.out w hbel
   obtain ⟨hc0, hc1, hc2, hc3, hc4, hc5⟩ := hcs
   exact Or.inl ⟨trivial, Or.inl ⟨_, w, by go_simp, rfl, Gr.refl _ _⟩⟩
  ·intro ev w hc hf hg hfix hdep hbel
   have e3 : ev (.tmp 3) = _ := hfix 3 (by decide)
   exact Or.inl ⟨trivial, Or.inl ⟨_, w, by go_simp, rfl, Gr.refl _ _⟩⟩
  ·intro ev w hc hf hg hfix hdep hbel
   have e12 : ev (.tmp 12) = _ := hdep 7 (by decide)
   have hcs := HC.out w hbel
   obtain ⟨hc0, hc1, hc2, hc3, hc4, hc5⟩ := hcs
   exact Or.inl ⟨trivial, Or.inl ⟨_, w, by go_simp, rfl, Gr.refl _ _⟩⟩
  ·intro ev w hc hf hg hfix hdep hbel
   have e11 : ev (.tmp 11) = _ := hdep 6 (by decide)
   have e13 : ev (.tmp 13) = _ := hdep 8 (by decide)
   refine Or.inl ⟨trivial, Or.inr ⟨47, #[.int .u64 (s : Int), .int .u64 (s' : Int)], w, by go_simp, ?_⟩⟩
   refine (cmpg_u64 s s' w).mono ?_
   rintro e w1 ⟨rfl, hb1⟩
   exact ⟨_, rfl, rfl, hb1⟩
  ·intro ev w hc hf hg hfix hdep hbel
   have e9 : ev (.tmp 9) = _ := hdep 4 (by decide)
   have e14 : ev (.tmp 14) = _ := hdep 9 (by decide)
   exact Or.inl ⟨trivial, Or.inl ⟨.slice (some ⟨w.heap.size, 0, none⟩) 2 2, w.alloc (.cells #[.int .i64 (Dt.cmpA (r, i) (r', i')), .int .i64 (Dt.cmpN s s')] 3) , by go_simp, ⟨w.heap.size, rfl, by simp, by simp⟩, (Gr.refl _ _).alloc (Nat.le_refl _) _⟩⟩
  ·intro ev w hc hf hg hfix hdep hbel
   have e15 := hdep 10 (by decide)
   obtain ⟨b, hb0, hb1, hb2⟩ := e15
   have hb9 : ev (.tmp 15) = .slice (some ⟨b, 0, none⟩) 2 2 := hb0
   refine Or.inl ⟨trivial, Or.inr ⟨45, #[.slice (some ⟨b, 0, none⟩) 2 2], w, by go_simp, ?_⟩⟩
   refine (or_any _ _ b 2 w hb1 hb2).mono ?_
   rintro e w1 ⟨rfl, rfl⟩
   exact ⟨_, rfl, HE.out, Gr.refl _ _⟩
  ·intro ev w hc hf hg hfix hdep hbel
   have e16 : ev (.tmp 16) = _ := hdep 11 (by decide)
   exact Or.inl ⟨trivial, Or.inl ⟨_, w, by go_simp, rfl, Gr.refl _ _⟩⟩
 ·intro v w2 hv hb2
  have r0 : v 0 = _ := hv 0 (by decide)
  have r1 : v 1 = _ := hv 1 (by decide)
  have r2 : v 2 = _ := hv 2 (by decide)
  have r3 : v 3 = _ := hv 3 (by decide)
  have r4 : v 4 = _ := hv 4 (by decide)
  have r5 : v 5 = _ := hv 5 (by decide)
  have r6 : v 6 = _ := hv 6 (by decide)
  have r7 : v 7 = _ := hv 7 (by decide)
  have r8 : v 8 = _ := hv 8 (by decide)
  have r9 : v 9 = _ := hv 9 (by decide)
  have r10 := hv 10 (by decide)
  have r11 : v 11 = _ := hv 11 (by decide)
  have r12 : v 12 = _ := hv 12 (by decide)
  simp only [RegG.putAll, Act.put, List.setIfInBounds_toArray, List.set_cons_zero, List.set_cons_succ, r0, r1, r2, r3, r4, r5, r6, r7, r8, r9, r11, r12]
  clear r0 r1 r2 r3 r4 r5 r6 r7 r8 r9 r11 r12 hv
  clear r10
  go_wp2_with fail
  go_ret
  exact ⟨rfl, (((Gr.refl _ _).alloc (Nat.le_refl _) _).alloc (by simp) _).trans (hb2.mono (by simp; omega))⟩
end Go.Proofs.YteakbfbacfhhoaaGreat
namespace Go.Proofs.YteakbfbacfhhoaaGreat
open Go.RowKit
def VRow (w : World) (a : Option Addr) (cap : Nat) (l : List Dt.Dot) : Prop :=
 l.length ≤ cap ∧ cap ≤ 9223372036854775807 ∧ (∀ d ∈ l, Dt.okD d) ∧ (a = none → cap = 0) ∧
 ∀ i d, l[i]? = some d → ∃ p, a = some p ∧ w.cell? (p.add (i * 3)) = some (.int .u8 (d.1.1 : Int)) ∧ w.cell? (p.add (i * 3 + 1)) = some (.int .u32 (d.1.2 : Int)) ∧ w.cell? (p.add (i * 3 + 2)) = some (.int .u64 (d.2 : Int))
theorem VRow.le {w : World} {a : Option Addr} {cap : Nat} {l : List Dt.Dot} (h : VRow w a cap l) : l.length ≤ cap := h.1
theorem VRow.cap {w : World} {a : Option Addr} {cap : Nat} {l : List Dt.Dot} (h : VRow w a cap l) : cap ≤ 9223372036854775807 := h.2.1
theorem VRow.ok {w : World} {a : Option Addr} {cap : Nat} {l : List Dt.Dot} (h : VRow w a cap l) : ∀ d ∈ l, Dt.okD d := h.2.2.1
theorem VRow.below {w w' : World} {a : Option Addr} {cap : Nat} {l : List Dt.Dot} (h : VRow w a cap l) (hb : Below w.heap.size w w') : VRow w' a cap l := by
 refine ⟨h.1, h.2.1, h.2.2.1, h.2.2.2.1, fun i d hd => ?_⟩
 obtain ⟨p, hp, h1, h2, h3⟩ := h.2.2.2.2 i d hd
 refine ⟨p, hp, ?_, ?_, ?_⟩
 ·exact (hb.cell (World.block_lt_of_cell? _ _ h1)).trans h1
 ·exact (hb.cell (World.block_lt_of_cell? _ _ h2)).trans h2
 ·exact (hb.cell (World.block_lt_of_cell? _ _ h3)).trans h3
theorem VRow.nil (w : World) : VRow w none 0 [] := ⟨by simp, by omega, by simp, by simp, by simp⟩
theorem VRow.at {w : World} {a : Option Addr} {cap : Nat} {l : List Dt.Dot} (h : VRow w a cap l) (hl : 0 < l.length) :
  ∃ b off, a = some ⟨b, off, none⟩ ∧ b < w.heap.size ∧ ∀ i d, l[i]? = some d → w.cell? ⟨b, off + i * 3, none⟩ = some (.int .u8 (d.1.1 : Int)) ∧ w.cell? ⟨b, off + i * 3 + 1, none⟩ = some (.int .u32 (d.1.2 : Int)) ∧ w.cell? ⟨b, off + i * 3 + 2, none⟩ = some (.int .u64 (d.2 : Int)) := by
 obtain ⟨p, hp, hc, _⟩ := h.2.2.2.2 0 l[0] (by simp [hl])
 have hs := World.cell?_spot hc
 obtain ⟨b, off, spot⟩ := p
 have hspot : spot = none := by simpa [Addr.add] using hs
 subst hspot
 refine ⟨b, off, hp, by simpa [Addr.add] using World.block_lt_of_cell? w _ hc, fun i d hd => ?_⟩
 obtain ⟨q, hq, h1, h2, h3⟩ := h.2.2.2.2 i d hd
 rw [hp] at hq
 obtain rfl := Option.some.inj hq
 rw [Addr.add_mid] at h1 h2 h3
 exact ⟨h1, by rw [← h2]; rfl, by rw [← h3]; rfl⟩
theorem getD_some {l : List Dt.Dot} {i : Nat} (hi : i < l.length) : ∃ d, l[i]? = some d := ⟨l[i], List.getElem?_eq_getElem hi⟩
def getF (a : Dt.Ac) (l : List Dt.Dot) (k : Nat) : Nat := Dt.get (l.take k) a
end Go.Proofs.YteakbfbacfhhoaaGreat
