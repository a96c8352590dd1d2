import Derived.Test.YtpkfjgoimaomfaaDot2
namespace Go.Proofs.Ytpkfjgoimaomfaa
open Go.RowKit
open Go.RegG (Gr)
theorem cmpg_u8 (x y : Nat) (w : World) : Calls Try.prog 81 #[.int .u8 (x : Int), .int .u8 (y : Int)] w fun e w' => e = .returned (.int .i64 (Dt.cmpN x y)) ∧ Gr w.heap.size w w' :=
  (cmp_u8 x y w).mono fun _ _ ⟨h1, h2⟩ => ⟨h1, h2 ▸ Gr.refl _ _⟩
theorem cmpg_u32 (x y : Nat) (w : World) : Calls Try.prog 82 #[.int .u32 (x : Int), .int .u32 (y : Int)] w fun e w' => e = .returned (.int .i64 (Dt.cmpN x y)) ∧ Gr w.heap.size w w' :=
  (cmp_u32 x y w).mono fun _ _ ⟨h1, h2⟩ => ⟨h1, h2 ▸ Gr.refl _ _⟩
theorem cmpg_u64 (x y : Nat) (w : World) : Calls Try.prog 80 #[.int .u64 (x : Int), .int .u64 (y : Int)] w fun e w' => e = .returned (.int .i64 (Dt.cmpN x y)) ∧ Gr w.heap.size w w' :=
  (cmp_u64 x y w).mono fun _ _ ⟨h1, h2⟩ => ⟨h1, h2 ▸ Gr.refl _ _⟩
set_option maxRecDepth 100000 in
set_option maxHeartbeats 1600000 in
theorem compareActors_any (r i r' i' : Nat) (W : World) :
    Calls Try.prog 79 #[acV (r, i), acV (r', i')] W fun e w' => e = .returned (.int .i64 (Dt.cmpA (r, i) (r', i'))) ∧ Gr W.heap.size W w' := by
  have HC : Hid (∀ w2, Gr ((W.alloc (.cells #[(.int .u8 (r : Int)), (.int .u32 (i : Int))] 24)).alloc (.cells #[(.int .u8 (r' : Int)), (.int .u32 (i' : Int))] 24)).drew.heap.size ((W.alloc (.cells #[(.int .u8 (r : Int)), (.int .u32 (i : Int))] 24)).alloc (.cells #[(.int .u8 (r' : Int)), (.int .u32 (i' : Int))] 24)).drew w2 → w2.cell? ⟨W.heap.size, 0, none⟩ = some (.int .u8 (r : Int)) ∧ w2.cell? ⟨W.heap.size + 1, 0, none⟩ = some (.int .u8 (r' : Int)) ∧ w2.cell? ⟨W.heap.size, 1, none⟩ = some (.int .u32 (i : Int)) ∧ w2.cell? ⟨W.heap.size + 1, 1, none⟩ = some (.int .u32 (i' : Int)) ∧ w2.cell? ⟨W.heap.size, 0, none⟩ = some (.int .u8 (r : Int)) ∧ w2.cell? ⟨W.heap.size + 1, 0, none⟩ = some (.int .u8 (r' : Int))) := fun w2 h => ⟨(h.below.cell (p := ⟨W.heap.size, 0, none⟩) (by simp <;> omega)).trans (by simp), (h.below.cell (p := ⟨W.heap.size + 1, 0, none⟩) (by simp <;> omega)).trans (by simp), (h.below.cell (p := ⟨W.heap.size, 1, none⟩) (by simp <;> omega)).trans (by simp), (h.below.cell (p := ⟨W.heap.size + 1, 1, none⟩) (by simp <;> omega)).trans (by simp), (h.below.cell (p := ⟨W.heap.size, 0, none⟩) (by simp <;> omega)).trans (by simp), (h.below.cell (p := ⟨W.heap.size + 1, 0, none⟩) (by simp <;> omega)).trans (by simp)⟩
  have HE : Hid (Value.int .i64 (if Dt.cmpN r r' ≠ 0 then Dt.cmpN r r' else Dt.cmpN i i') = .int .i64 (Dt.cmpA (r, i) (r', i'))) := by exact congrArg (Value.int .i64) (Dt.cmpA_eq (r, i) (r', i')).symm
  go_enter Try.func79, Try.ntmps79
  go_wp2_with fail
  refine RegG.region_list (by kernel_rfl) [fun v _ => v = .pointer (some ⟨W.heap.size, 0, none⟩), fun v _ => v = .int .u8 (r : Int), fun v _ => v = .pointer (some ⟨W.heap.size + 1, 0, none⟩), fun v _ => v = .int .u8 (r' : Int), fun v _ => v = .int .i64 (Dt.cmpN r r'), fun v _ => v = .pointer (some ⟨W.heap.size, 1, none⟩), fun v _ => v = .int .u32 (i : Int), fun v _ => v = .pointer (some ⟨W.heap.size + 1, 1, none⟩), fun v _ => v = .int .u32 (i' : Int), fun v _ => v = .int .i64 (Dt.cmpN i i'), fun v w => ∃ b, v = .slice (some ⟨b, 0, none⟩) 2 2 ∧ w.cell? ⟨b, 0, none⟩ = some (.int .i64 (Dt.cmpN r r')) ∧ w.cell? ⟨b, 1, none⟩ = some (.int .i64 (Dt.cmpN i i')), fun v _ => v = .int .i64 (Dt.cmpA (r, i) (r', i')), fun v _ => v = .int .i64 (Dt.cmpA (r, i) (r', i'))] (by kernel_rfl) ?_ ?_ ?_
  · refine ⟨(fun _ _ _ _ h => h), (fun _ _ _ _ h => h), (fun _ _ _ _ h => h), (fun _ _ _ _ h => h), (fun _ _ _ _ h => h), (fun _ _ _ _ h => h), (fun _ _ _ _ h => h), (fun _ _ _ _ h => h), (fun _ _ _ _ h => h), (fun _ _ _ _ h => h), (fun v wa wb hb h => by obtain ⟨b, h1, h2, h3⟩ := h; exact ⟨b, h1, (hb.below.cell (p := ⟨b, 0, none⟩) (World.block_lt_of_cell? _ _ h2)).trans h2, (hb.below.cell (p := ⟨b, 1, none⟩) (World.block_lt_of_cell? _ _ h3)).trans h3⟩), (fun _ _ _ _ h => h), (fun _ _ _ _ h => h), trivial⟩
  · refine ⟨?_, ?_, ?_, ?_, ?_, ?_, ?_, ?_, ?_, ?_, ?_, ?_, ?_, trivial⟩
    · intro ev w hc hf hg hfix hdep hbel
      have e2 : ev (.tmp 2) = .pointer (some ⟨W.heap.size, 0, none⟩) := hfix 2 (by decide)
      exact Or.inl ⟨trivial, Or.inl ⟨.pointer (some ⟨W.heap.size, 0, none⟩), w, by go_simp, rfl, Gr.refl _ _⟩⟩
    · intro ev w hc hf hg hfix hdep hbel
      have e5 : ev (.tmp 5) = .pointer (some ⟨W.heap.size, 0, none⟩) := hdep 0 (by decide)
      have hcs := HC.out w hbel
      obtain ⟨hc0, hc1, hc2, hc3, hc4, hc5⟩ := hcs
      exact Or.inl ⟨trivial, Or.inl ⟨.int .u8 (r : Int), w, by go_simp, rfl, Gr.refl _ _⟩⟩
    · intro ev w hc hf hg hfix hdep hbel
      have e3 : ev (.tmp 3) = .pointer (some ⟨W.heap.size + 1, 0, none⟩) := hfix 3 (by decide)
      exact Or.inl ⟨trivial, Or.inl ⟨.pointer (some ⟨W.heap.size + 1, 0, none⟩), w, by go_simp, rfl, Gr.refl _ _⟩⟩
    · intro ev w hc hf hg hfix hdep hbel
      have e7 : ev (.tmp 7) = .pointer (some ⟨W.heap.size + 1, 0, none⟩) := hdep 2 (by decide)
      have hcs := HC.out w hbel
      obtain ⟨hc0, hc1, hc2, hc3, hc4, hc5⟩ := hcs
      exact Or.inl ⟨trivial, Or.inl ⟨.int .u8 (r' : Int), w, by go_simp, rfl, Gr.refl _ _⟩⟩
    · intro ev w hc hf hg hfix hdep hbel
      have e6 : ev (.tmp 6) = .int .u8 (r : Int) := hdep 1 (by decide)
      have e8 : ev (.tmp 8) = .int .u8 (r' : Int) := hdep 3 (by decide)
      refine Or.inl ⟨trivial, Or.inr ⟨81, #[.int .u8 (r : Int), .int .u8 (r' : Int)], w, by go_simp, ?_⟩⟩
      refine (cmpg_u8 r r' w).mono ?_
      rintro e w1 ⟨rfl, hb1⟩
      exact ⟨_, rfl, rfl, hb1⟩
    · intro ev w hc hf hg hfix hdep hbel
      have e2 : ev (.tmp 2) = .pointer (some ⟨W.heap.size, 0, none⟩) := hfix 2 (by decide)
      exact Or.inl ⟨trivial, Or.inl ⟨.pointer (some ⟨W.heap.size, 1, none⟩), w, by go_simp, rfl, Gr.refl _ _⟩⟩
    · intro ev w hc hf hg hfix hdep hbel
      have e10 : ev (.tmp 10) = .pointer (some ⟨W.heap.size, 1, none⟩) := hdep 5 (by decide)
      have hcs := HC.out w hbel
      obtain ⟨hc0, hc1, hc2, hc3, hc4, hc5⟩ := hcs
      exact Or.inl ⟨trivial, Or.inl ⟨.int .u32 (i : Int), w, by go_simp, rfl, Gr.refl _ _⟩⟩
    · intro ev w hc hf hg hfix hdep hbel
      have e3 : ev (.tmp 3) = .pointer (some ⟨W.heap.size + 1, 0, none⟩) := hfix 3 (by decide)
      exact Or.inl ⟨trivial, Or.inl ⟨.pointer (some ⟨W.heap.size + 1, 1, none⟩), w, by go_simp, rfl, Gr.refl _ _⟩⟩
    · intro ev w hc hf hg hfix hdep hbel
      have e12 : ev (.tmp 12) = .pointer (some ⟨W.heap.size + 1, 1, none⟩) := hdep 7 (by decide)
      have hcs := HC.out w hbel
      obtain ⟨hc0, hc1, hc2, hc3, hc4, hc5⟩ := hcs
      exact Or.inl ⟨trivial, Or.inl ⟨.int .u32 (i' : Int), w, by go_simp, rfl, Gr.refl _ _⟩⟩
    · intro ev w hc hf hg hfix hdep hbel
      have e11 : ev (.tmp 11) = .int .u32 (i : Int) := hdep 6 (by decide)
      have e13 : ev (.tmp 13) = .int .u32 (i' : Int) := hdep 8 (by decide)
      refine Or.inl ⟨trivial, Or.inr ⟨82, #[.int .u32 (i : Int), .int .u32 (i' : Int)], w, by go_simp, ?_⟩⟩
      refine (cmpg_u32 i i' w).mono ?_
      rintro e w1 ⟨rfl, hb1⟩
      exact ⟨_, rfl, rfl, hb1⟩
    · intro ev w hc hf hg hfix hdep hbel
      have e9 : ev (.tmp 9) = .int .i64 (Dt.cmpN r r') := hdep 4 (by decide)
      have e14 : ev (.tmp 14) = .int .i64 (Dt.cmpN i i') := hdep 9 (by decide)
      exact Or.inl ⟨trivial, Or.inl ⟨.slice (some ⟨w.heap.size, 0, none⟩) 2 2, w.alloc (.cells #[.int .i64 (Dt.cmpN r r'), .int .i64 (Dt.cmpN i i')] 3) , by go_simp, ⟨w.heap.size, rfl, by simp, by simp⟩, (Gr.refl _ _).alloc (Nat.le_refl _) _⟩⟩
    · intro ev w hc hf hg hfix hdep hbel
      have e15 := hdep 10 (by decide)
      obtain ⟨b, hb0, hb1, hb2⟩ := e15
      have hb9 : ev (.tmp 15) = .slice (some ⟨b, 0, none⟩) 2 2 := hb0
      refine Or.inl ⟨trivial, Or.inr ⟨78, #[.slice (some ⟨b, 0, none⟩) 2 2], w, by go_simp, ?_⟩⟩
      refine (or_any _ _ b 2 w hb1 hb2).mono ?_
      rintro e w1 ⟨rfl, rfl⟩
      exact ⟨_, rfl, HE.out, Gr.refl _ _⟩
    · intro ev w hc hf hg hfix hdep hbel
      have e16 : ev (.tmp 16) = .int .i64 (Dt.cmpA (r, i) (r', i')) := hdep 11 (by decide)
      exact Or.inl ⟨trivial, Or.inl ⟨.int .i64 (Dt.cmpA (r, i) (r', i')), w, by go_simp, rfl, Gr.refl _ _⟩⟩
  · intro v w2 hv hb2
    have r0 : v 0 = .pointer (some ⟨W.heap.size, 0, none⟩) := hv 0 (by decide)
    have r1 : v 1 = .int .u8 (r : Int) := hv 1 (by decide)
    have r2 : v 2 = .pointer (some ⟨W.heap.size + 1, 0, none⟩) := hv 2 (by decide)
    have r3 : v 3 = .int .u8 (r' : Int) := hv 3 (by decide)
    have r4 : v 4 = .int .i64 (Dt.cmpN r r') := hv 4 (by decide)
    have r5 : v 5 = .pointer (some ⟨W.heap.size, 1, none⟩) := hv 5 (by decide)
    have r6 : v 6 = .int .u32 (i : Int) := hv 6 (by decide)
    have r7 : v 7 = .pointer (some ⟨W.heap.size + 1, 1, none⟩) := hv 7 (by decide)
    have r8 : v 8 = .int .u32 (i' : Int) := hv 8 (by decide)
    have r9 : v 9 = .int .i64 (Dt.cmpN i i') := hv 9 (by decide)
    have r10 := hv 10 (by decide)
    have r11 : v 11 = .int .i64 (Dt.cmpA (r, i) (r', i')) := hv 11 (by decide)
    have r12 : v 12 = .int .i64 (Dt.cmpA (r, i) (r', i')) := hv 12 (by decide)
    simp only [RegG.putAll, Act.put, List.setIfInBounds_toArray, List.set_cons_zero, List.set_cons_succ, r0, r1, r2, r3, r4, r5, r6, r7, r8, r9, r11, r12]
    clear r0 r1 r2 r3 r4 r5 r6 r7 r8 r9 r11 r12 hv
    clear r10
    go_wp2_with fail
    go_ret
    exact ⟨rfl, (((Gr.refl _ _).alloc (Nat.le_refl _) _).alloc (by simp) _).trans (hb2.mono (by simp; omega))⟩
set_option maxRecDepth 100000 in
set_option maxHeartbeats 1600000 in
theorem compare_any (r i s r' i' s' : Nat) (W : World) :
    Calls Try.prog 77 #[dotV ((r, i), s), dotV ((r', i'), s')] W fun e w' => e = .returned (.int .i64 (Dt.cmp ((r, i), s) ((r', i'), s'))) ∧ Gr W.heap.size W w' := by
  have HC : Hid (∀ w2, Gr ((W.alloc (.cells #[(.int .u8 (r : Int)), (.int .u32 (i : Int)), (.int .u64 (s : Int))] 27)).alloc (.cells #[(.int .u8 (r' : Int)), (.int .u32 (i' : Int)), (.int .u64 (s' : Int))] 27)).drew.heap.size ((W.alloc (.cells #[(.int .u8 (r : Int)), (.int .u32 (i : Int)), (.int .u64 (s : Int))] 27)).alloc (.cells #[(.int .u8 (r' : Int)), (.int .u32 (i' : Int)), (.int .u64 (s' : Int))] 27)).drew w2 → w2.cell? ⟨W.heap.size, 0, none⟩ = some (.int .u8 (r : Int)) ∧ w2.cell? ⟨W.heap.size + 1, 0, none⟩ = some (.int .u8 (r' : Int)) ∧ w2.cell? ⟨W.heap.size, 1, none⟩ = some (.int .u32 (i : Int)) ∧ w2.cell? ⟨W.heap.size + 1, 1, none⟩ = some (.int .u32 (i' : Int)) ∧ w2.cell? ⟨W.heap.size, 2, none⟩ = some (.int .u64 (s : Int)) ∧ w2.cell? ⟨W.heap.size + 1, 2, none⟩ = some (.int .u64 (s' : Int))) := fun w2 h => ⟨(h.below.cell (p := ⟨W.heap.size, 0, none⟩) (by simp <;> omega)).trans (by simp), (h.below.cell (p := ⟨W.heap.size + 1, 0, none⟩) (by simp <;> omega)).trans (by simp), (h.below.cell (p := ⟨W.heap.size, 1, none⟩) (by simp <;> omega)).trans (by simp), (h.below.cell (p := ⟨W.heap.size + 1, 1, none⟩) (by simp <;> omega)).trans (by simp), (h.below.cell (p := ⟨W.heap.size, 2, none⟩) (by simp <;> omega)).trans (by simp), (h.below.cell (p := ⟨W.heap.size + 1, 2, none⟩) (by simp <;> omega)).trans (by simp)⟩
  have HE : Hid (Value.int .i64 (if Dt.cmpA (r, i) (r', i') ≠ 0 then Dt.cmpA (r, i) (r', i') else Dt.cmpN s s') = .int .i64 (Dt.cmp ((r, i), s) ((r', i'), s'))) := by exact congrArg (Value.int .i64) (Dt.cmp_eq ((r, i), s) ((r', i'), s')).symm
  go_enter Try.func77, Try.ntmps77
  go_wp2_with fail
  refine RegG.region_list (by kernel_rfl) [fun v _ => v = .pointer (some ⟨W.heap.size, 0, none⟩), fun v _ => v = acV (r, i), fun v _ => v = .pointer (some ⟨W.heap.size + 1, 0, none⟩), fun v _ => v = acV (r', i'), fun v _ => v = .int .i64 (Dt.cmpA (r, i) (r', i')), fun v _ => v = .pointer (some ⟨W.heap.size, 2, none⟩), fun v _ => v = .int .u64 (s : Int), fun v _ => v = .pointer (some ⟨W.heap.size + 1, 2, none⟩), fun v _ => v = .int .u64 (s' : Int), fun v _ => v = .int .i64 (Dt.cmpN s s'), fun v w => ∃ b, v = .slice (some ⟨b, 0, none⟩) 2 2 ∧ w.cell? ⟨b, 0, none⟩ = some (.int .i64 (Dt.cmpA (r, i) (r', i'))) ∧ w.cell? ⟨b, 1, none⟩ = some (.int .i64 (Dt.cmpN s s')), fun v _ => v = .int .i64 (Dt.cmp ((r, i), s) ((r', i'), s')), fun v _ => v = .int .i64 (Dt.cmp ((r, i), s) ((r', i'), s'))] (by kernel_rfl) ?_ ?_ ?_
  · refine ⟨(fun _ _ _ _ h => h), (fun _ _ _ _ h => h), (fun _ _ _ _ h => h), (fun _ _ _ _ h => h), (fun _ _ _ _ h => h), (fun _ _ _ _ h => h), (fun _ _ _ _ h => h), (fun _ _ _ _ h => h), (fun _ _ _ _ h => h), (fun _ _ _ _ h => h), (fun v wa wb hb h => by obtain ⟨b, h1, h2, h3⟩ := h; exact ⟨b, h1, (hb.below.cell (p := ⟨b, 0, none⟩) (World.block_lt_of_cell? _ _ h2)).trans h2, (hb.below.cell (p := ⟨b, 1, none⟩) (World.block_lt_of_cell? _ _ h3)).trans h3⟩), (fun _ _ _ _ h => h), (fun _ _ _ _ h => h), trivial⟩
  · refine ⟨?_, ?_, ?_, ?_, ?_, ?_, ?_, ?_, ?_, ?_, ?_, ?_, ?_, trivial⟩
    · intro ev w hc hf hg hfix hdep hbel
      have e2 : ev (.tmp 2) = .pointer (some ⟨W.heap.size, 0, none⟩) := hfix 2 (by decide)
      exact Or.inl ⟨trivial, Or.inl ⟨.pointer (some ⟨W.heap.size, 0, none⟩), w, by go_simp, rfl, Gr.refl _ _⟩⟩
    · intro ev w hc hf hg hfix hdep hbel
      have e5 : ev (.tmp 5) = .pointer (some ⟨W.heap.size, 0, none⟩) := hdep 0 (by decide)
      have hcs := HC.out w hbel
      obtain ⟨hc0, hc1, hc2, hc3, hc4, hc5⟩ := hcs
      exact Or.inl ⟨trivial, Or.inl ⟨acV (r, i), w, by go_simp, rfl, Gr.refl _ _⟩⟩
    · intro ev w hc hf hg hfix hdep hbel
      have e3 : ev (.tmp 3) = .pointer (some ⟨W.heap.size + 1, 0, none⟩) := hfix 3 (by decide)
      exact Or.inl ⟨trivial, Or.inl ⟨.pointer (some ⟨W.heap.size + 1, 0, none⟩), w, by go_simp, rfl, Gr.refl _ _⟩⟩
    · intro ev w hc hf hg hfix hdep hbel
      have e7 : ev (.tmp 7) = .pointer (some ⟨W.heap.size + 1, 0, none⟩) := hdep 2 (by decide)
      have hcs := HC.out w hbel
      obtain ⟨hc0, hc1, hc2, hc3, hc4, hc5⟩ := hcs
      exact Or.inl ⟨trivial, Or.inl ⟨acV (r', i'), w, by go_simp, rfl, Gr.refl _ _⟩⟩
    · intro ev w hc hf hg hfix hdep hbel
      have e6 : ev (.tmp 6) = acV (r, i) := hdep 1 (by decide)
      have e8 : ev (.tmp 8) = acV (r', i') := hdep 3 (by decide)
      refine Or.inl ⟨trivial, Or.inr ⟨79, #[acV (r, i), acV (r', i')], w, by go_simp, ?_⟩⟩
      refine (compareActors_any r i r' i' w).mono ?_
      rintro e w1 ⟨rfl, hb1⟩
      exact ⟨_, rfl, rfl, hb1⟩
    · intro ev w hc hf hg hfix hdep hbel
      have e2 : ev (.tmp 2) = .pointer (some ⟨W.heap.size, 0, none⟩) := hfix 2 (by decide)
      exact Or.inl ⟨trivial, Or.inl ⟨.pointer (some ⟨W.heap.size, 2, none⟩), w, by go_simp, rfl, Gr.refl _ _⟩⟩
    · intro ev w hc hf hg hfix hdep hbel
      have e10 : ev (.tmp 10) = .pointer (some ⟨W.heap.size, 2, none⟩) := hdep 5 (by decide)
      have hcs := HC.out w hbel
      obtain ⟨hc0, hc1, hc2, hc3, hc4, hc5⟩ := hcs
      exact Or.inl ⟨trivial, Or.inl ⟨.int .u64 (s : Int), w, by go_simp, rfl, Gr.refl _ _⟩⟩
    · intro ev w hc hf hg hfix hdep hbel
      have e3 : ev (.tmp 3) = .pointer (some ⟨W.heap.size + 1, 0, none⟩) := hfix 3 (by decide)
      exact Or.inl ⟨trivial, Or.inl ⟨.pointer (some ⟨W.heap.size + 1, 2, none⟩), w, by go_simp, rfl, Gr.refl _ _⟩⟩
    · intro ev w hc hf hg hfix hdep hbel
      have e12 : ev (.tmp 12) = .pointer (some ⟨W.heap.size + 1, 2, none⟩) := hdep 7 (by decide)
      have hcs := HC.out w hbel
      obtain ⟨hc0, hc1, hc2, hc3, hc4, hc5⟩ := hcs
      exact Or.inl ⟨trivial, Or.inl ⟨.int .u64 (s' : Int), w, by go_simp, rfl, Gr.refl _ _⟩⟩
    · intro ev w hc hf hg hfix hdep hbel
      have e11 : ev (.tmp 11) = .int .u64 (s : Int) := hdep 6 (by decide)
      have e13 : ev (.tmp 13) = .int .u64 (s' : Int) := hdep 8 (by decide)
      refine Or.inl ⟨trivial, Or.inr ⟨80, #[.int .u64 (s : Int), .int .u64 (s' : Int)], w, by go_simp, ?_⟩⟩
      refine (cmpg_u64 s s' w).mono ?_
      rintro e w1 ⟨rfl, hb1⟩
      exact ⟨_, rfl, rfl, hb1⟩
    · intro ev w hc hf hg hfix hdep hbel
      have e9 : ev (.tmp 9) = .int .i64 (Dt.cmpA (r, i) (r', i')) := hdep 4 (by decide)
      have e14 : ev (.tmp 14) = .int .i64 (Dt.cmpN s s') := hdep 9 (by decide)
      exact Or.inl ⟨trivial, Or.inl ⟨.slice (some ⟨w.heap.size, 0, none⟩) 2 2, w.alloc (.cells #[.int .i64 (Dt.cmpA (r, i) (r', i')), .int .i64 (Dt.cmpN s s')] 3) , by go_simp, ⟨w.heap.size, rfl, by simp, by simp⟩, (Gr.refl _ _).alloc (Nat.le_refl _) _⟩⟩
    · intro ev w hc hf hg hfix hdep hbel
      have e15 := hdep 10 (by decide)
      obtain ⟨b, hb0, hb1, hb2⟩ := e15
      have hb9 : ev (.tmp 15) = .slice (some ⟨b, 0, none⟩) 2 2 := hb0
      refine Or.inl ⟨trivial, Or.inr ⟨78, #[.slice (some ⟨b, 0, none⟩) 2 2], w, by go_simp, ?_⟩⟩
      refine (or_any _ _ b 2 w hb1 hb2).mono ?_
      rintro e w1 ⟨rfl, rfl⟩
      exact ⟨_, rfl, HE.out, Gr.refl _ _⟩
    · intro ev w hc hf hg hfix hdep hbel
      have e16 : ev (.tmp 16) = .int .i64 (Dt.cmp ((r, i), s) ((r', i'), s')) := hdep 11 (by decide)
      exact Or.inl ⟨trivial, Or.inl ⟨.int .i64 (Dt.cmp ((r, i), s) ((r', i'), s')), w, by go_simp, rfl, Gr.refl _ _⟩⟩
  · intro v w2 hv hb2
    have r0 : v 0 = .pointer (some ⟨W.heap.size, 0, none⟩) := hv 0 (by decide)
    have r1 : v 1 = acV (r, i) := hv 1 (by decide)
    have r2 : v 2 = .pointer (some ⟨W.heap.size + 1, 0, none⟩) := hv 2 (by decide)
    have r3 : v 3 = acV (r', i') := hv 3 (by decide)
    have r4 : v 4 = .int .i64 (Dt.cmpA (r, i) (r', i')) := hv 4 (by decide)
    have r5 : v 5 = .pointer (some ⟨W.heap.size, 2, none⟩) := hv 5 (by decide)
    have r6 : v 6 = .int .u64 (s : Int) := hv 6 (by decide)
    have r7 : v 7 = .pointer (some ⟨W.heap.size + 1, 2, none⟩) := hv 7 (by decide)
    have r8 : v 8 = .int .u64 (s' : Int) := hv 8 (by decide)
    have r9 : v 9 = .int .i64 (Dt.cmpN s s') := hv 9 (by decide)
    have r10 := hv 10 (by decide)
    have r11 : v 11 = .int .i64 (Dt.cmp ((r, i), s) ((r', i'), s')) := hv 11 (by decide)
    have r12 : v 12 = .int .i64 (Dt.cmp ((r, i), s) ((r', i'), s')) := hv 12 (by decide)
    simp only [RegG.putAll, Act.put, List.setIfInBounds_toArray, List.set_cons_zero, List.set_cons_succ, r0, r1, r2, r3, r4, r5, r6, r7, r8, r9, r11, r12]
    clear r0 r1 r2 r3 r4 r5 r6 r7 r8 r9 r11 r12 hv
    clear r10
    go_wp2_with fail
    go_ret
    exact ⟨rfl, (((Gr.refl _ _).alloc (Nat.le_refl _) _).alloc (by simp) _).trans (hb2.mono (by simp; omega))⟩
end Go.Proofs.Ytpkfjgoimaomfaa
