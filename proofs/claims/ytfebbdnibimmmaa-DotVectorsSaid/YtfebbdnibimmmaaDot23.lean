import Derived.Test.YtfebbdnibimmmaaDot22
namespace Go.Proofs.Ytfebbdnibimmmaa
open Go.RowKit Go.Maps
set_option maxRecDepth 100000 in
set_option maxHeartbeats 1600000 in
theorem refhas_any (a : Option Addr) (n cap : Nat) (r i s : Nat) (l : List Dt.Dot) (W : World) (hr : VRow W a cap l) (hl : l.length = n) :
    Calls Try.prog 18 #[.slice a n cap, dotV ((r, i), s)] W fun e w' => e = .returned (.bool (Dt.has l ((r, i), s))) ∧ Below W.heap.size W w' := by
  have HR := Lib.hid hr; have HL := Lib.hid hl
  clear hr hl
  have hC : ∀ w2, Below (W.alloc (.cells #[.int .u8 (r : Int), .int .u32 (i : Int), .int .u64 (s : Int)] 29)).drew.heap.size (W.alloc (.cells #[.int .u8 (r : Int), .int .u32 (i : Int), .int .u64 (s : Int)] 29)).drew w2 → w2.cell? ⟨W.heap.size, 0, none⟩ = some (.int .u8 (r : Int)) ∧ w2.cell? ⟨W.heap.size, 1, none⟩ = some (.int .u32 (i : Int)) ∧ w2.cell? ⟨W.heap.size, 2, none⟩ = some (.int .u64 (s : Int)) := fun w2 h =>
    ⟨(h.cell (p := ⟨W.heap.size, 0, none⟩) (by simp)).trans (by simp), (h.cell (p := ⟨W.heap.size, 1, none⟩) (by simp)).trans (by simp), (h.cell (p := ⟨W.heap.size, 2, none⟩) (by simp)).trans (by simp)⟩
  have HC := Lib.hid hC; clear hC
  cases hm : Dt.may ((r, i), s)
  · have HM := Lib.hid hm; clear hm
    go_enter Try.func18, Try.ntmps18
    go_wp2_with fail
    refine Reg.region_list (by kernel_rfl) [fun v _ => v = dotV ((r, i), s), fun v _ => v = .bool false, fun v _ => v = .bool false, fun v _ => v = undef, fun v _ => v = undef, fun v _ => v = undef, fun v _ => v = undef, fun v _ => v = undef, fun v _ => v = undef, fun v _ => v = undef, fun v _ => v = .bool false, fun v _ => v = .bool false] (by kernel_rfl) ?_ ?_ ?_
    · refine ⟨(fun _ _ _ _ h => h), (fun _ _ _ _ h => h), (fun _ _ _ _ h => h), (fun _ _ _ _ h => h), (fun _ _ _ _ h => h), (fun _ _ _ _ h => h), (fun _ _ _ _ h => h), (fun _ _ _ _ h => h), (fun _ _ _ _ h => h), (fun _ _ _ _ h => h), (fun _ _ _ _ h => h), (fun _ _ _ _ h => h), trivial⟩
    · refine ⟨?_, ?_, ?_, ?_, ?_, ?_, ?_, ?_, ?_, ?_, ?_, ?_, trivial⟩
      · intro ev w hc hf hg hfix hdep hbel
        have e3 : ev (.tmp 3) = .pointer (some ⟨W.heap.size, 0, none⟩) := hfix 3 (by decide)
        obtain ⟨hc0, hc1, hc2⟩ := HC.out w hbel
        exact Or.inl ⟨trivial, Or.inl ⟨dotV ((r, i), s), w, by go_simp, rfl, Below.refl _ _⟩⟩
      · intro ev w hc hf hg hfix hdep hbel
        have e5 : ev (.tmp 5) = dotV ((r, i), s) := hdep 0 (by decide)
        refine Or.inl ⟨trivial, Or.inr ⟨9, #[dotV ((r, i), s)], w, by go_simp, ?_⟩⟩
        refine (refmay_any r i s w).mono ?_
        rintro e w1 ⟨rfl, hb1⟩
        exact ⟨_, rfl, by rw [HM.out], hb1⟩
      · intro ev w hc hf hg hfix hdep hbel
        have e6 : ev (.tmp 6) = .bool false := hdep 1 (by decide)
        exact Or.inl ⟨trivial, Or.inl ⟨.bool false, w, by go_simp, rfl, Below.refl _ _⟩⟩
      · intro ev w hc hf hg hfix hdep hbel
        have fg : ev (.tmp 7) = .bool false := hdep 2 (by decide)
        have e3 : ev (.tmp 3) = .pointer (some ⟨W.heap.size, 0, none⟩) := hfix 3 (by decide)
        exact Or.inr ⟨fg, rfl⟩
      · intro ev w hc hf hg hfix hdep hbel
        have fg : ev (.tmp 7) = .bool false := hdep 2 (by decide)
        have e8 : ev (.tmp 8) = undef := hdep 3 (by decide)
        exact Or.inr ⟨fg, rfl⟩
      · intro ev w hc hf hg hfix hdep hbel
        have fg : ev (.tmp 7) = .bool false := hdep 2 (by decide)
        have e0 : ev (.tmp 0) = .slice a n cap := hfix 0 (by decide)
        exact Or.inr ⟨fg, rfl⟩
      · intro ev w hc hf hg hfix hdep hbel
        have fg : ev (.tmp 7) = .bool false := hdep 2 (by decide)
        have e3 : ev (.tmp 3) = .pointer (some ⟨W.heap.size, 0, none⟩) := hfix 3 (by decide)
        exact Or.inr ⟨fg, rfl⟩
      · intro ev w hc hf hg hfix hdep hbel
        have fg : ev (.tmp 7) = .bool false := hdep 2 (by decide)
        have e11 : ev (.tmp 11) = undef := hdep 6 (by decide)
        exact Or.inr ⟨fg, rfl⟩
      · intro ev w hc hf hg hfix hdep hbel
        have fg : ev (.tmp 7) = .bool false := hdep 2 (by decide)
        have e10 : ev (.tmp 10) = undef := hdep 5 (by decide)
        have e12 : ev (.tmp 12) = undef := hdep 7 (by decide)
        exact Or.inr ⟨fg, rfl⟩
      · intro ev w hc hf hg hfix hdep hbel
        have fg : ev (.tmp 7) = .bool false := hdep 2 (by decide)
        have e9 : ev (.tmp 9) = undef := hdep 4 (by decide)
        have e13 : ev (.tmp 13) = undef := hdep 8 (by decide)
        exact Or.inr ⟨fg, rfl⟩
      · intro ev w hc hf hg hfix hdep hbel
        have e7 : ev (.tmp 7) = .bool false := hdep 2 (by decide)
        have e14 : ev (.tmp 14) = undef := hdep 9 (by decide)
        exact Or.inl ⟨trivial, Or.inl ⟨.bool false, w, by go_simp, rfl, Below.refl _ _⟩⟩
      · intro ev w hc hf hg hfix hdep hbel
        have e15 : ev (.tmp 15) = .bool false := hdep 10 (by decide)
        exact Or.inl ⟨trivial, Or.inl ⟨.bool false, w, by go_simp, rfl, Below.refl _ _⟩⟩
    · intro v w2 hv hb2
      have r0 : v 0 = dotV ((r, i), s) := hv 0 (by decide)
      have r1 : v 1 = .bool false := hv 1 (by decide)
      have r2 : v 2 = .bool false := hv 2 (by decide)
      have r3 : v 3 = undef := hv 3 (by decide)
      have r4 : v 4 = undef := hv 4 (by decide)
      have r5 : v 5 = undef := hv 5 (by decide)
      have r6 : v 6 = undef := hv 6 (by decide)
      have r7 : v 7 = undef := hv 7 (by decide)
      have r8 : v 8 = undef := hv 8 (by decide)
      have r9 : v 9 = undef := hv 9 (by decide)
      have r10 : v 10 = .bool false := hv 10 (by decide)
      have r11 : v 11 = .bool false := hv 11 (by decide)
      simp only [Reg.putAll, Act.put, List.setIfInBounds_toArray, List.set_cons_zero, List.set_cons_succ, r0, r1, r2, r3, r4, r5, r6, r7, r8, r9, r10, r11]
      clear r0 r1 r2 r3 r4 r5 r6 r7 r8 r9 r10 r11 hv
      go_wp2_with fail
      go_ret
      exact ⟨ret_bool (by simp [Dt.has, HM.out]), ((Below.refl _ _).alloc (Nat.le_refl _) _).trans (hb2.mono (by simp))⟩
  · have HM := Lib.hid hm; clear hm
    go_enter Try.func18, Try.ntmps18
    go_wp2_with fail
    refine Reg.region_list (by kernel_rfl) [fun v _ => v = dotV ((r, i), s), fun v _ => v = .bool true, fun v _ => v = .bool true, fun v _ => v = .pointer (some ⟨W.heap.size, 2, none⟩), fun v _ => v = .int .u64 (s : Int), fun v _ => v = .slice a n cap, fun v _ => v = .pointer (some ⟨W.heap.size, 0, none⟩), fun v _ => v = acV (r, i), fun v _ => v = .int .u64 (Dt.get l (r, i) : Nat), fun v _ => v = .bool (decide (s ≤ Dt.get l (r, i))), fun v _ => v = .bool (decide (s ≤ Dt.get l (r, i))), fun v _ => v = .bool (decide (s ≤ Dt.get l (r, i)))] (by kernel_rfl) ?_ ?_ ?_
    · refine ⟨(fun _ _ _ _ h => h), (fun _ _ _ _ h => h), (fun _ _ _ _ h => h), (fun _ _ _ _ h => h), (fun _ _ _ _ h => h), (fun _ _ _ _ h => h), (fun _ _ _ _ h => h), (fun _ _ _ _ h => h), (fun _ _ _ _ h => h), (fun _ _ _ _ h => h), (fun _ _ _ _ h => h), (fun _ _ _ _ h => h), trivial⟩
    · refine ⟨?_, ?_, ?_, ?_, ?_, ?_, ?_, ?_, ?_, ?_, ?_, ?_, trivial⟩
      · intro ev w hc hf hg hfix hdep hbel
        have e3 : ev (.tmp 3) = .pointer (some ⟨W.heap.size, 0, none⟩) := hfix 3 (by decide)
        obtain ⟨hc0, hc1, hc2⟩ := HC.out w hbel
        exact Or.inl ⟨trivial, Or.inl ⟨dotV ((r, i), s), w, by go_simp, rfl, Below.refl _ _⟩⟩
      · intro ev w hc hf hg hfix hdep hbel
        have e5 : ev (.tmp 5) = dotV ((r, i), s) := hdep 0 (by decide)
        refine Or.inl ⟨trivial, Or.inr ⟨9, #[dotV ((r, i), s)], w, by go_simp, ?_⟩⟩
        refine (refmay_any r i s w).mono ?_
        rintro e w1 ⟨rfl, hb1⟩
        exact ⟨_, rfl, by rw [HM.out], hb1⟩
      · intro ev w hc hf hg hfix hdep hbel
        have e6 : ev (.tmp 6) = .bool true := hdep 1 (by decide)
        exact Or.inl ⟨trivial, Or.inl ⟨.bool true, w, by go_simp, rfl, Below.refl _ _⟩⟩
      · intro ev w hc hf hg hfix hdep hbel
        have fg : ev (.tmp 7) = .bool true := hdep 2 (by decide)
        have e3 : ev (.tmp 3) = .pointer (some ⟨W.heap.size, 0, none⟩) := hfix 3 (by decide)
        exact Or.inl ⟨fg, Or.inl ⟨.pointer (some ⟨W.heap.size, 2, none⟩), w, by go_simp, rfl, Below.refl _ _⟩⟩
      · intro ev w hc hf hg hfix hdep hbel
        have fg : ev (.tmp 7) = .bool true := hdep 2 (by decide)
        have e8 : ev (.tmp 8) = .pointer (some ⟨W.heap.size, 2, none⟩) := hdep 3 (by decide)
        obtain ⟨hc0, hc1, hc2⟩ := HC.out w hbel
        exact Or.inl ⟨fg, Or.inl ⟨.int .u64 (s : Int), w, by go_simp, rfl, Below.refl _ _⟩⟩
      · intro ev w hc hf hg hfix hdep hbel
        have fg : ev (.tmp 7) = .bool true := hdep 2 (by decide)
        have e0 : ev (.tmp 0) = .slice a n cap := hfix 0 (by decide)
        exact Or.inl ⟨fg, Or.inl ⟨.slice a n cap, w, by go_simp, rfl, Below.refl _ _⟩⟩
      · intro ev w hc hf hg hfix hdep hbel
        have fg : ev (.tmp 7) = .bool true := hdep 2 (by decide)
        have e3 : ev (.tmp 3) = .pointer (some ⟨W.heap.size, 0, none⟩) := hfix 3 (by decide)
        exact Or.inl ⟨fg, Or.inl ⟨.pointer (some ⟨W.heap.size, 0, none⟩), w, by go_simp, rfl, Below.refl _ _⟩⟩
      · intro ev w hc hf hg hfix hdep hbel
        have fg : ev (.tmp 7) = .bool true := hdep 2 (by decide)
        have e11 : ev (.tmp 11) = .pointer (some ⟨W.heap.size, 0, none⟩) := hdep 6 (by decide)
        obtain ⟨hc0, hc1, hc2⟩ := HC.out w hbel
        exact Or.inl ⟨fg, Or.inl ⟨acV (r, i), w, by go_simp, rfl, Below.refl _ _⟩⟩
      · intro ev w hc hf hg hfix hdep hbel
        have fg : ev (.tmp 7) = .bool true := hdep 2 (by decide)
        have e10 : ev (.tmp 10) = .slice a n cap := hdep 5 (by decide)
        have e12 : ev (.tmp 12) = acV (r, i) := hdep 7 (by decide)
        refine Or.inl ⟨fg, Or.inr ⟨16, #[.slice a n cap, acV (r, i)], w, by go_simp, ?_⟩⟩
        refine (refget_any a n cap r i l w (HR.out.below (((Below.refl _ _).alloc (Nat.le_refl _) _).drew.trans (hbel.mono (by simp)))) HL.out).mono ?_
        rintro e w1 ⟨rfl, hb1⟩
        exact ⟨_, rfl, rfl, hb1⟩
      · intro ev w hc hf hg hfix hdep hbel
        have fg : ev (.tmp 7) = .bool true := hdep 2 (by decide)
        have e9 : ev (.tmp 9) = .int .u64 (s : Int) := hdep 4 (by decide)
        have e13 : ev (.tmp 13) = .int .u64 (Dt.get l (r, i) : Nat) := hdep 8 (by decide)
        exact Or.inl ⟨fg, Or.inl ⟨.bool (decide (s ≤ Dt.get l (r, i))), w, by go_simp, rfl, Below.refl _ _⟩⟩
      · intro ev w hc hf hg hfix hdep hbel
        have e7 : ev (.tmp 7) = .bool true := hdep 2 (by decide)
        have e14 : ev (.tmp 14) = .bool (decide (s ≤ Dt.get l (r, i))) := hdep 9 (by decide)
        exact Or.inl ⟨trivial, Or.inl ⟨.bool (decide (s ≤ Dt.get l (r, i))), w, by go_simp, rfl, Below.refl _ _⟩⟩
      · intro ev w hc hf hg hfix hdep hbel
        have e15 : ev (.tmp 15) = .bool (decide (s ≤ Dt.get l (r, i))) := hdep 10 (by decide)
        exact Or.inl ⟨trivial, Or.inl ⟨.bool (decide (s ≤ Dt.get l (r, i))), w, by go_simp, rfl, Below.refl _ _⟩⟩
    · intro v w2 hv hb2
      have r0 : v 0 = dotV ((r, i), s) := hv 0 (by decide)
      have r1 : v 1 = .bool true := hv 1 (by decide)
      have r2 : v 2 = .bool true := hv 2 (by decide)
      have r3 : v 3 = .pointer (some ⟨W.heap.size, 2, none⟩) := hv 3 (by decide)
      have r4 : v 4 = .int .u64 (s : Int) := hv 4 (by decide)
      have r5 : v 5 = .slice a n cap := hv 5 (by decide)
      have r6 : v 6 = .pointer (some ⟨W.heap.size, 0, none⟩) := hv 6 (by decide)
      have r7 : v 7 = acV (r, i) := hv 7 (by decide)
      have r8 : v 8 = .int .u64 (Dt.get l (r, i) : Nat) := hv 8 (by decide)
      have r9 : v 9 = .bool (decide (s ≤ Dt.get l (r, i))) := hv 9 (by decide)
      have r10 : v 10 = .bool (decide (s ≤ Dt.get l (r, i))) := hv 10 (by decide)
      have r11 : v 11 = .bool (decide (s ≤ Dt.get l (r, i))) := hv 11 (by decide)
      simp only [Reg.putAll, Act.put, List.setIfInBounds_toArray, List.set_cons_zero, List.set_cons_succ, r0, r1, r2, r3, r4, r5, r6, r7, r8, r9, r10, r11]
      clear r0 r1 r2 r3 r4 r5 r6 r7 r8 r9 r10 r11 hv
      go_wp2_with fail
      go_ret
      exact ⟨ret_bool (by simp [Dt.has, HM.out]), ((Below.refl _ _).alloc (Nat.le_refl _) _).trans (hb2.mono (by simp))⟩
set_option maxRecDepth 100000 in
set_option maxHeartbeats 6400000 in
theorem refwithin_any (a : Option Addr) (n cap : Nat) (la : List Dt.Dot) (c : Option Addr) (m capc : Nat) (lb : List Dt.Dot) (W : World) (hr : VRow W a cap la) (hl : la.length = n) (hs : VRow W c capc lb) (hm : lb.length = m) :
    Calls Try.prog 20 #[.slice a n cap, .slice c m capc] W fun e w' => e = .returned (.bool (Dt.within la lb)) ∧ Below W.heap.size W w' := by
  have hle := hr.le
  have hcap := hr.cap
  rw [hl] at hle
  have hw : withF (Dt.get lb) la n = Dt.within la lb := by unfold withF Dt.within; rw [List.take_of_length_le (by omega)]
  have HR := Lib.hid hr; have HL := Lib.hid hl; have HS := Lib.hid hs; have HM := Lib.hid hm; have HW := Lib.hid hw
  clear hr hl hs hm hw
  go_enter Try.func20, Try.ntmps20
  go_wp2
  go_loopw [5] (fun i wr => ∃ k : Nat, k ≤ n ∧ i = .int .i64 k ∧ withF (Dt.get lb) la k = true ∧ Below W.heap.size W wr) (fun i _ => n - (intOf i).toNat)
  case atStart => exact ⟨0, Nat.zero_le _, rfl, by simp [withF], Below.refl _ _⟩
  case round =>
    obtain ⟨k, hk, rfl, hwk, hbel⟩ := hrel
    have HBel := Lib.hid hbel; have HWk := Lib.hid hwk; clear hbel hwk
    by_cases hlt : k < n
    · obtain ⟨d, hd⟩ := getD_some (l := la) (i := k) (by rw [HL.out]; exact hlt)
      have hdm := List.mem_of_getElem? hd
      obtain ⟨blk, off, rfl, hblk, hcells⟩ := HR.out.at (by rw [HL.out]; omega)
      obtain ⟨g0, g1, g2⟩ := hcells k d hd
      have q0 := (HBel.out.cell (p := ⟨blk, off + k * 3, none⟩) hblk).trans g0
      have q1 := (HBel.out.cell (p := ⟨blk, off + k * 3 + 1, none⟩) hblk).trans g1
      have q2 := (HBel.out.cell (p := ⟨blk, off + k * 3 + 2, none⟩) hblk).trans g2
      have Hs := Lib.hid (withF_succ (f := Dt.get lb) hd)
      have Hdm := Lib.hid hdm
      obtain ⟨⟨r, i⟩, s⟩ := d
      simp only at q0 q1 q2
      have hC : ∀ w2, Below wr.drew.heap.size wr.drew w2 → w2.cell? ⟨blk, off + k * 3, none⟩ = some (.int .u8 (r : Int)) ∧ w2.cell? ⟨blk, off + k * 3 + 1, none⟩ = some (.int .u32 (i : Int)) ∧ w2.cell? ⟨blk, off + k * 3 + 2, none⟩ = some (.int .u64 (s : Int)) := fun w2 h =>
        ⟨(h.cell (World.block_lt_of_cell? wr _ q0)).trans q0, (h.cell (World.block_lt_of_cell? wr _ q1)).trans q1, (h.cell (World.block_lt_of_cell? wr _ q2)).trans q2⟩
      have HC := Lib.hid hC
      have i0 : (0 : Int) ≤ (k : Int) := by omega
      have i1 : (k : Int) < (n : Int) := by omega
      clear hcells g0 g1 g2 hd hC q0 q1 q2 hdm
      cases hmy : Dt.may ((r, i), s)
      · have HMy := Lib.hid hmy
        clear hmy
        go_wp2_with fail
        refine Reg.region_list (by kernel_rfl) [fun v _ => v = .slice (some ⟨blk, off, none⟩) n cap, fun v _ => v = .int .i64 (k : Int), fun v _ => v = .pointer (some ⟨blk, off + k * 3, none⟩), fun v _ => v = dotV ((r, i), s), fun v _ => v = .bool false, fun v _ => v = .bool false, fun v _ => v = undef, fun v _ => v = undef, fun v _ => v = undef, fun v _ => v = undef, fun v _ => v = undef, fun v _ => v = undef, fun v _ => v = undef, fun v _ => v = undef, fun v _ => v = undef, fun v _ => v = undef, fun v _ => v = undef, fun v _ => v = undef, fun v _ => v = undef, fun v _ => v = .bool false] (by kernel_rfl) ?_ ?_ ?_
        · refine ⟨(fun _ _ _ _ h => h), (fun _ _ _ _ h => h), (fun _ _ _ _ h => h), (fun _ _ _ _ h => h), (fun _ _ _ _ h => h), (fun _ _ _ _ h => h), (fun _ _ _ _ h => h), (fun _ _ _ _ h => h), (fun _ _ _ _ h => h), (fun _ _ _ _ h => h), (fun _ _ _ _ h => h), (fun _ _ _ _ h => h), (fun _ _ _ _ h => h), (fun _ _ _ _ h => h), (fun _ _ _ _ h => h), (fun _ _ _ _ h => h), (fun _ _ _ _ h => h), (fun _ _ _ _ h => h), (fun _ _ _ _ h => h), (fun _ _ _ _ h => h), trivial⟩
        · refine ⟨?_, ?_, ?_, ?_, ?_, ?_, ?_, ?_, ?_, ?_, ?_, ?_, ?_, ?_, ?_, ?_, ?_, ?_, ?_, ?_, trivial⟩
          · intro ev w hc hf hg hfix hdep hbel
            have e0 : ev (.tmp 0) = .slice (some ⟨blk, off, none⟩) n cap := hfix 0 (by decide)
            exact Or.inl ⟨trivial, Or.inl ⟨.slice (some ⟨blk, off, none⟩) n cap, w, by go_simp, rfl, Below.refl _ _⟩⟩
          · intro ev w hc hf hg hfix hdep hbel
            have e5 : ev (.tmp 5) = .int .i64 (k : Int) := hfix 5 (by decide)
            exact Or.inl ⟨trivial, Or.inl ⟨.int .i64 (k : Int), w, by go_simp, rfl, Below.refl _ _⟩⟩
          · intro ev w hc hf hg hfix hdep hbel
            have e12 : ev (.tmp 12) = .slice (some ⟨blk, off, none⟩) n cap := hdep 0 (by decide)
            have e13 : ev (.tmp 13) = .int .i64 (k : Int) := hdep 1 (by decide)
            exact Or.inl ⟨trivial, Or.inl ⟨.pointer (some ⟨blk, off + k * 3, none⟩), w, by go_simp, rfl, Below.refl _ _⟩⟩
          · intro ev w hc hf hg hfix hdep hbel
            have e14 : ev (.tmp 14) = .pointer (some ⟨blk, off + k * 3, none⟩) := hdep 2 (by decide)
            obtain ⟨hc0, hc1, hc2⟩ := HC.out w hbel
            exact Or.inl ⟨trivial, Or.inl ⟨dotV ((r, i), s), w, by go_simp, rfl, Below.refl _ _⟩⟩
          · intro ev w hc hf hg hfix hdep hbel
            have e15 : ev (.tmp 15) = dotV ((r, i), s) := hdep 3 (by decide)
            refine Or.inl ⟨trivial, Or.inr ⟨9, #[dotV ((r, i), s)], w, by go_simp, ?_⟩⟩
            refine (refmay_any r i s w).mono ?_
            rintro e w1 ⟨rfl, hb1⟩
            exact ⟨_, rfl, by rw [HMy.out], hb1⟩
          · intro ev w hc hf hg hfix hdep hbel
            have e16 : ev (.tmp 16) = .bool false := hdep 4 (by decide)
            exact Or.inl ⟨trivial, Or.inl ⟨.bool false, w, by go_simp, rfl, Below.refl _ _⟩⟩
          · intro ev w hc hf hg hfix hdep hbel
            have fg : ev (.tmp 17) = .bool false := hdep 5 (by decide)
            have e0 : ev (.tmp 0) = .slice (some ⟨blk, off, none⟩) n cap := hfix 0 (by decide)
            exact Or.inr ⟨fg, rfl⟩
          · intro ev w hc hf hg hfix hdep hbel
            have fg : ev (.tmp 17) = .bool false := hdep 5 (by decide)
            have e5 : ev (.tmp 5) = .int .i64 (k : Int) := hfix 5 (by decide)
            exact Or.inr ⟨fg, rfl⟩
          · intro ev w hc hf hg hfix hdep hbel
            have fg : ev (.tmp 17) = .bool false := hdep 5 (by decide)
            have e18 : ev (.tmp 18) = undef := hdep 6 (by decide)
            have e19 : ev (.tmp 19) = undef := hdep 7 (by decide)
            exact Or.inr ⟨fg, rfl⟩
          · intro ev w hc hf hg hfix hdep hbel
            have fg : ev (.tmp 17) = .bool false := hdep 5 (by decide)
            have e20 : ev (.tmp 20) = undef := hdep 8 (by decide)
            exact Or.inr ⟨fg, rfl⟩
          · intro ev w hc hf hg hfix hdep hbel
            have fg : ev (.tmp 17) = .bool false := hdep 5 (by decide)
            have e21 : ev (.tmp 21) = undef := hdep 9 (by decide)
            exact Or.inr ⟨fg, rfl⟩
          · intro ev w hc hf hg hfix hdep hbel
            have fg : ev (.tmp 17) = .bool false := hdep 5 (by decide)
            have e1 : ev (.tmp 1) = .slice c m capc := hfix 1 (by decide)
            exact Or.inr ⟨fg, rfl⟩
          · intro ev w hc hf hg hfix hdep hbel
            have fg : ev (.tmp 17) = .bool false := hdep 5 (by decide)
            have e0 : ev (.tmp 0) = .slice (some ⟨blk, off, none⟩) n cap := hfix 0 (by decide)
            exact Or.inr ⟨fg, rfl⟩
          · intro ev w hc hf hg hfix hdep hbel
            have fg : ev (.tmp 17) = .bool false := hdep 5 (by decide)
            have e5 : ev (.tmp 5) = .int .i64 (k : Int) := hfix 5 (by decide)
            exact Or.inr ⟨fg, rfl⟩
          · intro ev w hc hf hg hfix hdep hbel
            have fg : ev (.tmp 17) = .bool false := hdep 5 (by decide)
            have e24 : ev (.tmp 24) = undef := hdep 12 (by decide)
            have e25 : ev (.tmp 25) = undef := hdep 13 (by decide)
            exact Or.inr ⟨fg, rfl⟩
          · intro ev w hc hf hg hfix hdep hbel
            have fg : ev (.tmp 17) = .bool false := hdep 5 (by decide)
            have e26 : ev (.tmp 26) = undef := hdep 14 (by decide)
            exact Or.inr ⟨fg, rfl⟩
          · intro ev w hc hf hg hfix hdep hbel
            have fg : ev (.tmp 17) = .bool false := hdep 5 (by decide)
            have e27 : ev (.tmp 27) = undef := hdep 15 (by decide)
            exact Or.inr ⟨fg, rfl⟩
          · intro ev w hc hf hg hfix hdep hbel
            have fg : ev (.tmp 17) = .bool false := hdep 5 (by decide)
            have e23 : ev (.tmp 23) = undef := hdep 11 (by decide)
            have e28 : ev (.tmp 28) = undef := hdep 16 (by decide)
            exact Or.inr ⟨fg, rfl⟩
          · intro ev w hc hf hg hfix hdep hbel
            have fg : ev (.tmp 17) = .bool false := hdep 5 (by decide)
            have e22 : ev (.tmp 22) = undef := hdep 10 (by decide)
            have e29 : ev (.tmp 29) = undef := hdep 17 (by decide)
            exact Or.inr ⟨fg, rfl⟩
          · intro ev w hc hf hg hfix hdep hbel
            have e17 : ev (.tmp 17) = .bool false := hdep 5 (by decide)
            have e30 : ev (.tmp 30) = undef := hdep 18 (by decide)
            exact Or.inl ⟨trivial, Or.inl ⟨.bool false, w, by go_simp, rfl, Below.refl _ _⟩⟩
        · intro v w2 hv hb2
          have r0 : v 0 = .slice (some ⟨blk, off, none⟩) n cap := hv 0 (by decide)
          have r1 : v 1 = .int .i64 (k : Int) := hv 1 (by decide)
          have r2 : v 2 = .pointer (some ⟨blk, off + k * 3, none⟩) := hv 2 (by decide)
          have r3 : v 3 = dotV ((r, i), s) := hv 3 (by decide)
          have r4 : v 4 = .bool false := hv 4 (by decide)
          have r5 : v 5 = .bool false := hv 5 (by decide)
          have r6 : v 6 = undef := hv 6 (by decide)
          have r7 : v 7 = undef := hv 7 (by decide)
          have r8 : v 8 = undef := hv 8 (by decide)
          have r9 : v 9 = undef := hv 9 (by decide)
          have r10 : v 10 = undef := hv 10 (by decide)
          have r11 : v 11 = undef := hv 11 (by decide)
          have r12 : v 12 = undef := hv 12 (by decide)
          have r13 : v 13 = undef := hv 13 (by decide)
          have r14 : v 14 = undef := hv 14 (by decide)
          have r15 : v 15 = undef := hv 15 (by decide)
          have r16 : v 16 = undef := hv 16 (by decide)
          have r17 : v 17 = undef := hv 17 (by decide)
          have r18 : v 18 = undef := hv 18 (by decide)
          have r19 : v 19 = .bool false := hv 19 (by decide)
          simp only [Reg.putAll, Act.put, List.setIfInBounds_toArray, List.set_cons_zero, List.set_cons_succ, r0, r1, r2, r3, r4, r5, r6, r7, r8, r9, r10, r11, r12, r13, r14, r15, r16, r17, r18, r19]
          clear r0 r1 r2 r3 r4 r5 r6 r7 r8 r9 r10 r11 r12 r13 r14 r15 r16 r17 r18 r19 hv
          have HBw := Lib.hid (HBel.out.trans (hb2.mono HBel.out.size)); clear hb2
          go_wp2_with fail
          go_roundw
          case rel => exact ⟨k + 1, by omega, by go_num, by rw [Hs.out, HWk.out, HMy.out]; simp, HBw.out⟩
          case measure => simp [intOf]; omega
      · have HMy := Lib.hid hmy
        obtain ⟨g, hg⟩ : ∃ g, g = Dt.get lb (r, i) := ⟨_, rfl⟩
        have Hg := Lib.hid hg.symm
        rw [← hg] at Hs
        clear hg
        by_cases e3 : s ≤ g
        · have i2 : (s : Int) ≤ (g : Int) := by omega
          clear hmy
          go_wp2_with fail
          refine Reg.region_list (by kernel_rfl) [fun v _ => v = .slice (some ⟨blk, off, none⟩) n cap, fun v _ => v = .int .i64 (k : Int), fun v _ => v = .pointer (some ⟨blk, off + k * 3, none⟩), fun v _ => v = dotV ((r, i), s), fun v _ => v = .bool true, fun v _ => v = .bool true, fun v _ => v = .slice (some ⟨blk, off, none⟩) n cap, fun v _ => v = .int .i64 (k : Int), fun v _ => v = .pointer (some ⟨blk, off + k * 3, none⟩), fun v _ => v = .pointer (some ⟨blk, off + k * 3 + 2, none⟩), fun v _ => v = .int .u64 (s : Int), fun v _ => v = .slice c m capc, fun v _ => v = .slice (some ⟨blk, off, none⟩) n cap, fun v _ => v = .int .i64 (k : Int), fun v _ => v = .pointer (some ⟨blk, off + k * 3, none⟩), fun v _ => v = .pointer (some ⟨blk, off + k * 3, none⟩), fun v _ => v = acV (r, i), fun v _ => v = .int .u64 (g : Int), fun v _ => v = .bool false, fun v _ => v = .bool false] (by kernel_rfl) ?_ ?_ ?_
          · refine ⟨(fun _ _ _ _ h => h), (fun _ _ _ _ h => h), (fun _ _ _ _ h => h), (fun _ _ _ _ h => h), (fun _ _ _ _ h => h), (fun _ _ _ _ h => h), (fun _ _ _ _ h => h), (fun _ _ _ _ h => h), (fun _ _ _ _ h => h), (fun _ _ _ _ h => h), (fun _ _ _ _ h => h), (fun _ _ _ _ h => h), (fun _ _ _ _ h => h), (fun _ _ _ _ h => h), (fun _ _ _ _ h => h), (fun _ _ _ _ h => h), (fun _ _ _ _ h => h), (fun _ _ _ _ h => h), (fun _ _ _ _ h => h), (fun _ _ _ _ h => h), trivial⟩
          · refine ⟨?_, ?_, ?_, ?_, ?_, ?_, ?_, ?_, ?_, ?_, ?_, ?_, ?_, ?_, ?_, ?_, ?_, ?_, ?_, ?_, trivial⟩
            · intro ev w hc hf hg hfix hdep hbel
              have e0 : ev (.tmp 0) = .slice (some ⟨blk, off, none⟩) n cap := hfix 0 (by decide)
              exact Or.inl ⟨trivial, Or.inl ⟨.slice (some ⟨blk, off, none⟩) n cap, w, by go_simp, rfl, Below.refl _ _⟩⟩
            · intro ev w hc hf hg hfix hdep hbel
              have e5 : ev (.tmp 5) = .int .i64 (k : Int) := hfix 5 (by decide)
              exact Or.inl ⟨trivial, Or.inl ⟨.int .i64 (k : Int), w, by go_simp, rfl, Below.refl _ _⟩⟩
            · intro ev w hc hf hg hfix hdep hbel
              have e12 : ev (.tmp 12) = .slice (some ⟨blk, off, none⟩) n cap := hdep 0 (by decide)
              have e13 : ev (.tmp 13) = .int .i64 (k : Int) := hdep 1 (by decide)
              exact Or.inl ⟨trivial, Or.inl ⟨.pointer (some ⟨blk, off + k * 3, none⟩), w, by go_simp, rfl, Below.refl _ _⟩⟩
            · intro ev w hc hf hg hfix hdep hbel
              have e14 : ev (.tmp 14) = .pointer (some ⟨blk, off + k * 3, none⟩) := hdep 2 (by decide)
              obtain ⟨hc0, hc1, hc2⟩ := HC.out w hbel
              exact Or.inl ⟨trivial, Or.inl ⟨dotV ((r, i), s), w, by go_simp, rfl, Below.refl _ _⟩⟩
            · intro ev w hc hf hg hfix hdep hbel
              have e15 : ev (.tmp 15) = dotV ((r, i), s) := hdep 3 (by decide)
              refine Or.inl ⟨trivial, Or.inr ⟨9, #[dotV ((r, i), s)], w, by go_simp, ?_⟩⟩
              refine (refmay_any r i s w).mono ?_
              rintro e w1 ⟨rfl, hb1⟩
              exact ⟨_, rfl, by rw [HMy.out], hb1⟩
            · intro ev w hc hf hg hfix hdep hbel
              have e16 : ev (.tmp 16) = .bool true := hdep 4 (by decide)
              exact Or.inl ⟨trivial, Or.inl ⟨.bool true, w, by go_simp, rfl, Below.refl _ _⟩⟩
            · intro ev w hc hf hg hfix hdep hbel
              have fg : ev (.tmp 17) = .bool true := hdep 5 (by decide)
              have e0 : ev (.tmp 0) = .slice (some ⟨blk, off, none⟩) n cap := hfix 0 (by decide)
              exact Or.inl ⟨fg, Or.inl ⟨.slice (some ⟨blk, off, none⟩) n cap, w, by go_simp, rfl, Below.refl _ _⟩⟩
            · intro ev w hc hf hg hfix hdep hbel
              have fg : ev (.tmp 17) = .bool true := hdep 5 (by decide)
              have e5 : ev (.tmp 5) = .int .i64 (k : Int) := hfix 5 (by decide)
              exact Or.inl ⟨fg, Or.inl ⟨.int .i64 (k : Int), w, by go_simp, rfl, Below.refl _ _⟩⟩
            · intro ev w hc hf hg hfix hdep hbel
              have fg : ev (.tmp 17) = .bool true := hdep 5 (by decide)
              have e18 : ev (.tmp 18) = .slice (some ⟨blk, off, none⟩) n cap := hdep 6 (by decide)
              have e19 : ev (.tmp 19) = .int .i64 (k : Int) := hdep 7 (by decide)
              exact Or.inl ⟨fg, Or.inl ⟨.pointer (some ⟨blk, off + k * 3, none⟩), w, by go_simp, rfl, Below.refl _ _⟩⟩
            · intro ev w hc hf hg hfix hdep hbel
              have fg : ev (.tmp 17) = .bool true := hdep 5 (by decide)
              have e20 : ev (.tmp 20) = .pointer (some ⟨blk, off + k * 3, none⟩) := hdep 8 (by decide)
              exact Or.inl ⟨fg, Or.inl ⟨.pointer (some ⟨blk, off + k * 3 + 2, none⟩), w, by go_simp, rfl, Below.refl _ _⟩⟩
            · intro ev w hc hf hg hfix hdep hbel
              have fg : ev (.tmp 17) = .bool true := hdep 5 (by decide)
              have e21 : ev (.tmp 21) = .pointer (some ⟨blk, off + k * 3 + 2, none⟩) := hdep 9 (by decide)
              obtain ⟨hc0, hc1, hc2⟩ := HC.out w hbel
              exact Or.inl ⟨fg, Or.inl ⟨.int .u64 (s : Int), w, by go_simp, rfl, Below.refl _ _⟩⟩
            · intro ev w hc hf hg hfix hdep hbel
              have fg : ev (.tmp 17) = .bool true := hdep 5 (by decide)
              have e1 : ev (.tmp 1) = .slice c m capc := hfix 1 (by decide)
              exact Or.inl ⟨fg, Or.inl ⟨.slice c m capc, w, by go_simp, rfl, Below.refl _ _⟩⟩
            · intro ev w hc hf hg hfix hdep hbel
              have fg : ev (.tmp 17) = .bool true := hdep 5 (by decide)
              have e0 : ev (.tmp 0) = .slice (some ⟨blk, off, none⟩) n cap := hfix 0 (by decide)
              exact Or.inl ⟨fg, Or.inl ⟨.slice (some ⟨blk, off, none⟩) n cap, w, by go_simp, rfl, Below.refl _ _⟩⟩
            · intro ev w hc hf hg hfix hdep hbel
              have fg : ev (.tmp 17) = .bool true := hdep 5 (by decide)
              have e5 : ev (.tmp 5) = .int .i64 (k : Int) := hfix 5 (by decide)
              exact Or.inl ⟨fg, Or.inl ⟨.int .i64 (k : Int), w, by go_simp, rfl, Below.refl _ _⟩⟩
            · intro ev w hc hf hg hfix hdep hbel
              have fg : ev (.tmp 17) = .bool true := hdep 5 (by decide)
              have e24 : ev (.tmp 24) = .slice (some ⟨blk, off, none⟩) n cap := hdep 12 (by decide)
              have e25 : ev (.tmp 25) = .int .i64 (k : Int) := hdep 13 (by decide)
              exact Or.inl ⟨fg, Or.inl ⟨.pointer (some ⟨blk, off + k * 3, none⟩), w, by go_simp, rfl, Below.refl _ _⟩⟩
            · intro ev w hc hf hg hfix hdep hbel
              have fg : ev (.tmp 17) = .bool true := hdep 5 (by decide)
              have e26 : ev (.tmp 26) = .pointer (some ⟨blk, off + k * 3, none⟩) := hdep 14 (by decide)
              exact Or.inl ⟨fg, Or.inl ⟨.pointer (some ⟨blk, off + k * 3, none⟩), w, by go_simp, rfl, Below.refl _ _⟩⟩
            · intro ev w hc hf hg hfix hdep hbel
              have fg : ev (.tmp 17) = .bool true := hdep 5 (by decide)
              have e27 : ev (.tmp 27) = .pointer (some ⟨blk, off + k * 3, none⟩) := hdep 15 (by decide)
              obtain ⟨hc0, hc1, hc2⟩ := HC.out w hbel
              exact Or.inl ⟨fg, Or.inl ⟨acV (r, i), w, by go_simp, rfl, Below.refl _ _⟩⟩
            · intro ev w hc hf hg hfix hdep hbel
              have fg : ev (.tmp 17) = .bool true := hdep 5 (by decide)
              have e23 : ev (.tmp 23) = .slice c m capc := hdep 11 (by decide)
              have e28 : ev (.tmp 28) = acV (r, i) := hdep 16 (by decide)
              refine Or.inl ⟨fg, Or.inr ⟨16, #[.slice c m capc, acV (r, i)], w, by go_simp, ?_⟩⟩
              refine (refget_any c m capc r i lb w (HS.out.below ((HBel.out.drew).trans (hbel.mono HBel.out.size))) HM.out).mono ?_
              rintro e w1 ⟨rfl, hb1⟩
              exact ⟨_, rfl, by rw [Hg.out], hb1⟩
            · intro ev w hc hf hg hfix hdep hbel
              have fg : ev (.tmp 17) = .bool true := hdep 5 (by decide)
              have e22 : ev (.tmp 22) = .int .u64 (s : Int) := hdep 10 (by decide)
              have e29 : ev (.tmp 29) = .int .u64 (g : Int) := hdep 17 (by decide)
              exact Or.inl ⟨fg, Or.inl ⟨.bool false, w, by go_simp, rfl, Below.refl _ _⟩⟩
            · intro ev w hc hf hg hfix hdep hbel
              have e17 : ev (.tmp 17) = .bool true := hdep 5 (by decide)
              have e30 : ev (.tmp 30) = .bool false := hdep 18 (by decide)
              exact Or.inl ⟨trivial, Or.inl ⟨.bool false, w, by go_simp, rfl, Below.refl _ _⟩⟩
          · intro v w2 hv hb2
            have r0 : v 0 = .slice (some ⟨blk, off, none⟩) n cap := hv 0 (by decide)
            have r1 : v 1 = .int .i64 (k : Int) := hv 1 (by decide)
            have r2 : v 2 = .pointer (some ⟨blk, off + k * 3, none⟩) := hv 2 (by decide)
            have r3 : v 3 = dotV ((r, i), s) := hv 3 (by decide)
            have r4 : v 4 = .bool true := hv 4 (by decide)
            have r5 : v 5 = .bool true := hv 5 (by decide)
            have r6 : v 6 = .slice (some ⟨blk, off, none⟩) n cap := hv 6 (by decide)
            have r7 : v 7 = .int .i64 (k : Int) := hv 7 (by decide)
            have r8 : v 8 = .pointer (some ⟨blk, off + k * 3, none⟩) := hv 8 (by decide)
            have r9 : v 9 = .pointer (some ⟨blk, off + k * 3 + 2, none⟩) := hv 9 (by decide)
            have r10 : v 10 = .int .u64 (s : Int) := hv 10 (by decide)
            have r11 : v 11 = .slice c m capc := hv 11 (by decide)
            have r12 : v 12 = .slice (some ⟨blk, off, none⟩) n cap := hv 12 (by decide)
            have r13 : v 13 = .int .i64 (k : Int) := hv 13 (by decide)
            have r14 : v 14 = .pointer (some ⟨blk, off + k * 3, none⟩) := hv 14 (by decide)
            have r15 : v 15 = .pointer (some ⟨blk, off + k * 3, none⟩) := hv 15 (by decide)
            have r16 : v 16 = acV (r, i) := hv 16 (by decide)
            have r17 : v 17 = .int .u64 (g : Int) := hv 17 (by decide)
            have r18 : v 18 = .bool false := hv 18 (by decide)
            have r19 : v 19 = .bool false := hv 19 (by decide)
            simp only [Reg.putAll, Act.put, List.setIfInBounds_toArray, List.set_cons_zero, List.set_cons_succ, r0, r1, r2, r3, r4, r5, r6, r7, r8, r9, r10, r11, r12, r13, r14, r15, r16, r17, r18, r19]
            clear r0 r1 r2 r3 r4 r5 r6 r7 r8 r9 r10 r11 r12 r13 r14 r15 r16 r17 r18 r19 hv
            have HBw := Lib.hid (HBel.out.trans (hb2.mono HBel.out.size)); clear hb2
            go_wp2_with fail
            go_roundw
            case rel => exact ⟨k + 1, by omega, by go_num, by rw [Hs.out, HWk.out, HMy.out]; simpa using e3, HBw.out⟩
            case measure => simp [intOf]; omega
        · have i2 : (g : Int) < (s : Int) := by omega
          have hf : Dt.within la lb = false := by
            cases h : Dt.within la lb with
            | false => rfl
            | true =>
              have h1 := Dt.within_iff.1 h (r, i)
              have h2 := Dt.get_ge Hdm.out HMy.out
              simp only at h2
              rw [Hg.out] at h1; omega
          have HF := Lib.hid hf; clear hf
          clear hmy
          go_wp2_with fail
          refine Reg.region_list (by kernel_rfl) [fun v _ => v = .slice (some ⟨blk, off, none⟩) n cap, fun v _ => v = .int .i64 (k : Int), fun v _ => v = .pointer (some ⟨blk, off + k * 3, none⟩), fun v _ => v = dotV ((r, i), s), fun v _ => v = .bool true, fun v _ => v = .bool true, fun v _ => v = .slice (some ⟨blk, off, none⟩) n cap, fun v _ => v = .int .i64 (k : Int), fun v _ => v = .pointer (some ⟨blk, off + k * 3, none⟩), fun v _ => v = .pointer (some ⟨blk, off + k * 3 + 2, none⟩), fun v _ => v = .int .u64 (s : Int), fun v _ => v = .slice c m capc, fun v _ => v = .slice (some ⟨blk, off, none⟩) n cap, fun v _ => v = .int .i64 (k : Int), fun v _ => v = .pointer (some ⟨blk, off + k * 3, none⟩), fun v _ => v = .pointer (some ⟨blk, off + k * 3, none⟩), fun v _ => v = acV (r, i), fun v _ => v = .int .u64 (g : Int), fun v _ => v = .bool true, fun v _ => v = .bool true] (by kernel_rfl) ?_ ?_ ?_
          · refine ⟨(fun _ _ _ _ h => h), (fun _ _ _ _ h => h), (fun _ _ _ _ h => h), (fun _ _ _ _ h => h), (fun _ _ _ _ h => h), (fun _ _ _ _ h => h), (fun _ _ _ _ h => h), (fun _ _ _ _ h => h), (fun _ _ _ _ h => h), (fun _ _ _ _ h => h), (fun _ _ _ _ h => h), (fun _ _ _ _ h => h), (fun _ _ _ _ h => h), (fun _ _ _ _ h => h), (fun _ _ _ _ h => h), (fun _ _ _ _ h => h), (fun _ _ _ _ h => h), (fun _ _ _ _ h => h), (fun _ _ _ _ h => h), (fun _ _ _ _ h => h), trivial⟩
          · refine ⟨?_, ?_, ?_, ?_, ?_, ?_, ?_, ?_, ?_, ?_, ?_, ?_, ?_, ?_, ?_, ?_, ?_, ?_, ?_, ?_, trivial⟩
            · intro ev w hc hf hg hfix hdep hbel
              have e0 : ev (.tmp 0) = .slice (some ⟨blk, off, none⟩) n cap := hfix 0 (by decide)
              exact Or.inl ⟨trivial, Or.inl ⟨.slice (some ⟨blk, off, none⟩) n cap, w, by go_simp, rfl, Below.refl _ _⟩⟩
            · intro ev w hc hf hg hfix hdep hbel
              have e5 : ev (.tmp 5) = .int .i64 (k : Int) := hfix 5 (by decide)
              exact Or.inl ⟨trivial, Or.inl ⟨.int .i64 (k : Int), w, by go_simp, rfl, Below.refl _ _⟩⟩
            · intro ev w hc hf hg hfix hdep hbel
              have e12 : ev (.tmp 12) = .slice (some ⟨blk, off, none⟩) n cap := hdep 0 (by decide)
              have e13 : ev (.tmp 13) = .int .i64 (k : Int) := hdep 1 (by decide)
              exact Or.inl ⟨trivial, Or.inl ⟨.pointer (some ⟨blk, off + k * 3, none⟩), w, by go_simp, rfl, Below.refl _ _⟩⟩
            · intro ev w hc hf hg hfix hdep hbel
              have e14 : ev (.tmp 14) = .pointer (some ⟨blk, off + k * 3, none⟩) := hdep 2 (by decide)
              obtain ⟨hc0, hc1, hc2⟩ := HC.out w hbel
              exact Or.inl ⟨trivial, Or.inl ⟨dotV ((r, i), s), w, by go_simp, rfl, Below.refl _ _⟩⟩
            · intro ev w hc hf hg hfix hdep hbel
              have e15 : ev (.tmp 15) = dotV ((r, i), s) := hdep 3 (by decide)
              refine Or.inl ⟨trivial, Or.inr ⟨9, #[dotV ((r, i), s)], w, by go_simp, ?_⟩⟩
              refine (refmay_any r i s w).mono ?_
              rintro e w1 ⟨rfl, hb1⟩
              exact ⟨_, rfl, by rw [HMy.out], hb1⟩
            · intro ev w hc hf hg hfix hdep hbel
              have e16 : ev (.tmp 16) = .bool true := hdep 4 (by decide)
              exact Or.inl ⟨trivial, Or.inl ⟨.bool true, w, by go_simp, rfl, Below.refl _ _⟩⟩
            · intro ev w hc hf hg hfix hdep hbel
              have fg : ev (.tmp 17) = .bool true := hdep 5 (by decide)
              have e0 : ev (.tmp 0) = .slice (some ⟨blk, off, none⟩) n cap := hfix 0 (by decide)
              exact Or.inl ⟨fg, Or.inl ⟨.slice (some ⟨blk, off, none⟩) n cap, w, by go_simp, rfl, Below.refl _ _⟩⟩
            · intro ev w hc hf hg hfix hdep hbel
              have fg : ev (.tmp 17) = .bool true := hdep 5 (by decide)
              have e5 : ev (.tmp 5) = .int .i64 (k : Int) := hfix 5 (by decide)
              exact Or.inl ⟨fg, Or.inl ⟨.int .i64 (k : Int), w, by go_simp, rfl, Below.refl _ _⟩⟩
            · intro ev w hc hf hg hfix hdep hbel
              have fg : ev (.tmp 17) = .bool true := hdep 5 (by decide)
              have e18 : ev (.tmp 18) = .slice (some ⟨blk, off, none⟩) n cap := hdep 6 (by decide)
              have e19 : ev (.tmp 19) = .int .i64 (k : Int) := hdep 7 (by decide)
              exact Or.inl ⟨fg, Or.inl ⟨.pointer (some ⟨blk, off + k * 3, none⟩), w, by go_simp, rfl, Below.refl _ _⟩⟩
            · intro ev w hc hf hg hfix hdep hbel
              have fg : ev (.tmp 17) = .bool true := hdep 5 (by decide)
              have e20 : ev (.tmp 20) = .pointer (some ⟨blk, off + k * 3, none⟩) := hdep 8 (by decide)
              exact Or.inl ⟨fg, Or.inl ⟨.pointer (some ⟨blk, off + k * 3 + 2, none⟩), w, by go_simp, rfl, Below.refl _ _⟩⟩
            · intro ev w hc hf hg hfix hdep hbel
              have fg : ev (.tmp 17) = .bool true := hdep 5 (by decide)
              have e21 : ev (.tmp 21) = .pointer (some ⟨blk, off + k * 3 + 2, none⟩) := hdep 9 (by decide)
              obtain ⟨hc0, hc1, hc2⟩ := HC.out w hbel
              exact Or.inl ⟨fg, Or.inl ⟨.int .u64 (s : Int), w, by go_simp, rfl, Below.refl _ _⟩⟩
            · intro ev w hc hf hg hfix hdep hbel
              have fg : ev (.tmp 17) = .bool true := hdep 5 (by decide)
              have e1 : ev (.tmp 1) = .slice c m capc := hfix 1 (by decide)
              exact Or.inl ⟨fg, Or.inl ⟨.slice c m capc, w, by go_simp, rfl, Below.refl _ _⟩⟩
            · intro ev w hc hf hg hfix hdep hbel
              have fg : ev (.tmp 17) = .bool true := hdep 5 (by decide)
              have e0 : ev (.tmp 0) = .slice (some ⟨blk, off, none⟩) n cap := hfix 0 (by decide)
              exact Or.inl ⟨fg, Or.inl ⟨.slice (some ⟨blk, off, none⟩) n cap, w, by go_simp, rfl, Below.refl _ _⟩⟩
            · intro ev w hc hf hg hfix hdep hbel
              have fg : ev (.tmp 17) = .bool true := hdep 5 (by decide)
              have e5 : ev (.tmp 5) = .int .i64 (k : Int) := hfix 5 (by decide)
              exact Or.inl ⟨fg, Or.inl ⟨.int .i64 (k : Int), w, by go_simp, rfl, Below.refl _ _⟩⟩
            · intro ev w hc hf hg hfix hdep hbel
              have fg : ev (.tmp 17) = .bool true := hdep 5 (by decide)
              have e24 : ev (.tmp 24) = .slice (some ⟨blk, off, none⟩) n cap := hdep 12 (by decide)
              have e25 : ev (.tmp 25) = .int .i64 (k : Int) := hdep 13 (by decide)
              exact Or.inl ⟨fg, Or.inl ⟨.pointer (some ⟨blk, off + k * 3, none⟩), w, by go_simp, rfl, Below.refl _ _⟩⟩
            · intro ev w hc hf hg hfix hdep hbel
              have fg : ev (.tmp 17) = .bool true := hdep 5 (by decide)
              have e26 : ev (.tmp 26) = .pointer (some ⟨blk, off + k * 3, none⟩) := hdep 14 (by decide)
              exact Or.inl ⟨fg, Or.inl ⟨.pointer (some ⟨blk, off + k * 3, none⟩), w, by go_simp, rfl, Below.refl _ _⟩⟩
            · intro ev w hc hf hg hfix hdep hbel
              have fg : ev (.tmp 17) = .bool true := hdep 5 (by decide)
              have e27 : ev (.tmp 27) = .pointer (some ⟨blk, off + k * 3, none⟩) := hdep 15 (by decide)
              obtain ⟨hc0, hc1, hc2⟩ := HC.out w hbel
              exact Or.inl ⟨fg, Or.inl ⟨acV (r, i), w, by go_simp, rfl, Below.refl _ _⟩⟩
            · intro ev w hc hf hg hfix hdep hbel
              have fg : ev (.tmp 17) = .bool true := hdep 5 (by decide)
              have e23 : ev (.tmp 23) = .slice c m capc := hdep 11 (by decide)
              have e28 : ev (.tmp 28) = acV (r, i) := hdep 16 (by decide)
              refine Or.inl ⟨fg, Or.inr ⟨16, #[.slice c m capc, acV (r, i)], w, by go_simp, ?_⟩⟩
              refine (refget_any c m capc r i lb w (HS.out.below ((HBel.out.drew).trans (hbel.mono HBel.out.size))) HM.out).mono ?_
              rintro e w1 ⟨rfl, hb1⟩
              exact ⟨_, rfl, by rw [Hg.out], hb1⟩
            · intro ev w hc hf hg hfix hdep hbel
              have fg : ev (.tmp 17) = .bool true := hdep 5 (by decide)
              have e22 : ev (.tmp 22) = .int .u64 (s : Int) := hdep 10 (by decide)
              have e29 : ev (.tmp 29) = .int .u64 (g : Int) := hdep 17 (by decide)
              exact Or.inl ⟨fg, Or.inl ⟨.bool true, w, by go_simp, rfl, Below.refl _ _⟩⟩
            · intro ev w hc hf hg hfix hdep hbel
              have e17 : ev (.tmp 17) = .bool true := hdep 5 (by decide)
              have e30 : ev (.tmp 30) = .bool true := hdep 18 (by decide)
              exact Or.inl ⟨trivial, Or.inl ⟨.bool true, w, by go_simp, rfl, Below.refl _ _⟩⟩
          · intro v w2 hv hb2
            have r0 : v 0 = .slice (some ⟨blk, off, none⟩) n cap := hv 0 (by decide)
            have r1 : v 1 = .int .i64 (k : Int) := hv 1 (by decide)
            have r2 : v 2 = .pointer (some ⟨blk, off + k * 3, none⟩) := hv 2 (by decide)
            have r3 : v 3 = dotV ((r, i), s) := hv 3 (by decide)
            have r4 : v 4 = .bool true := hv 4 (by decide)
            have r5 : v 5 = .bool true := hv 5 (by decide)
            have r6 : v 6 = .slice (some ⟨blk, off, none⟩) n cap := hv 6 (by decide)
            have r7 : v 7 = .int .i64 (k : Int) := hv 7 (by decide)
            have r8 : v 8 = .pointer (some ⟨blk, off + k * 3, none⟩) := hv 8 (by decide)
            have r9 : v 9 = .pointer (some ⟨blk, off + k * 3 + 2, none⟩) := hv 9 (by decide)
            have r10 : v 10 = .int .u64 (s : Int) := hv 10 (by decide)
            have r11 : v 11 = .slice c m capc := hv 11 (by decide)
            have r12 : v 12 = .slice (some ⟨blk, off, none⟩) n cap := hv 12 (by decide)
            have r13 : v 13 = .int .i64 (k : Int) := hv 13 (by decide)
            have r14 : v 14 = .pointer (some ⟨blk, off + k * 3, none⟩) := hv 14 (by decide)
            have r15 : v 15 = .pointer (some ⟨blk, off + k * 3, none⟩) := hv 15 (by decide)
            have r16 : v 16 = acV (r, i) := hv 16 (by decide)
            have r17 : v 17 = .int .u64 (g : Int) := hv 17 (by decide)
            have r18 : v 18 = .bool true := hv 18 (by decide)
            have r19 : v 19 = .bool true := hv 19 (by decide)
            simp only [Reg.putAll, Act.put, List.setIfInBounds_toArray, List.set_cons_zero, List.set_cons_succ, r0, r1, r2, r3, r4, r5, r6, r7, r8, r9, r10, r11, r12, r13, r14, r15, r16, r17, r18, r19]
            clear r0 r1 r2 r3 r4 r5 r6 r7 r8 r9 r10 r11 r12 r13 r14 r15 r16 r17 r18 r19 hv
            have HBw := Lib.hid (HBel.out.trans (hb2.mono HBel.out.size)); clear hb2
            go_wp2_with fail
            go_ret
            exact ⟨ret_bool HF.out.symm, HBw.out⟩
    · have hfin : withF (Dt.get lb) la k = Dt.within la lb := by rw [← HW.out, show k = n from by omega]
      have hfin2 : Dt.within la lb = true := by rw [← hfin]; exact HWk.out
      have Hfin := Lib.hid hfin2; clear hfin hfin2
      go_wp2
      go_ret
      exact ⟨ret_bool Hfin.out.symm, HBel.out⟩
end Go.Proofs.Ytfebbdnibimmmaa
