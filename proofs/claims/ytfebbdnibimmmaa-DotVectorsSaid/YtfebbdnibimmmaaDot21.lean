import Derived.Test.YtfebbdnibimmmaaDot17
namespace Go.Proofs.Ytfebbdnibimmmaa
open Go.RowKit Go.Maps
set_option maxRecDepth 100000 in
set_option maxHeartbeats 6400000 in
theorem refget_any (a : Option Addr) (n cap : Nat) (r' i' : Nat) (l : List Dt.Dot) (w : World) (hr : VRow w a cap l) (hl : l.length = n) :
    Calls Try.prog 16 #[.slice a n cap, acV (r', i')] w fun e w' => e = .returned (.int .u64 (Dt.get l (r', i') : Nat)) ∧ Below w.heap.size w w' := by
  have hle := hr.le
  have hcap := hr.cap
  rw [hl] at hle
  have HR := Lib.hid hr; have HL := Lib.hid hl
  clear hr hl
  go_enter Try.func16, Try.ntmps16
  go_wp2
  obtain ⟨bx, hbx⟩ : ∃ bx, bx = w.heap.size := ⟨_, rfl⟩
  have hbox : ∀ wr, Below w.heap.size (w.alloc (.cells #[.int .u8 (r' : Int), .int .u32 (i' : Int)] 26)) wr ∧ wr.cell? ⟨bx, 0, none⟩ = some (.int .u8 (r' : Int)) ∧ wr.cell? ⟨bx, 1, none⟩ = some (.int .u32 (i' : Int)) → True := fun _ _ => trivial
  clear hbox
  rw [← hbx]
  have HBx := Lib.hid hbx; clear hbx
  go_loopw [5, 6] (fun u i wr => ∃ k : Nat, k ≤ n ∧ i = .int .i64 k ∧ u = .int .u64 (getF (r', i') l k : Nat) ∧ Below w.heap.size w wr ∧ wr.cell? ⟨bx, 0, none⟩ = some (.int .u8 (r' : Int)) ∧ wr.cell? ⟨bx, 1, none⟩ = some (.int .u32 (i' : Int))) (fun _ i _ => n - (intOf i).toNat)
  case atStart => exact ⟨0, Nat.zero_le _, rfl, rfl, (Below.refl _ _).alloc (Nat.le_refl _) _, by rw [HBx.out]; simp, by rw [HBx.out]; simp⟩
  case round =>
    obtain ⟨k, hk, rfl, rfl, hbel, hx0, hx1⟩ := hrel
    have HBel := Lib.hid hbel; have HX0 := Lib.hid hx0; have HX1 := Lib.hid hx1; clear hbel hx0 hx1
    by_cases hlt : k < n
    · obtain ⟨d, hd⟩ := getD_some (l := l) (i := k) (by rw [HL.out]; exact hlt)
      obtain ⟨blk, off, rfl, hblk, hcells⟩ := HR.out.at (by rw [HL.out]; omega)
      obtain ⟨g0, g1, g2⟩ := hcells k d hd
      have q0 := (HBel.out.cell (p := ⟨blk, off + k * 3, none⟩) hblk).trans g0
      have q1 := (HBel.out.cell (p := ⟨blk, off + k * 3 + 1, none⟩) hblk).trans g1
      have q2 := (HBel.out.cell (p := ⟨blk, off + k * 3 + 2, none⟩) hblk).trans g2
      have Hs := Lib.hid (getF_succ (a := (r', i')) hd)
      obtain ⟨⟨r, i⟩, s⟩ := d
      simp only at q0 q1 q2
      have hC : ∀ w2, Below wr.drew.heap.size wr.drew w2 → w2.cell? ⟨blk, off + k * 3, none⟩ = some (.int .u8 (r : Int)) ∧ w2.cell? ⟨blk, off + k * 3 + 1, none⟩ = some (.int .u32 (i : Int)) ∧ w2.cell? ⟨blk, off + k * 3 + 2, none⟩ = some (.int .u64 (s : Int)) ∧ w2.cell? ⟨bx, 0, none⟩ = some (.int .u8 (r' : Int)) ∧ w2.cell? ⟨bx, 1, none⟩ = some (.int .u32 (i' : Int)) := fun w2 h =>
        ⟨(h.cell (World.block_lt_of_cell? wr _ q0)).trans q0, (h.cell (World.block_lt_of_cell? wr _ q1)).trans q1, (h.cell (World.block_lt_of_cell? wr _ q2)).trans q2, (h.cell (World.block_lt_of_cell? wr _ HX0.out)).trans HX0.out, (h.cell (World.block_lt_of_cell? wr _ HX1.out)).trans HX1.out⟩
      have HC := Lib.hid hC
      have i0 : (0 : Int) ≤ (k : Int) := by omega
      have i1 : (k : Int) < (n : Int) := by omega
      clear hcells g0 g1 g2 hd hC q0 q1 q2
      generalize hg : getF (r', i') l k = g at Hs ⊢
      clear hg
      cases hm : Dt.may ((r, i), s)
      · have HM := Lib.hid hm
        have HG := Lib.hid (show Dt.getStep (r', i') g ((r, i), s) = g from getStep_not hm)
        clear hm
        go_wp2_with fail
        refine Reg.region_list (by kernel_rfl) [fun v _ => v = .slice (some ⟨blk, off, none⟩) n cap, fun v _ => v = .int .i64 (k : Int), fun v _ => v = .pointer (some ⟨blk, off + k * 3, none⟩), fun v _ => v = dotV ((r, i), s), fun v _ => v = .bool false, fun v _ => v = .bool false, fun v _ => v = undef, fun v _ => v = undef, fun v _ => v = undef, fun v _ => v = undef, fun v _ => v = undef, fun v _ => v = undef, fun v _ => v = undef, fun v _ => v = .bool false, fun v _ => v = .bool false, fun v _ => v = undef, fun v _ => v = undef, fun v _ => v = undef, fun v _ => v = undef, fun v _ => v = undef, fun v _ => v = undef, fun v _ => v = undef, fun v _ => v = .bool false] (by kernel_rfl) ?_ ?_ ?_
        · refine ⟨(fun _ _ _ _ h => h), (fun _ _ _ _ h => h), (fun _ _ _ _ h => h), (fun _ _ _ _ h => h), (fun _ _ _ _ h => h), (fun _ _ _ _ h => h), (fun _ _ _ _ h => h), (fun _ _ _ _ h => h), (fun _ _ _ _ h => h), (fun _ _ _ _ h => h), (fun _ _ _ _ h => h), (fun _ _ _ _ h => h), (fun _ _ _ _ h => h), (fun _ _ _ _ h => h), (fun _ _ _ _ h => h), (fun _ _ _ _ h => h), (fun _ _ _ _ h => h), (fun _ _ _ _ h => h), (fun _ _ _ _ h => h), (fun _ _ _ _ h => h), (fun _ _ _ _ h => h), (fun _ _ _ _ h => h), (fun _ _ _ _ h => h), trivial⟩
        · refine ⟨?_, ?_, ?_, ?_, ?_, ?_, ?_, ?_, ?_, ?_, ?_, ?_, ?_, ?_, ?_, ?_, ?_, ?_, ?_, ?_, ?_, ?_, ?_, trivial⟩
          · intro ev w hc hf hg hfix hdep hbel
            have e0 : ev (.tmp 0) = .slice (some ⟨blk, off, none⟩) n cap := hfix 0 (by decide)
            exact Or.inl ⟨trivial, Or.inl ⟨.slice (some ⟨blk, off, none⟩) n cap, w, by go_simp, rfl, Below.refl _ _⟩⟩
          · intro ev w hc hf hg hfix hdep hbel
            have e6 : ev (.tmp 6) = .int .i64 (k : Int) := hfix 6 (by decide)
            exact Or.inl ⟨trivial, Or.inl ⟨.int .i64 (k : Int), w, by go_simp, rfl, Below.refl _ _⟩⟩
          · intro ev w hc hf hg hfix hdep hbel
            have e13 : ev (.tmp 13) = .slice (some ⟨blk, off, none⟩) n cap := hdep 0 (by decide)
            have e14 : ev (.tmp 14) = .int .i64 (k : Int) := hdep 1 (by decide)
            exact Or.inl ⟨trivial, Or.inl ⟨.pointer (some ⟨blk, off + k * 3, none⟩), w, by go_simp, rfl, Below.refl _ _⟩⟩
          · intro ev w hc hf hg hfix hdep hbel
            have e15 : ev (.tmp 15) = .pointer (some ⟨blk, off + k * 3, none⟩) := hdep 2 (by decide)
            obtain ⟨hc0, hc1, hc2, hc3, hc4⟩ := HC.out w hbel
            exact Or.inl ⟨trivial, Or.inl ⟨dotV ((r, i), s), w, by go_simp, rfl, Below.refl _ _⟩⟩
          · intro ev w hc hf hg hfix hdep hbel
            have e16 : ev (.tmp 16) = dotV ((r, i), s) := hdep 3 (by decide)
            refine Or.inl ⟨trivial, Or.inr ⟨9, #[dotV ((r, i), s)], w, by go_simp, ?_⟩⟩
            refine (refmay_any r i s w).mono ?_
            rintro e w1 ⟨rfl, hb1⟩
            exact ⟨_, rfl, by rw [HM.out], hb1⟩
          · intro ev w hc hf hg hfix hdep hbel
            have e17 : ev (.tmp 17) = .bool false := hdep 4 (by decide)
            exact Or.inl ⟨trivial, Or.inl ⟨.bool false, w, by go_simp, rfl, Below.refl _ _⟩⟩
          · intro ev w hc hf hg hfix hdep hbel
            have fg : ev (.tmp 18) = .bool false := hdep 5 (by decide)
            have e0 : ev (.tmp 0) = .slice (some ⟨blk, off, none⟩) n cap := hfix 0 (by decide)
            exact Or.inr ⟨fg, rfl⟩
          · intro ev w hc hf hg hfix hdep hbel
            have fg : ev (.tmp 18) = .bool false := hdep 5 (by decide)
            have e6 : ev (.tmp 6) = .int .i64 (k : Int) := hfix 6 (by decide)
            exact Or.inr ⟨fg, rfl⟩
          · intro ev w hc hf hg hfix hdep hbel
            have fg : ev (.tmp 18) = .bool false := hdep 5 (by decide)
            have e19 : ev (.tmp 19) = undef := hdep 6 (by decide)
            have e20 : ev (.tmp 20) = undef := hdep 7 (by decide)
            exact Or.inr ⟨fg, rfl⟩
          · intro ev w hc hf hg hfix hdep hbel
            have fg : ev (.tmp 18) = .bool false := hdep 5 (by decide)
            have e21 : ev (.tmp 21) = undef := hdep 8 (by decide)
            exact Or.inr ⟨fg, rfl⟩
          · intro ev w hc hf hg hfix hdep hbel
            have fg : ev (.tmp 18) = .bool false := hdep 5 (by decide)
            have e22 : ev (.tmp 22) = undef := hdep 9 (by decide)
            exact Or.inr ⟨fg, rfl⟩
          · intro ev w hc hf hg hfix hdep hbel
            have fg : ev (.tmp 18) = .bool false := hdep 5 (by decide)
            have e3 : ev (.tmp 3) = .pointer (some ⟨bx, 0, none⟩) := hfix 3 (by decide)
            exact Or.inr ⟨fg, rfl⟩
          · intro ev w hc hf hg hfix hdep hbel
            have fg : ev (.tmp 18) = .bool false := hdep 5 (by decide)
            have e23 : ev (.tmp 23) = undef := hdep 10 (by decide)
            have e24 : ev (.tmp 24) = undef := hdep 11 (by decide)
            exact Or.inr ⟨fg, rfl⟩
          · intro ev w hc hf hg hfix hdep hbel
            have e18 : ev (.tmp 18) = .bool false := hdep 5 (by decide)
            have e25 : ev (.tmp 25) = undef := hdep 12 (by decide)
            exact Or.inl ⟨trivial, Or.inl ⟨.bool false, w, by go_simp, rfl, Below.refl _ _⟩⟩
          · intro ev w hc hf hg hfix hdep hbel
            have e26 : ev (.tmp 26) = .bool false := hdep 13 (by decide)
            exact Or.inl ⟨trivial, Or.inl ⟨.bool false, w, by go_simp, rfl, Below.refl _ _⟩⟩
          · intro ev w hc hf hg hfix hdep hbel
            have fg : ev (.tmp 27) = .bool false := hdep 14 (by decide)
            have e0 : ev (.tmp 0) = .slice (some ⟨blk, off, none⟩) n cap := hfix 0 (by decide)
            exact Or.inr ⟨fg, rfl⟩
          · intro ev w hc hf hg hfix hdep hbel
            have fg : ev (.tmp 27) = .bool false := hdep 14 (by decide)
            have e6 : ev (.tmp 6) = .int .i64 (k : Int) := hfix 6 (by decide)
            exact Or.inr ⟨fg, rfl⟩
          · intro ev w hc hf hg hfix hdep hbel
            have fg : ev (.tmp 27) = .bool false := hdep 14 (by decide)
            have e28 : ev (.tmp 28) = undef := hdep 15 (by decide)
            have e29 : ev (.tmp 29) = undef := hdep 16 (by decide)
            exact Or.inr ⟨fg, rfl⟩
          · intro ev w hc hf hg hfix hdep hbel
            have fg : ev (.tmp 27) = .bool false := hdep 14 (by decide)
            have e30 : ev (.tmp 30) = undef := hdep 17 (by decide)
            exact Or.inr ⟨fg, rfl⟩
          · intro ev w hc hf hg hfix hdep hbel
            have fg : ev (.tmp 27) = .bool false := hdep 14 (by decide)
            have e31 : ev (.tmp 31) = undef := hdep 18 (by decide)
            exact Or.inr ⟨fg, rfl⟩
          · intro ev w hc hf hg hfix hdep hbel
            have fg : ev (.tmp 27) = .bool false := hdep 14 (by decide)
            have e5 : ev (.tmp 5) = .int .u64 (g : Int) := hfix 5 (by decide)
            exact Or.inr ⟨fg, rfl⟩
          · intro ev w hc hf hg hfix hdep hbel
            have fg : ev (.tmp 27) = .bool false := hdep 14 (by decide)
            have e32 : ev (.tmp 32) = undef := hdep 19 (by decide)
            have e33 : ev (.tmp 33) = undef := hdep 20 (by decide)
            exact Or.inr ⟨fg, rfl⟩
          · intro ev w hc hf hg hfix hdep hbel
            have e27 : ev (.tmp 27) = .bool false := hdep 14 (by decide)
            have e34 : ev (.tmp 34) = undef := hdep 21 (by decide)
            exact Or.inl ⟨trivial, Or.inl ⟨.bool false, w, by go_simp, rfl, Below.refl _ _⟩⟩
        · intro v w2 hv hb2
          have r0 : v 0 = .slice (some ⟨blk, off, none⟩) n cap := hv 0 (by decide)
          have r1 : v 1 = .int .i64 (k : Int) := hv 1 (by decide)
          have r2 : v 2 = .pointer (some ⟨blk, off + k * 3, none⟩) := hv 2 (by decide)
          have r3 : v 3 = dotV ((r, i), s) := hv 3 (by decide)
          have r4 : v 4 = .bool false := hv 4 (by decide)
          have r5 : v 5 = .bool false := hv 5 (by decide)
          have r6 : v 6 = undef := hv 6 (by decide)
          have r7 : v 7 = undef := hv 7 (by decide)
          have r8 : v 8 = undef := hv 8 (by decide)
          have r9 : v 9 = undef := hv 9 (by decide)
          have r10 : v 10 = undef := hv 10 (by decide)
          have r11 : v 11 = undef := hv 11 (by decide)
          have r12 : v 12 = undef := hv 12 (by decide)
          have r13 : v 13 = .bool false := hv 13 (by decide)
          have r14 : v 14 = .bool false := hv 14 (by decide)
          have r15 : v 15 = undef := hv 15 (by decide)
          have r16 : v 16 = undef := hv 16 (by decide)
          have r17 : v 17 = undef := hv 17 (by decide)
          have r18 : v 18 = undef := hv 18 (by decide)
          have r19 : v 19 = undef := hv 19 (by decide)
          have r20 : v 20 = undef := hv 20 (by decide)
          have r21 : v 21 = undef := hv 21 (by decide)
          have r22 : v 22 = .bool false := hv 22 (by decide)
          simp only [Reg.putAll, Act.put, List.setIfInBounds_toArray, List.set_cons_zero, List.set_cons_succ, r0, r1, r2, r3, r4, r5, r6, r7, r8, r9, r10, r11, r12, r13, r14, r15, r16, r17, r18, r19, r20, r21, r22]
          clear r0 r1 r2 r3 r4 r5 r6 r7 r8 r9 r10 r11 r12 r13 r14 r15 r16 r17 r18 r19 r20 r21 r22 hv
          have hbw : Below w.heap.size w w2 := HBel.out.trans (hb2.mono HBel.out.size)
          obtain ⟨hc0, hc1, hc2, hc3, hc4⟩ := HC.out w2 ⟨hb2.os, hb2.tape, hb2.output, hb2.size, hb2.block⟩
          have HBw := Lib.hid hbw; have H3 := Lib.hid hc3; have H4 := Lib.hid hc4
          clear hbw hb2 hc3 hc4
          go_wp2_with fail
          clear hc0 hc1 hc2
          go_roundw
          case rel => exact ⟨k + 1, by omega, by go_num, by rw [Hs.out, HG.out], HBw.out, H3.out, H4.out⟩
          case measure => simp [intOf]; omega
      · have HM := Lib.hid hm
        by_cases e1 : r = r'
        · subst e1
          by_cases e2 : i = i'
          · subst e2
            by_cases e3 : g < s
            · have i2 : (g : Int) < (s : Int) := by omega
              have HG := Lib.hid (show Dt.getStep (r, i) g ((r, i), s) = s from by simp [Dt.getStep, hm]; omega)
              clear hm
              go_wp2_with fail
              refine Reg.region_list (by kernel_rfl) [fun v _ => v = .slice (some ⟨blk, off, none⟩) n cap, fun v _ => v = .int .i64 (k : Int), fun v _ => v = .pointer (some ⟨blk, off + k * 3, none⟩), fun v _ => v = dotV ((r, i), s), fun v _ => v = .bool true, fun v _ => v = .bool true, fun v _ => v = .slice (some ⟨blk, off, none⟩) n cap, fun v _ => v = .int .i64 (k : Int), fun v _ => v = .pointer (some ⟨blk, off + k * 3, none⟩), fun v _ => v = .pointer (some ⟨blk, off + k * 3, none⟩), fun v _ => v = acV (r, i), fun v _ => v = acV (r, i), fun v _ => v = .bool true, fun v _ => v = .bool true, fun v _ => v = .bool true, fun v _ => v = .slice (some ⟨blk, off, none⟩) n cap, fun v _ => v = .int .i64 (k : Int), fun v _ => v = .pointer (some ⟨blk, off + k * 3, none⟩), fun v _ => v = .pointer (some ⟨blk, off + k * 3 + 2, none⟩), fun v _ => v = .int .u64 (s : Int), fun v _ => v = .int .u64 (g : Int), fun v _ => v = .bool true, fun v _ => v = .bool true] (by kernel_rfl) ?_ ?_ ?_
              · refine ⟨(fun _ _ _ _ h => h), (fun _ _ _ _ h => h), (fun _ _ _ _ h => h), (fun _ _ _ _ h => h), (fun _ _ _ _ h => h), (fun _ _ _ _ h => h), (fun _ _ _ _ h => h), (fun _ _ _ _ h => h), (fun _ _ _ _ h => h), (fun _ _ _ _ h => h), (fun _ _ _ _ h => h), (fun _ _ _ _ h => h), (fun _ _ _ _ h => h), (fun _ _ _ _ h => h), (fun _ _ _ _ h => h), (fun _ _ _ _ h => h), (fun _ _ _ _ h => h), (fun _ _ _ _ h => h), (fun _ _ _ _ h => h), (fun _ _ _ _ h => h), (fun _ _ _ _ h => h), (fun _ _ _ _ h => h), (fun _ _ _ _ h => h), trivial⟩
              · refine ⟨?_, ?_, ?_, ?_, ?_, ?_, ?_, ?_, ?_, ?_, ?_, ?_, ?_, ?_, ?_, ?_, ?_, ?_, ?_, ?_, ?_, ?_, ?_, trivial⟩
                · intro ev w hc hf hg hfix hdep hbel
                  have e0 : ev (.tmp 0) = .slice (some ⟨blk, off, none⟩) n cap := hfix 0 (by decide)
                  exact Or.inl ⟨trivial, Or.inl ⟨.slice (some ⟨blk, off, none⟩) n cap, w, by go_simp, rfl, Below.refl _ _⟩⟩
                · intro ev w hc hf hg hfix hdep hbel
                  have e6 : ev (.tmp 6) = .int .i64 (k : Int) := hfix 6 (by decide)
                  exact Or.inl ⟨trivial, Or.inl ⟨.int .i64 (k : Int), w, by go_simp, rfl, Below.refl _ _⟩⟩
                · intro ev w hc hf hg hfix hdep hbel
                  have e13 : ev (.tmp 13) = .slice (some ⟨blk, off, none⟩) n cap := hdep 0 (by decide)
                  have e14 : ev (.tmp 14) = .int .i64 (k : Int) := hdep 1 (by decide)
                  exact Or.inl ⟨trivial, Or.inl ⟨.pointer (some ⟨blk, off + k * 3, none⟩), w, by go_simp, rfl, Below.refl _ _⟩⟩
                · intro ev w hc hf hg hfix hdep hbel
                  have e15 : ev (.tmp 15) = .pointer (some ⟨blk, off + k * 3, none⟩) := hdep 2 (by decide)
                  obtain ⟨hc0, hc1, hc2, hc3, hc4⟩ := HC.out w hbel
                  exact Or.inl ⟨trivial, Or.inl ⟨dotV ((r, i), s), w, by go_simp, rfl, Below.refl _ _⟩⟩
                · intro ev w hc hf hg hfix hdep hbel
                  have e16 : ev (.tmp 16) = dotV ((r, i), s) := hdep 3 (by decide)
                  refine Or.inl ⟨trivial, Or.inr ⟨9, #[dotV ((r, i), s)], w, by go_simp, ?_⟩⟩
                  refine (refmay_any r i s w).mono ?_
                  rintro e w1 ⟨rfl, hb1⟩
                  exact ⟨_, rfl, by rw [HM.out], hb1⟩
                · intro ev w hc hf hg hfix hdep hbel
                  have e17 : ev (.tmp 17) = .bool true := hdep 4 (by decide)
                  exact Or.inl ⟨trivial, Or.inl ⟨.bool true, w, by go_simp, rfl, Below.refl _ _⟩⟩
                · intro ev w hc hf hg hfix hdep hbel
                  have fg : ev (.tmp 18) = .bool true := hdep 5 (by decide)
                  have e0 : ev (.tmp 0) = .slice (some ⟨blk, off, none⟩) n cap := hfix 0 (by decide)
                  exact Or.inl ⟨fg, Or.inl ⟨.slice (some ⟨blk, off, none⟩) n cap, w, by go_simp, rfl, Below.refl _ _⟩⟩
                · intro ev w hc hf hg hfix hdep hbel
                  have fg : ev (.tmp 18) = .bool true := hdep 5 (by decide)
                  have e6 : ev (.tmp 6) = .int .i64 (k : Int) := hfix 6 (by decide)
                  exact Or.inl ⟨fg, Or.inl ⟨.int .i64 (k : Int), w, by go_simp, rfl, Below.refl _ _⟩⟩
                · intro ev w hc hf hg hfix hdep hbel
                  have fg : ev (.tmp 18) = .bool true := hdep 5 (by decide)
                  have e19 : ev (.tmp 19) = .slice (some ⟨blk, off, none⟩) n cap := hdep 6 (by decide)
                  have e20 : ev (.tmp 20) = .int .i64 (k : Int) := hdep 7 (by decide)
                  exact Or.inl ⟨fg, Or.inl ⟨.pointer (some ⟨blk, off + k * 3, none⟩), w, by go_simp, rfl, Below.refl _ _⟩⟩
                · intro ev w hc hf hg hfix hdep hbel
                  have fg : ev (.tmp 18) = .bool true := hdep 5 (by decide)
                  have e21 : ev (.tmp 21) = .pointer (some ⟨blk, off + k * 3, none⟩) := hdep 8 (by decide)
                  exact Or.inl ⟨fg, Or.inl ⟨.pointer (some ⟨blk, off + k * 3, none⟩), w, by go_simp, rfl, Below.refl _ _⟩⟩
                · intro ev w hc hf hg hfix hdep hbel
                  have fg : ev (.tmp 18) = .bool true := hdep 5 (by decide)
                  have e22 : ev (.tmp 22) = .pointer (some ⟨blk, off + k * 3, none⟩) := hdep 9 (by decide)
                  obtain ⟨hc0, hc1, hc2, hc3, hc4⟩ := HC.out w hbel
                  exact Or.inl ⟨fg, Or.inl ⟨acV (r, i), w, by go_simp, rfl, Below.refl _ _⟩⟩
                · intro ev w hc hf hg hfix hdep hbel
                  have fg : ev (.tmp 18) = .bool true := hdep 5 (by decide)
                  have e3 : ev (.tmp 3) = .pointer (some ⟨bx, 0, none⟩) := hfix 3 (by decide)
                  obtain ⟨hc0, hc1, hc2, hc3, hc4⟩ := HC.out w hbel
                  exact Or.inl ⟨fg, Or.inl ⟨acV (r, i), w, by go_simp, rfl, Below.refl _ _⟩⟩
                · intro ev w hc hf hg hfix hdep hbel
                  have fg : ev (.tmp 18) = .bool true := hdep 5 (by decide)
                  have e23 : ev (.tmp 23) = acV (r, i) := hdep 10 (by decide)
                  have e24 : ev (.tmp 24) = acV (r, i) := hdep 11 (by decide)
                  exact Or.inl ⟨fg, Or.inl ⟨.bool true, w, by go_simp, rfl, Below.refl _ _⟩⟩
                · intro ev w hc hf hg hfix hdep hbel
                  have e18 : ev (.tmp 18) = .bool true := hdep 5 (by decide)
                  have e25 : ev (.tmp 25) = .bool true := hdep 12 (by decide)
                  exact Or.inl ⟨trivial, Or.inl ⟨.bool true, w, by go_simp, rfl, Below.refl _ _⟩⟩
                · intro ev w hc hf hg hfix hdep hbel
                  have e26 : ev (.tmp 26) = .bool true := hdep 13 (by decide)
                  exact Or.inl ⟨trivial, Or.inl ⟨.bool true, w, by go_simp, rfl, Below.refl _ _⟩⟩
                · intro ev w hc hf hg hfix hdep hbel
                  have fg : ev (.tmp 27) = .bool true := hdep 14 (by decide)
                  have e0 : ev (.tmp 0) = .slice (some ⟨blk, off, none⟩) n cap := hfix 0 (by decide)
                  exact Or.inl ⟨fg, Or.inl ⟨.slice (some ⟨blk, off, none⟩) n cap, w, by go_simp, rfl, Below.refl _ _⟩⟩
                · intro ev w hc hf hg hfix hdep hbel
                  have fg : ev (.tmp 27) = .bool true := hdep 14 (by decide)
                  have e6 : ev (.tmp 6) = .int .i64 (k : Int) := hfix 6 (by decide)
                  exact Or.inl ⟨fg, Or.inl ⟨.int .i64 (k : Int), w, by go_simp, rfl, Below.refl _ _⟩⟩
                · intro ev w hc hf hg hfix hdep hbel
                  have fg : ev (.tmp 27) = .bool true := hdep 14 (by decide)
                  have e28 : ev (.tmp 28) = .slice (some ⟨blk, off, none⟩) n cap := hdep 15 (by decide)
                  have e29 : ev (.tmp 29) = .int .i64 (k : Int) := hdep 16 (by decide)
                  exact Or.inl ⟨fg, Or.inl ⟨.pointer (some ⟨blk, off + k * 3, none⟩), w, by go_simp, rfl, Below.refl _ _⟩⟩
                · intro ev w hc hf hg hfix hdep hbel
                  have fg : ev (.tmp 27) = .bool true := hdep 14 (by decide)
                  have e30 : ev (.tmp 30) = .pointer (some ⟨blk, off + k * 3, none⟩) := hdep 17 (by decide)
                  exact Or.inl ⟨fg, Or.inl ⟨.pointer (some ⟨blk, off + k * 3 + 2, none⟩), w, by go_simp, rfl, Below.refl _ _⟩⟩
                · intro ev w hc hf hg hfix hdep hbel
                  have fg : ev (.tmp 27) = .bool true := hdep 14 (by decide)
                  have e31 : ev (.tmp 31) = .pointer (some ⟨blk, off + k * 3 + 2, none⟩) := hdep 18 (by decide)
                  obtain ⟨hc0, hc1, hc2, hc3, hc4⟩ := HC.out w hbel
                  exact Or.inl ⟨fg, Or.inl ⟨.int .u64 (s : Int), w, by go_simp, rfl, Below.refl _ _⟩⟩
                · intro ev w hc hf hg hfix hdep hbel
                  have fg : ev (.tmp 27) = .bool true := hdep 14 (by decide)
                  have e5 : ev (.tmp 5) = .int .u64 (g : Int) := hfix 5 (by decide)
                  exact Or.inl ⟨fg, Or.inl ⟨.int .u64 (g : Int), w, by go_simp, rfl, Below.refl _ _⟩⟩
                · intro ev w hc hf hg hfix hdep hbel
                  have fg : ev (.tmp 27) = .bool true := hdep 14 (by decide)
                  have e32 : ev (.tmp 32) = .int .u64 (s : Int) := hdep 19 (by decide)
                  have e33 : ev (.tmp 33) = .int .u64 (g : Int) := hdep 20 (by decide)
                  exact Or.inl ⟨fg, Or.inl ⟨.bool true, w, by go_simp, rfl, Below.refl _ _⟩⟩
                · intro ev w hc hf hg hfix hdep hbel
                  have e27 : ev (.tmp 27) = .bool true := hdep 14 (by decide)
                  have e34 : ev (.tmp 34) = .bool true := hdep 21 (by decide)
                  exact Or.inl ⟨trivial, Or.inl ⟨.bool true, w, by go_simp, rfl, Below.refl _ _⟩⟩
              · intro v w2 hv hb2
                have r0 : v 0 = .slice (some ⟨blk, off, none⟩) n cap := hv 0 (by decide)
                have r1 : v 1 = .int .i64 (k : Int) := hv 1 (by decide)
                have r2 : v 2 = .pointer (some ⟨blk, off + k * 3, none⟩) := hv 2 (by decide)
                have r3 : v 3 = dotV ((r, i), s) := hv 3 (by decide)
                have r4 : v 4 = .bool true := hv 4 (by decide)
                have r5 : v 5 = .bool true := hv 5 (by decide)
                have r6 : v 6 = .slice (some ⟨blk, off, none⟩) n cap := hv 6 (by decide)
                have r7 : v 7 = .int .i64 (k : Int) := hv 7 (by decide)
                have r8 : v 8 = .pointer (some ⟨blk, off + k * 3, none⟩) := hv 8 (by decide)
                have r9 : v 9 = .pointer (some ⟨blk, off + k * 3, none⟩) := hv 9 (by decide)
                have r10 : v 10 = acV (r, i) := hv 10 (by decide)
                have r11 : v 11 = acV (r, i) := hv 11 (by decide)
                have r12 : v 12 = .bool true := hv 12 (by decide)
                have r13 : v 13 = .bool true := hv 13 (by decide)
                have r14 : v 14 = .bool true := hv 14 (by decide)
                have r15 : v 15 = .slice (some ⟨blk, off, none⟩) n cap := hv 15 (by decide)
                have r16 : v 16 = .int .i64 (k : Int) := hv 16 (by decide)
                have r17 : v 17 = .pointer (some ⟨blk, off + k * 3, none⟩) := hv 17 (by decide)
                have r18 : v 18 = .pointer (some ⟨blk, off + k * 3 + 2, none⟩) := hv 18 (by decide)
                have r19 : v 19 = .int .u64 (s : Int) := hv 19 (by decide)
                have r20 : v 20 = .int .u64 (g : Int) := hv 20 (by decide)
                have r21 : v 21 = .bool true := hv 21 (by decide)
                have r22 : v 22 = .bool true := hv 22 (by decide)
                simp only [Reg.putAll, Act.put, List.setIfInBounds_toArray, List.set_cons_zero, List.set_cons_succ, r0, r1, r2, r3, r4, r5, r6, r7, r8, r9, r10, r11, r12, r13, r14, r15, r16, r17, r18, r19, r20, r21, r22]
                clear r0 r1 r2 r3 r4 r5 r6 r7 r8 r9 r10 r11 r12 r13 r14 r15 r16 r17 r18 r19 r20 r21 r22 hv
                have hbw : Below w.heap.size w w2 := HBel.out.trans (hb2.mono HBel.out.size)
                obtain ⟨hc0, hc1, hc2, hc3, hc4⟩ := HC.out w2 ⟨hb2.os, hb2.tape, hb2.output, hb2.size, hb2.block⟩
                have HBw := Lib.hid hbw; have H3 := Lib.hid hc3; have H4 := Lib.hid hc4
                clear hbw hb2 hc3 hc4
                go_wp2_with fail
                clear hc0 hc1 hc2
                go_roundw
                case rel => exact ⟨k + 1, by omega, by go_num, by rw [Hs.out, HG.out], HBw.out, H3.out, H4.out⟩
                case measure => simp [intOf]; omega
            · have i2 : (s : Int) ≤ (g : Int) := by omega
              have HG := Lib.hid (show Dt.getStep (r, i) g ((r, i), s) = g from by simp [Dt.getStep, hm]; omega)
              clear hm
              go_wp2_with fail
              refine Reg.region_list (by kernel_rfl) [fun v _ => v = .slice (some ⟨blk, off, none⟩) n cap, fun v _ => v = .int .i64 (k : Int), fun v _ => v = .pointer (some ⟨blk, off + k * 3, none⟩), fun v _ => v = dotV ((r, i), s), fun v _ => v = .bool true, fun v _ => v = .bool true, fun v _ => v = .slice (some ⟨blk, off, none⟩) n cap, fun v _ => v = .int .i64 (k : Int), fun v _ => v = .pointer (some ⟨blk, off + k * 3, none⟩), fun v _ => v = .pointer (some ⟨blk, off + k * 3, none⟩), fun v _ => v = acV (r, i), fun v _ => v = acV (r, i), fun v _ => v = .bool true, fun v _ => v = .bool true, fun v _ => v = .bool true, fun v _ => v = .slice (some ⟨blk, off, none⟩) n cap, fun v _ => v = .int .i64 (k : Int), fun v _ => v = .pointer (some ⟨blk, off + k * 3, none⟩), fun v _ => v = .pointer (some ⟨blk, off + k * 3 + 2, none⟩), fun v _ => v = .int .u64 (s : Int), fun v _ => v = .int .u64 (g : Int), fun v _ => v = .bool false, fun v _ => v = .bool false] (by kernel_rfl) ?_ ?_ ?_
              · refine ⟨(fun _ _ _ _ h => h), (fun _ _ _ _ h => h), (fun _ _ _ _ h => h), (fun _ _ _ _ h => h), (fun _ _ _ _ h => h), (fun _ _ _ _ h => h), (fun _ _ _ _ h => h), (fun _ _ _ _ h => h), (fun _ _ _ _ h => h), (fun _ _ _ _ h => h), (fun _ _ _ _ h => h), (fun _ _ _ _ h => h), (fun _ _ _ _ h => h), (fun _ _ _ _ h => h), (fun _ _ _ _ h => h), (fun _ _ _ _ h => h), (fun _ _ _ _ h => h), (fun _ _ _ _ h => h), (fun _ _ _ _ h => h), (fun _ _ _ _ h => h), (fun _ _ _ _ h => h), (fun _ _ _ _ h => h), (fun _ _ _ _ h => h), trivial⟩
              · refine ⟨?_, ?_, ?_, ?_, ?_, ?_, ?_, ?_, ?_, ?_, ?_, ?_, ?_, ?_, ?_, ?_, ?_, ?_, ?_, ?_, ?_, ?_, ?_, trivial⟩
                · intro ev w hc hf hg hfix hdep hbel
                  have e0 : ev (.tmp 0) = .slice (some ⟨blk, off, none⟩) n cap := hfix 0 (by decide)
                  exact Or.inl ⟨trivial, Or.inl ⟨.slice (some ⟨blk, off, none⟩) n cap, w, by go_simp, rfl, Below.refl _ _⟩⟩
                · intro ev w hc hf hg hfix hdep hbel
                  have e6 : ev (.tmp 6) = .int .i64 (k : Int) := hfix 6 (by decide)
                  exact Or.inl ⟨trivial, Or.inl ⟨.int .i64 (k : Int), w, by go_simp, rfl, Below.refl _ _⟩⟩
                · intro ev w hc hf hg hfix hdep hbel
                  have e13 : ev (.tmp 13) = .slice (some ⟨blk, off, none⟩) n cap := hdep 0 (by decide)
                  have e14 : ev (.tmp 14) = .int .i64 (k : Int) := hdep 1 (by decide)
                  exact Or.inl ⟨trivial, Or.inl ⟨.pointer (some ⟨blk, off + k * 3, none⟩), w, by go_simp, rfl, Below.refl _ _⟩⟩
                · intro ev w hc hf hg hfix hdep hbel
                  have e15 : ev (.tmp 15) = .pointer (some ⟨blk, off + k * 3, none⟩) := hdep 2 (by decide)
                  obtain ⟨hc0, hc1, hc2, hc3, hc4⟩ := HC.out w hbel
                  exact Or.inl ⟨trivial, Or.inl ⟨dotV ((r, i), s), w, by go_simp, rfl, Below.refl _ _⟩⟩
                · intro ev w hc hf hg hfix hdep hbel
                  have e16 : ev (.tmp 16) = dotV ((r, i), s) := hdep 3 (by decide)
                  refine Or.inl ⟨trivial, Or.inr ⟨9, #[dotV ((r, i), s)], w, by go_simp, ?_⟩⟩
                  refine (refmay_any r i s w).mono ?_
                  rintro e w1 ⟨rfl, hb1⟩
                  exact ⟨_, rfl, by rw [HM.out], hb1⟩
                · intro ev w hc hf hg hfix hdep hbel
                  have e17 : ev (.tmp 17) = .bool true := hdep 4 (by decide)
                  exact Or.inl ⟨trivial, Or.inl ⟨.bool true, w, by go_simp, rfl, Below.refl _ _⟩⟩
                · intro ev w hc hf hg hfix hdep hbel
                  have fg : ev (.tmp 18) = .bool true := hdep 5 (by decide)
                  have e0 : ev (.tmp 0) = .slice (some ⟨blk, off, none⟩) n cap := hfix 0 (by decide)
                  exact Or.inl ⟨fg, Or.inl ⟨.slice (some ⟨blk, off, none⟩) n cap, w, by go_simp, rfl, Below.refl _ _⟩⟩
                · intro ev w hc hf hg hfix hdep hbel
                  have fg : ev (.tmp 18) = .bool true := hdep 5 (by decide)
                  have e6 : ev (.tmp 6) = .int .i64 (k : Int) := hfix 6 (by decide)
                  exact Or.inl ⟨fg, Or.inl ⟨.int .i64 (k : Int), w, by go_simp, rfl, Below.refl _ _⟩⟩
                · intro ev w hc hf hg hfix hdep hbel
                  have fg : ev (.tmp 18) = .bool true := hdep 5 (by decide)
                  have e19 : ev (.tmp 19) = .slice (some ⟨blk, off, none⟩) n cap := hdep 6 (by decide)
                  have e20 : ev (.tmp 20) = .int .i64 (k : Int) := hdep 7 (by decide)
                  exact Or.inl ⟨fg, Or.inl ⟨.pointer (some ⟨blk, off + k * 3, none⟩), w, by go_simp, rfl, Below.refl _ _⟩⟩
                · intro ev w hc hf hg hfix hdep hbel
                  have fg : ev (.tmp 18) = .bool true := hdep 5 (by decide)
                  have e21 : ev (.tmp 21) = .pointer (some ⟨blk, off + k * 3, none⟩) := hdep 8 (by decide)
                  exact Or.inl ⟨fg, Or.inl ⟨.pointer (some ⟨blk, off + k * 3, none⟩), w, by go_simp, rfl, Below.refl _ _⟩⟩
                · intro ev w hc hf hg hfix hdep hbel
                  have fg : ev (.tmp 18) = .bool true := hdep 5 (by decide)
                  have e22 : ev (.tmp 22) = .pointer (some ⟨blk, off + k * 3, none⟩) := hdep 9 (by decide)
                  obtain ⟨hc0, hc1, hc2, hc3, hc4⟩ := HC.out w hbel
                  exact Or.inl ⟨fg, Or.inl ⟨acV (r, i), w, by go_simp, rfl, Below.refl _ _⟩⟩
                · intro ev w hc hf hg hfix hdep hbel
                  have fg : ev (.tmp 18) = .bool true := hdep 5 (by decide)
                  have e3 : ev (.tmp 3) = .pointer (some ⟨bx, 0, none⟩) := hfix 3 (by decide)
                  obtain ⟨hc0, hc1, hc2, hc3, hc4⟩ := HC.out w hbel
                  exact Or.inl ⟨fg, Or.inl ⟨acV (r, i), w, by go_simp, rfl, Below.refl _ _⟩⟩
                · intro ev w hc hf hg hfix hdep hbel
                  have fg : ev (.tmp 18) = .bool true := hdep 5 (by decide)
                  have e23 : ev (.tmp 23) = acV (r, i) := hdep 10 (by decide)
                  have e24 : ev (.tmp 24) = acV (r, i) := hdep 11 (by decide)
                  exact Or.inl ⟨fg, Or.inl ⟨.bool true, w, by go_simp, rfl, Below.refl _ _⟩⟩
                · intro ev w hc hf hg hfix hdep hbel
                  have e18 : ev (.tmp 18) = .bool true := hdep 5 (by decide)
                  have e25 : ev (.tmp 25) = .bool true := hdep 12 (by decide)
                  exact Or.inl ⟨trivial, Or.inl ⟨.bool true, w, by go_simp, rfl, Below.refl _ _⟩⟩
                · intro ev w hc hf hg hfix hdep hbel
                  have e26 : ev (.tmp 26) = .bool true := hdep 13 (by decide)
                  exact Or.inl ⟨trivial, Or.inl ⟨.bool true, w, by go_simp, rfl, Below.refl _ _⟩⟩
                · intro ev w hc hf hg hfix hdep hbel
                  have fg : ev (.tmp 27) = .bool true := hdep 14 (by decide)
                  have e0 : ev (.tmp 0) = .slice (some ⟨blk, off, none⟩) n cap := hfix 0 (by decide)
                  exact Or.inl ⟨fg, Or.inl ⟨.slice (some ⟨blk, off, none⟩) n cap, w, by go_simp, rfl, Below.refl _ _⟩⟩
                · intro ev w hc hf hg hfix hdep hbel
                  have fg : ev (.tmp 27) = .bool true := hdep 14 (by decide)
                  have e6 : ev (.tmp 6) = .int .i64 (k : Int) := hfix 6 (by decide)
                  exact Or.inl ⟨fg, Or.inl ⟨.int .i64 (k : Int), w, by go_simp, rfl, Below.refl _ _⟩⟩
                · intro ev w hc hf hg hfix hdep hbel
                  have fg : ev (.tmp 27) = .bool true := hdep 14 (by decide)
                  have e28 : ev (.tmp 28) = .slice (some ⟨blk, off, none⟩) n cap := hdep 15 (by decide)
                  have e29 : ev (.tmp 29) = .int .i64 (k : Int) := hdep 16 (by decide)
                  exact Or.inl ⟨fg, Or.inl ⟨.pointer (some ⟨blk, off + k * 3, none⟩), w, by go_simp, rfl, Below.refl _ _⟩⟩
                · intro ev w hc hf hg hfix hdep hbel
                  have fg : ev (.tmp 27) = .bool true := hdep 14 (by decide)
                  have e30 : ev (.tmp 30) = .pointer (some ⟨blk, off + k * 3, none⟩) := hdep 17 (by decide)
                  exact Or.inl ⟨fg, Or.inl ⟨.pointer (some ⟨blk, off + k * 3 + 2, none⟩), w, by go_simp, rfl, Below.refl _ _⟩⟩
                · intro ev w hc hf hg hfix hdep hbel
                  have fg : ev (.tmp 27) = .bool true := hdep 14 (by decide)
                  have e31 : ev (.tmp 31) = .pointer (some ⟨blk, off + k * 3 + 2, none⟩) := hdep 18 (by decide)
                  obtain ⟨hc0, hc1, hc2, hc3, hc4⟩ := HC.out w hbel
                  exact Or.inl ⟨fg, Or.inl ⟨.int .u64 (s : Int), w, by go_simp, rfl, Below.refl _ _⟩⟩
                · intro ev w hc hf hg hfix hdep hbel
                  have fg : ev (.tmp 27) = .bool true := hdep 14 (by decide)
                  have e5 : ev (.tmp 5) = .int .u64 (g : Int) := hfix 5 (by decide)
                  exact Or.inl ⟨fg, Or.inl ⟨.int .u64 (g : Int), w, by go_simp, rfl, Below.refl _ _⟩⟩
                · intro ev w hc hf hg hfix hdep hbel
                  have fg : ev (.tmp 27) = .bool true := hdep 14 (by decide)
                  have e32 : ev (.tmp 32) = .int .u64 (s : Int) := hdep 19 (by decide)
                  have e33 : ev (.tmp 33) = .int .u64 (g : Int) := hdep 20 (by decide)
                  exact Or.inl ⟨fg, Or.inl ⟨.bool false, w, by go_simp, rfl, Below.refl _ _⟩⟩
                · intro ev w hc hf hg hfix hdep hbel
                  have e27 : ev (.tmp 27) = .bool true := hdep 14 (by decide)
                  have e34 : ev (.tmp 34) = .bool false := hdep 21 (by decide)
                  exact Or.inl ⟨trivial, Or.inl ⟨.bool false, w, by go_simp, rfl, Below.refl _ _⟩⟩
              · intro v w2 hv hb2
                have r0 : v 0 = .slice (some ⟨blk, off, none⟩) n cap := hv 0 (by decide)
                have r1 : v 1 = .int .i64 (k : Int) := hv 1 (by decide)
                have r2 : v 2 = .pointer (some ⟨blk, off + k * 3, none⟩) := hv 2 (by decide)
                have r3 : v 3 = dotV ((r, i), s) := hv 3 (by decide)
                have r4 : v 4 = .bool true := hv 4 (by decide)
                have r5 : v 5 = .bool true := hv 5 (by decide)
                have r6 : v 6 = .slice (some ⟨blk, off, none⟩) n cap := hv 6 (by decide)
                have r7 : v 7 = .int .i64 (k : Int) := hv 7 (by decide)
                have r8 : v 8 = .pointer (some ⟨blk, off + k * 3, none⟩) := hv 8 (by decide)
                have r9 : v 9 = .pointer (some ⟨blk, off + k * 3, none⟩) := hv 9 (by decide)
                have r10 : v 10 = acV (r, i) := hv 10 (by decide)
                have r11 : v 11 = acV (r, i) := hv 11 (by decide)
                have r12 : v 12 = .bool true := hv 12 (by decide)
                have r13 : v 13 = .bool true := hv 13 (by decide)
                have r14 : v 14 = .bool true := hv 14 (by decide)
                have r15 : v 15 = .slice (some ⟨blk, off, none⟩) n cap := hv 15 (by decide)
                have r16 : v 16 = .int .i64 (k : Int) := hv 16 (by decide)
                have r17 : v 17 = .pointer (some ⟨blk, off + k * 3, none⟩) := hv 17 (by decide)
                have r18 : v 18 = .pointer (some ⟨blk, off + k * 3 + 2, none⟩) := hv 18 (by decide)
                have r19 : v 19 = .int .u64 (s : Int) := hv 19 (by decide)
                have r20 : v 20 = .int .u64 (g : Int) := hv 20 (by decide)
                have r21 : v 21 = .bool false := hv 21 (by decide)
                have r22 : v 22 = .bool false := hv 22 (by decide)
                simp only [Reg.putAll, Act.put, List.setIfInBounds_toArray, List.set_cons_zero, List.set_cons_succ, r0, r1, r2, r3, r4, r5, r6, r7, r8, r9, r10, r11, r12, r13, r14, r15, r16, r17, r18, r19, r20, r21, r22]
                clear r0 r1 r2 r3 r4 r5 r6 r7 r8 r9 r10 r11 r12 r13 r14 r15 r16 r17 r18 r19 r20 r21 r22 hv
                have hbw : Below w.heap.size w w2 := HBel.out.trans (hb2.mono HBel.out.size)
                obtain ⟨hc0, hc1, hc2, hc3, hc4⟩ := HC.out w2 ⟨hb2.os, hb2.tape, hb2.output, hb2.size, hb2.block⟩
                have HBw := Lib.hid hbw; have H3 := Lib.hid hc3; have H4 := Lib.hid hc4
                clear hbw hb2 hc3 hc4
                go_wp2_with fail
                clear hc0 hc1 hc2
                go_roundw
                case rel => exact ⟨k + 1, by omega, by go_num, by rw [Hs.out, HG.out], HBw.out, H3.out, H4.out⟩
                case measure => simp [intOf]; omega
          · have d1 : ((i : Int) == (i' : Int)) = false := by simp; omega
            have HG := Lib.hid (show Dt.getStep (r, i') g ((r, i), s) = g from by simp [Dt.getStep, e2])
            clear e2
            clear hm
            go_wp2_with fail
            refine Reg.region_list (by kernel_rfl) [fun v _ => v = .slice (some ⟨blk, off, none⟩) n cap, fun v _ => v = .int .i64 (k : Int), fun v _ => v = .pointer (some ⟨blk, off + k * 3, none⟩), fun v _ => v = dotV ((r, i), s), fun v _ => v = .bool true, fun v _ => v = .bool true, fun v _ => v = .slice (some ⟨blk, off, none⟩) n cap, fun v _ => v = .int .i64 (k : Int), fun v _ => v = .pointer (some ⟨blk, off + k * 3, none⟩), fun v _ => v = .pointer (some ⟨blk, off + k * 3, none⟩), fun v _ => v = acV (r, i), fun v _ => v = acV (r, i'), fun v _ => v = .bool false, fun v _ => v = .bool false, fun v _ => v = .bool false, fun v _ => v = undef, fun v _ => v = undef, fun v _ => v = undef, fun v _ => v = undef, fun v _ => v = undef, fun v _ => v = undef, fun v _ => v = undef, fun v _ => v = .bool false] (by kernel_rfl) ?_ ?_ ?_
            · refine ⟨(fun _ _ _ _ h => h), (fun _ _ _ _ h => h), (fun _ _ _ _ h => h), (fun _ _ _ _ h => h), (fun _ _ _ _ h => h), (fun _ _ _ _ h => h), (fun _ _ _ _ h => h), (fun _ _ _ _ h => h), (fun _ _ _ _ h => h), (fun _ _ _ _ h => h), (fun _ _ _ _ h => h), (fun _ _ _ _ h => h), (fun _ _ _ _ h => h), (fun _ _ _ _ h => h), (fun _ _ _ _ h => h), (fun _ _ _ _ h => h), (fun _ _ _ _ h => h), (fun _ _ _ _ h => h), (fun _ _ _ _ h => h), (fun _ _ _ _ h => h), (fun _ _ _ _ h => h), (fun _ _ _ _ h => h), (fun _ _ _ _ h => h), trivial⟩
            · refine ⟨?_, ?_, ?_, ?_, ?_, ?_, ?_, ?_, ?_, ?_, ?_, ?_, ?_, ?_, ?_, ?_, ?_, ?_, ?_, ?_, ?_, ?_, ?_, trivial⟩
              · intro ev w hc hf hg hfix hdep hbel
                have e0 : ev (.tmp 0) = .slice (some ⟨blk, off, none⟩) n cap := hfix 0 (by decide)
                exact Or.inl ⟨trivial, Or.inl ⟨.slice (some ⟨blk, off, none⟩) n cap, w, by go_simp, rfl, Below.refl _ _⟩⟩
              · intro ev w hc hf hg hfix hdep hbel
                have e6 : ev (.tmp 6) = .int .i64 (k : Int) := hfix 6 (by decide)
                exact Or.inl ⟨trivial, Or.inl ⟨.int .i64 (k : Int), w, by go_simp, rfl, Below.refl _ _⟩⟩
              · intro ev w hc hf hg hfix hdep hbel
                have e13 : ev (.tmp 13) = .slice (some ⟨blk, off, none⟩) n cap := hdep 0 (by decide)
                have e14 : ev (.tmp 14) = .int .i64 (k : Int) := hdep 1 (by decide)
                exact Or.inl ⟨trivial, Or.inl ⟨.pointer (some ⟨blk, off + k * 3, none⟩), w, by go_simp, rfl, Below.refl _ _⟩⟩
              · intro ev w hc hf hg hfix hdep hbel
                have e15 : ev (.tmp 15) = .pointer (some ⟨blk, off + k * 3, none⟩) := hdep 2 (by decide)
                obtain ⟨hc0, hc1, hc2, hc3, hc4⟩ := HC.out w hbel
                exact Or.inl ⟨trivial, Or.inl ⟨dotV ((r, i), s), w, by go_simp, rfl, Below.refl _ _⟩⟩
              · intro ev w hc hf hg hfix hdep hbel
                have e16 : ev (.tmp 16) = dotV ((r, i), s) := hdep 3 (by decide)
                refine Or.inl ⟨trivial, Or.inr ⟨9, #[dotV ((r, i), s)], w, by go_simp, ?_⟩⟩
                refine (refmay_any r i s w).mono ?_
                rintro e w1 ⟨rfl, hb1⟩
                exact ⟨_, rfl, by rw [HM.out], hb1⟩
              · intro ev w hc hf hg hfix hdep hbel
                have e17 : ev (.tmp 17) = .bool true := hdep 4 (by decide)
                exact Or.inl ⟨trivial, Or.inl ⟨.bool true, w, by go_simp, rfl, Below.refl _ _⟩⟩
              · intro ev w hc hf hg hfix hdep hbel
                have fg : ev (.tmp 18) = .bool true := hdep 5 (by decide)
                have e0 : ev (.tmp 0) = .slice (some ⟨blk, off, none⟩) n cap := hfix 0 (by decide)
                exact Or.inl ⟨fg, Or.inl ⟨.slice (some ⟨blk, off, none⟩) n cap, w, by go_simp, rfl, Below.refl _ _⟩⟩
              · intro ev w hc hf hg hfix hdep hbel
                have fg : ev (.tmp 18) = .bool true := hdep 5 (by decide)
                have e6 : ev (.tmp 6) = .int .i64 (k : Int) := hfix 6 (by decide)
                exact Or.inl ⟨fg, Or.inl ⟨.int .i64 (k : Int), w, by go_simp, rfl, Below.refl _ _⟩⟩
              · intro ev w hc hf hg hfix hdep hbel
                have fg : ev (.tmp 18) = .bool true := hdep 5 (by decide)
                have e19 : ev (.tmp 19) = .slice (some ⟨blk, off, none⟩) n cap := hdep 6 (by decide)
                have e20 : ev (.tmp 20) = .int .i64 (k : Int) := hdep 7 (by decide)
                exact Or.inl ⟨fg, Or.inl ⟨.pointer (some ⟨blk, off + k * 3, none⟩), w, by go_simp, rfl, Below.refl _ _⟩⟩
              · intro ev w hc hf hg hfix hdep hbel
                have fg : ev (.tmp 18) = .bool true := hdep 5 (by decide)
                have e21 : ev (.tmp 21) = .pointer (some ⟨blk, off + k * 3, none⟩) := hdep 8 (by decide)
                exact Or.inl ⟨fg, Or.inl ⟨.pointer (some ⟨blk, off + k * 3, none⟩), w, by go_simp, rfl, Below.refl _ _⟩⟩
              · intro ev w hc hf hg hfix hdep hbel
                have fg : ev (.tmp 18) = .bool true := hdep 5 (by decide)
                have e22 : ev (.tmp 22) = .pointer (some ⟨blk, off + k * 3, none⟩) := hdep 9 (by decide)
                obtain ⟨hc0, hc1, hc2, hc3, hc4⟩ := HC.out w hbel
                exact Or.inl ⟨fg, Or.inl ⟨acV (r, i), w, by go_simp, rfl, Below.refl _ _⟩⟩
              · intro ev w hc hf hg hfix hdep hbel
                have fg : ev (.tmp 18) = .bool true := hdep 5 (by decide)
                have e3 : ev (.tmp 3) = .pointer (some ⟨bx, 0, none⟩) := hfix 3 (by decide)
                obtain ⟨hc0, hc1, hc2, hc3, hc4⟩ := HC.out w hbel
                exact Or.inl ⟨fg, Or.inl ⟨acV (r, i'), w, by go_simp, rfl, Below.refl _ _⟩⟩
              · intro ev w hc hf hg hfix hdep hbel
                have fg : ev (.tmp 18) = .bool true := hdep 5 (by decide)
                have e23 : ev (.tmp 23) = acV (r, i) := hdep 10 (by decide)
                have e24 : ev (.tmp 24) = acV (r, i') := hdep 11 (by decide)
                exact Or.inl ⟨fg, Or.inl ⟨.bool false, w, by go_simp, rfl, Below.refl _ _⟩⟩
              · intro ev w hc hf hg hfix hdep hbel
                have e18 : ev (.tmp 18) = .bool true := hdep 5 (by decide)
                have e25 : ev (.tmp 25) = .bool false := hdep 12 (by decide)
                exact Or.inl ⟨trivial, Or.inl ⟨.bool false, w, by go_simp, rfl, Below.refl _ _⟩⟩
              · intro ev w hc hf hg hfix hdep hbel
                have e26 : ev (.tmp 26) = .bool false := hdep 13 (by decide)
                exact Or.inl ⟨trivial, Or.inl ⟨.bool false, w, by go_simp, rfl, Below.refl _ _⟩⟩
              · intro ev w hc hf hg hfix hdep hbel
                have fg : ev (.tmp 27) = .bool false := hdep 14 (by decide)
                have e0 : ev (.tmp 0) = .slice (some ⟨blk, off, none⟩) n cap := hfix 0 (by decide)
                exact Or.inr ⟨fg, rfl⟩
              · intro ev w hc hf hg hfix hdep hbel
                have fg : ev (.tmp 27) = .bool false := hdep 14 (by decide)
                have e6 : ev (.tmp 6) = .int .i64 (k : Int) := hfix 6 (by decide)
                exact Or.inr ⟨fg, rfl⟩
              · intro ev w hc hf hg hfix hdep hbel
                have fg : ev (.tmp 27) = .bool false := hdep 14 (by decide)
                have e28 : ev (.tmp 28) = undef := hdep 15 (by decide)
                have e29 : ev (.tmp 29) = undef := hdep 16 (by decide)
                exact Or.inr ⟨fg, rfl⟩
              · intro ev w hc hf hg hfix hdep hbel
                have fg : ev (.tmp 27) = .bool false := hdep 14 (by decide)
                have e30 : ev (.tmp 30) = undef := hdep 17 (by decide)
                exact Or.inr ⟨fg, rfl⟩
              · intro ev w hc hf hg hfix hdep hbel
                have fg : ev (.tmp 27) = .bool false := hdep 14 (by decide)
                have e31 : ev (.tmp 31) = undef := hdep 18 (by decide)
                exact Or.inr ⟨fg, rfl⟩
              · intro ev w hc hf hg hfix hdep hbel
                have fg : ev (.tmp 27) = .bool false := hdep 14 (by decide)
                have e5 : ev (.tmp 5) = .int .u64 (g : Int) := hfix 5 (by decide)
                exact Or.inr ⟨fg, rfl⟩
              · intro ev w hc hf hg hfix hdep hbel
                have fg : ev (.tmp 27) = .bool false := hdep 14 (by decide)
                have e32 : ev (.tmp 32) = undef := hdep 19 (by decide)
                have e33 : ev (.tmp 33) = undef := hdep 20 (by decide)
                exact Or.inr ⟨fg, rfl⟩
              · intro ev w hc hf hg hfix hdep hbel
                have e27 : ev (.tmp 27) = .bool false := hdep 14 (by decide)
                have e34 : ev (.tmp 34) = undef := hdep 21 (by decide)
                exact Or.inl ⟨trivial, Or.inl ⟨.bool false, w, by go_simp, rfl, Below.refl _ _⟩⟩
            · intro v w2 hv hb2
              have r0 : v 0 = .slice (some ⟨blk, off, none⟩) n cap := hv 0 (by decide)
              have r1 : v 1 = .int .i64 (k : Int) := hv 1 (by decide)
              have r2 : v 2 = .pointer (some ⟨blk, off + k * 3, none⟩) := hv 2 (by decide)
              have r3 : v 3 = dotV ((r, i), s) := hv 3 (by decide)
              have r4 : v 4 = .bool true := hv 4 (by decide)
              have r5 : v 5 = .bool true := hv 5 (by decide)
              have r6 : v 6 = .slice (some ⟨blk, off, none⟩) n cap := hv 6 (by decide)
              have r7 : v 7 = .int .i64 (k : Int) := hv 7 (by decide)
              have r8 : v 8 = .pointer (some ⟨blk, off + k * 3, none⟩) := hv 8 (by decide)
              have r9 : v 9 = .pointer (some ⟨blk, off + k * 3, none⟩) := hv 9 (by decide)
              have r10 : v 10 = acV (r, i) := hv 10 (by decide)
              have r11 : v 11 = acV (r, i') := hv 11 (by decide)
              have r12 : v 12 = .bool false := hv 12 (by decide)
              have r13 : v 13 = .bool false := hv 13 (by decide)
              have r14 : v 14 = .bool false := hv 14 (by decide)
              have r15 : v 15 = undef := hv 15 (by decide)
              have r16 : v 16 = undef := hv 16 (by decide)
              have r17 : v 17 = undef := hv 17 (by decide)
              have r18 : v 18 = undef := hv 18 (by decide)
              have r19 : v 19 = undef := hv 19 (by decide)
              have r20 : v 20 = undef := hv 20 (by decide)
              have r21 : v 21 = undef := hv 21 (by decide)
              have r22 : v 22 = .bool false := hv 22 (by decide)
              simp only [Reg.putAll, Act.put, List.setIfInBounds_toArray, List.set_cons_zero, List.set_cons_succ, r0, r1, r2, r3, r4, r5, r6, r7, r8, r9, r10, r11, r12, r13, r14, r15, r16, r17, r18, r19, r20, r21, r22]
              clear r0 r1 r2 r3 r4 r5 r6 r7 r8 r9 r10 r11 r12 r13 r14 r15 r16 r17 r18 r19 r20 r21 r22 hv
              have hbw : Below w.heap.size w w2 := HBel.out.trans (hb2.mono HBel.out.size)
              obtain ⟨hc0, hc1, hc2, hc3, hc4⟩ := HC.out w2 ⟨hb2.os, hb2.tape, hb2.output, hb2.size, hb2.block⟩
              have HBw := Lib.hid hbw; have H3 := Lib.hid hc3; have H4 := Lib.hid hc4
              clear hbw hb2 hc3 hc4
              go_wp2_with fail
              clear hc0 hc1 hc2
              go_roundw
              case rel => exact ⟨k + 1, by omega, by go_num, by rw [Hs.out, HG.out], HBw.out, H3.out, H4.out⟩
              case measure => simp [intOf]; omega
        · have d1 : ((r : Int) == (r' : Int)) = false := by simp; omega
          have HG := Lib.hid (show Dt.getStep (r', i') g ((r, i), s) = g from by simp [Dt.getStep, e1])
          clear e1
          clear hm
          go_wp2_with fail
          refine Reg.region_list (by kernel_rfl) [fun v _ => v = .slice (some ⟨blk, off, none⟩) n cap, fun v _ => v = .int .i64 (k : Int), fun v _ => v = .pointer (some ⟨blk, off + k * 3, none⟩), fun v _ => v = dotV ((r, i), s), fun v _ => v = .bool true, fun v _ => v = .bool true, fun v _ => v = .slice (some ⟨blk, off, none⟩) n cap, fun v _ => v = .int .i64 (k : Int), fun v _ => v = .pointer (some ⟨blk, off + k * 3, none⟩), fun v _ => v = .pointer (some ⟨blk, off + k * 3, none⟩), fun v _ => v = acV (r, i), fun v _ => v = acV (r', i'), fun v _ => v = .bool false, fun v _ => v = .bool false, fun v _ => v = .bool false, fun v _ => v = undef, fun v _ => v = undef, fun v _ => v = undef, fun v _ => v = undef, fun v _ => v = undef, fun v _ => v = undef, fun v _ => v = undef, fun v _ => v = .bool false] (by kernel_rfl) ?_ ?_ ?_
          · refine ⟨(fun _ _ _ _ h => h), (fun _ _ _ _ h => h), (fun _ _ _ _ h => h), (fun _ _ _ _ h => h), (fun _ _ _ _ h => h), (fun _ _ _ _ h => h), (fun _ _ _ _ h => h), (fun _ _ _ _ h => h), (fun _ _ _ _ h => h), (fun _ _ _ _ h => h), (fun _ _ _ _ h => h), (fun _ _ _ _ h => h), (fun _ _ _ _ h => h), (fun _ _ _ _ h => h), (fun _ _ _ _ h => h), (fun _ _ _ _ h => h), (fun _ _ _ _ h => h), (fun _ _ _ _ h => h), (fun _ _ _ _ h => h), (fun _ _ _ _ h => h), (fun _ _ _ _ h => h), (fun _ _ _ _ h => h), (fun _ _ _ _ h => h), trivial⟩
          · refine ⟨?_, ?_, ?_, ?_, ?_, ?_, ?_, ?_, ?_, ?_, ?_, ?_, ?_, ?_, ?_, ?_, ?_, ?_, ?_, ?_, ?_, ?_, ?_, trivial⟩
            · intro ev w hc hf hg hfix hdep hbel
              have e0 : ev (.tmp 0) = .slice (some ⟨blk, off, none⟩) n cap := hfix 0 (by decide)
              exact Or.inl ⟨trivial, Or.inl ⟨.slice (some ⟨blk, off, none⟩) n cap, w, by go_simp, rfl, Below.refl _ _⟩⟩
            · intro ev w hc hf hg hfix hdep hbel
              have e6 : ev (.tmp 6) = .int .i64 (k : Int) := hfix 6 (by decide)
              exact Or.inl ⟨trivial, Or.inl ⟨.int .i64 (k : Int), w, by go_simp, rfl, Below.refl _ _⟩⟩
            · intro ev w hc hf hg hfix hdep hbel
              have e13 : ev (.tmp 13) = .slice (some ⟨blk, off, none⟩) n cap := hdep 0 (by decide)
              have e14 : ev (.tmp 14) = .int .i64 (k : Int) := hdep 1 (by decide)
              exact Or.inl ⟨trivial, Or.inl ⟨.pointer (some ⟨blk, off + k * 3, none⟩), w, by go_simp, rfl, Below.refl _ _⟩⟩
            · intro ev w hc hf hg hfix hdep hbel
              have e15 : ev (.tmp 15) = .pointer (some ⟨blk, off + k * 3, none⟩) := hdep 2 (by decide)
              obtain ⟨hc0, hc1, hc2, hc3, hc4⟩ := HC.out w hbel
              exact Or.inl ⟨trivial, Or.inl ⟨dotV ((r, i), s), w, by go_simp, rfl, Below.refl _ _⟩⟩
            · intro ev w hc hf hg hfix hdep hbel
              have e16 : ev (.tmp 16) = dotV ((r, i), s) := hdep 3 (by decide)
              refine Or.inl ⟨trivial, Or.inr ⟨9, #[dotV ((r, i), s)], w, by go_simp, ?_⟩⟩
              refine (refmay_any r i s w).mono ?_
              rintro e w1 ⟨rfl, hb1⟩
              exact ⟨_, rfl, by rw [HM.out], hb1⟩
            · intro ev w hc hf hg hfix hdep hbel
              have e17 : ev (.tmp 17) = .bool true := hdep 4 (by decide)
              exact Or.inl ⟨trivial, Or.inl ⟨.bool true, w, by go_simp, rfl, Below.refl _ _⟩⟩
            · intro ev w hc hf hg hfix hdep hbel
              have fg : ev (.tmp 18) = .bool true := hdep 5 (by decide)
              have e0 : ev (.tmp 0) = .slice (some ⟨blk, off, none⟩) n cap := hfix 0 (by decide)
              exact Or.inl ⟨fg, Or.inl ⟨.slice (some ⟨blk, off, none⟩) n cap, w, by go_simp, rfl, Below.refl _ _⟩⟩
            · intro ev w hc hf hg hfix hdep hbel
              have fg : ev (.tmp 18) = .bool true := hdep 5 (by decide)
              have e6 : ev (.tmp 6) = .int .i64 (k : Int) := hfix 6 (by decide)
              exact Or.inl ⟨fg, Or.inl ⟨.int .i64 (k : Int), w, by go_simp, rfl, Below.refl _ _⟩⟩
            · intro ev w hc hf hg hfix hdep hbel
              have fg : ev (.tmp 18) = .bool true := hdep 5 (by decide)
              have e19 : ev (.tmp 19) = .slice (some ⟨blk, off, none⟩) n cap := hdep 6 (by decide)
              have e20 : ev (.tmp 20) = .int .i64 (k : Int) := hdep 7 (by decide)
              exact Or.inl ⟨fg, Or.inl ⟨.pointer (some ⟨blk, off + k * 3, none⟩), w, by go_simp, rfl, Below.refl _ _⟩⟩
            · intro ev w hc hf hg hfix hdep hbel
              have fg : ev (.tmp 18) = .bool true := hdep 5 (by decide)
              have e21 : ev (.tmp 21) = .pointer (some ⟨blk, off + k * 3, none⟩) := hdep 8 (by decide)
              exact Or.inl ⟨fg, Or.inl ⟨.pointer (some ⟨blk, off + k * 3, none⟩), w, by go_simp, rfl, Below.refl _ _⟩⟩
            · intro ev w hc hf hg hfix hdep hbel
              have fg : ev (.tmp 18) = .bool true := hdep 5 (by decide)
              have e22 : ev (.tmp 22) = .pointer (some ⟨blk, off + k * 3, none⟩) := hdep 9 (by decide)
              obtain ⟨hc0, hc1, hc2, hc3, hc4⟩ := HC.out w hbel
              exact Or.inl ⟨fg, Or.inl ⟨acV (r, i), w, by go_simp, rfl, Below.refl _ _⟩⟩
            · intro ev w hc hf hg hfix hdep hbel
              have fg : ev (.tmp 18) = .bool true := hdep 5 (by decide)
              have e3 : ev (.tmp 3) = .pointer (some ⟨bx, 0, none⟩) := hfix 3 (by decide)
              obtain ⟨hc0, hc1, hc2, hc3, hc4⟩ := HC.out w hbel
              exact Or.inl ⟨fg, Or.inl ⟨acV (r', i'), w, by go_simp, rfl, Below.refl _ _⟩⟩
            · intro ev w hc hf hg hfix hdep hbel
              have fg : ev (.tmp 18) = .bool true := hdep 5 (by decide)
              have e23 : ev (.tmp 23) = acV (r, i) := hdep 10 (by decide)
              have e24 : ev (.tmp 24) = acV (r', i') := hdep 11 (by decide)
              exact Or.inl ⟨fg, Or.inl ⟨.bool false, w, by go_simp, rfl, Below.refl _ _⟩⟩
            · intro ev w hc hf hg hfix hdep hbel
              have e18 : ev (.tmp 18) = .bool true := hdep 5 (by decide)
              have e25 : ev (.tmp 25) = .bool false := hdep 12 (by decide)
              exact Or.inl ⟨trivial, Or.inl ⟨.bool false, w, by go_simp, rfl, Below.refl _ _⟩⟩
            · intro ev w hc hf hg hfix hdep hbel
              have e26 : ev (.tmp 26) = .bool false := hdep 13 (by decide)
              exact Or.inl ⟨trivial, Or.inl ⟨.bool false, w, by go_simp, rfl, Below.refl _ _⟩⟩
            · intro ev w hc hf hg hfix hdep hbel
              have fg : ev (.tmp 27) = .bool false := hdep 14 (by decide)
              have e0 : ev (.tmp 0) = .slice (some ⟨blk, off, none⟩) n cap := hfix 0 (by decide)
              exact Or.inr ⟨fg, rfl⟩
            · intro ev w hc hf hg hfix hdep hbel
              have fg : ev (.tmp 27) = .bool false := hdep 14 (by decide)
              have e6 : ev (.tmp 6) = .int .i64 (k : Int) := hfix 6 (by decide)
              exact Or.inr ⟨fg, rfl⟩
            · intro ev w hc hf hg hfix hdep hbel
              have fg : ev (.tmp 27) = .bool false := hdep 14 (by decide)
              have e28 : ev (.tmp 28) = undef := hdep 15 (by decide)
              have e29 : ev (.tmp 29) = undef := hdep 16 (by decide)
              exact Or.inr ⟨fg, rfl⟩
            · intro ev w hc hf hg hfix hdep hbel
              have fg : ev (.tmp 27) = .bool false := hdep 14 (by decide)
              have e30 : ev (.tmp 30) = undef := hdep 17 (by decide)
              exact Or.inr ⟨fg, rfl⟩
            · intro ev w hc hf hg hfix hdep hbel
              have fg : ev (.tmp 27) = .bool false := hdep 14 (by decide)
              have e31 : ev (.tmp 31) = undef := hdep 18 (by decide)
              exact Or.inr ⟨fg, rfl⟩
            · intro ev w hc hf hg hfix hdep hbel
              have fg : ev (.tmp 27) = .bool false := hdep 14 (by decide)
              have e5 : ev (.tmp 5) = .int .u64 (g : Int) := hfix 5 (by decide)
              exact Or.inr ⟨fg, rfl⟩
            · intro ev w hc hf hg hfix hdep hbel
              have fg : ev (.tmp 27) = .bool false := hdep 14 (by decide)
              have e32 : ev (.tmp 32) = undef := hdep 19 (by decide)
              have e33 : ev (.tmp 33) = undef := hdep 20 (by decide)
              exact Or.inr ⟨fg, rfl⟩
            · intro ev w hc hf hg hfix hdep hbel
              have e27 : ev (.tmp 27) = .bool false := hdep 14 (by decide)
              have e34 : ev (.tmp 34) = undef := hdep 21 (by decide)
              exact Or.inl ⟨trivial, Or.inl ⟨.bool false, w, by go_simp, rfl, Below.refl _ _⟩⟩
          · intro v w2 hv hb2
            have r0 : v 0 = .slice (some ⟨blk, off, none⟩) n cap := hv 0 (by decide)
            have r1 : v 1 = .int .i64 (k : Int) := hv 1 (by decide)
            have r2 : v 2 = .pointer (some ⟨blk, off + k * 3, none⟩) := hv 2 (by decide)
            have r3 : v 3 = dotV ((r, i), s) := hv 3 (by decide)
            have r4 : v 4 = .bool true := hv 4 (by decide)
            have r5 : v 5 = .bool true := hv 5 (by decide)
            have r6 : v 6 = .slice (some ⟨blk, off, none⟩) n cap := hv 6 (by decide)
            have r7 : v 7 = .int .i64 (k : Int) := hv 7 (by decide)
            have r8 : v 8 = .pointer (some ⟨blk, off + k * 3, none⟩) := hv 8 (by decide)
            have r9 : v 9 = .pointer (some ⟨blk, off + k * 3, none⟩) := hv 9 (by decide)
            have r10 : v 10 = acV (r, i) := hv 10 (by decide)
            have r11 : v 11 = acV (r', i') := hv 11 (by decide)
            have r12 : v 12 = .bool false := hv 12 (by decide)
            have r13 : v 13 = .bool false := hv 13 (by decide)
            have r14 : v 14 = .bool false := hv 14 (by decide)
            have r15 : v 15 = undef := hv 15 (by decide)
            have r16 : v 16 = undef := hv 16 (by decide)
            have r17 : v 17 = undef := hv 17 (by decide)
            have r18 : v 18 = undef := hv 18 (by decide)
            have r19 : v 19 = undef := hv 19 (by decide)
            have r20 : v 20 = undef := hv 20 (by decide)
            have r21 : v 21 = undef := hv 21 (by decide)
            have r22 : v 22 = .bool false := hv 22 (by decide)
            simp only [Reg.putAll, Act.put, List.setIfInBounds_toArray, List.set_cons_zero, List.set_cons_succ, r0, r1, r2, r3, r4, r5, r6, r7, r8, r9, r10, r11, r12, r13, r14, r15, r16, r17, r18, r19, r20, r21, r22]
            clear r0 r1 r2 r3 r4 r5 r6 r7 r8 r9 r10 r11 r12 r13 r14 r15 r16 r17 r18 r19 r20 r21 r22 hv
            have hbw : Below w.heap.size w w2 := HBel.out.trans (hb2.mono HBel.out.size)
            obtain ⟨hc0, hc1, hc2, hc3, hc4⟩ := HC.out w2 ⟨hb2.os, hb2.tape, hb2.output, hb2.size, hb2.block⟩
            have HBw := Lib.hid hbw; have H3 := Lib.hid hc3; have H4 := Lib.hid hc4
            clear hbw hb2 hc3 hc4
            go_wp2_with fail
            clear hc0 hc1 hc2
            go_roundw
            case rel => exact ⟨k + 1, by omega, by go_num, by rw [Hs.out, HG.out], HBw.out, H3.out, H4.out⟩
            case measure => simp [intOf]; omega
    · have hfin : getF (r', i') l k = Dt.get l (r', i') := by
        show Dt.get (l.take k) (r', i') = Dt.get l (r', i')
        rw [List.take_of_length_le (by rw [HL.out]; omega)]
      have Hfin := Lib.hid hfin; clear hfin
      go_wp2
      go_ret
      exact ⟨ret_int (by rw [Hfin.out]), HBel.out⟩
end Go.Proofs.Ytfebbdnibimmmaa
