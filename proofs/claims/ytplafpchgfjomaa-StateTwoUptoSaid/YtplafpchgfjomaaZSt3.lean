import Derived.Test.YtplafpchgfjomaaZSt2
namespace Go.Proofs.Ytplafpchgfjomaa
open Go.RowKit Go.Buf Go.LB
set_option linter.unusedSimpArgs false
set_option linter.unusedVariables false
def relIt (_ : World) (v : Value) (y : Lm.It) : Prop := v = itV y.1 y.2.1.1.1 y.2.1.1.2 y.2.1.2 y.2.2 ∧ okI y ∧ y.2.2.size ≤ 40
theorem txt_and {v s : ByteArray} {er er' : Nat} (h : (v = s ∧ er' = 0 ∧ er = 0) ∨ (v = ⟨#[]⟩ ∧ er' ≠ 0)) : er' = 0 → v = s ∧ er = 0 := fun h0 => by
 rcases h with ⟨h1, _, h3⟩ | ⟨_, h2⟩
 ·exact ⟨h1, h3⟩
 ·exact absurd h0 h2
theorem txt_le {v s : ByteArray} {er er' most : Nat} (h : (v = s ∧ er' = 0 ∧ er = 0) ∨ (v = ⟨#[]⟩ ∧ er' ≠ 0)) (hs : s.size ≤ most) : v.size ≤ most := by
 rcases h with ⟨rfl, _⟩ | ⟨rfl, _⟩
 ·exact hs
 ·exact Nat.zero_le _
theorem grown_chg {W X w : World} {q rb : Nat} (h : W.grownBy X (some q)) (g : Chg (fun k => k = q ∨ k = rb) X w) (hr : W.heap.size ≤ rb) : W.grownBy w (some q) :=
 ⟨g.os.trans h.os, g.tape.trans h.tape, g.output.trans h.output, Nat.le_trans h.size g.size, fun k hk hn => (g.block k (Nat.lt_of_lt_of_le hk h.size) (fun e => by rcases e with rfl | rfl; exact hn rfl; omega)).trans (h.block k hk hn)⟩
theorem or3 {A B C D X : Prop} (a : A ∨ X) (b : B ∨ X) (c : C ∨ X) (f : A → B → C → D) : D ∨ X := by
 rcases a with a | a
 ·rcases b with b | b
  ·rcases c with c | c
   ·exact Or.inl (f a b c)
   ·exact Or.inr c
  ·exact Or.inr b
 ·exact Or.inr a
def relM (most : Nat) (_ : World) (v : Value) (y : Nat) : Prop := v = .int .u64 (y : Int) ∧ y ≤ most
set_option maxRecDepth 100000 in
set_option maxHeartbeats 12800000 in
theorem sdot_x (q : Nat) (d : Dt.Dot) (hd : Dt.okD d) (R z : List Nat) (er : Nat) (W : World) (h : RdX W q (dotE d ++ R) z er) :
  Calls Try.prog 40 #[tkV q] W fun e w' => ∃ d' er', e = .returned (dotV d') ∧ Dt.okD d' ∧ (er' = 0 → d' = d ∧ er = 0) ∧ RdX w' q R z er' ∧ W.grownBy w' (some q) := by
 obtain ⟨⟨r, i⟩, s⟩ := d
 obtain ⟨h1, h2, h3⟩ := hd
 simp only at h1 h2 h3
 have hqlt := h.lt
 have hh : RdX W q (Cd.num r ++ (Cd.num i ++ (Cd.num s ++ R))) z er := by
  have e : dotE ((r, i), s) ++ R = Cd.num r ++ (Cd.num i ++ (Cd.num s ++ R)) := by simp only [dotE, List.append_assoc]
  rw [← e]; exact h
 obtain ⟨EJ, hE0, hE1, hE2, hE3⟩ : ∃ EJ : Nat → List Nat, EJ 0 = Cd.num r ++ (Cd.num i ++ (Cd.num s ++ R)) ∧ EJ 1 = Cd.num i ++ (Cd.num s ++ R) ∧ EJ 2 = Cd.num s ++ R ∧ EJ 3 = R := ⟨fun x => match x with | 0 => _ | 1 => _ | 2 => _ | _ => R, rfl, rfl, rfl, rfl⟩
 have HE0 := Lib.hid hE0; have HE1 := Lib.hid hE1; have HE2 := Lib.hid hE2; have HE3 := Lib.hid hE3
 clear hE0 hE1 hE2 hE3
 have HH := Lib.hid hh; have H1 := Lib.hid h1; have H2 := Lib.hid h2; have H3 := Lib.hid h3; have HQ := Lib.hid hqlt
 clear h hh h1 h2 h3
 go_enter Try.func40, Try.ntmps40
 go_wp2_with fail
 obtain ⟨bx, hbx⟩ : ∃ b, b = W.heap.size := ⟨_, rfl⟩
 obtain ⟨rb, hrb⟩ : ∃ b, b = W.heap.size + 1 := ⟨_, rfl⟩
 obtain ⟨XX, hXX⟩ : ∃ w, w = (W.alloc (.cells #[.pointer (some ⟨q, 0, none⟩)] 66)).alloc (.cells #[.int .u8 0, .int .u32 0, .int .u64 0] 40) := ⟨_, rfl⟩
 have hb1 : Blk XX bx 66 [.pointer (some ⟨q, 0, none⟩)] := by
  rw [hXX, hbx]; exact (Blk.new W #[.pointer (some ⟨q, 0, none⟩)] 66).below (below_box3 _ _ _)
 have hb2 : Blk XX rb 40 [.int .u8 0, .int .u32 0, .int .u64 0] := by
  have := Blk.new (W.alloc (.cells #[.pointer (some ⟨q, 0, none⟩)] 66)) #[.int .u8 0, .int .u32 0, .int .u64 0] 40
  rw [hXX, hrb]; simpa using this
 have hXG : W.grownBy XX (some q) := by rw [hXX]; exact grownA (grownA (grown_refl _ _) _) _
 have hXB : Below W.heap.size W XX := by rw [hXX]; exact (below_box3 _ _ _).trans ((below_box3 _ _ _).mono (by simp))
 have hXH : XX.heap.size = W.heap.size + 2 := by rw [hXX]; simp
 rw [← hXX, ← hrb, ← hbx]
 have HBX := Lib.hid (show ∀ w, Chg (fun k => k = q) XX w → w.cell? ⟨bx, 0, none⟩ = some (.pointer (some ⟨q, 0, none⟩)) from fun w h => (hb1.chg h (by omega)).cell 0)
 have HRB := Lib.hid (show ∀ w, Chg (fun k => k = q) XX w → Blk w rb 40 [.int .u8 0, .int .u32 0, .int .u64 0] from fun w h => hb2.chg h (by omega))
 have HQR := Lib.hid (show q < rb by omega); have HQX := Lib.hid (show q < XX.heap.size by omega); have HRX := Lib.hid (show rb < XX.heap.size by omega); have HXG := Lib.hid hXG; have HQB := Lib.hid (show q ≠ bx ∧ q ≠ rb ∧ bx ≠ rb by omega); have HBXl := Lib.hid (show bx < XX.heap.size by omega); have HWX := Lib.hid (show W.heap.size ≤ XX.heap.size by omega); have HWR := Lib.hid (show W.heap.size ≤ rb by omega)
 have HJ0 := Lib.hid (show JX q EJ z er XX.heap.size 0 XX.drew from ⟨er, by rw [HE0.out]; exact (HH.out.below hXB).below (Below.refl _ _).drew, fun h => h, Nat.le_refl _⟩)
 clear hXX hb1 hb2 hXG hXB hXH hbx hrb
 clear hqlt
 refine RegH.region_list (by kernel_rfl) (fun k w => JX q EJ z er XX.heap.size k w) [1, 4] [1, 4, 8] [8] [7] [RegH.plain (fun v _ => v = .agg #[.pointer (some ⟨q, 0, none⟩)]), RegH.change (fun v w => Tk q (relM 255) r v w) (fun k => k = q) (fun u w w' => RX q EJ z er XX.heap.size 1 w w'), RegH.plain (fun v w => Tk q relB r v w), RegH.plain (fun v _ => v = .agg #[.pointer (some ⟨q, 0, none⟩)]), RegH.change (fun v w => Tk q (relM 4294967295) i v w) (fun k => k = q) (fun u w w' => RX q EJ z er XX.heap.size 2 w w'), RegH.plain (fun v w => Tk q relC i v w), RegH.plain (fun v w => ∃ (r1 i1 : Nat), v = .agg #[.int .u8 (r1 : Int), .int .u32 (i1 : Int)] ∧ r1 < 256 ∧ i1 < 4294967296 ∧ ((r1 = r ∧ i1 = i) ∨ Bad q w)), RegH.fresh (fun v w => ∃ b, v = .pointer (some ⟨b, 0, none⟩) ∧ XX.heap.size ≤ b ∧ Blk w b 38 [.int .u8 0, .int .u32 0]), RegH.change (fun v w => ∃ (b r1 i1 : Nat), v = .pointer (some ⟨b, 0, none⟩) ∧ XX.heap.size ≤ b ∧ Blk w b 38 [.int .u8 (r1 : Int), .int .u32 (i1 : Int)] ∧ r1 < 256 ∧ i1 < 4294967296 ∧ ((r1 = r ∧ i1 = i) ∨ Bad q w)) (fun k => XX.heap.size ≤ k) (fun u w w' => ∃ b, XX.heap.size ≤ b ∧ w.grownBy w' (some b))] (by kernel_rfl) (by kernel_rfl) (by kernel_rfl) (fun i hi => by simp only [List.mem_cons, List.not_mem_nil, or_false] at hi; rcases hi with rfl <;> exact fun _ _ _ h => h.1) (by kernel_rfl) (by kernel_rfl) rfl (HJ0.out) (fun _ _ _ hb h => h.below hb) ?_ ?_ ?_ ?_ ?_ ?_
 ·exact ⟨Or.inr ⟨fun _ h => h, fun _ _ _ h => h⟩, Or.inl (by decide), Or.inr ⟨fun _ h => h, fun _ _ _ h => h⟩, Or.inr ⟨fun _ h => h, fun _ _ _ h => h⟩, Or.inl (by decide), Or.inr ⟨fun _ h => h, fun _ _ _ h => h⟩, Or.inr ⟨fun _ h => h, fun _ _ _ h => h⟩, Or.inr ⟨fun _ h => h, fun _ _ _ h => h.2⟩, Or.inl (by decide), trivial⟩
 ·exact ⟨⟨fun _ _ _ h => h, Or.inl ⟨by decide, fun _ wx wy n h => (fun _ _ _ hb h => h.below hb) n wx wy (RegH.to_below h (fun _ h => h))⟩⟩, ⟨(fun u wa wb h => (Chg.of_grown h.1).mono (fun k _ e => by simpa using e)), Or.inr ⟨0, rfl, (fun u wa wb h _ => h.2.2)⟩⟩, ⟨fun _ _ _ h => h, Or.inl ⟨by decide, fun _ wx wy n h => (fun _ _ _ hb h => h.below hb) n wx wy (RegH.to_below h (fun _ h => h))⟩⟩, ⟨fun _ _ _ h => h, Or.inl ⟨by decide, fun _ wx wy n h => (fun _ _ _ hb h => h.below hb) n wx wy (RegH.to_below h (fun _ h => h))⟩⟩, ⟨(fun u wa wb h => (Chg.of_grown h.1).mono (fun k _ e => by simpa using e)), Or.inr ⟨1, rfl, (fun u wa wb h _ => h.2.2)⟩⟩, ⟨fun _ _ _ h => h, Or.inl ⟨by decide, fun _ wx wy n h => (fun _ _ _ hb h => h.below hb) n wx wy (RegH.to_below h (fun _ h => h))⟩⟩, ⟨fun _ _ _ h => h, Or.inl ⟨by decide, fun _ wx wy n h => (fun _ _ _ hb h => h.below hb) n wx wy (RegH.to_below h (fun _ h => h))⟩⟩, ⟨fun _ _ _ h => h.2, Or.inl ⟨by decide, fun _ wx wy n h => (fun _ _ _ hb h => h.below hb) n wx wy (RegH.to_below h.2 (fun _ h => h))⟩⟩, ⟨(fun u wa wb h => by obtain ⟨b, h1, h2⟩ := h; exact (Chg.of_grown h2).mono (fun k _ e => by cases e; exact h1)), Or.inl ⟨by decide, (fun u wa wb n h hj => by obtain ⟨b, h1, h2⟩ := h; exact hj.grown h2 (Nat.lt_of_lt_of_le HQX.out h1))⟩⟩, trivial⟩
 ·refine ⟨k4, (fun v wa wb hb h => by exact Tk.step h (fun _ h => h) (fun h => h.below hb)), (fun v wa wb hb h => by exact Tk.step h (fun _ h => h) (fun h => h.below hb)), k4, (fun v wa wb hb h => by exact Tk.step h (fun _ h => h) (fun h => h.below hb)), (fun v wa wb hb h => by exact Tk.step h (fun _ h => h) (fun h => h.below hb)), (fun v wa wb hb h => by obtain ⟨a1, a2, h1, h2, h3, h4⟩ := h; exact ⟨a1, a2, h1, h2, h3, h4.imp id (fun h => h.below hb)⟩), (fun v wa wb hb h => by obtain ⟨b, h1, h2, h3⟩ := h; exact ⟨b, h1, h2, h3.below hb⟩), (fun v wa wb hb h => by obtain ⟨b, a1, a2, h1, h2, h3, h4, h5, h6⟩ := h; exact ⟨b, a1, a2, h1, h2, h3.below hb, h4, h5, h6.imp id (fun h => h.below hb)⟩), trivial⟩
 ·refine ⟨⟨Or.inr (Or.inr (Or.inr (fun _ _ _ _ _ _ h => h))), Or.inl rfl, Or.inr (Or.inl (by kernel_rfl)), Or.inr (Or.inr (Or.inr (fun _ _ _ _ _ _ h => h))), Or.inr (Or.inl (by kernel_rfl)), Or.inr (Or.inl (by kernel_rfl)), Or.inr (Or.inl (by kernel_rfl)), Or.inr (Or.inr (Or.inr (fun u v wa wb hap hr h => by obtain ⟨b, h1, h2, h3⟩ := h; exact ⟨b, h1, h2, h3.grown hr.1 (by have := HQX.out; simp; omega)⟩))), Or.inr (Or.inl (by kernel_rfl)), trivial⟩, ⟨Or.inr (Or.inr (Or.inr (fun _ _ _ _ _ _ h => h))), Or.inr (Or.inr (Or.inr (fun u v wa wb hap hr h => by exact Tk.step h (fun _ h => h) hr.2.1))), Or.inr (Or.inr (Or.inr (fun u v wa wb hap hr h => by exact Tk.step h (fun _ h => h) hr.2.1))), Or.inr (Or.inr (Or.inr (fun _ _ _ _ _ _ h => h))), Or.inl rfl, Or.inr (Or.inl (by kernel_rfl)), Or.inr (Or.inl (by kernel_rfl)), Or.inr (Or.inr (Or.inr (fun u v wa wb hap hr h => by obtain ⟨b, h1, h2, h3⟩ := h; exact ⟨b, h1, h2, h3.grown hr.1 (by have := HQX.out; simp; omega)⟩))), Or.inr (Or.inl (by kernel_rfl)), trivial⟩, ⟨Or.inr (Or.inr (Or.inr (fun _ _ _ _ _ _ h => h))), Or.inr (Or.inr (Or.inl (by kernel_rfl))), Or.inr (Or.inr (Or.inl (by kernel_rfl))), Or.inr (Or.inr (Or.inr (fun _ _ _ _ _ _ h => h))), Or.inr (Or.inr (Or.inl (by kernel_rfl))), Or.inr (Or.inr (Or.inl (by kernel_rfl))), Or.inr (Or.inr (Or.inl (by kernel_rfl))), Or.inr (Or.inr (Or.inl (by kernel_rfl))), Or.inl rfl, trivial⟩, trivial⟩
 ·refine ⟨?_, ?_, ?_, ?_, ?_, ?_, ?_, ?_, ?_, trivial⟩
  ·intro ev w hc hf hg hfix hdep hchg hinv
   have e1 : ev (.tmp 1) = _ := hfix 1 (by decide)
   have d0 := HBX.out w (Chg.mono (RegH.undrewC (hchg [] (by kernel_rfl))) (fun k _ h => by rcases h with h <;> first | exact h.elim | exact h))
   exact Or.inl ⟨trivial, Or.inl ⟨_, w, by go_simp, rfl, Chg.refl _ _⟩⟩
  ·intro ev w hc hf hg hfix hdep hchg hinv
   have e4 : ev (.tmp 4) = _ := hdep 0 (by decide)
   refine Or.inl ⟨trivial, Or.inr (Or.inl ⟨38, #[.agg #[.pointer (some ⟨q, 0, none⟩)], .int .u64 255], w, by go_simp, ?_⟩)⟩
   obtain ⟨er0, hrd, he0, hsz⟩ := hinv 0 rfl
   rw [HE0.out] at hrd
   refine (supTo_x q r 255 (by have := H1.out; omega) (by decide) _ z er0 w hrd).mono ?_
   rintro e w9 ⟨v9, er9, rfl, hv9, hr9, hg9⟩
   exact ⟨_, rfl, ⟨v9, ⟨rfl, by have := le_of_x hv9; have := H1.out; omega⟩, or_bad hr9 (fun h => (num_and hv9 h).1)⟩, RX.mk' hrd he0 hsz HE1.out (num_and hv9) hr9 hg9⟩
  ·intro ev w hc hf hg hfix hdep hchg hinv
   have e5 := hdep 1 (by decide)
   obtain ⟨m, ⟨hm1, hm2⟩, hm3⟩ := e5
   have e5 : ev (.tmp 5) = .int .u64 (m : Int) := hm1
   have hw : IntKind.u8.wrap (m : Int) = (m : Int) := by simp [IntKind.wrap, IntKind.bits, IntKind.signed]; omega
   exact Or.inl ⟨trivial, Or.inl ⟨.int .u8 (m : Int), w, by go_simp, ⟨m, ⟨rfl, by omega⟩, hm3⟩, Chg.refl _ _⟩⟩
  ·intro ev w hc hf hg hfix hdep hchg hinv
   have e1 : ev (.tmp 1) = _ := hfix 1 (by decide)
   have d0 := HBX.out w (Chg.mono (RegH.undrewC (hchg [1] (by kernel_rfl))) (fun k _ h => by rcases h with h | h <;> first | exact h.elim | exact h))
   exact Or.inl ⟨trivial, Or.inl ⟨_, w, by go_simp, rfl, Chg.refl _ _⟩⟩
  ·intro ev w hc hf hg hfix hdep hchg hinv
   have e7 : ev (.tmp 7) = _ := hdep 3 (by decide)
   refine Or.inl ⟨trivial, Or.inr (Or.inl ⟨38, #[.agg #[.pointer (some ⟨q, 0, none⟩)], .int .u64 4294967295], w, by go_simp, ?_⟩)⟩
   obtain ⟨er0, hrd, he0, hsz⟩ := hinv 1 rfl
   rw [HE1.out] at hrd
   refine (supTo_x q i 4294967295 (by have := H2.out; omega) (by decide) _ z er0 w hrd).mono ?_
   rintro e w9 ⟨v9, er9, rfl, hv9, hr9, hg9⟩
   exact ⟨_, rfl, ⟨v9, ⟨rfl, by have := le_of_x hv9; have := H2.out; omega⟩, or_bad hr9 (fun h => (num_and hv9 h).1)⟩, RX.mk' hrd he0 hsz HE2.out (num_and hv9) hr9 hg9⟩
  ·intro ev w hc hf hg hfix hdep hchg hinv
   have e8 := hdep 4 (by decide)
   obtain ⟨m, ⟨hm1, hm2⟩, hm3⟩ := e8
   have e8 : ev (.tmp 8) = .int .u64 (m : Int) := hm1
   have hw : IntKind.u32.wrap (m : Int) = (m : Int) := by simp [IntKind.wrap, IntKind.bits, IntKind.signed]; omega
   exact Or.inl ⟨trivial, Or.inl ⟨.int .u32 (m : Int), w, by go_simp, ⟨m, ⟨rfl, by omega⟩, hm3⟩, Chg.refl _ _⟩⟩
  ·intro ev w hc hf hg hfix hdep hchg hinv
   have e6 := hdep 2 (by decide)
   have e9 := hdep 5 (by decide)
   obtain ⟨r1, ⟨f6, b6⟩, c6⟩ := e6
   obtain ⟨i1, ⟨f9, b9⟩, c9⟩ := e9
   have e6 : ev (.tmp 6) = .int .u8 (r1 : Int) := f6
   have e9 : ev (.tmp 9) = .int .u32 (i1 : Int) := f9
   exact Or.inl ⟨trivial, Or.inl ⟨.agg #[.int .u8 (r1 : Int), .int .u32 (i1 : Int)], w, by go_simp, ⟨r1, i1, rfl, b6, b9, or3 c6 c9 (Or.inl trivial) (fun h1 h2 _ => ⟨h1, h2⟩)⟩, Chg.refl _ _⟩⟩
  ·intro ev w hc hf hg hfix hdep hchg hinv
   have hsz := (hchg [1, 4] (by kernel_rfl)).size
   exact Or.inl ⟨trivial, Or.inl ⟨.pointer (some ⟨w.heap.size, 0, none⟩), w.alloc (.cells #[.int .u8 0, .int .u32 0] 38), by go_simp, ⟨w.heap.size, rfl, hsz, Blk.new w _ _⟩, ⟨rfl, by simp⟩, (Chg.refl _ w).alloc _⟩⟩
  ·intro ev w hc hf hg hfix hdep hchg hinv
   have e3 := hdep 7 (by decide)
   have e10 := hdep 6 (by decide)
   obtain ⟨r1, i1, f, b1, b2, hc⟩ := e10
   have e10 : ev (.tmp 10) = .agg #[.int .u8 (r1 : Int), .int .u32 (i1 : Int)] := f
   obtain ⟨b, hvb, hub, hbk⟩ := e3
   have e3 : ev (.tmp 3) = .pointer (some ⟨b, 0, none⟩) := hvb
   have d0 := hbk.cell 0; have d1 := hbk.cell 1; have y0 := hbk.frozen 0; have y1 := hbk.frozen 1
   simp only [List.getElem?_cons_succ, List.getElem?_cons_zero] at d0 d1
   have hg2 := grownR (grown_setCell w b 0 (.int .u8 (r1 : Int))) (grown_setCell _ b 1 (.int .u32 (i1 : Int)))
   exact Or.inl ⟨trivial, Or.inr (Or.inr ⟨((w.setCell ⟨b, 0, none⟩ (.int .u8 (r1 : Int))).setCell ⟨b, 1, none⟩ (.int .u32 (i1 : Int))), by go_simp, ⟨b, r1, i1, e3, hub, ((hbk.set 0 _).set 1 _), b1, b2, hc.imp id (fun h => h.grown hg2 (fun k e => by cases e; exact Nat.lt_of_lt_of_le HQX.out hub))⟩, ⟨b, hub, hg2⟩⟩)⟩
 ·intro v w2 hv hlk hap hb2 hJ2
  have lk8 := hlk 7 8 (by kernel_rfl)
  have r8 := hv 8 (by decide) (by decide)
  simp only [Reg.putAll, Act.put, List.setIfInBounds_toArray, List.set_cons_zero, List.set_cons_succ]
  clear hv hlk hap
  obtain ⟨b, r1, i1, hv8, hub, hbk, hb1, hb2', hc⟩ := r8
  simp only [Nat.zero_add, Nat.reduceAdd]
  rw [← lk8, hv8]
  have hch : Chg (fun k => k = q ∨ XX.heap.size ≤ k) XX w2 := Chg.mono hb2 (fun k _ h => by rcases h with h | h | h | h <;> first | exact h.elim | exact Or.inl h | exact Or.inr h)
  have hxq : Chg (fun k => k = q) XX w2 := hch.mono (fun k hk h => by rcases h with h | h; exact h; omega)
  have HXq := Lib.hid hxq
  have HBA := Lib.hid (show ∀ w, Chg (fun k => k = q) w2 w → w.cell? ⟨b, 0, none⟩ = some (.int .u8 (r1 : Int)) ∧ w.cell? ⟨b, 1, none⟩ = some (.int .u32 (i1 : Int)) from fun w h => by
   have := hbk.chg h (by have := HQX.out; omega)
   exact ⟨this.cell 0, this.cell 1⟩)
  have HBX2 := Lib.hid (show ∀ w, Chg (fun k => k = q) w2 w → w.cell? ⟨bx, 0, none⟩ = some (.pointer (some ⟨q, 0, none⟩)) from fun w h => HBX.out w (hxq.trans h (fun _ _ h => h)))
  have HRB2 := Lib.hid (show ∀ w, Chg (fun k => k = q) w2 w → Blk w rb 40 [.int .u8 0, .int .u32 0, .int .u64 0] from fun w h => HRB.out w (hxq.trans h (fun _ _ h => h)))
  have HJ2 := Lib.hid (show JX q EJ z er XX.heap.size (0 + 2) w2.drew ∧ (Bad q w2 → Bad q w2.drew) from ⟨JX.below hJ2 (Below.refl _ _).drew, fun h => h.below (Below.refl _ _).drew⟩)
  have HB1 := Lib.hid hb1; have HB2 := Lib.hid hb2'; have HC1 := Lib.hid hc
  clear hb2 hch hbk hv8 lk8 hJ2 hub hxq hb1 hb2' hc
  go_wp2_with fail
  refine RegH.region_list (by kernel_rfl) (fun k w => JX q EJ z er XX.heap.size (k + 2) w ∧ (Bad q w2 → Bad q w)) [3] [3, 5] [5] [] [RegH.plain (fun v _ => v = .agg #[.int .u8 (r1 : Int), .int .u32 (i1 : Int)]), RegH.plain (fun v _ => v = .pointer (some ⟨bx, 0, none⟩)), RegH.plain (fun v _ => v = .pointer (some ⟨q, 0, none⟩)), RegH.change (fun v w => Tk q relU s v w) (fun k => k = q) (fun u w w' => RX q EJ z er XX.heap.size 3 w w'), RegH.plain (fun v w => ∃ s1 : Nat, v = dotV ((r1, i1), s1) ∧ s1 < 18446744073709551616 ∧ (s1 = s ∨ Bad q w)), RegH.change (fun v w => ∃ s1 : Nat, Blk w rb 40 [.int .u8 (r1 : Int), .int .u32 (i1 : Int), .int .u64 (s1 : Int)] ∧ s1 < 18446744073709551616 ∧ (s1 = s ∨ Bad q w)) (fun k => k = rb) (fun u w w' => w.grownBy w' (some rb))] (by kernel_rfl) (by kernel_rfl) (by kernel_rfl) (fun i hi => by simp at hi) (by kernel_rfl) (by kernel_rfl) rfl (HJ2.out) (fun _ _ _ hb h => ⟨h.1.below hb, fun hB => (h.2 hB).below hb⟩) ?_ ?_ ?_ ?_ ?_ ?_
  ·exact ⟨Or.inr ⟨fun _ h => h, fun _ _ _ h => h⟩, Or.inr ⟨fun _ h => h, fun _ _ _ h => h⟩, Or.inr ⟨fun _ h => h, fun _ _ _ h => h⟩, Or.inl (by decide), Or.inr ⟨fun _ h => h, fun _ _ _ h => h⟩, Or.inl (by decide), trivial⟩
  ·exact ⟨⟨fun _ _ _ h => h, Or.inl ⟨by decide, fun _ wx wy n h => (fun _ _ _ hb h => ⟨h.1.below hb, fun hB => (h.2 hB).below hb⟩) n wx wy (RegH.to_below h (fun _ h => h))⟩⟩, ⟨fun _ _ _ h => h, Or.inl ⟨by decide, fun _ wx wy n h => (fun _ _ _ hb h => ⟨h.1.below hb, fun hB => (h.2 hB).below hb⟩) n wx wy (RegH.to_below h (fun _ h => h))⟩⟩, ⟨fun _ _ _ h => h, Or.inl ⟨by decide, fun _ wx wy n h => (fun _ _ _ hb h => ⟨h.1.below hb, fun hB => (h.2 hB).below hb⟩) n wx wy (RegH.to_below h (fun _ h => h))⟩⟩, ⟨(fun u wa wb h => (Chg.of_grown h.1).mono (fun k _ e => by simpa using e)), Or.inr ⟨0, rfl, (fun u wa wb h hj => ⟨h.2.2, fun hb => h.2.1 (hj.2 hb)⟩)⟩⟩, ⟨fun _ _ _ h => h, Or.inl ⟨by decide, fun _ wx wy n h => (fun _ _ _ hb h => ⟨h.1.below hb, fun hB => (h.2 hB).below hb⟩) n wx wy (RegH.to_below h (fun _ h => h))⟩⟩, ⟨(fun u wa wb h => (Chg.of_grown h).mono (fun k _ e => by simpa using e)), Or.inl ⟨by decide, (fun u wa wb n h hj => ⟨hj.1.grown h HQR.out, fun hb => (hj.2 hb).grown h (fun k e => by cases e; exact HQR.out)⟩)⟩⟩, trivial⟩
  ·refine ⟨k4, k4, k4, (fun v wa wb hb h => by exact Tk.step h (fun _ h => h) (fun h => h.below hb)), (fun v wa wb hb h => by obtain ⟨a1, h1, h2, h3⟩ := h; exact ⟨a1, h1, h2, h3.imp id (fun h => h.below hb)⟩), (fun v wa wb hb h => by obtain ⟨a1, h1, h2, h3⟩ := h; exact ⟨a1, h1.below hb, h2, h3.imp id (fun h => h.below hb)⟩), trivial⟩
  ·refine ⟨⟨Or.inr (Or.inr (Or.inr (fun _ _ _ _ _ _ h => h))), Or.inr (Or.inr (Or.inr (fun _ _ _ _ _ _ h => h))), Or.inr (Or.inr (Or.inr (fun _ _ _ _ _ _ h => h))), Or.inl rfl, Or.inr (Or.inl (by kernel_rfl)), Or.inr (Or.inl (by kernel_rfl)), trivial⟩, ⟨Or.inr (Or.inr (Or.inr (fun _ _ _ _ _ _ h => h))), Or.inr (Or.inr (Or.inr (fun _ _ _ _ _ _ h => h))), Or.inr (Or.inr (Or.inr (fun _ _ _ _ _ _ h => h))), Or.inr (Or.inr (Or.inl (by kernel_rfl))), Or.inr (Or.inr (Or.inl (by kernel_rfl))), Or.inl rfl, trivial⟩, trivial⟩
  ·refine ⟨?_, ?_, ?_, ?_, ?_, ?_, trivial⟩
   ·intro ev w hc hf hg hfix hdep hchg hinv
    have e3 : ev (.tmp 3) = _ := hfix 3 (by decide)
    obtain ⟨d0, d1⟩ := HBA.out w (Chg.mono (RegH.undrewC (hchg [3] (by kernel_rfl))) (fun k _ h => by rcases h with h | h <;> first | exact h.elim | exact h))
    exact Or.inl ⟨trivial, Or.inl ⟨_, w, by go_simp, rfl, Chg.refl _ _⟩⟩
   ·intro ev w hc hf hg hfix hdep hchg hinv
    have e1 : ev (.tmp 1) = _ := hfix 1 (by decide)
    exact Or.inl ⟨trivial, Or.inl ⟨_, w, by go_simp, rfl, Chg.refl _ _⟩⟩
   ·intro ev w hc hf hg hfix hdep hchg hinv
    have e12 : ev (.tmp 12) = _ := hdep 1 (by decide)
    have d0 := HBX2.out w (Chg.mono (RegH.undrewC (hchg [] (by kernel_rfl))) (fun k _ h => by rcases h with h <;> first | exact h.elim | exact h))
    exact Or.inl ⟨trivial, Or.inl ⟨_, w, by go_simp, rfl, Chg.refl _ _⟩⟩
   ·intro ev w hc hf hg hfix hdep hchg hinv
    have e13 : ev (.tmp 13) = _ := hdep 2 (by decide)
    refine Or.inl ⟨trivial, Or.inr (Or.inl ⟨35, #[.pointer (some ⟨q, 0, none⟩)], w, by go_simp, ?_⟩)⟩
    obtain ⟨⟨er0, hrd, he0, hsz⟩, _⟩ := hinv 0 rfl
    replace hrd : RdX w q (EJ 2) z er0 := hrd
    rw [HE2.out] at hrd
    refine (Num_x s H3.out hrd).mono ?_
    rintro e w9 ⟨v9, er9, rfl, hv9, hr9, hg9⟩
    exact ⟨_, rfl, ⟨v9, ⟨rfl, by have := le_of_x hv9; have := H3.out; omega⟩, or_bad hr9 (fun h => (num_and hv9 h).1)⟩, RX.mk' hrd he0 hsz HE3.out (num_and hv9) hr9 hg9⟩
   ·intro ev w hc hf hg hfix hdep hchg hinv
    have e11 : ev (.tmp 11) = _ := hdep 0 (by decide)
    have e14 := hdep 3 (by decide)
    obtain ⟨s1, ⟨f14, b14⟩, c14⟩ := e14
    have e14 : ev (.tmp 14) = .int .u64 (s1 : Int) := f14
    exact Or.inl ⟨trivial, Or.inl ⟨dotV ((r1, i1), s1), w, by go_simp, ⟨s1, rfl, b14, c14⟩, Chg.refl _ _⟩⟩
   ·intro ev w hc hf hg hfix hdep hchg hinv
    have e2 : ev (.tmp 2) = _ := hfix 2 (by decide)
    have e15 := hdep 4 (by decide)
    obtain ⟨s1, f, hs, hc⟩ := e15
    have e15 : ev (.tmp 15) = dotV ((r1, i1), s1) := f
    have hbk := HRB2.out w (Chg.mono (RegH.undrewC (hchg [3] (by kernel_rfl))) (fun k _ h => by rcases h with h | h <;> first | exact h.elim | exact h))
    have d0 := hbk.cell 0; have d1 := hbk.cell 1; have d2 := hbk.cell 2; have y0 := hbk.frozen 0; have y1 := hbk.frozen 1; have y2 := hbk.frozen 2
    simp only [List.getElem?_cons_succ, List.getElem?_cons_zero] at d0 d1 d2
    have hg3 := grownR (grownR (grown_setCell w rb 0 (.int .u8 (r1 : Int))) (grown_setCell _ rb 1 (.int .u32 (i1 : Int)))) (grown_setCell _ rb 2 (.int .u64 (s1 : Int)))
    exact Or.inl ⟨trivial, Or.inr (Or.inr ⟨(((w.setCell ⟨rb, 0, none⟩ (.int .u8 (r1 : Int))).setCell ⟨rb, 1, none⟩ (.int .u32 (i1 : Int))).setCell ⟨rb, 2, none⟩ (.int .u64 (s1 : Int))), by go_simp, ⟨s1, (((hbk.set 0 _).set 1 _).set 2 _), hs, hc.imp id (fun h => h.grown hg3 (fun k e => by cases e; exact HQR.out))⟩, hg3⟩)⟩
  ·intro v w3 hv hlk hap hb3 hJ3
   have r5 := hv 5 (by decide) (by decide)
   simp only [Reg.putAll, Act.put, List.setIfInBounds_toArray, List.set_cons_zero, List.set_cons_succ]
   clear hv hlk hap
   obtain ⟨s1, hbk, hs1, hc⟩ := r5
   obtain ⟨⟨er2, hrd2, he2, hsz2⟩, hbw⟩ := hJ3
   have hch : Chg (fun k => k = q ∨ k = rb) XX w3 := (HXq.out.mono (fun k _ h => Or.inl h)).trans (Chg.mono (T := fun k => k = q ∨ k = rb) hb3 (fun k _ h => by rcases h with h | h | h <;> first | exact h.elim | exact Or.inl h | exact Or.inr h)) (fun k _ h => h)
   have hrd3 : RdX w3 q R z er2 := by rw [← HE3.out]; exact hrd2
   have HG := Lib.hid (grown_chg HXG.out hch HWR.out); have HR := Lib.hid hrd3; have HE2' := Lib.hid he2
   have d0 := hbk.cell 0; have d1 := hbk.cell 1; have d2 := hbk.cell 2
   simp only [List.getElem?_cons_succ, List.getElem?_cons_zero] at d0 d1 d2
   go_wp2_with fail
   refine bodyPost_ret (v := dotV ((r1, i1), s1)) (by simp [results, Try.results40, go_sem, d0, d1, d2]) rfl ⟨((r1, i1), s1), er2, rfl, ⟨HB1.out, HB2.out, hs1⟩, fun h0 => ⟨?_, he2 h0⟩, HR.out, HG.out⟩
   have hnb : ¬ Bad q w3 := by subst h0; exact not_bad hrd3
   obtain ⟨rfl, rfl⟩ := HC1.out.resolve_right (fun h => hnb (hbw h))
   rw [hc.resolve_right hnb]
set_option maxRecDepth 100000 in
set_option maxHeartbeats 12800000 in
theorem sitem_x (q : Nat) (x : Lm.It) (hx : okI x) (h40 : x.2.2.size ≤ 40) (R z : List Nat) (er : Nat) (W : World) (h : RdX W q (itE x ++ R) z er) :
  Calls Try.prog 42 #[tkV q] W fun e w' => ∃ (t r i s : Nat) (u : ByteArray) (er' : Nat), e = .returned (itV t r i s u) ∧ okI (t, ((r, i), s), u) ∧ u.size ≤ 40 ∧ (er' = 0 → (t, ((r, i), s), u) = x ∧ er = 0) ∧ RdX w' q R z er' ∧ W.grownBy w' (some q) := by
 obtain ⟨t, d, u⟩ := x
 obtain ⟨h1, h2, h3⟩ := hx
 simp only at h1 h2 h3 h40
 have hqlt := h.lt
 have hh : RdX W q (Cd.num t ++ (dotE d ++ (txtE u ++ R))) z er := by
  have e : itE (t, d, u) ++ R = Cd.num t ++ (dotE d ++ (txtE u ++ R)) := by simp only [itE, List.append_assoc]
  rw [← e]; exact h
 obtain ⟨EJ, hE0, hE1, hE2, hE3⟩ : ∃ EJ : Nat → List Nat, EJ 0 = Cd.num t ++ (dotE d ++ (txtE u ++ R)) ∧ EJ 1 = dotE d ++ (txtE u ++ R) ∧ EJ 2 = txtE u ++ R ∧ EJ 3 = R := ⟨fun x => match x with | 0 => _ | 1 => _ | 2 => _ | _ => R, rfl, rfl, rfl, rfl⟩
 have HE0 := Lib.hid hE0; have HE1 := Lib.hid hE1; have HE2 := Lib.hid hE2; have HE3 := Lib.hid hE3
 clear hE0 hE1 hE2 hE3
 have HH := Lib.hid hh; have HT := Lib.hid h1; have HD := Lib.hid h2; have H40 := Lib.hid h40; have HQ := Lib.hid hqlt
 clear h hh h1 h2 h3 h40
 go_enter Try.func42, Try.ntmps42
 go_wp2_with fail
 obtain ⟨bx, hbx⟩ : ∃ b, b = W.heap.size := ⟨_, rfl⟩
 obtain ⟨rb, hrb⟩ : ∃ b, b = W.heap.size + 1 := ⟨_, rfl⟩
 obtain ⟨XX, hXX⟩ : ∃ w, w = (W.alloc (.cells #[.pointer (some ⟨q, 0, none⟩)] 66)).alloc (.cells #[.int .u64 0, .int .u8 0, .int .u32 0, .int .u64 0, .string ⟨#[]⟩] 57) := ⟨_, rfl⟩
 have hb1 : Blk XX bx 66 [.pointer (some ⟨q, 0, none⟩)] := by
  rw [hXX, hbx]; exact (Blk.new W #[.pointer (some ⟨q, 0, none⟩)] 66).below (below_box3 _ _ _)
 have hb2 : Blk XX rb 57 [.int .u64 0, .int .u8 0, .int .u32 0, .int .u64 0, .string ⟨#[]⟩] := by
  have := Blk.new (W.alloc (.cells #[.pointer (some ⟨q, 0, none⟩)] 66)) #[.int .u64 0, .int .u8 0, .int .u32 0, .int .u64 0, .string ⟨#[]⟩] 57
  rw [hXX, hrb]; simpa using this
 have hXG : W.grownBy XX (some q) := by rw [hXX]; exact grownA (grownA (grown_refl _ _) _) _
 have hXB : Below W.heap.size W XX := by rw [hXX]; exact (below_box3 _ _ _).trans ((below_box3 _ _ _).mono (by simp))
 have hXH : XX.heap.size = W.heap.size + 2 := by rw [hXX]; simp
 rw [← hXX, ← hrb, ← hbx]
 have HBX := Lib.hid (show ∀ w, Chg (fun k => k = q) XX w → w.cell? ⟨bx, 0, none⟩ = some (.pointer (some ⟨q, 0, none⟩)) from fun w h => (hb1.chg h (by omega)).cell 0)
 have HRB := Lib.hid (show ∀ w, Chg (fun k => k = q) XX w → Blk w rb 57 [.int .u64 0, .int .u8 0, .int .u32 0, .int .u64 0, .string ⟨#[]⟩] from fun w h => hb2.chg h (by omega))
 have HQR := Lib.hid (show q < rb by omega); have HQX := Lib.hid (show q < XX.heap.size by omega); have HRX := Lib.hid (show rb < XX.heap.size by omega); have HXG := Lib.hid hXG; have HQB := Lib.hid (show q ≠ bx ∧ q ≠ rb ∧ bx ≠ rb by omega); have HBXl := Lib.hid (show bx < XX.heap.size by omega); have HWX := Lib.hid (show W.heap.size ≤ XX.heap.size by omega); have HWR := Lib.hid (show W.heap.size ≤ rb by omega)
 have HJ0 := Lib.hid (show JX q EJ z er XX.heap.size 0 XX.drew from ⟨er, by rw [HE0.out]; exact (HH.out.below hXB).below (Below.refl _ _).drew, fun h => h, Nat.le_refl _⟩)
 clear hXX hb1 hb2 hXG hXB hXH hbx hrb
 clear hqlt
 refine RegH.region_list (by kernel_rfl) (fun k w => JX q EJ z er XX.heap.size k w) [2, 4, 7] [2, 4, 7, 9] [9] [] [RegH.plain (fun v _ => v = .pointer (some ⟨bx, 0, none⟩)), RegH.plain (fun v _ => v = .pointer (some ⟨q, 0, none⟩)), RegH.change (fun v w => Tk q relU t v w) (fun k => k = q) (fun u w w' => RX q EJ z er XX.heap.size 1 w w'), RegH.plain (fun v _ => v = .agg #[.pointer (some ⟨q, 0, none⟩)]), RegH.change (fun v w => Tk q relD d v w) (fun k => k = q) (fun u w w' => RX q EJ z er XX.heap.size 2 w w'), RegH.plain (fun v _ => v = .pointer (some ⟨bx, 0, none⟩)), RegH.plain (fun v _ => v = .pointer (some ⟨q, 0, none⟩)), RegH.change (fun v w => Tk q (relS 40) u v w) (fun k => k = q) (fun u w w' => RX q EJ z er XX.heap.size 3 w w'), RegH.plain (fun v w => Tk q relIt (t, d, u) v w), RegH.change (fun v w => ∃ (t1 r1 i1 s1 : Nat) (u1 : ByteArray), Blk w rb 57 [.int .u64 (t1 : Int), .int .u8 (r1 : Int), .int .u32 (i1 : Int), .int .u64 (s1 : Int), .string u1] ∧ okI (t1, ((r1, i1), s1), u1) ∧ u1.size ≤ 40 ∧ ((t1, ((r1, i1), s1), u1) = (t, d, u) ∨ Bad q w)) (fun k => k = rb) (fun u w w' => w.grownBy w' (some rb))] (by kernel_rfl) (by kernel_rfl) (by kernel_rfl) (fun i hi => by simp at hi) (by kernel_rfl) (by kernel_rfl) rfl (HJ0.out) (fun _ _ _ hb h => h.below hb) ?_ ?_ ?_ ?_ ?_ ?_
 ·exact ⟨Or.inr ⟨fun _ h => h, fun _ _ _ h => h⟩, Or.inr ⟨fun _ h => h, fun _ _ _ h => h⟩, Or.inl (by decide), Or.inr ⟨fun _ h => h, fun _ _ _ h => h⟩, Or.inl (by decide), Or.inr ⟨fun _ h => h, fun _ _ _ h => h⟩, Or.inr ⟨fun _ h => h, fun _ _ _ h => h⟩, Or.inl (by decide), Or.inr ⟨fun _ h => h, fun _ _ _ h => h⟩, Or.inl (by decide), trivial⟩
 ·exact ⟨⟨fun _ _ _ h => h, Or.inl ⟨by decide, fun _ wx wy n h => (fun _ _ _ hb h => h.below hb) n wx wy (RegH.to_below h (fun _ h => h))⟩⟩, ⟨fun _ _ _ h => h, Or.inl ⟨by decide, fun _ wx wy n h => (fun _ _ _ hb h => h.below hb) n wx wy (RegH.to_below h (fun _ h => h))⟩⟩, ⟨(fun u wa wb h => (Chg.of_grown h.1).mono (fun k _ e => by simpa using e)), Or.inr ⟨0, rfl, (fun u wa wb h _ => h.2.2)⟩⟩, ⟨fun _ _ _ h => h, Or.inl ⟨by decide, fun _ wx wy n h => (fun _ _ _ hb h => h.below hb) n wx wy (RegH.to_below h (fun _ h => h))⟩⟩, ⟨(fun u wa wb h => (Chg.of_grown h.1).mono (fun k _ e => by simpa using e)), Or.inr ⟨1, rfl, (fun u wa wb h _ => h.2.2)⟩⟩, ⟨fun _ _ _ h => h, Or.inl ⟨by decide, fun _ wx wy n h => (fun _ _ _ hb h => h.below hb) n wx wy (RegH.to_below h (fun _ h => h))⟩⟩, ⟨fun _ _ _ h => h, Or.inl ⟨by decide, fun _ wx wy n h => (fun _ _ _ hb h => h.below hb) n wx wy (RegH.to_below h (fun _ h => h))⟩⟩, ⟨(fun u wa wb h => (Chg.of_grown h.1).mono (fun k _ e => by simpa using e)), Or.inr ⟨2, rfl, (fun u wa wb h _ => h.2.2)⟩⟩, ⟨fun _ _ _ h => h, Or.inl ⟨by decide, fun _ wx wy n h => (fun _ _ _ hb h => h.below hb) n wx wy (RegH.to_below h (fun _ h => h))⟩⟩, ⟨(fun u wa wb h => (Chg.of_grown h).mono (fun k _ e => by simpa using e)), Or.inl ⟨by decide, (fun u wa wb n h hj => hj.grown h HQR.out)⟩⟩, trivial⟩
 ·refine ⟨k4, k4, (fun v wa wb hb h => by exact Tk.step h (fun _ h => h) (fun h => h.below hb)), k4, (fun v wa wb hb h => by exact Tk.step h (fun _ h => h) (fun h => h.below hb)), k4, k4, (fun v wa wb hb h => by exact Tk.step h (fun _ h => h) (fun h => h.below hb)), (fun v wa wb hb h => by exact Tk.step h (fun _ h => h) (fun h => h.below hb)), (fun v wa wb hb h => by obtain ⟨a1, a2, a3, a4, a5, h1, h2, h3, h4⟩ := h; exact ⟨a1, a2, a3, a4, a5, h1.below hb, h2, h3, h4.imp id (fun h => h.below hb)⟩), trivial⟩
 ·refine ⟨⟨Or.inr (Or.inr (Or.inr (fun _ _ _ _ _ _ h => h))), Or.inr (Or.inr (Or.inr (fun _ _ _ _ _ _ h => h))), Or.inl rfl, Or.inr (Or.inr (Or.inr (fun _ _ _ _ _ _ h => h))), Or.inr (Or.inl (by kernel_rfl)), Or.inr (Or.inr (Or.inr (fun _ _ _ _ _ _ h => h))), Or.inr (Or.inr (Or.inr (fun _ _ _ _ _ _ h => h))), Or.inr (Or.inl (by kernel_rfl)), Or.inr (Or.inl (by kernel_rfl)), Or.inr (Or.inl (by kernel_rfl)), trivial⟩, ⟨Or.inr (Or.inr (Or.inr (fun _ _ _ _ _ _ h => h))), Or.inr (Or.inr (Or.inr (fun _ _ _ _ _ _ h => h))), Or.inr (Or.inr (Or.inr (fun u v wa wb hap hr h => by exact Tk.step h (fun _ h => h) hr.2.1))), Or.inr (Or.inr (Or.inr (fun _ _ _ _ _ _ h => h))), Or.inl rfl, Or.inr (Or.inr (Or.inr (fun _ _ _ _ _ _ h => h))), Or.inr (Or.inr (Or.inr (fun _ _ _ _ _ _ h => h))), Or.inr (Or.inl (by kernel_rfl)), Or.inr (Or.inl (by kernel_rfl)), Or.inr (Or.inl (by kernel_rfl)), trivial⟩, ⟨Or.inr (Or.inr (Or.inr (fun _ _ _ _ _ _ h => h))), Or.inr (Or.inr (Or.inr (fun _ _ _ _ _ _ h => h))), Or.inr (Or.inr (Or.inr (fun u v wa wb hap hr h => by exact Tk.step h (fun _ h => h) hr.2.1))), Or.inr (Or.inr (Or.inr (fun _ _ _ _ _ _ h => h))), Or.inr (Or.inr (Or.inr (fun u v wa wb hap hr h => by exact Tk.step h (fun _ h => h) hr.2.1))), Or.inr (Or.inr (Or.inr (fun _ _ _ _ _ _ h => h))), Or.inr (Or.inr (Or.inr (fun _ _ _ _ _ _ h => h))), Or.inl rfl, Or.inr (Or.inl (by kernel_rfl)), Or.inr (Or.inl (by kernel_rfl)), trivial⟩, ⟨Or.inr (Or.inr (Or.inr (fun _ _ _ _ _ _ h => h))), Or.inr (Or.inr (Or.inr (fun _ _ _ _ _ _ h => h))), Or.inr (Or.inr (Or.inl (by kernel_rfl))), Or.inr (Or.inr (Or.inr (fun _ _ _ _ _ _ h => h))), Or.inr (Or.inr (Or.inl (by kernel_rfl))), Or.inr (Or.inr (Or.inr (fun _ _ _ _ _ _ h => h))), Or.inr (Or.inr (Or.inr (fun _ _ _ _ _ _ h => h))), Or.inr (Or.inr (Or.inl (by kernel_rfl))), Or.inr (Or.inr (Or.inl (by kernel_rfl))), Or.inl rfl, trivial⟩, trivial⟩
 ·refine ⟨?_, ?_, ?_, ?_, ?_, ?_, ?_, ?_, ?_, ?_, trivial⟩
  ·intro ev w hc hf hg hfix hdep hchg hinv
   have e1 : ev (.tmp 1) = _ := hfix 1 (by decide)
   exact Or.inl ⟨trivial, Or.inl ⟨_, w, by go_simp, rfl, Chg.refl _ _⟩⟩
  ·intro ev w hc hf hg hfix hdep hchg hinv
   have e3 : ev (.tmp 3) = _ := hdep 0 (by decide)
   have d0 := HBX.out w (Chg.mono (RegH.undrewC (hchg [] (by kernel_rfl))) (fun k _ h => by rcases h with h <;> first | exact h.elim | exact h))
   exact Or.inl ⟨trivial, Or.inl ⟨_, w, by go_simp, rfl, Chg.refl _ _⟩⟩
  ·intro ev w hc hf hg hfix hdep hchg hinv
   have e4 : ev (.tmp 4) = _ := hdep 1 (by decide)
   refine Or.inl ⟨trivial, Or.inr (Or.inl ⟨35, #[.pointer (some ⟨q, 0, none⟩)], w, by go_simp, ?_⟩)⟩
   obtain ⟨er0, hrd, he0, hsz⟩ := hinv 0 rfl
   rw [HE0.out] at hrd
   refine (Num_x t HT.out hrd).mono ?_
   rintro e w9 ⟨v9, er9, rfl, hv9, hr9, hg9⟩
   exact ⟨_, rfl, ⟨v9, ⟨rfl, by have := le_of_x hv9; have := HT.out; omega⟩, or_bad hr9 (fun h => (num_and hv9 h).1)⟩, RX.mk' hrd he0 hsz HE1.out (num_and hv9) hr9 hg9⟩
  ·intro ev w hc hf hg hfix hdep hchg hinv
   have e1 : ev (.tmp 1) = _ := hfix 1 (by decide)
   have d0 := HBX.out w (Chg.mono (RegH.undrewC (hchg [2] (by kernel_rfl))) (fun k _ h => by rcases h with h | h <;> first | exact h.elim | exact h))
   exact Or.inl ⟨trivial, Or.inl ⟨_, w, by go_simp, rfl, Chg.refl _ _⟩⟩
  ·intro ev w hc hf hg hfix hdep hchg hinv
   have e6 : ev (.tmp 6) = _ := hdep 3 (by decide)
   refine Or.inl ⟨trivial, Or.inr (Or.inl ⟨40, #[.agg #[.pointer (some ⟨q, 0, none⟩)]], w, by go_simp, ?_⟩)⟩
   obtain ⟨er0, hrd, he0, hsz⟩ := hinv 1 rfl
   rw [HE1.out] at hrd
   refine (sdot_x q d HD.out _ z er0 w hrd).mono ?_
   rintro e w9 ⟨d9, er9, rfl, hok9, hv9, hr9, hg9⟩
   exact ⟨_, rfl, ⟨d9, ⟨rfl, hok9⟩, or_bad hr9 (fun h => (hv9 h).1)⟩, RX.mk' hrd he0 hsz HE2.out hv9 hr9 hg9⟩
  ·intro ev w hc hf hg hfix hdep hchg hinv
   have e1 : ev (.tmp 1) = _ := hfix 1 (by decide)
   exact Or.inl ⟨trivial, Or.inl ⟨_, w, by go_simp, rfl, Chg.refl _ _⟩⟩
  ·intro ev w hc hf hg hfix hdep hchg hinv
   have e8 : ev (.tmp 8) = _ := hdep 5 (by decide)
   have d0 := HBX.out w (Chg.mono (RegH.undrewC (hchg [2, 4] (by kernel_rfl))) (fun k _ h => by rcases h with h | h | h <;> first | exact h.elim | exact h))
   exact Or.inl ⟨trivial, Or.inl ⟨_, w, by go_simp, rfl, Chg.refl _ _⟩⟩
  ·intro ev w hc hf hg hfix hdep hchg hinv
   have e9 : ev (.tmp 9) = _ := hdep 6 (by decide)
   refine Or.inl ⟨trivial, Or.inr (Or.inl ⟨29, #[.pointer (some ⟨q, 0, none⟩), .int .i64 40], w, by go_simp, ?_⟩)⟩
   obtain ⟨er0, hrd, he0, hsz⟩ := hinv 2 rfl
   rw [HE2.out] at hrd
   refine (Text_x u 40 (by have := H40.out; omega) (by omega) hrd).mono ?_
   rintro e w9 ⟨u9, er9, rfl, hv9, hr9, hg9⟩
   exact ⟨_, rfl, ⟨u9, ⟨rfl, txt_le hv9 H40.out⟩, or_bad hr9 (fun h => (txt_and hv9 h).1)⟩, RX.mk' hrd he0 hsz HE3.out (txt_and hv9) hr9 hg9⟩
  ·intro ev w hc hf hg hfix hdep hchg hinv
   have e5 := hdep 2 (by decide)
   have e7 := hdep 4 (by decide)
   have e10 := hdep 7 (by decide)
   obtain ⟨t1, ⟨f2, b2⟩, c2⟩ := e5
   obtain ⟨⟨⟨r1, i1⟩, s1⟩, ⟨f4, b4⟩, c4⟩ := e7
   obtain ⟨u1, ⟨f7, b7⟩, c7⟩ := e10
   have e5 : ev (.tmp 5) = .int .u64 (t1 : Int) := f2
   have e7 : ev (.tmp 7) = dotV ((r1, i1), s1) := f4
   have e10 : ev (.tmp 10) = .string u1 := f7
   exact Or.inl ⟨trivial, Or.inl ⟨itV t1 r1 i1 s1 u1, w, by go_simp, ⟨(t1, ((r1, i1), s1), u1), ⟨rfl, ⟨b2, b4, Nat.le_trans b7 (by decide)⟩, b7⟩, or3 c2 c4 c7 (fun h1 h2 h3 => by rw [h1, h2, h3])⟩, Chg.refl _ _⟩⟩
  ·intro ev w hc hf hg hfix hdep hchg hinv
   have e2 : ev (.tmp 2) = _ := hfix 2 (by decide)
   have e11 := hdep 8 (by decide)
   obtain ⟨⟨t1, ⟨⟨r1, i1⟩, s1⟩, u1⟩, ⟨f, hok, hu40⟩, hc⟩ := e11
   have e11 : ev (.tmp 11) = itV t1 r1 i1 s1 u1 := f
   have hbk := HRB.out w (Chg.mono (RegH.undrewC (hchg [2, 4, 7] (by kernel_rfl))) (fun k _ h => by rcases h with h | h | h | h <;> first | exact h.elim | exact h))
   have d0 := hbk.cell 0; have d1 := hbk.cell 1; have d2 := hbk.cell 2; have d3 := hbk.cell 3; have d4 := hbk.cell 4
   have y0 := hbk.frozen 0; have y1 := hbk.frozen 1; have y2 := hbk.frozen 2; have y3 := hbk.frozen 3; have y4 := hbk.frozen 4
   simp only [List.getElem?_cons_succ, List.getElem?_cons_zero] at d0 d1 d2 d3 d4
   have hg5 := grown_set5 w rb (.int .u64 (t1 : Int)) (.int .u8 (r1 : Int)) (.int .u32 (i1 : Int)) (.int .u64 (s1 : Int)) (.string u1)
   exact Or.inl ⟨trivial, Or.inr (Or.inr ⟨(((((w.setCell ⟨rb, 0, none⟩ (.int .u64 (t1 : Int))).setCell ⟨rb, 1, none⟩ (.int .u8 (r1 : Int))).setCell ⟨rb, 2, none⟩ (.int .u32 (i1 : Int))).setCell ⟨rb, 3, none⟩ (.int .u64 (s1 : Int))).setCell ⟨rb, 4, none⟩ (.string u1)), by go_simp, ⟨t1, r1, i1, s1, u1, (((((hbk.set 0 _).set 1 _).set 2 _).set 3 _).set 4 _), hok, hu40, hc.imp id (fun h => h.grown hg5 (fun k e => by cases e; exact HQR.out))⟩, hg5⟩)⟩
 ·intro v w2 hv hlk hap hb2 hJ2
  have r9 := hv 9 (by decide) (by decide)
  simp only [Reg.putAll, Act.put, List.setIfInBounds_toArray, List.set_cons_zero, List.set_cons_succ]
  clear hv hlk hap
  obtain ⟨t1, r1, i1, s1, u1, hbk, hok, hu40, hc⟩ := r9
  obtain ⟨er2, hrd2, he2, hsz2⟩ := hJ2
  have hch : Chg (fun k => k = q ∨ k = rb) XX w2 := Chg.mono hb2 (fun k _ h => by rcases h with h | h | h | h | h <;> first | exact h.elim | exact Or.inl h | exact Or.inr h)
  have hrd3 : RdX w2 q R z er2 := by rw [← HE3.out]; exact hrd2
  have HG := Lib.hid (grown_chg HXG.out hch HWR.out); have HR := Lib.hid hrd3; have HE2 := Lib.hid he2
  have HC := Lib.hid (show er2 = 0 → _ from fun h0 => hc.resolve_right (by subst h0; exact not_bad hrd3))
  have d0 := hbk.cell 0; have d1 := hbk.cell 1; have d2 := hbk.cell 2; have d3 := hbk.cell 3; have d4 := hbk.cell 4
  simp only [List.getElem?_cons_succ, List.getElem?_cons_zero] at d0 d1 d2 d3 d4
  have HBk := Lib.hid hbk
  clear hb2 hrd2 hsz2 hch hrd3 he2 hc hbk
  go_wp2_with fail
  refine bodyPost_ret (v := itV t1 r1 i1 s1 u1) (by simp [results, Try.results42, go_sem, d0, d1, d2, d3, d4]) rfl ⟨t1, r1, i1, s1, u1, er2, rfl, hok, hu40, fun h0 => ⟨HC.out h0, HE2.out h0⟩, HR.out, HG.out⟩
end Go.Proofs.Ytplafpchgfjomaa
