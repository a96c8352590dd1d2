import Derived.Test.YtiiidmphmojlgaaGreatZGr13
import Derived.Test.YtiiidmphmojlgaaGreatZIdx
namespace Go.Proofs.YtiiidmphmojlgaaGreat
open Go.RowKit Go.Buf Go.LB Go.Lib
set_option linter.unusedSimpArgs false
set_option linter.unusedVariables false
theorem vrow_dot {w : World} {b : Nat} {d : Dt.Dot} (h : Blk w b 27 [.int .u8 (d.1.1 : Int), .int .u32 (d.1.2 : Int), .int .u64 (d.2 : Int)]) (hd : Dt.okD d) : VRow w (some ⟨b, 0, none⟩) 1 [d] :=
 ownT_vrow (B := 0) (row := some b) (n := 1) ⟨Nat.zero_le _, Or.inr ⟨b, 1, [], rfl, rfl, Nat.zero_le _, by simpa [encT] using h, by simp, by simp [maxLen], by simp [encT]⟩⟩ (by intro x hx; simp at hx; subst hx; exact hd)
theorem vrow_dots {w : World} {b : Nat} {d e : Dt.Dot} (h : Blk w b 27 [.int .u8 (d.1.1 : Int), .int .u32 (d.1.2 : Int), .int .u64 (d.2 : Int), .int .u8 (e.1.1 : Int), .int .u32 (e.1.2 : Int), .int .u64 (e.2 : Int)]) (hd : Dt.okD d) (he : Dt.okD e) : VRow w (some ⟨b, 0, none⟩) 2 [d, e] :=
 ownT_vrow (B := 0) (row := some b) (n := 2) ⟨Nat.zero_le _, Or.inr ⟨b, 2, [], rfl, rfl, Nat.zero_le _, by simpa [encT] using h, by simp, by simp [maxLen], by simp [encT]⟩⟩ (by intro x hx; simp at hx; rcases hx with rfl | rfl <;> assumption)
theorem meet_nil (l : List Dt.Dot) : Dt.meet l [] = [] := by
 have h : (fun a => min (Dt.get l a) (Dt.get [] a)) = Dt.get [] := by funext a; simp [Dt.get]
 unfold Dt.meet
 rw [h]
 exact canon_empty
set_option maxRecDepth 100000 in
set_option maxHeartbeats 6400000 in
theorem mustKnow_own (gb b : Nat) (r i s : Nat) (va : Option Addr) (vc : Nat) (tm k : Nat) (pa : Option Addr) (pl pc : Nat) (n : Int) (t : ByteArray) (da : Option Addr) (dl dc : Nat) (W : World) (hG : Blk W gb 42 [.int .u64 0, .slice none 0 0, .slice none 0 0, .int .u64 0, .slice none 0 0, .map (some b)]) (hv : VRow W va vc [((r, i), s)]) :
  Calls Tryz.prog 65 #[.pointer (some ⟨gb, 0, none⟩), cmV r i s none 0 0 va 1 vc tm k pa pl pc n t da dl dc] W fun e w' => (∃ a c, e = .returned (.slice a 1 c) ∧ VRow w' a c [((r, i), s)]) ∧ Below W.heap.size W w' := by
 have HG := Lib.hid hG; have HV := Lib.hid hv; have HOk := Lib.hid (hv.ok _ (List.mem_singleton.2 rfl)); have HOks := Lib.hid hv.ok
 have HBox := Lib.hid (below_box W #[.int .u8 (r : Int), .int .u32 (i : Int), .int .u64 (s : Int), .slice none 0 0, .slice va 1 vc, .int .u64 (tm : Int), .int .u8 (k : Int), .slice pa pl pc, .int .i64 n, .string t, .slice da dl dc] 34)
 have HBk := Lib.hid (show ∀ w, Below (W.alloc (.cells #[.int .u8 (r : Int), .int .u32 (i : Int), .int .u64 (s : Int), .slice none 0 0, .slice va 1 vc, .int .u64 (tm : Int), .int .u8 (k : Int), .slice pa pl pc, .int .i64 n, .string t, .slice da dl dc] 34)).heap.size (W.alloc (.cells #[.int .u8 (r : Int), .int .u32 (i : Int), .int .u64 (s : Int), .slice none 0 0, .slice va 1 vc, .int .u64 (tm : Int), .int .u8 (k : Int), .slice pa pl pc, .int .i64 n, .string t, .slice da dl dc] 34)) w → Blk w W.heap.size 34 [.int .u8 (r : Int), .int .u32 (i : Int), .int .u64 (s : Int), .slice none 0 0, .slice va 1 vc, .int .u64 (tm : Int), .int .u8 (k : Int), .slice pa pl pc, .int .i64 n, .string t, .slice da dl dc] from fun w h => (Blk.new W #[.int .u8 (r : Int), .int .u32 (i : Int), .int .u64 (s : Int), .slice none 0 0, .slice va 1 vc, .int .u64 (tm : Int), .int .u8 (k : Int), .slice pa pl pc, .int .i64 n, .string t, .slice da dl dc] 34).below h)
 clear hG hv
 go_enter Tryz.func65, Tryz.ntmps65
 go_wp2_with fail
 refine Reg.region_list (by kernel_rfl) [fun v _ => v = .pointer (some ⟨gb, 0, none⟩), fun v _ => v = .agg #[.int .u8 (r : Int), .int .u32 (i : Int), .int .u64 (s : Int), .slice none 0 0, .slice va 1 vc, .int .u64 (tm : Int), .int .u8 (k : Int), .slice pa pl pc, .int .i64 n, .string t, .slice da dl dc], fun v _ => v = .slice none 0 0, fun v _ => v = .pointer (some ⟨W.heap.size, 3, none⟩), fun v _ => v = .slice none 0 0, fun v _ => v = .pointer (some ⟨W.heap.size, 4, none⟩), fun v _ => v = .slice va 1 vc, fun v _ => v = .pointer (some ⟨gb, 0, none⟩), fun v _ => v = .pointer (some ⟨gb, 0, none⟩), fun v _ => v = .pointer (some ⟨gb, 0, none⟩), fun v _ => v = .pointer (some ⟨gb, 1, none⟩), fun v _ => v = .slice none 0 0, fun v w => ∃ a c, v = .slice a 0 c ∧ VRow w a c [], fun v _ => v = .pointer (some ⟨W.heap.size, 0, none⟩), fun v _ => v = .agg #[.int .u8 (r : Int), .int .u32 (i : Int), .int .u64 (s : Int)], fun v w => ∃ bd, v = .slice (some ⟨bd, 0, none⟩) 1 1 ∧ VRow w (some ⟨bd, 0, none⟩) 1 [((r, i), s)], fun v w => ∃ bk bd a c, v = .slice (some ⟨bk, 0, none⟩) 4 4 ∧ Blk w bk 29 [.slice none 0 0, .slice none 0 0, .slice a 0 c, .slice (some ⟨bd, 0, none⟩) 1 1] ∧ VRow w a c [] ∧ VRow w (some ⟨bd, 0, none⟩) 1 [((r, i), s)], fun v w => ∃ a c, v = .slice a 1 c ∧ VRow w a c [((r, i), s)], fun v w => ∃ a c, v = .slice a 1 c ∧ VRow w a c [((r, i), s)]] (by kernel_rfl) ?_ ?_ ?_
 ·refine ⟨k4, k4, k4, k4, k4, k4, k4, k4, k4, k4, k4, k4, (fun v wa wb hb h => by obtain ⟨a, c, h1, h2⟩ := h; exact ⟨a, c, h1, h2.below hb⟩), k4, k4, (fun v wa wb hb h => by obtain ⟨bd, h1, h2⟩ := h; exact ⟨bd, h1, h2.below hb⟩), (fun v wa wb hb h => by obtain ⟨bk, bd, a, c, h1, h2, h3, h4⟩ := h; exact ⟨bk, bd, a, c, h1, h2.below hb, h3.below hb, h4.below hb⟩), (fun v wa wb hb h => by obtain ⟨a, c, h1, h2⟩ := h; exact ⟨a, c, h1, h2.below hb⟩), (fun v wa wb hb h => by obtain ⟨a, c, h1, h2⟩ := h; exact ⟨a, c, h1, h2.below hb⟩), trivial⟩
 ·refine ⟨?_, ?_, ?_, ?_, ?_, ?_, ?_, ?_, ?_, ?_, ?_, ?_, ?_, ?_, ?_, ?_, ?_, ?_, ?_, trivial⟩
  ·intro ev w hc hf hg hfix hdep hbel
   have e0 : ev (.tmp 0) = _ := hfix 0 (by decide)
   exact okb trivial rfl (by go_simp)
  ·intro ev w hc hf hg hfix hdep hbel
   have e3 : ev (.tmp 3) = _ := hfix 3 (by decide)
   have hk := HBk.out w (undrewB hbel)
   have hc0 := hk.cell 0; have hc1 := hk.cell 1; have hc2 := hk.cell 2; have hc3 := hk.cell 3; have hc4 := hk.cell 4; have hc5 := hk.cell 5; have hc6 := hk.cell 6; have hc7 := hk.cell 7; have hc8 := hk.cell 8; have hc9 := hk.cell 9; have hc10 := hk.cell 10
   simp only [List.getElem?_cons_succ, List.getElem?_cons_zero] at hc0 hc1 hc2 hc3 hc4 hc5 hc6 hc7 hc8 hc9 hc10
   exact okb trivial rfl (by go_simp)
  ·intro ev w hc hf hg hfix hdep hbel
   have e5 : ev (.tmp 5) = _ := hdep 0 (by decide)
   have e6 : ev (.tmp 6) = _ := hdep 1 (by decide)
   refine Or.inl ⟨trivial, Or.inr ⟨66, #[.pointer (some ⟨gb, 0, none⟩), .agg #[.int .u8 (r : Int), .int .u32 (i : Int), .int .u64 (s : Int), .slice none 0 0, .slice va 1 vc, .int .u64 (tm : Int), .int .u8 (k : Int), .slice pa pl pc, .int .i64 n, .string t, .slice da dl dc]], w, by go_simp, ?_⟩⟩
   refine (histories_none _ r i s none 0 va 1 vc tm k pa pl pc n t da dl dc w).mono ?_
   rintro e w1 ⟨rfl, hb⟩
   exact ⟨_, rfl, rfl, hb⟩
  ·intro ev w hc hf hg hfix hdep hbel
   have e3 : ev (.tmp 3) = _ := hfix 3 (by decide)
   exact okb trivial rfl (by go_simp)
  ·intro ev w hc hf hg hfix hdep hbel
   have e8 : ev (.tmp 8) = _ := hdep 3 (by decide)
   have hk := HBk.out w (undrewB hbel)
   have hc0 := hk.cell 0; have hc1 := hk.cell 1; have hc2 := hk.cell 2; have hc3 := hk.cell 3; have hc4 := hk.cell 4; have hc5 := hk.cell 5; have hc6 := hk.cell 6; have hc7 := hk.cell 7; have hc8 := hk.cell 8; have hc9 := hk.cell 9; have hc10 := hk.cell 10
   simp only [List.getElem?_cons_succ, List.getElem?_cons_zero] at hc0 hc1 hc2 hc3 hc4 hc5 hc6 hc7 hc8 hc9 hc10
   exact okb trivial rfl (by go_simp)
  ·intro ev w hc hf hg hfix hdep hbel
   have e3 : ev (.tmp 3) = _ := hfix 3 (by decide)
   exact okb trivial rfl (by go_simp)
  ·intro ev w hc hf hg hfix hdep hbel
   have e10 : ev (.tmp 10) = _ := hdep 5 (by decide)
   have hk := HBk.out w (undrewB hbel)
   have hc0 := hk.cell 0; have hc1 := hk.cell 1; have hc2 := hk.cell 2; have hc3 := hk.cell 3; have hc4 := hk.cell 4; have hc5 := hk.cell 5; have hc6 := hk.cell 6; have hc7 := hk.cell 7; have hc8 := hk.cell 8; have hc9 := hk.cell 9; have hc10 := hk.cell 10
   simp only [List.getElem?_cons_succ, List.getElem?_cons_zero] at hc0 hc1 hc2 hc3 hc4 hc5 hc6 hc7 hc8 hc9 hc10
   exact okb trivial rfl (by go_simp)
  ·intro ev w hc hf hg hfix hdep hbel
   have e0 : ev (.tmp 0) = _ := hfix 0 (by decide)
   exact okb trivial rfl (by go_simp)
  ·intro ev w hc hf hg hfix hdep hbel
   have e12 : ev (.tmp 12) = _ := hdep 7 (by decide)
   exact okb trivial rfl (by go_simp)
  ·intro ev w hc hf hg hfix hdep hbel
   have e13 : ev (.tmp 13) = _ := hdep 8 (by decide)
   exact okb trivial rfl (by go_simp)
  ·intro ev w hc hf hg hfix hdep hbel
   have e14 : ev (.tmp 14) = _ := hdep 9 (by decide)
   exact okb trivial rfl (by go_simp)
  ·intro ev w hc hf hg hfix hdep hbel
   have e15 : ev (.tmp 15) = _ := hdep 10 (by decide)
   have hg := HG.out.below (HBox.out.trans ((undrewB hbel).mono HBox.out.size))
   have hd0 := hg.cell 0; have hd1 := hg.cell 1; have hd2 := hg.cell 2; have hd3 := hg.cell 3; have hd4 := hg.cell 4; have hd5 := hg.cell 5
   simp only [List.getElem?_cons_succ, List.getElem?_cons_zero] at hd0 hd1 hd2 hd3 hd4 hd5
   exact okb trivial rfl (by go_simp)
  ·intro ev w hc hf hg hfix hdep hbel
   have e11 : ev (.tmp 11) = _ := hdep 6 (by decide)
   have e16 : ev (.tmp 16) = _ := hdep 11 (by decide)
   refine Or.inl ⟨trivial, Or.inr ⟨106, #[.slice va 1 vc, .slice none 0 0], w, by go_simp, ?_⟩⟩
   refine (meet_any va 1 vc [((r, i), s)] none 0 0 [] w (HV.out.below (HBox.out.trans ((undrewB hbel).mono HBox.out.size))) rfl (by omega) (VRow.nil _) rfl (by omega)).mono ?_
   rintro e w1 ⟨a, c, rfl, hr, hb⟩
   have hm : Dt.meet [((r, i), s)] [] = [] := meet_nil _
   rw [hm] at hr ⊢
   exact ⟨_, rfl, ⟨a, c, rfl, hr⟩, hb⟩
  ·intro ev w hc hf hg hfix hdep hbel
   have e3 : ev (.tmp 3) = _ := hfix 3 (by decide)
   exact okb trivial rfl (by go_simp)
  ·intro ev w hc hf hg hfix hdep hbel
   have e18 : ev (.tmp 18) = _ := hdep 13 (by decide)
   have hk := HBk.out w (undrewB hbel)
   have hc0 := hk.cell 0; have hc1 := hk.cell 1; have hc2 := hk.cell 2; have hc3 := hk.cell 3; have hc4 := hk.cell 4; have hc5 := hk.cell 5; have hc6 := hk.cell 6; have hc7 := hk.cell 7; have hc8 := hk.cell 8; have hc9 := hk.cell 9; have hc10 := hk.cell 10
   simp only [List.getElem?_cons_succ, List.getElem?_cons_zero] at hc0 hc1 hc2 hc3 hc4 hc5 hc6 hc7 hc8 hc9 hc10
   exact okb trivial rfl (by go_simp)
  ·intro ev w hc hf hg hfix hdep hbel
   have e19 : ev (.tmp 19) = _ := hdep 14 (by decide)
   have hb := Blk.new w #[.int .u8 (r : Int), .int .u32 (i : Int), .int .u64 (s : Int)] 27
   exact Or.inl ⟨trivial, Or.inl ⟨.slice (some ⟨w.heap.size, 0, none⟩) 1 1, w.alloc (.cells #[.int .u8 (r : Int), .int .u32 (i : Int), .int .u64 (s : Int)] 27), by go_simp, ⟨w.heap.size, rfl, vrow_dot (d := ((r, i), s)) hb HOk.out⟩, (Below.refl w.heap.size w).alloc (Nat.le_refl _) _⟩⟩
  ·intro ev w hc hf hg hfix hdep hbel
   have e7 : ev (.tmp 7) = _ := hdep 2 (by decide)
   have e9 : ev (.tmp 9) = _ := hdep 4 (by decide)
   have e17 := hdep 12 (by decide)
   have e20 := hdep 15 (by decide)
   obtain ⟨a, c, h17, hr⟩ := e17
   have e17 : ev (.tmp 17) = .slice a 0 c := h17
   obtain ⟨bd, h20, hd⟩ := e20
   have e20 : ev (.tmp 20) = .slice (some ⟨bd, 0, none⟩) 1 1 := h20
   have up := (Below.refl w.heap.size w).alloc (Nat.le_refl _) (.cells #[.slice none 0 0, .slice none 0 0, .slice a 0 c, .slice (some ⟨bd, 0, none⟩) 1 1] 29)
   exact Or.inl ⟨trivial, Or.inl ⟨.slice (some ⟨w.heap.size, 0, none⟩) 4 4, w.alloc (.cells #[.slice none 0 0, .slice none 0 0, .slice a 0 c, .slice (some ⟨bd, 0, none⟩) 1 1] 29), by go_simp, ⟨w.heap.size, bd, a, c, rfl, Blk.new _ _ _, hr.below up, hd.below up⟩, up⟩⟩
  ·intro ev w hc hf hg hfix hdep hbel
   have e21 := hdep 16 (by decide)
   obtain ⟨bk, bd, a, c, h21, hb, hr, hd⟩ := e21
   have e21 : ev (.tmp 21) = .slice (some ⟨bk, 0, none⟩) 4 4 := h21
   refine Or.inl ⟨trivial, Or.inr ⟨105, #[.slice (some ⟨bk, 0, none⟩) 4 4], w, by go_simp, ?_⟩⟩
   refine (concatV4 bk none 0 none 0 a c (some ⟨bd, 0, none⟩) 1 ((r, i), s) w hb (VRow.nil _) (VRow.nil _) hr hd).mono ?_
   rintro e w1 ⟨⟨v, row, rfl, ho⟩, hb⟩
   obtain ⟨a', c', rfl, hr'⟩ := cloneD_x_row ho HOks.out
   exact ⟨_, rfl, ⟨a', c', rfl, hr'⟩, hb⟩
  ·intro ev w hc hf hg hfix hdep hbel
   have e22 := hdep 17 (by decide)
   obtain ⟨a, c, h22, hr⟩ := e22
   have e22 : ev (.tmp 22) = .slice a 1 c := h22
   exact Or.inl ⟨trivial, Or.inl ⟨.slice a 1 c, w, by go_simp, ⟨a, c, rfl, hr⟩, Below.refl _ _⟩⟩
 ·intro v w2 hv hb2
  have r0 : v 0 = _ := hv 0 (by decide)
  have r1 : v 1 = _ := hv 1 (by decide)
  have r2 : v 2 = _ := hv 2 (by decide)
  have r3 : v 3 = _ := hv 3 (by decide)
  have r4 : v 4 = _ := hv 4 (by decide)
  have r5 : v 5 = _ := hv 5 (by decide)
  have r6 : v 6 = _ := hv 6 (by decide)
  have r7 : v 7 = _ := hv 7 (by decide)
  have r8 : v 8 = _ := hv 8 (by decide)
  have r9 : v 9 = _ := hv 9 (by decide)
  have r10 : v 10 = _ := hv 10 (by decide)
  have r11 : v 11 = _ := hv 11 (by decide)
  have r12 := hv 12 (by decide)
  have r13 : v 13 = _ := hv 13 (by decide)
  have r14 : v 14 = _ := hv 14 (by decide)
  have r15 := hv 15 (by decide)
  have r16 := hv 16 (by decide)
  have r17 := hv 17 (by decide)
  have r18 := hv 18 (by decide)
  simp only [Reg.putAll, Act.put, List.setIfInBounds_toArray, List.set_cons_zero, List.set_cons_succ, r0, r1, r2, r3, r4, r5, r6, r7, r8, r9, r10, r11, r13, r14]
  clear r0 r1 r2 r3 r4 r5 r6 r7 r8 r9 r10 r11 r13 r14 hv
  obtain ⟨a, c, hv0, hr⟩ := r18
  rw [hv0]
  have HR := Lib.hid hr; have HB := Lib.hid (HBox.out.trans (hb2.mono HBox.out.size)); clear hb2 r12 r15 r16 r17 hr hv0
  go_wp2_with fail
  go_ret
  exact ⟨⟨_, _, rfl, HR.out⟩, HB.out⟩
end Go.Proofs.YtiiidmphmojlgaaGreat
