import Derived.Test.YthbkieghkfpbhaaGreatZCut5
namespace Go.Proofs.YthbkieghkfpbhaaGreat
open Go.RowKit Go.Buf Go.LB
set_option linter.unusedSimpArgs false
set_option linter.unusedVariables false
set_option maxRecDepth 100000 in
set_option maxHeartbeats 12800000 in
theorem ctake_x (q : Nat) (r i s : Nat) (ql vl : Nat) (tm k : Nat) (pl : Nat) (n : Int) (t : ByteArray) (dl : Nat) (lq lv : List Dt.Dot) (lp : List ByteArray) (ld : List Dt.Dot) (hql : lq.length = ql) (hvl : lv.length = vl) (hpl : lp.length = pl) (hdl : ld.length = dl) (hok : Dt.okD ((r, i), s)) (hokq : ∀ x ∈ lq, Dt.okD x) (hokv : ∀ x ∈ lv, Dt.okD x) (hokd : ∀ x ∈ ld, Dt.okD x) (htm : tm < 18446744073709551616) (hk : k < 256) (hn1 : -9223372036854775808 ≤ n) (hn2 : n ≤ 9223372036854775807) (hm : Cm.may ⟨((r, i), s), lq, lv, tm, ⟨k, lp, n, t, ld⟩⟩ = true) (R z : List Nat) (er : Nat) (W : World) (h : RdX W q (cmtE ⟨((r, i), s), lq, lv, tm, ⟨k, lp, n, t, ld⟩⟩ ++ R) z er) :
    Calls Tryz.prog 15 #[.pointer (some ⟨q, 0, none⟩)] W fun e w' => ∃ r1 i1 s1 qa ql1 qc va vl1 vc tm1 k6 pa6 pl6 pc6 n6 t6 da6 dl6 dc6 er', e = .returned (cmV r1 i1 s1 qa ql1 qc va vl1 vc tm1 k6 pa6 pl6 pc6 n6 t6 da6 dl6 dc6) ∧ (er' = 0 → CmX W.heap.size w' (cmV r1 i1 s1 qa ql1 qc va vl1 vc tm1 k6 pa6 pl6 pc6 n6 t6 da6 dl6 dc6) ⟨((r, i), s), lq, lv, tm, ⟨k, lp, n, t, ld⟩⟩ ∧ er = 0) ∧ RdX w' q R z er' ∧ W.grownBy w' (some q) := by
  have hpa := Cm.may_parts hm
  have hmo := hpa.2.1
  have hq64 := hpa.2.2.1
  have hv64 := hpa.2.2.2.1
  simp only at hmo hq64 hv64
  rw [hql] at hq64
  rw [hvl] at hv64
  have hqlt := h.lt
  have hh : RdX W q (dotE ((r, i), s) ++ (Cd.num ql ++ (lq.flatMap dotE ++ (Cd.num vl ++ (lv.flatMap dotE ++ (Cd.num tm ++ (opE ⟨k, lp, n, t, ld⟩ ++ R))))))) z er := by
    have e : cmtE ⟨((r, i), s), lq, lv, tm, ⟨k, lp, n, t, ld⟩⟩ ++ R = dotE ((r, i), s) ++ (Cd.num ql ++ (lq.flatMap dotE ++ (Cd.num vl ++ (lv.flatMap dotE ++ (Cd.num tm ++ (opE ⟨k, lp, n, t, ld⟩ ++ R)))))) := by simp only [cmtE, listE, hql, hvl, List.append_assoc]
    rw [← e]; exact h
  obtain ⟨EJ, hE0, hE1, hE2, hE3, hE4⟩ : ∃ EJ : Nat → List Nat, EJ 0 = Cd.num ql ++ (lq.flatMap dotE ++ (Cd.num vl ++ (lv.flatMap dotE ++ (Cd.num tm ++ (opE ⟨k, lp, n, t, ld⟩ ++ R))))) ∧ EJ 1 = Cd.num vl ++ (lv.flatMap dotE ++ (Cd.num tm ++ (opE ⟨k, lp, n, t, ld⟩ ++ R))) ∧ EJ 2 = Cd.num tm ++ (opE ⟨k, lp, n, t, ld⟩ ++ R) ∧ EJ 3 = opE ⟨k, lp, n, t, ld⟩ ++ R ∧ EJ 4 = R :=
    ⟨fun x => match x with | 0 => _ | 1 => _ | 2 => _ | 3 => _ | _ => R, rfl, rfl, rfl, rfl, rfl⟩
  have HE0 := Lib.hid hE0; have HE1 := Lib.hid hE1; have HE2 := Lib.hid hE2; have HE3 := Lib.hid hE3; have HE4 := Lib.hid hE4
  have HH := Lib.hid hh; have HM := Lib.hid hm; have HMo := Lib.hid hmo; have HQl := Lib.hid hql; have HVl := Lib.hid hvl; have HPl := Lib.hid hpl; have HDl := Lib.hid hdl; have HOq := Lib.hid hokq; have HOv := Lib.hid hokv; have HOd := Lib.hid hokd; have HTm := Lib.hid htm; have HN1 := Lib.hid hn1; have HN2 := Lib.hid hn2; have HOk := Lib.hid hok; have HQ64 := Lib.hid hq64; have HV64 := Lib.hid hv64
  clear h hh hm hmo hql hvl hpl hdl hokq hokv hokd htm hn1 hn2 hpa hok hq64 hv64 hE0 hE1 hE2 hE3 hE4
  go_enter Tryz.func15, Tryz.ntmps15
  go_wp2_with fail
  refine (ctakeDot_x q ((r, i), s) HOk.out _ z er _ (HH.out.below (below_box _ _ _))).mono ?_
  rintro e w1 ⟨⟨⟨r1, i1⟩, s1⟩, e1, rfl, hok1, hv1, hr1, hg1⟩
  have hs1 := fresh_lt hg1
  have HV1 := Lib.hid hv1; have HR1 := Lib.hid hr1; have HG1 := Lib.hid hg1; have HOk1 := Lib.hid hok1
  clear hr1 hg1 hv1 hok1
  go_wp2_with fail
  refine (lists_any q _).mono ?_
  rintro e w3 ⟨rfl, hcell, hb2, hsz2⟩
  have hg2 := grownR HG1.out (grown_of_below (row := some q) hb2)
  obtain ⟨bx, hbx⟩ : ∃ b, b = w1.heap.size := ⟨_, rfl⟩
  rw [← hbx] at hcell hsz2 ⊢
  have hqb : q ≠ bx := by omega
  have HCell := Lib.hid hcell; have HB2 := Lib.hid hb2; have HSz2 := Lib.hid hsz2; have HG2 := Lib.hid hg2; have HQB := Lib.hid hqb; have HBxe := Lib.hid hbx
  clear hcell hb2 hsz2 hg2 hqb hbx
  go_wp2_with fail
  obtain ⟨own, hown⟩ : ∃ b, b = w3.heap.size := ⟨_, rfl⟩
  obtain ⟨XX, hXX⟩ : ∃ w, w = w3.alloc (.cells #[.int .u8 (r1 : Int), .int .u32 (i1 : Int), .int .u64 (s1 : Int)] 27) := ⟨_, rfl⟩
  have hOB := Blk.new w3 #[.int .u8 (r1 : Int), .int .u32 (i1 : Int), .int .u64 (s1 : Int)] 27
  rw [← hXX, ← hown] at hOB
  have hXG : (W.alloc (.cells #[.int .u8 0, .int .u32 0, .int .u64 0, .slice none 0 0, .slice none 0 0, .int .u64 0, .int .u8 0, .slice none 0 0, .int .i64 0, .string ⟨#[]⟩, .slice none 0 0] 34)).grownBy XX (some q) := by rw [hXX]; exact grownA HG2.out _
  have hXs : XX.heap.size = own + 1 := by rw [hXX, hown]; simp
  have hXB : Below w3.heap.size w3 XX := by rw [hXX]; exact below_box _ _ _
  rw [← hown, ← hXX]
  have hsz2 := HSz2.out; have hbx := HBxe.out
  have hqx : q < XX.heap.size := by omega
  have hbx2 : bx < XX.heap.size := by omega
  have hoq : own ≠ q := by omega
  have HQX := Lib.hid hqx; have HBX := Lib.hid hbx2
  have HOwn := Lib.hid (show ∀ w, Chg (fun k => k = q) XX w → w.cell? ⟨own, 0, none⟩ = some (.int .u8 (r1 : Int)) ∧ w.cell? ⟨own, 1, none⟩ = some (.int .u32 (i1 : Int)) ∧ w.cell? ⟨own, 2, none⟩ = some (.int .u64 (s1 : Int)) from fun w h => by
    have := hOB.chg h hoq
    exact ⟨this.cell 0, this.cell 1, this.cell 2⟩)
  have HJ0 := Lib.hid (show ∃ er', RdX XX.drew q (EJ 0) z er' ∧ (er' = 0 → e1 = 0) ∧ XX.drew.cell? ⟨bx, 0, none⟩ = some (.pointer (some ⟨q, 0, none⟩)) ∧ XX.heap.size ≤ XX.drew.heap.size from
    ⟨e1, by rw [HE0.out]; exact ((HR1.out.below HB2.out).below hXB).below (Below.refl _ _).drew, fun h => h, (hXB.cell (p := ⟨bx, 0, none⟩) (by simp only; omega)).trans HCell.out, Nat.le_refl _⟩)
  have HJB := Lib.hid (show ∀ (k : Nat) (w w' : World), Below w.heap.size w w' → (∃ er', RdX w q (EJ k) z er' ∧ (er' = 0 → e1 = 0) ∧ w.cell? ⟨bx, 0, none⟩ = some (.pointer (some ⟨q, 0, none⟩)) ∧ XX.heap.size ≤ w.heap.size) → ∃ er', RdX w' q (EJ k) z er' ∧ (er' = 0 → e1 = 0) ∧ w'.cell? ⟨bx, 0, none⟩ = some (.pointer (some ⟨q, 0, none⟩)) ∧ XX.heap.size ≤ w'.heap.size from fun k w w' hb ⟨er', h1, h2, h3, h4⟩ =>
    ⟨er', h1.below hb, h2, (hb.cell (World.block_lt_of_cell? _ _ h3)).trans h3, Nat.le_trans h4 hb.size⟩)
  have HXG := Lib.hid hXG; have HXs := Lib.hid hXs; have hWX : W.heap.size < XX.heap.size := fresh_lt hXG
  have HWX := Lib.hid hWX; have HOwnE := Lib.hid hown; have HHs1 := Lib.hid hs1
  clear hXX hOB hXG hXs hXB hsz2 hbx hqx hbx2 hoq hWX hown hs1
  refine RegH.region_list (by kernel_rfl) (fun k w => ∃ er', RdX w q (EJ k) z er' ∧ (er' = 0 → e1 = 0) ∧ w.cell? ⟨bx, 0, none⟩ = some (.pointer (some ⟨q, 0, none⟩)) ∧ XX.heap.size ≤ w.heap.size) [2, 4, 6, 8] [2, 4, 6, 8, 11] [11] [10] [RegH.plain (fun v _ => v = .agg #[.int .u8 (r1 : Int), .int .u32 (i1 : Int), .int .u64 (s1 : Int)]), RegH.plain (fun v _ => v = .func (.func 52) #[] #[.pointer (some ⟨bx, 0, none⟩)]), RegH.change (fun v w => TkL XX.heap.size q lq v w) (fun k => k = q) (fun u w w' => w.grownBy w' (some q) ∧ (Bad q w → Bad q w') ∧ ∃ er', RdX w' q (EJ 1) z er' ∧ (er' = 0 → e1 = 0) ∧ w'.cell? ⟨bx, 0, none⟩ = some (.pointer (some ⟨q, 0, none⟩)) ∧ XX.heap.size ≤ w'.heap.size), RegH.plain (fun v _ => v = .func (.func 52) #[] #[.pointer (some ⟨bx, 0, none⟩)]), RegH.change (fun v w => TkL XX.heap.size q lv v w) (fun k => k = q) (fun u w w' => w.grownBy w' (some q) ∧ (Bad q w → Bad q w') ∧ ∃ er', RdX w' q (EJ 2) z er' ∧ (er' = 0 → e1 = 0) ∧ w'.cell? ⟨bx, 0, none⟩ = some (.pointer (some ⟨q, 0, none⟩)) ∧ XX.heap.size ≤ w'.heap.size), RegH.plain (fun v _ => v = .pointer (some ⟨q, 0, none⟩)), RegH.change (fun v w => TkN q tm v w) (fun k => k = q) (fun u w w' => w.grownBy w' (some q) ∧ (Bad q w → Bad q w') ∧ ∃ er', RdX w' q (EJ 3) z er' ∧ (er' = 0 → e1 = 0) ∧ w'.cell? ⟨bx, 0, none⟩ = some (.pointer (some ⟨q, 0, none⟩)) ∧ XX.heap.size ≤ w'.heap.size), RegH.plain (fun v _ => v = .pointer (some ⟨q, 0, none⟩)), RegH.change (fun v w => TkO XX.heap.size q ⟨k, lp, n, t, ld⟩ v w) (fun k => k = q) (fun u w w' => w.grownBy w' (some q) ∧ (Bad q w → Bad q w') ∧ ∃ er', RdX w' q (EJ 4) z er' ∧ (er' = 0 → e1 = 0) ∧ w'.cell? ⟨bx, 0, none⟩ = some (.pointer (some ⟨q, 0, none⟩)) ∧ XX.heap.size ≤ w'.heap.size), RegH.plain (fun v w => ∃ (qa : Option Addr) (ql1 qc : Nat) (va : Option Addr) (vl1 vc tm1 k6 : Nat) (pa6 : Option Addr) (pl6 pc6 : Nat) (n6 : Int) (t6 : ByteArray) (da6 : Option Addr) (dl6 dc6 : Nat), v = .agg #[.int .u8 (r1 : Int), .int .u32 (i1 : Int), .int .u64 (s1 : Int), .slice qa ql1 qc, .slice va vl1 vc, .int .u64 (tm1 : Int), .int .u8 (k6 : Int), .slice pa6 pl6 pc6, .int .i64 n6, .string t6, .slice da6 dl6 dc6] ∧ CmP XX.heap.size q ⟨((r, i), s), lq, lv, tm, ⟨k, lp, n, t, ld⟩⟩ qa ql1 qc va vl1 vc tm1 k6 pa6 pl6 pc6 n6 t6 da6 dl6 dc6 w), RegH.fresh (fun v w => ∃ b, v = .pointer (some ⟨b, 0, none⟩) ∧ XX.heap.size ≤ b ∧ Blk w b 34 [.int .u8 0, .int .u32 0, .int .u64 0, .slice none 0 0, .slice none 0 0, .int .u64 0, .int .u8 0, .slice none 0 0, .int .i64 0, .string ⟨#[]⟩, .slice none 0 0]), RegH.change (fun v w => ∃ (b : Nat) (qa : Option Addr) (ql1 qc : Nat) (va : Option Addr) (vl1 vc tm1 k6 : Nat) (pa6 : Option Addr) (pl6 pc6 : Nat) (n6 : Int) (t6 : ByteArray) (da6 : Option Addr) (dl6 dc6 : Nat), v = .pointer (some ⟨b, 0, none⟩) ∧ XX.heap.size ≤ b ∧ Blk w b 34 [.int .u8 (r1 : Int), .int .u32 (i1 : Int), .int .u64 (s1 : Int), .slice qa ql1 qc, .slice va vl1 vc, .int .u64 (tm1 : Int), .int .u8 (k6 : Int), .slice pa6 pl6 pc6, .int .i64 n6, .string t6, .slice da6 dl6 dc6] ∧ CmP XX.heap.size q ⟨((r, i), s), lq, lv, tm, ⟨k, lp, n, t, ld⟩⟩ qa ql1 qc va vl1 vc tm1 k6 pa6 pl6 pc6 n6 t6 da6 dl6 dc6 w) (fun k => XX.heap.size ≤ k) (fun u w w' => ∃ b, XX.heap.size ≤ b ∧ w.grownBy w' (some b))] (by kernel_rfl) (by kernel_rfl) (by kernel_rfl) (fun i hi => by simp only [List.mem_cons, List.not_mem_nil, or_false] at hi; rcases hi with rfl <;> exact fun _ _ _ h => h.1) (by kernel_rfl) (by kernel_rfl) rfl (HJ0.out) (HJB.out) ?_ ?_ ?_ ?_ ?_ ?_
  · exact ⟨Or.inr ⟨fun _ h => h, fun _ _ _ h => h⟩, Or.inr ⟨fun _ h => h, fun _ _ _ h => h⟩, Or.inl (by decide), Or.inr ⟨fun _ h => h, fun _ _ _ h => h⟩, Or.inl (by decide), Or.inr ⟨fun _ h => h, fun _ _ _ h => h⟩, Or.inl (by decide), Or.inr ⟨fun _ h => h, fun _ _ _ h => h⟩, Or.inl (by decide), Or.inr ⟨fun _ h => h, fun _ _ _ h => h⟩, Or.inr ⟨fun _ h => h, fun _ _ _ h => h.2⟩, Or.inl (by decide), trivial⟩
  · exact ⟨⟨fun _ _ _ h => h, Or.inl ⟨by decide, fun _ wx wy n h => (HJB.out) n wx wy (RegH.to_below h (fun _ h => h))⟩⟩, ⟨fun _ _ _ h => h, Or.inl ⟨by decide, fun _ wx wy n h => (HJB.out) n wx wy (RegH.to_below h (fun _ h => h))⟩⟩, ⟨(fun u wa wb h => Chg.of_grown h.1 |>.mono (fun k _ e => by simpa using e)), Or.inr ⟨0, rfl, (fun u wa wb h _ => h.2.2)⟩⟩, ⟨fun _ _ _ h => h, Or.inl ⟨by decide, fun _ wx wy n h => (HJB.out) n wx wy (RegH.to_below h (fun _ h => h))⟩⟩, ⟨(fun u wa wb h => Chg.of_grown h.1 |>.mono (fun k _ e => by simpa using e)), Or.inr ⟨1, rfl, (fun u wa wb h _ => h.2.2)⟩⟩, ⟨fun _ _ _ h => h, Or.inl ⟨by decide, fun _ wx wy n h => (HJB.out) n wx wy (RegH.to_below h (fun _ h => h))⟩⟩, ⟨(fun u wa wb h => Chg.of_grown h.1 |>.mono (fun k _ e => by simpa using e)), Or.inr ⟨2, rfl, (fun u wa wb h _ => h.2.2)⟩⟩, ⟨fun _ _ _ h => h, Or.inl ⟨by decide, fun _ wx wy n h => (HJB.out) n wx wy (RegH.to_below h (fun _ h => h))⟩⟩, ⟨(fun u wa wb h => Chg.of_grown h.1 |>.mono (fun k _ e => by simpa using e)), Or.inr ⟨3, rfl, (fun u wa wb h _ => h.2.2)⟩⟩, ⟨fun _ _ _ h => h, Or.inl ⟨by decide, fun _ wx wy n h => (HJB.out) n wx wy (RegH.to_below h (fun _ h => h))⟩⟩, ⟨fun _ _ _ h => h.2, Or.inl ⟨by decide, fun _ wx wy n h => (HJB.out) n wx wy (RegH.to_below h.2 (fun _ h => h))⟩⟩, ⟨(fun u wa wb h => by obtain ⟨b, h1, h2⟩ := h; exact (Chg.of_grown h2).mono (fun k _ e => by cases e; exact h1)), Or.inl ⟨by decide, (fun u wa wb n h hj => by obtain ⟨b, h1, h2⟩ := h; obtain ⟨er', g1, g2, g3, g4⟩ := hj; exact ⟨er', g1.grown h2 (fun k hk => by cases hk; exact Nat.lt_of_lt_of_le HQX.out h1), g2, h2.cell g3 (by have := HBX.out; simp; omega), Nat.le_trans g4 h2.size⟩)⟩⟩, trivial⟩
  · refine ⟨k4, k4, (fun v wa wb hb h => by exact TkL.below h hb), k4, (fun v wa wb hb h => by exact TkL.below h hb), k4, (fun v wa wb hb h => by exact TkN.step h (fun h => h.below hb)), k4, (fun v wa wb hb h => by exact TkO.below h hb), (fun v wa wb hb h => by obtain ⟨qa, ql1, qc, va, vl1, vc, tm1, k6, pa6, pl6, pc6, n6, t6, da6, dl6, dc6, h1, h2⟩ := h; exact ⟨qa, ql1, qc, va, vl1, vc, tm1, k6, pa6, pl6, pc6, n6, t6, da6, dl6, dc6, h1, h2.below hb⟩), (fun v wa wb hb h => by obtain ⟨b, h1, h2, h3⟩ := h; exact ⟨b, h1, h2, h3.below hb⟩), (fun v wa wb hb h => by obtain ⟨b, qa, ql1, qc, va, vl1, vc, tm1, k6, pa6, pl6, pc6, n6, t6, da6, dl6, dc6, h1, h2, h3, h4⟩ := h; exact ⟨b, qa, ql1, qc, va, vl1, vc, tm1, k6, pa6, pl6, pc6, n6, t6, da6, dl6, dc6, h1, h2, h3.below hb, h4.below hb⟩), trivial⟩
  · refine ⟨⟨Or.inr (Or.inr (Or.inr (fun _ _ _ _ _ _ h => h))), Or.inr (Or.inr (Or.inr (fun _ _ _ _ _ _ h => h))), Or.inl rfl, Or.inr (Or.inr (Or.inr (fun _ _ _ _ _ _ h => h))), Or.inr (Or.inl (by kernel_rfl)), Or.inr (Or.inr (Or.inr (fun _ _ _ _ _ _ h => h))), Or.inr (Or.inl (by kernel_rfl)), Or.inr (Or.inr (Or.inr (fun _ _ _ _ _ _ h => h))), Or.inr (Or.inl (by kernel_rfl)), Or.inr (Or.inl (by kernel_rfl)), Or.inr (Or.inr (Or.inr (fun u v wa wb hap hr h => by obtain ⟨b, h1, h2, h3⟩ := h; exact ⟨b, h1, h2, h3.chg (Chg.of_grown hr.1) (by have := HQX.out; simp; omega)⟩))), Or.inr (Or.inl (by kernel_rfl)), trivial⟩, ⟨Or.inr (Or.inr (Or.inr (fun _ _ _ _ _ _ h => h))), Or.inr (Or.inr (Or.inr (fun _ _ _ _ _ _ h => h))), Or.inr (Or.inr (Or.inr (fun u v wa wb hap hr h => by exact TkL.step h hr.1 HQX.out hr.2.1))), Or.inr (Or.inr (Or.inr (fun _ _ _ _ _ _ h => h))), Or.inl rfl, Or.inr (Or.inr (Or.inr (fun _ _ _ _ _ _ h => h))), Or.inr (Or.inl (by kernel_rfl)), Or.inr (Or.inr (Or.inr (fun _ _ _ _ _ _ h => h))), Or.inr (Or.inl (by kernel_rfl)), Or.inr (Or.inl (by kernel_rfl)), Or.inr (Or.inr (Or.inr (fun u v wa wb hap hr h => by obtain ⟨b, h1, h2, h3⟩ := h; exact ⟨b, h1, h2, h3.chg (Chg.of_grown hr.1) (by have := HQX.out; simp; omega)⟩))), Or.inr (Or.inl (by kernel_rfl)), trivial⟩, ⟨Or.inr (Or.inr (Or.inr (fun _ _ _ _ _ _ h => h))), Or.inr (Or.inr (Or.inr (fun _ _ _ _ _ _ h => h))), Or.inr (Or.inr (Or.inr (fun u v wa wb hap hr h => by exact TkL.step h hr.1 HQX.out hr.2.1))), Or.inr (Or.inr (Or.inr (fun _ _ _ _ _ _ h => h))), Or.inr (Or.inr (Or.inr (fun u v wa wb hap hr h => by exact TkL.step h hr.1 HQX.out hr.2.1))), Or.inr (Or.inr (Or.inr (fun _ _ _ _ _ _ h => h))), Or.inl rfl, Or.inr (Or.inr (Or.inr (fun _ _ _ _ _ _ h => h))), Or.inr (Or.inl (by kernel_rfl)), Or.inr (Or.inl (by kernel_rfl)), Or.inr (Or.inr (Or.inr (fun u v wa wb hap hr h => by obtain ⟨b, h1, h2, h3⟩ := h; exact ⟨b, h1, h2, h3.chg (Chg.of_grown hr.1) (by have := HQX.out; simp; omega)⟩))), Or.inr (Or.inl (by kernel_rfl)), trivial⟩, ⟨Or.inr (Or.inr (Or.inr (fun _ _ _ _ _ _ h => h))), Or.inr (Or.inr (Or.inr (fun _ _ _ _ _ _ h => h))), Or.inr (Or.inr (Or.inr (fun u v wa wb hap hr h => by exact TkL.step h hr.1 HQX.out hr.2.1))), Or.inr (Or.inr (Or.inr (fun _ _ _ _ _ _ h => h))), Or.inr (Or.inr (Or.inr (fun u v wa wb hap hr h => by exact TkL.step h hr.1 HQX.out hr.2.1))), Or.inr (Or.inr (Or.inr (fun _ _ _ _ _ _ h => h))), Or.inr (Or.inr (Or.inr (fun u v wa wb hap hr h => by exact TkN.step h hr.2.1))), Or.inr (Or.inr (Or.inr (fun _ _ _ _ _ _ h => h))), Or.inl rfl, Or.inr (Or.inl (by kernel_rfl)), Or.inr (Or.inr (Or.inr (fun u v wa wb hap hr h => by obtain ⟨b, h1, h2, h3⟩ := h; exact ⟨b, h1, h2, h3.chg (Chg.of_grown hr.1) (by have := HQX.out; simp; omega)⟩))), Or.inr (Or.inl (by kernel_rfl)), trivial⟩, ⟨Or.inr (Or.inr (Or.inr (fun _ _ _ _ _ _ h => h))), Or.inr (Or.inr (Or.inr (fun _ _ _ _ _ _ h => h))), Or.inr (Or.inr (Or.inl (by kernel_rfl))), Or.inr (Or.inr (Or.inr (fun _ _ _ _ _ _ h => h))), Or.inr (Or.inr (Or.inl (by kernel_rfl))), Or.inr (Or.inr (Or.inr (fun _ _ _ _ _ _ h => h))), Or.inr (Or.inr (Or.inl (by kernel_rfl))), Or.inr (Or.inr (Or.inr (fun _ _ _ _ _ _ h => h))), Or.inr (Or.inr (Or.inl (by kernel_rfl))), Or.inr (Or.inr (Or.inl (by kernel_rfl))), Or.inr (Or.inr (Or.inl (by kernel_rfl))), Or.inl rfl, trivial⟩, trivial⟩
  · refine ⟨?_, ?_, ?_, ?_, ?_, ?_, ?_, ?_, ?_, ?_, ?_, ?_, trivial⟩
    · intro ev w hc hf hg hfix hdep hchg hinv
      have e3 : ev (.tmp 3) = _ := hfix 3 (by decide)
      obtain ⟨d0, d1, d2⟩ := HOwn.out w (Chg.mono (RegH.undrewC (hchg [2, 4, 6, 8] (by kernel_rfl))) (fun k _ h => by rcases h with h | h | h | h | h <;> first | exact h.elim | exact h))
      exact Or.inl ⟨trivial, Or.inl ⟨_, w, by go_simp, rfl, Chg.refl _ _⟩⟩
    · intro ev w hc hf hg hfix hdep hchg hinv
      have e4 : ev (.tmp 4) = _ := hfix 4 (by decide)
      exact Or.inl ⟨trivial, Or.inl ⟨_, w, by go_simp, rfl, Chg.refl _ _⟩⟩
    · intro ev w hc hf hg hfix hdep hchg hinv
      have e11 : ev (.tmp 11) = _ := hdep 1 (by decide)
      refine Or.inl ⟨trivial, Or.inr (Or.inl ⟨52, #[.int .u64 64, .pointer (some ⟨bx, 0, none⟩)], w, by go_simp, ?_⟩)⟩
      have hj := hinv 0 rfl
      obtain ⟨er0, hrd, he0, hcl, hsz⟩ := hj
      rw [HE0.out] at hrd
      refine (clist64_x q bx lq _ HQl.out HQ64.out HOq.out _ z er0 w HQB.out hcl hrd).mono ?_
      rintro e w9 ⟨v9, l9, er9, rfl, ho, hln, hok9, hv9, hr9, hg9⟩
      obtain ⟨a, c, e9, _⟩ := vrow_of_ob ho rfl hok9
      subst e9
      exact ⟨_, rfl, ⟨a, _, c, l9, rfl, rfl, ho.base hsz, hok9, hln, or_bad hr9 (fun h => (hv9 h).1)⟩, hg9, bad_step hrd hr9 (fun h => (hv9 h).2), er9, by rw [HE1.out]; exact hr9, fun h => he0 ((hv9 h).2), hg9.cell hcl (by simpa using HQB.out.symm), Nat.le_trans hsz hg9.size⟩
    · intro ev w hc hf hg hfix hdep hchg hinv
      have e4 : ev (.tmp 4) = _ := hfix 4 (by decide)
      exact Or.inl ⟨trivial, Or.inl ⟨_, w, by go_simp, rfl, Chg.refl _ _⟩⟩
    · intro ev w hc hf hg hfix hdep hchg hinv
      have e13 : ev (.tmp 13) = _ := hdep 3 (by decide)
      refine Or.inl ⟨trivial, Or.inr (Or.inl ⟨52, #[.int .u64 64, .pointer (some ⟨bx, 0, none⟩)], w, by go_simp, ?_⟩)⟩
      have hj := hinv 1 rfl
      obtain ⟨er0, hrd, he0, hcl, hsz⟩ := hj
      rw [HE1.out] at hrd
      refine (clist64_x q bx lv _ HVl.out HV64.out HOv.out _ z er0 w HQB.out hcl hrd).mono ?_
      rintro e w9 ⟨v9, l9, er9, rfl, ho, hln, hok9, hv9, hr9, hg9⟩
      obtain ⟨a, c, e9, _⟩ := vrow_of_ob ho rfl hok9
      subst e9
      exact ⟨_, rfl, ⟨a, _, c, l9, rfl, rfl, ho.base hsz, hok9, hln, or_bad hr9 (fun h => (hv9 h).1)⟩, hg9, bad_step hrd hr9 (fun h => (hv9 h).2), er9, by rw [HE2.out]; exact hr9, fun h => he0 ((hv9 h).2), hg9.cell hcl (by simpa using HQB.out.symm), Nat.le_trans hsz hg9.size⟩
    · intro ev w hc hf hg hfix hdep hchg hinv
      have e0 : ev (.tmp 0) = _ := hfix 0 (by decide)
      exact Or.inl ⟨trivial, Or.inl ⟨_, w, by go_simp, rfl, Chg.refl _ _⟩⟩
    · intro ev w hc hf hg hfix hdep hchg hinv
      have e15 : ev (.tmp 15) = _ := hdep 5 (by decide)
      refine Or.inl ⟨trivial, Or.inr (Or.inl ⟨35, #[.pointer (some ⟨q, 0, none⟩)], w, by go_simp, ?_⟩)⟩
      have hj := hinv 2 rfl
      obtain ⟨er0, hrd, he0, hcl, hsz⟩ := hj
      rw [HE2.out] at hrd
      refine (Num_x tm HTm.out hrd).mono ?_
      rintro e w9 ⟨t9, er9, rfl, hv9, hr9, hg9⟩
      have hv8 : er9 = 0 → t9 = tm ∧ er0 = 0 := fun h => by rcases hv9 with ⟨h1, _, h3⟩ | ⟨_, h2⟩ <;> first | exact ⟨h1, h3⟩ | exact absurd h h2
      exact ⟨_, rfl, ⟨t9, rfl, or_bad hr9 (fun h => (hv8 h).1)⟩, hg9, bad_step hrd hr9 (fun h => (hv8 h).2), er9, by rw [HE3.out]; exact hr9, fun h => he0 ((hv8 h).2), hg9.cell hcl (by simpa using HQB.out.symm), Nat.le_trans hsz hg9.size⟩
    · intro ev w hc hf hg hfix hdep hchg hinv
      have e0 : ev (.tmp 0) = _ := hfix 0 (by decide)
      exact Or.inl ⟨trivial, Or.inl ⟨_, w, by go_simp, rfl, Chg.refl _ _⟩⟩
    · intro ev w hc hf hg hfix hdep hchg hinv
      have e17 : ev (.tmp 17) = _ := hdep 7 (by decide)
      refine Or.inl ⟨trivial, Or.inr (Or.inl ⟨36, #[.pointer (some ⟨q, 0, none⟩)], w, by go_simp, ?_⟩)⟩
      have hj := hinv 3 rfl
      obtain ⟨er0, hrd, he0, hcl, hsz⟩ := hj
      rw [HE3.out] at hrd
      refine (take_x q k hk pl n HN1.out HN2.out t dl lp ld HPl.out HDl.out HOd.out HMo.out R z er0 w hrd).mono ?_
      rintro e w9 ⟨x9, o9, er9, rfl, ho, hv9, hr9, hg9⟩
      exact ⟨_, rfl, ⟨o9, ho.base hsz, or_bad hr9 (fun h => (hv9 h).1)⟩, hg9, bad_step hrd hr9 (fun h => (hv9 h).2), er9, by rw [HE4.out]; exact hr9, fun h => he0 ((hv9 h).2), hg9.cell hcl (by simpa using HQB.out.symm), Nat.le_trans hsz hg9.size⟩
    · intro ev w hc hf hg hfix hdep hchg hinv
      have e10 : ev (.tmp 10) = _ := hdep 0 (by decide)
      have e12 := hdep 2 (by decide)
      have e14 := hdep 4 (by decide)
      have e16 := hdep 6 (by decide)
      have e18 := hdep 8 (by decide)
      obtain ⟨qa, ql1, qc, va, vl1, vc, tm1, k6, pa6, pl6, pc6, n6, t6, da6, dl6, dc6, f12, f14, f16, f18, hP⟩ := CmP.mk' (C := ⟨((r, i), s), lq, lv, tm, ⟨k, lp, n, t, ld⟩⟩) e12 e14 e16 e18
      have e12 : ev (.tmp 12) = .slice qa ql1 qc := f12
      have e14 : ev (.tmp 14) = .slice va vl1 vc := f14
      have e16 : ev (.tmp 16) = .int .u64 (tm1 : Int) := f16
      have e18 : ev (.tmp 18) = .agg #[.int .u8 (k6 : Int), .slice pa6 pl6 pc6, .int .i64 n6, .string t6, .slice da6 dl6 dc6] := f18
      exact Or.inl ⟨trivial, Or.inl ⟨.agg #[.int .u8 (r1 : Int), .int .u32 (i1 : Int), .int .u64 (s1 : Int), .slice qa ql1 qc, .slice va vl1 vc, .int .u64 (tm1 : Int), .int .u8 (k6 : Int), .slice pa6 pl6 pc6, .int .i64 n6, .string t6, .slice da6 dl6 dc6], w, by go_simp, ⟨qa, ql1, qc, va, vl1, vc, tm1, k6, pa6, pl6, pc6, n6, t6, da6, dl6, dc6, rfl, hP⟩, Chg.refl _ _⟩⟩
    · intro ev w hc hf hg hfix hdep hchg hinv
      have hsz := (hchg [2, 4, 6, 8] (by kernel_rfl)).size
      exact Or.inl ⟨trivial, Or.inl ⟨.pointer (some ⟨w.heap.size, 0, none⟩), w.alloc (.cells #[.int .u8 0, .int .u32 0, .int .u64 0, .slice none 0 0, .slice none 0 0, .int .u64 0, .int .u8 0, .slice none 0 0, .int .i64 0, .string ⟨#[]⟩, .slice none 0 0] 34), by go_simp, ⟨w.heap.size, rfl, hsz, Blk.new w _ _⟩, ⟨rfl, by simp⟩, (Chg.refl _ w).alloc _⟩⟩
    · intro ev w hc hf hg hfix hdep hchg hinv
      have e5 := hdep 10 (by decide)
      have e19 := hdep 9 (by decide)
      obtain ⟨qa, ql1, qc, va, vl1, vc, tm1, k6, pa6, pl6, pc6, n6, t6, da6, dl6, dc6, hv, hP⟩ := e19
      have e19 : ev (.tmp 19) = .agg #[.int .u8 (r1 : Int), .int .u32 (i1 : Int), .int .u64 (s1 : Int), .slice qa ql1 qc, .slice va vl1 vc, .int .u64 (tm1 : Int), .int .u8 (k6 : Int), .slice pa6 pl6 pc6, .int .i64 n6, .string t6, .slice da6 dl6 dc6] := hv
      obtain ⟨b, hvb, hub, hbk⟩ := e5
      have e5 : ev (.tmp 5) = .pointer (some ⟨b, 0, none⟩) := hvb
      have d0 := hbk.cell 0; have d1 := hbk.cell 1; have d2 := hbk.cell 2; have d3 := hbk.cell 3; have d4 := hbk.cell 4; have d5 := hbk.cell 5; have d6 := hbk.cell 6; have d7 := hbk.cell 7; have d8 := hbk.cell 8; have d9 := hbk.cell 9; have d10 := hbk.cell 10
      have y0 := hbk.frozen 0; have y1 := hbk.frozen 1; have y2 := hbk.frozen 2; have y3 := hbk.frozen 3; have y4 := hbk.frozen 4; have y5 := hbk.frozen 5; have y6 := hbk.frozen 6; have y7 := hbk.frozen 7; have y8 := hbk.frozen 8; have y9 := hbk.frozen 9; have y10 := hbk.frozen 10
      simp only [List.getElem?_cons_succ, List.getElem?_cons_zero] at d0 d1 d2 d3 d4 d5 d6 d7 d8 d9 d10
      have hg11 := grown_set11 w b (.int .u8 (r1 : Int)) (.int .u32 (i1 : Int)) (.int .u64 (s1 : Int)) (.slice qa ql1 qc) (.slice va vl1 vc) (.int .u64 (tm1 : Int)) (.int .u8 (k6 : Int)) (.slice pa6 pl6 pc6) (.int .i64 n6) (.string t6) (.slice da6 dl6 dc6)
      exact Or.inl ⟨trivial, Or.inr (Or.inr ⟨(((((((((((w.setCell ⟨b, 0, none⟩ (.int .u8 (r1 : Int))).setCell ⟨b, 1, none⟩ (.int .u32 (i1 : Int))).setCell ⟨b, 2, none⟩ (.int .u64 (s1 : Int))).setCell ⟨b, 3, none⟩ (.slice qa ql1 qc)).setCell ⟨b, 4, none⟩ (.slice va vl1 vc)).setCell ⟨b, 5, none⟩ (.int .u64 (tm1 : Int))).setCell ⟨b, 6, none⟩ (.int .u8 (k6 : Int))).setCell ⟨b, 7, none⟩ (.slice pa6 pl6 pc6)).setCell ⟨b, 8, none⟩ (.int .i64 n6)).setCell ⟨b, 9, none⟩ (.string t6)).setCell ⟨b, 10, none⟩ (.slice da6 dl6 dc6)), by go_simp, ⟨b, qa, ql1, qc, va, vl1, vc, tm1, k6, pa6, pl6, pc6, n6, t6, da6, dl6, dc6, e5, hub, blk11 hbk _ _ _ _ _ _ _ _ _ _ _, hP.off hbk hg11 (Nat.lt_of_lt_of_le HQX.out hub)⟩, ⟨b, hub, hg11⟩⟩)⟩
  · intro v w2 hv hlk hap hb2 hJ2
    have lk11 := hlk 10 11 (by kernel_rfl)
    have r11 := hv 11 (by decide) (by decide)
    simp only [Reg.putAll, Act.put, List.setIfInBounds_toArray, List.set_cons_zero, List.set_cons_succ]
    clear hv hlk hap
    obtain ⟨b, qa, ql1, qc, va, vl1, vc, tm1, k6, pa6, pl6, pc6, n6, t6, da6, dl6, dc6, hv11, hub, hbk, hP⟩ := r11
    simp only [Nat.zero_add, Nat.reduceAdd]
    rw [← lk11, hv11]
    obtain ⟨e6, hrd, he6, _, _⟩ := hJ2
    have hrd2 : RdX w2 q R z e6 := by rw [← HE4.out]; exact hrd
    have hXw : XX.grownBy w2 (some q) := ⟨hb2.os, hb2.tape, hb2.output, hb2.size, fun k hk hne => hb2.block k hk (fun h => by
      rcases h with h | h | h | h | h | h
      · exact hne (by rw [show k = q from h])
      · exact hne (by rw [show k = q from h])
      · exact hne (by rw [show k = q from h])
      · exact hne (by rw [show k = q from h])
      · have : XX.heap.size ≤ k := h; omega
      · exact h)⟩
    obtain ⟨l3, l4, p6, d6, hl3, hl4, hp6, hd6, ho3, ho4, ho6, ho8, hk3, hk4, hk8, hs6, hk6, hbv, hbp, hbd, heq⟩ := hP
    have HBk := Lib.hid hbk; have HRd := Lib.hid hrd2; have HE6 := Lib.hid he6; have HXw := Lib.hid (grownR HXG.out hXw); have HUB := Lib.hid hub
    have HL3 := Lib.hid hl3; have HL4 := Lib.hid hl4; have HP6 := Lib.hid hp6; have HD6 := Lib.hid hd6; have HO3 := Lib.hid ho3; have HO4 := Lib.hid ho4; have HO6 := Lib.hid ho6; have HO8 := Lib.hid ho8; have HK3 := Lib.hid hk3; have HK4 := Lib.hid hk4; have HK8 := Lib.hid hk8; have HS6 := Lib.hid hs6; have HEq := Lib.hid heq
    have d0 := hbk.cell 0; have d1 := hbk.cell 1; have d2 := hbk.cell 2; have d3 := hbk.cell 3; have d4 := hbk.cell 4; have d5 := hbk.cell 5; have d6' := hbk.cell 6; have d7 := hbk.cell 7; have d8 := hbk.cell 8; have d9 := hbk.cell 9; have d10 := hbk.cell 10
    simp only [List.getElem?_cons_succ, List.getElem?_cons_zero] at d0 d1 d2 d3 d4 d5 d6' d7 d8 d9 d10
    clear hrd hrd2 he6 hXw hb2 hbk hub hl3 hl4 hp6 hd6 ho3 ho4 ho6 ho8 hk3 hk4 hk8 hs6 heq lk11 hv11
    go_wp2_with fail
    refine (cmay_any r1 i1 s1 qa ql1 qc va vl1 vc tm1 k6 pa6 pl6 pc6 n6 t6 da6 dl6 dc6 l3 l4 p6 d6 _ (ob_vrow HO3.out HL3.out HK3.out) HL3.out (ob_vrow HO4.out HL4.out HK4.out) HL4.out (ob_srow HO6.out HP6.out HS6.out) HP6.out (ob_vrow HO8.out HD6.out HK8.out) HD6.out hk6 (by omega) (by omega) (by omega)).mono ?_
    rintro e w6 ⟨rfl, hb6⟩
    clear d0 d1 d2 d3 d4 d5 d6' d7 d8 d9 d10
    have hbk6 := HBk.out.below hb6
    have d0 := hbk6.cell 0; have d1 := hbk6.cell 1; have d2 := hbk6.cell 2; have d3 := hbk6.cell 3; have d4 := hbk6.cell 4; have d5 := hbk6.cell 5; have d6' := hbk6.cell 6; have d7 := hbk6.cell 7; have d8 := hbk6.cell 8; have d9 := hbk6.cell 9; have d10 := hbk6.cell 10
    simp only [List.getElem?_cons_succ, List.getElem?_cons_zero] at d0 d1 d2 d3 d4 d5 d6' d7 d8 d9 d10
    have hG6 := grownR HXw.out (grown_of_below (row := some q) hb6)
    have hblk := boxKept hG6 hqlt
    have hz0 : w6.cell? ⟨W.heap.size, 0, none⟩ = some (.int .u8 0) := by rw [cell_of_row w6 W.heap.size 0 _ _ _ hblk]; rfl
    have hz1 : w6.cell? ⟨W.heap.size, 1, none⟩ = some (.int .u32 0) := by rw [cell_of_row w6 W.heap.size 1 _ _ _ hblk]; rfl
    have hz2 : w6.cell? ⟨W.heap.size, 2, none⟩ = some (.int .u64 0) := by rw [cell_of_row w6 W.heap.size 2 _ _ _ hblk]; rfl
    have hz3 : w6.cell? ⟨W.heap.size, 3, none⟩ = some (.slice none 0 0) := by rw [cell_of_row w6 W.heap.size 3 _ _ _ hblk]; rfl
    have hz4 : w6.cell? ⟨W.heap.size, 4, none⟩ = some (.slice none 0 0) := by rw [cell_of_row w6 W.heap.size 4 _ _ _ hblk]; rfl
    have hz5 : w6.cell? ⟨W.heap.size, 5, none⟩ = some (.int .u64 0) := by rw [cell_of_row w6 W.heap.size 5 _ _ _ hblk]; rfl
    have hz6 : w6.cell? ⟨W.heap.size, 6, none⟩ = some (.int .u8 0) := by rw [cell_of_row w6 W.heap.size 6 _ _ _ hblk]; rfl
    have hz7 : w6.cell? ⟨W.heap.size, 7, none⟩ = some (.slice none 0 0) := by rw [cell_of_row w6 W.heap.size 7 _ _ _ hblk]; rfl
    have hz8 : w6.cell? ⟨W.heap.size, 8, none⟩ = some (.int .i64 0) := by rw [cell_of_row w6 W.heap.size 8 _ _ _ hblk]; rfl
    have hz9 : w6.cell? ⟨W.heap.size, 9, none⟩ = some (.string ⟨#[]⟩) := by rw [cell_of_row w6 W.heap.size 9 _ _ _ hblk]; rfl
    have hz10 : w6.cell? ⟨W.heap.size, 10, none⟩ = some (.slice none 0 0) := by rw [cell_of_row w6 W.heap.size 10 _ _ _ hblk]; rfl
    have hf0 := frozen_of_row w6 W.heap.size 0 _ _ hblk
    have hf1 := frozen_of_row w6 W.heap.size 1 _ _ hblk
    have hf2 := frozen_of_row w6 W.heap.size 2 _ _ hblk
    have hf3 := frozen_of_row w6 W.heap.size 3 _ _ hblk
    have hf4 := frozen_of_row w6 W.heap.size 4 _ _ hblk
    have hf5 := frozen_of_row w6 W.heap.size 5 _ _ hblk
    have hf6 := frozen_of_row w6 W.heap.size 6 _ _ hblk
    have hf7 := frozen_of_row w6 W.heap.size 7 _ _ hblk
    have hf8 := frozen_of_row w6 W.heap.size 8 _ _ hblk
    have hf9 := frozen_of_row w6 W.heap.size 9 _ _ hblk
    have hf10 := frozen_of_row w6 W.heap.size 10 _ _ hblk
    have HR6 := Lib.hid (HRd.out.below hb6); have HGW := Lib.hid (grownR (grown_of_below (row := some q) (below_box W _ _)) hG6)
    have HO3 := Lib.hid (HO3.out.below hb6); have HO4 := Lib.hid (HO4.out.below hb6); have HO6 := Lib.hid (HO6.out.below hb6); have HO8 := Lib.hid (HO8.out.below hb6)
    have hwx := HWX.out
    have hw6 : W.heap.size ≤ w6.heap.size := HGW.out.size
    have HW6 := Lib.hid hw6
    clear hblk hG6 hbk6 hb6 hw6
    by_cases he : e6 = 0
    · subst he
      have he1 := HE6.out rfl
      obtain ⟨hd1, her⟩ := HV1.out he1
      rcases HEq.out with ⟨q1, q2, q3, q4⟩ | hbad
      case inr => exact absurd hbad (not_bad HRd.out)
      have hmt : Cm.may ⟨((r1, i1), s1), l3, l4, tm1, ⟨k6, p6, n6, t6, d6⟩⟩ = true := by rw [hd1, q1, q2, q3, q4]; exact HM.out
      rw [hmt]
      have HQ1 := Lib.hid q1; have HQ2 := Lib.hid q2; have HQ3 := Lib.hid q3; have HQ4 := Lib.hid q4; have HQ5 := Lib.hid hd1; have HER := Lib.hid her
      clear q1 q2 q3 q4 hd1 her hmt he1
      go_wp2_with fail
      refine (Err_x HR6.out).mono ?_
      rintro e w7 ⟨rfl, rfl⟩
      go_wp2_with fail
      refine bodyPost_ret (v := cmV r1 i1 s1 qa ql1 qc va vl1 vc tm1 k6 pa6 pl6 pc6 n6 t6 da6 dl6 dc6) (by simp [results, Tryz.results15, go_sem, hz0, hz1, hz2, hz3, hz4, hz5, hz6, hz7, hz8, hz9, hz10]) rfl ⟨r1, i1, s1, qa, ql1, qc, va, vl1, vc, tm1, k6, pa6, pl6, pc6, n6, t6, da6, dl6, dc6, 0, rfl, fun _ => ⟨?_, HER.out⟩, ?_, ?_⟩
      · have hc : (⟨((r1, i1), s1), l3, l4, tm1, ⟨k6, p6, n6, t6, d6⟩⟩ : Cm.C) = ⟨((r, i), s), lq, lv, tm, ⟨k, lp, n, t, ld⟩⟩ := by rw [HQ1.out, HQ2.out, HQ3.out, HQ4.out, HQ5.out]
        have hg := grown_set11 w6 W.heap.size (.int .u8 (r1 : Int)) (.int .u32 (i1 : Int)) (.int .u64 (s1 : Int)) (.slice qa ql1 qc) (.slice va vl1 vc) (.int .u64 (tm1 : Int)) (.int .u8 (k6 : Int)) (.slice pa6 pl6 pc6) (.int .i64 n6) (.string t6) (.slice da6 dl6 dc6)
        have hlow : ∀ k, some W.heap.size = some k → k < XX.heap.size := fun k hk => by cases hk; exact hwx
        rw [← hc]
        exact ⟨qa, qc, va, vc, pa6, pc6, da6, dc6, ql1, vl1, pl6, dl6, rfl, HL3.out, HL4.out, HP6.out, HD6.out, (HO3.out.grown hg hlow).base (by omega), (HO4.out.grown hg hlow).base (by omega), (HO6.out.grown hg hlow).base (by omega), (HO8.out.grown hg hlow).base (by omega)⟩
      · exact (((((((((((HR6.out).setCell hqlt _ _).setCell hqlt _ _).setCell hqlt _ _).setCell hqlt _ _).setCell hqlt _ _).setCell hqlt _ _).setCell hqlt _ _).setCell hqlt _ _).setCell hqlt _ _).setCell hqlt _ _).setCell hqlt _ _
      · exact grownCell (grownCell (grownCell (grownCell (grownCell (grownCell (grownCell (grownCell (grownCell (grownCell (grownCell (HGW.out) (Nat.le_refl _) _ _) (Nat.le_refl _) _ _) (Nat.le_refl _) _ _) (Nat.le_refl _) _ _) (Nat.le_refl _) _ _) (Nat.le_refl _) _ _) (Nat.le_refl _) _ _) (Nat.le_refl _) _ _) (Nat.le_refl _) _ _) (Nat.le_refl _) _ _) (Nat.le_refl _) _ _
    · have t1 : ((e6 : Int) == 0) = false := by simp; omega
      have t2 : ((e6 : Int) != 0) = true := by simp; omega
      cases hb : Cm.may ⟨((r1, i1), s1), l3, l4, tm1, ⟨k6, p6, n6, t6, d6⟩⟩
      all_goals
        clear hb
        go_wp2_with fail
        first
          | (refine (Fail_x HR6.out he 4).mono ?_
             rintro e w7 ⟨rfl, rfl⟩
             go_wp2_with fail
             refine (Err_x HR6.out).mono ?_
             rintro e w7 ⟨rfl, rfl⟩
             go_wp2_with fail)
          | (refine (Err_x HR6.out).mono ?_
             rintro e w7 ⟨rfl, rfl⟩
             go_wp2_with fail)
        refine bodyPost_ret (v := cmV 0 0 0 none 0 0 none 0 0 0 0 none 0 0 0 ⟨#[]⟩ none 0 0) (by simp [results, Tryz.results15, go_sem, hz0, hz1, hz2, hz3, hz4, hz5, hz6, hz7, hz8, hz9, hz10]) rfl ⟨0, 0, 0, none, 0, 0, none, 0, 0, 0, 0, none, 0, 0, 0, ⟨#[]⟩, none, 0, 0, e6, rfl, fun h0 => absurd h0 he, ?_, ?_⟩
        · exact (((((((((((HR6.out).setCell hqlt _ _).setCell hqlt _ _).setCell hqlt _ _).setCell hqlt _ _).setCell hqlt _ _).setCell hqlt _ _).setCell hqlt _ _).setCell hqlt _ _).setCell hqlt _ _).setCell hqlt _ _).setCell hqlt _ _
        · exact grownCell (grownCell (grownCell (grownCell (grownCell (grownCell (grownCell (grownCell (grownCell (grownCell (grownCell (HGW.out) (Nat.le_refl _) _ _) (Nat.le_refl _) _ _) (Nat.le_refl _) _ _) (Nat.le_refl _) _ _) (Nat.le_refl _) _ _) (Nat.le_refl _) _ _) (Nat.le_refl _) _ _) (Nat.le_refl _) _ _) (Nat.le_refl _) _ _) (Nat.le_refl _) _ _) (Nat.le_refl _) _ _
end Go.Proofs.YthbkieghkfpbhaaGreat
