import Derived.Test.YtiiidmphmojlgaaGreatZDot15
import Derived.Test.YtiiidmphmojlgaaGreatZCmt3
import Derived.Test.YtiiidmphmojlgaaGreatZRegE
namespace Go.Proofs.YtiiidmphmojlgaaGreat
open Go.RowKit Go.Buf Go.LB
set_option linter.unusedSimpArgs false
set_option linter.unusedVariables false
theorem _root_.Go.LB.Blk.set11 {w : World} {b : Nat} {t : TypeId} {c0 c1 c2 c3 c4 c5 c6 c7 c8 c9 c10 : Value} (h : Blk w b t [c0, c1, c2, c3, c4, c5, c6, c7, c8, c9, c10]) (x0 x1 x2 x3 x4 x5 x6 x7 x8 x9 x10 : Value) : Blk (((((((((((w.setCell ⟨b, 0, none⟩ x0).setCell ⟨b, 1, none⟩ x1).setCell ⟨b, 2, none⟩ x2).setCell ⟨b, 3, none⟩ x3).setCell ⟨b, 4, none⟩ x4).setCell ⟨b, 5, none⟩ x5).setCell ⟨b, 6, none⟩ x6).setCell ⟨b, 7, none⟩ x7).setCell ⟨b, 8, none⟩ x8).setCell ⟨b, 9, none⟩ x9).setCell ⟨b, 10, none⟩ x10) b t [x0, x1, x2, x3, x4, x5, x6, x7, x8, x9, x10] := (((((((((((h.set 0 _).set 1 _).set 2 _).set 3 _).set 4 _).set 5 _).set 6 _).set 7 _).set 8 _).set 9 _).set 10 _)
theorem below11 {B : Nat} {W w : World} (h : Below B W w) {b : Nat} (hb : B ≤ b) (x0 x1 x2 x3 x4 x5 x6 x7 x8 x9 x10 : Value) : Below B W (((((((((((w.setCell ⟨b, 0, none⟩ x0).setCell ⟨b, 1, none⟩ x1).setCell ⟨b, 2, none⟩ x2).setCell ⟨b, 3, none⟩ x3).setCell ⟨b, 4, none⟩ x4).setCell ⟨b, 5, none⟩ x5).setCell ⟨b, 6, none⟩ x6).setCell ⟨b, 7, none⟩ x7).setCell ⟨b, 8, none⟩ x8).setCell ⟨b, 9, none⟩ x9).setCell ⟨b, 10, none⟩ x10) := (((((((((((h.setCell hb _).setCell hb _).setCell hb _).setCell hb _).setCell hb _).setCell hb _).setCell hb _).setCell hb _).setCell hb _).setCell hb _).setCell hb _)
theorem chg11 {S : Nat → Prop} {w w1 : World} (h : Chg S w w1) {b : Nat} (hb : w.heap.size ≤ b ∨ S b) (x0 x1 x2 x3 x4 x5 x6 x7 x8 x9 x10 : Value) : Chg S w (((((((((((w1.setCell ⟨b, 0, none⟩ x0).setCell ⟨b, 1, none⟩ x1).setCell ⟨b, 2, none⟩ x2).setCell ⟨b, 3, none⟩ x3).setCell ⟨b, 4, none⟩ x4).setCell ⟨b, 5, none⟩ x5).setCell ⟨b, 6, none⟩ x6).setCell ⟨b, 7, none⟩ x7).setCell ⟨b, 8, none⟩ x8).setCell ⟨b, 9, none⟩ x9).setCell ⟨b, 10, none⟩ x10) := (((((((((((h.set hb 0 _).set hb 1 _).set hb 2 _).set hb 3 _).set hb 4 _).set hb 5 _).set hb 6 _).set hb 7 _).set hb 8 _).set hb 9 _).set hb 10 _)
theorem res_cm {fn : Func} {k : Tmp} {tmps : Array Value} {w : World} {b : Nat} {c0 c1 c2 c3 c4 c5 c6 c7 c8 c9 c10 : Value} (hr : fn.results = #[.cell k 34]) (ht : tmps.getD k undef = .pointer (some ⟨b, 0, none⟩)) (h : Blk w b 34 [c0, c1, c2, c3, c4, c5, c6, c7, c8, c9, c10]) :
  (results fn tmps).run Tryz.prog w = .ok (.agg #[c0, c1, c2, c3, c4, c5, c6, c7, c8, c9, c10]) w := by
 have h0 := h.cell 0; have h1 := h.cell 1; have h2 := h.cell 2; have h3 := h.cell 3; have h4 := h.cell 4; have h5 := h.cell 5; have h6 := h.cell 6; have h7 := h.cell 7; have h8 := h.cell 8; have h9 := h.cell 9; have h10 := h.cell 10
 simp at h0 h1 h2 h3 h4 h5 h6 h7 h8 h9 h10
 have ht2 : tmps[k]?.getD undef = .pointer (some ⟨b, 0, none⟩) := by simpa using ht
 simp [results, hr, go_sem, ht2, h0, h1, h2, h3, h4, h5, h6, h7, h8, h9, h10]
theorem field_op (r i s tm k : Nat) (pa : Option Addr) (pl pc : Nat) (n : Int) (t : ByteArray) (da : Option Addr) (dl dc : Nat) (w : World) :
  (Instr.field 84 (evV r i s tm k pa pl pc n t da dl dc) 2).run Tryz.prog w = .ok (.agg #[.int .u8 (k : Int), .slice pa pl pc, .int .i64 n, .string t, .slice da dl dc]) w := by kernel_rfl
set_option maxRecDepth 100000 in
set_option maxHeartbeats 12800000 in
theorem ownCommit_any (r i s : Nat) (qa : Option Addr) (ql qc : Nat) (va : Option Addr) (vl vc : Nat) (tm k : Nat) (pa : Option Addr) (pl pc : Nat) (n : Int) (t : ByteArray) (da : Option Addr) (dl dc : Nat) (lq lv : List Dt.Dot) (lp : List ByteArray) (ld : List Dt.Dot) (W : World) (hq : VRow W qa qc lq) (hql : lq.length = ql) (hv : VRow W va vc lv) (hvl : lv.length = vl) (hp : SRow W pa pc lp) (hpl : lp.length = pl) (hd : VRow W da dc ld) (hdl : ld.length = dl) (hqn : ql ≤ 1000000000) (hvn : vl ≤ 1000000000) (hpn : pl ≤ 1000000000) (hdn : dl ≤ 1000000000) :
  Calls Tryz.prog 16 #[cmV r i s qa ql qc va vl vc tm k pa pl pc n t da dl dc] W fun e w' => ∃ qa' qc' va' vc' pa' pc' da' dc', e = .returned (cmV r i s qa' ql qc' va' vl vc' tm k pa' pl pc' n t da' dl dc') ∧
   (∀ w2, Chg (fun q => q < W.heap.size) w' w2 → VRow w2 qa' qc' lq ∧ VRow w2 va' vc' lv ∧ SRow w2 pa' pc' lp ∧ VRow w2 da' dc' ld) ∧ Below W.heap.size W w' := by
 have HQ := Lib.hid hq; have HQl := Lib.hid hql; have HV := Lib.hid hv; have HVl := Lib.hid hvl; have HP := Lib.hid hp; have HPl := Lib.hid hpl; have HD := Lib.hid hd; have HDl := Lib.hid hdl
 have HB2 := Lib.hid (show Below W.heap.size W ((W.alloc (.cells #[.int .u8 (r : Int), .int .u32 (i : Int), .int .u64 (s : Int), .slice qa ql qc, .slice va vl vc, .int .u64 (tm : Int), .int .u8 (k : Int), .slice pa pl pc, .int .i64 n, .string t, .slice da dl dc] 34)).alloc (.cells #[.int .u8 0, .int .u32 0, .int .u64 0, .slice none 0 0, .slice none 0 0, .int .u64 0, .int .u8 0, .slice none 0 0, .int .i64 0, .string ⟨#[]⟩, .slice none 0 0] 34)) from ((Below.refl _ _).alloc (Nat.le_refl _) _).alloc (by simp) _)
 have HBk := Lib.hid (show ∀ w, Below ((W.alloc (.cells #[.int .u8 (r : Int), .int .u32 (i : Int), .int .u64 (s : Int), .slice qa ql qc, .slice va vl vc, .int .u64 (tm : Int), .int .u8 (k : Int), .slice pa pl pc, .int .i64 n, .string t, .slice da dl dc] 34)).alloc (.cells #[.int .u8 0, .int .u32 0, .int .u64 0, .slice none 0 0, .slice none 0 0, .int .u64 0, .int .u8 0, .slice none 0 0, .int .i64 0, .string ⟨#[]⟩, .slice none 0 0] 34)).heap.size ((W.alloc (.cells #[.int .u8 (r : Int), .int .u32 (i : Int), .int .u64 (s : Int), .slice qa ql qc, .slice va vl vc, .int .u64 (tm : Int), .int .u8 (k : Int), .slice pa pl pc, .int .i64 n, .string t, .slice da dl dc] 34)).alloc (.cells #[.int .u8 0, .int .u32 0, .int .u64 0, .slice none 0 0, .slice none 0 0, .int .u64 0, .int .u8 0, .slice none 0 0, .int .i64 0, .string ⟨#[]⟩, .slice none 0 0] 34)) w → Blk w (W.heap.size) 34 [.int .u8 (r : Int), .int .u32 (i : Int), .int .u64 (s : Int), .slice qa ql qc, .slice va vl vc, .int .u64 (tm : Int), .int .u8 (k : Int), .slice pa pl pc, .int .i64 n, .string t, .slice da dl dc] from fun w h => ((Blk.new W #[.int .u8 (r : Int), .int .u32 (i : Int), .int .u64 (s : Int), .slice qa ql qc, .slice va vl vc, .int .u64 (tm : Int), .int .u8 (k : Int), .slice pa pl pc, .int .i64 n, .string t, .slice da dl dc] 34).below ((Below.refl _ _).alloc (Nat.le_refl _) _)).below h)
 have HCs := Lib.hid (show ∀ w, Below ((W.alloc (.cells #[.int .u8 (r : Int), .int .u32 (i : Int), .int .u64 (s : Int), .slice qa ql qc, .slice va vl vc, .int .u64 (tm : Int), .int .u8 (k : Int), .slice pa pl pc, .int .i64 n, .string t, .slice da dl dc] 34)).alloc (.cells #[.int .u8 0, .int .u32 0, .int .u64 0, .slice none 0 0, .slice none 0 0, .int .u64 0, .int .u8 0, .slice none 0 0, .int .i64 0, .string ⟨#[]⟩, .slice none 0 0] 34)).heap.size ((W.alloc (.cells #[.int .u8 (r : Int), .int .u32 (i : Int), .int .u64 (s : Int), .slice qa ql qc, .slice va vl vc, .int .u64 (tm : Int), .int .u8 (k : Int), .slice pa pl pc, .int .i64 n, .string t, .slice da dl dc] 34)).alloc (.cells #[.int .u8 0, .int .u32 0, .int .u64 0, .slice none 0 0, .slice none 0 0, .int .u64 0, .int .u8 0, .slice none 0 0, .int .i64 0, .string ⟨#[]⟩, .slice none 0 0] 34)) w → w.cell? ⟨W.heap.size, 0, none⟩ = some (.int .u8 (r : Int)) ∧ w.cell? ⟨W.heap.size, 1, none⟩ = some (.int .u32 (i : Int)) ∧ w.cell? ⟨W.heap.size, 2, none⟩ = some (.int .u64 (s : Int)) ∧ w.cell? ⟨W.heap.size, 3, none⟩ = some (.slice qa ql qc) ∧ w.cell? ⟨W.heap.size, 4, none⟩ = some (.slice va vl vc) ∧ w.cell? ⟨W.heap.size, 5, none⟩ = some (.int .u64 (tm : Int)) ∧ w.cell? ⟨W.heap.size, 6, none⟩ = some (.int .u8 (k : Int)) ∧ w.cell? ⟨W.heap.size, 7, none⟩ = some (.slice pa pl pc) ∧ w.cell? ⟨W.heap.size, 8, none⟩ = some (.int .i64 n) ∧ w.cell? ⟨W.heap.size, 9, none⟩ = some (.string t) ∧ w.cell? ⟨W.heap.size, 10, none⟩ = some (.slice da dl dc) from fun w h => by
  have hk := HBk.out w h
  exact ⟨hk.cell 0, hk.cell 1, hk.cell 2, hk.cell 3, hk.cell 4, hk.cell 5, hk.cell 6, hk.cell 7, hk.cell 8, hk.cell 9, hk.cell 10⟩)
 have HZ0 := Lib.hid (show Blk ((W.alloc (.cells #[.int .u8 (r : Int), .int .u32 (i : Int), .int .u64 (s : Int), .slice qa ql qc, .slice va vl vc, .int .u64 (tm : Int), .int .u8 (k : Int), .slice pa pl pc, .int .i64 n, .string t, .slice da dl dc] 34)).alloc (.cells #[.int .u8 0, .int .u32 0, .int .u64 0, .slice none 0 0, .slice none 0 0, .int .u64 0, .int .u8 0, .slice none 0 0, .int .i64 0, .string ⟨#[]⟩, .slice none 0 0] 34)) (W.heap.size + 1) 34 [.int .u8 0, .int .u32 0, .int .u64 0, .slice none 0 0, .slice none 0 0, .int .u64 0, .int .u8 0, .slice none 0 0, .int .i64 0, .string ⟨#[]⟩, .slice none 0 0] by
  have h := Blk.new (W.alloc (.cells #[.int .u8 (r : Int), .int .u32 (i : Int), .int .u64 (s : Int), .slice qa ql qc, .slice va vl vc, .int .u64 (tm : Int), .int .u8 (k : Int), .slice pa pl pc, .int .i64 n, .string t, .slice da dl dc] 34)) #[.int .u8 0, .int .u32 0, .int .u64 0, .slice none 0 0, .slice none 0 0, .int .u64 0, .int .u8 0, .slice none 0 0, .int .i64 0, .string ⟨#[]⟩, .slice none 0 0] 34
  simpa using h)
 clear hq hql hv hvl hp hpl hd hdl
 go_enter Tryz.func16, Tryz.ntmps16
 go_wp2_with fail
 refine RegE.region_list (by kernel_rfl) (fun _ => True) [10, 12, 14] [14] [RegE.plain (fun v _ => v = .pointer (some ⟨W.heap.size, 3, none⟩)), RegE.plain (fun v _ => v = .slice qa ql qc), RegE.plain (fun v w => ∃ a c row, v = .slice a ql c ∧ Own 27 3 encT (W.heap.size + 1 + 1) w (.slice a ql c) lq row), RegE.plain (fun v _ => v = .pointer (some ⟨W.heap.size, 4, none⟩)), RegE.plain (fun v _ => v = .slice va vl vc), RegE.plain (fun v w => ∃ a2 c2 row2, v = .slice a2 vl c2 ∧ Own 27 3 encT (W.heap.size + 1 + 1) w (.slice a2 vl c2) lv row2), RegE.plain (fun v _ => v = .agg #[.int .u8 (r : Int), .int .u32 (i : Int), .int .u64 (s : Int), .slice qa ql qc, .slice va vl vc, .int .u64 (tm : Int), .int .u8 (k : Int), .slice pa pl pc, .int .i64 n, .string t, .slice da dl dc]), RegE.plain (fun v w => ∃ pa' pc' da' dc', v = evV r i s tm k pa' pl pc' n t da' dl dc' ∧ (∀ w2, Chg (fun q => q < W.heap.size + 1 + 1) w w2 → SRow w2 pa' pc' lp) ∧ (∀ w2, Chg (fun q => q < W.heap.size + 1 + 1) w w2 → VRow w2 da' dc' ld)), RegE.plain (fun v w => ∃ pa' pc' da' dc', v = .agg #[.int .u8 (k : Int), .slice pa' pl pc', .int .i64 n, .string t, .slice da' dl dc'] ∧ (∀ w2, Chg (fun q => q < W.heap.size + 1 + 1) w w2 → SRow w2 pa' pc' lp) ∧ (∀ w2, Chg (fun q => q < W.heap.size + 1 + 1) w w2 → VRow w2 da' dc' ld)), RegE.plain (fun v _ => v = .pointer (some ⟨W.heap.size, 3, none⟩)), RegE.change (fun v w => ∃ a c row, v = .pointer (some ⟨W.heap.size, 3, none⟩) ∧ Blk w (W.heap.size) 34 [.int .u8 (r : Int), .int .u32 (i : Int), .int .u64 (s : Int), .slice a ql c, .slice va vl vc, .int .u64 (tm : Int), .int .u8 (k : Int), .slice pa pl pc, .int .i64 n, .string t, .slice da dl dc] ∧ Own 27 3 encT (W.heap.size + 1 + 1) w (.slice a ql c) lq row) (fun k => k = W.heap.size) (fun w w' => ∃ u, w' = w.setCell ⟨W.heap.size, 3, none⟩ u), RegE.plain (fun v _ => v = .pointer (some ⟨W.heap.size, 4, none⟩)), RegE.change (fun v w => ∃ a c row a2 c2 row2, v = .pointer (some ⟨W.heap.size, 4, none⟩) ∧ Blk w (W.heap.size) 34 [.int .u8 (r : Int), .int .u32 (i : Int), .int .u64 (s : Int), .slice a ql c, .slice a2 vl c2, .int .u64 (tm : Int), .int .u8 (k : Int), .slice pa pl pc, .int .i64 n, .string t, .slice da dl dc] ∧ Own 27 3 encT (W.heap.size + 1 + 1) w (.slice a ql c) lq row ∧ Own 27 3 encT (W.heap.size + 1 + 1) w (.slice a2 vl c2) lv row2) (fun k => k = W.heap.size) (fun w w' => ∃ u, w' = w.setCell ⟨W.heap.size, 4, none⟩ u), RegE.plain (fun v _ => v = .pointer (some ⟨W.heap.size, 6, none⟩)), RegE.change (fun v w => ∃ a c row a2 c2 row2 pa' pc' da' dc', v = .pointer (some ⟨W.heap.size, 6, none⟩) ∧ Blk w (W.heap.size) 34 [.int .u8 (r : Int), .int .u32 (i : Int), .int .u64 (s : Int), .slice a ql c, .slice a2 vl c2, .int .u64 (tm : Int), .int .u8 (k : Int), .slice pa' pl pc', .int .i64 n, .string t, .slice da' dl dc'] ∧ Own 27 3 encT (W.heap.size + 1 + 1) w (.slice a ql c) lq row ∧ Own 27 3 encT (W.heap.size + 1 + 1) w (.slice a2 vl c2) lv row2 ∧ (∀ w2, Chg (fun q => q < W.heap.size + 1 + 1) w w2 → SRow w2 pa' pc' lp) ∧ (∀ w2, Chg (fun q => q < W.heap.size + 1 + 1) w w2 → VRow w2 da' dc' ld)) (fun k => k = W.heap.size) (fun w w' => ∃ u0 u1 u2 u3 u4, w' = (((((w.setCell ⟨W.heap.size, 6, none⟩ u0).setCell ⟨W.heap.size, 7, none⟩ u1).setCell ⟨W.heap.size, 8, none⟩ u2).setCell ⟨W.heap.size, 9, none⟩ u3).setCell ⟨W.heap.size, 10, none⟩ u4))] (by kernel_rfl) (by kernel_rfl) (trivial) (fun (_ _ : World) _ _ => trivial) ?_ ?_ ?_ ?_ ?_ ?_
 ·exact ⟨Or.inr ⟨fun _ h => h, rfl⟩, Or.inr ⟨fun _ h => h, rfl⟩, Or.inr ⟨fun _ h => h, rfl⟩, Or.inr ⟨fun _ h => h, rfl⟩, Or.inr ⟨fun _ h => h, rfl⟩, Or.inr ⟨fun _ h => h, rfl⟩, Or.inr ⟨fun _ h => h, rfl⟩, Or.inr ⟨fun _ h => h, rfl⟩, Or.inr ⟨fun _ h => h, rfl⟩, Or.inr ⟨fun _ h => h, rfl⟩, Or.inl (by decide), Or.inr ⟨fun _ h => h, rfl⟩, Or.inl (by decide), Or.inr ⟨fun _ h => h, rfl⟩, Or.inl (by decide), trivial⟩
 ·exact ⟨⟨fun _ _ h => h, fun wx wy h => (fun (_ _ : World) _ _ => trivial) wx wy (RegE.to_below h (fun _ h => h))⟩, ⟨fun _ _ h => h, fun wx wy h => (fun (_ _ : World) _ _ => trivial) wx wy (RegE.to_below h (fun _ h => h))⟩, ⟨fun _ _ h => h, fun wx wy h => (fun (_ _ : World) _ _ => trivial) wx wy (RegE.to_below h (fun _ h => h))⟩, ⟨fun _ _ h => h, fun wx wy h => (fun (_ _ : World) _ _ => trivial) wx wy (RegE.to_below h (fun _ h => h))⟩, ⟨fun _ _ h => h, fun wx wy h => (fun (_ _ : World) _ _ => trivial) wx wy (RegE.to_below h (fun _ h => h))⟩, ⟨fun _ _ h => h, fun wx wy h => (fun (_ _ : World) _ _ => trivial) wx wy (RegE.to_below h (fun _ h => h))⟩, ⟨fun _ _ h => h, fun wx wy h => (fun (_ _ : World) _ _ => trivial) wx wy (RegE.to_below h (fun _ h => h))⟩, ⟨fun _ _ h => h, fun wx wy h => (fun (_ _ : World) _ _ => trivial) wx wy (RegE.to_below h (fun _ h => h))⟩, ⟨fun _ _ h => h, fun wx wy h => (fun (_ _ : World) _ _ => trivial) wx wy (RegE.to_below h (fun _ h => h))⟩, ⟨fun _ _ h => h, fun wx wy h => (fun (_ _ : World) _ _ => trivial) wx wy (RegE.to_below h (fun _ h => h))⟩, ⟨(fun wa wb h => by obtain ⟨u, rfl⟩ := h; exact (Chg.refl (fun k => k = W.heap.size) wa).set (Or.inr rfl) _ _), (fun _ _ _ _ => trivial)⟩, ⟨fun _ _ h => h, fun wx wy h => (fun (_ _ : World) _ _ => trivial) wx wy (RegE.to_below h (fun _ h => h))⟩, ⟨(fun wa wb h => by obtain ⟨u, rfl⟩ := h; exact (Chg.refl (fun k => k = W.heap.size) wa).set (Or.inr rfl) _ _), (fun _ _ _ _ => trivial)⟩, ⟨fun _ _ h => h, fun wx wy h => (fun (_ _ : World) _ _ => trivial) wx wy (RegE.to_below h (fun _ h => h))⟩, ⟨(fun wa wb h => by obtain ⟨u0, u1, u2, u3, u4, rfl⟩ := h; exact (((((Chg.refl (fun k => k = W.heap.size) wa).set (Or.inr rfl) _ _).set (Or.inr rfl) _ _).set (Or.inr rfl) _ _).set (Or.inr rfl) _ _).set (Or.inr rfl) _ _), (fun _ _ _ _ => trivial)⟩, trivial⟩
 ·refine ⟨k4, k4, (fun v wa wb hb h => by obtain ⟨a, c, row, h1, h2⟩ := h; exact ⟨a, c, row, h1, h2.below hb⟩), k4, k4, (fun v wa wb hb h => by obtain ⟨a, c, row, h1, h2⟩ := h; exact ⟨a, c, row, h1, h2.below hb⟩), k4, (fun v wa wb hb h => by obtain ⟨a, b, c, d, h1, h2, h3⟩ := h; exact ⟨a, b, c, d, h1, fun w2 hc => h2 w2 ((Chg.of_below hb).trans hc (fun _ _ e => e)), fun w2 hc => h3 w2 ((Chg.of_below hb).trans hc (fun _ _ e => e))⟩), (fun v wa wb hb h => by obtain ⟨a, b, c, d, h1, h2, h3⟩ := h; exact ⟨a, b, c, d, h1, fun w2 hc => h2 w2 ((Chg.of_below hb).trans hc (fun _ _ e => e)), fun w2 hc => h3 w2 ((Chg.of_below hb).trans hc (fun _ _ e => e))⟩), k4, (fun v wa wb hb h => by obtain ⟨a, c, row, h1, h2, h3⟩ := h; exact ⟨a, c, row, h1, h2.below hb, h3.below hb⟩), k4, (fun v wa wb hb h => by obtain ⟨a, c, row, a2, c2, row2, h1, h2, h3, h4⟩ := h; exact ⟨a, c, row, a2, c2, row2, h1, h2.below hb, h3.below hb, h4.below hb⟩), k4, (fun v wa wb hb h => by obtain ⟨a, c, row, a2, c2, row2, p1, p2, p3, p4, h1, h2, h3, h4, h5, h6⟩ := h; exact ⟨a, c, row, a2, c2, row2, p1, p2, p3, p4, h1, h2.below hb, h3.below hb, h4.below hb, fun w2 hc => h5 w2 ((Chg.of_below hb).trans hc (fun _ _ e => e)), fun w2 hc => h6 w2 ((Chg.of_below hb).trans hc (fun _ _ e => e))⟩), trivial⟩
 ·refine ⟨⟨Or.inr (Or.inr (Or.inr k4)), Or.inr (Or.inr (Or.inr k4)), Or.inr (Or.inr (Or.inl (by kernel_rfl))), Or.inr (Or.inr (Or.inr k4)), Or.inr (Or.inr (Or.inr k4)), Or.inr (Or.inr (Or.inr (fun v wa wb hr h => by obtain ⟨u, rfl⟩ := hr; obtain ⟨a, c, row, h1, h2⟩ := h; exact ⟨a, c, row, h1, ownCell h2 (by omega) _ _⟩))), Or.inr (Or.inr (Or.inr k4)), Or.inr (Or.inr (Or.inr (fun v wa wb hr h => by obtain ⟨u, rfl⟩ := hr; obtain ⟨a, b, c, d, h1, h2, h3⟩ := h; have hq := (Chg.refl (fun q => q < W.heap.size + 1 + 1) wa).set (b := W.heap.size) (Or.inr (by omega)) 3 u; exact ⟨a, b, c, d, h1, fun w2 hc => h2 w2 (hq.trans hc (fun _ _ e => e)), fun w2 hc => h3 w2 (hq.trans hc (fun _ _ e => e))⟩))), Or.inr (Or.inr (Or.inr (fun v wa wb hr h => by obtain ⟨u, rfl⟩ := hr; obtain ⟨a, b, c, d, h1, h2, h3⟩ := h; have hq := (Chg.refl (fun q => q < W.heap.size + 1 + 1) wa).set (b := W.heap.size) (Or.inr (by omega)) 3 u; exact ⟨a, b, c, d, h1, fun w2 hc => h2 w2 (hq.trans hc (fun _ _ e => e)), fun w2 hc => h3 w2 (hq.trans hc (fun _ _ e => e))⟩))), Or.inr (Or.inr (Or.inr k4)), Or.inl rfl, Or.inr (Or.inr (Or.inr k4)), Or.inr (Or.inl (by kernel_rfl)), Or.inr (Or.inr (Or.inr k4)), Or.inr (Or.inl (by kernel_rfl)), trivial⟩, ⟨Or.inr (Or.inr (Or.inr k4)), Or.inr (Or.inr (Or.inr k4)), Or.inr (Or.inr (Or.inl (by kernel_rfl))), Or.inr (Or.inr (Or.inr k4)), Or.inr (Or.inr (Or.inr k4)), Or.inr (Or.inr (Or.inl (by kernel_rfl))), Or.inr (Or.inr (Or.inr k4)), Or.inr (Or.inr (Or.inr (fun v wa wb hr h => by obtain ⟨u, rfl⟩ := hr; obtain ⟨a, b, c, d, h1, h2, h3⟩ := h; have hq := (Chg.refl (fun q => q < W.heap.size + 1 + 1) wa).set (b := W.heap.size) (Or.inr (by omega)) 4 u; exact ⟨a, b, c, d, h1, fun w2 hc => h2 w2 (hq.trans hc (fun _ _ e => e)), fun w2 hc => h3 w2 (hq.trans hc (fun _ _ e => e))⟩))), Or.inr (Or.inr (Or.inr (fun v wa wb hr h => by obtain ⟨u, rfl⟩ := hr; obtain ⟨a, b, c, d, h1, h2, h3⟩ := h; have hq := (Chg.refl (fun q => q < W.heap.size + 1 + 1) wa).set (b := W.heap.size) (Or.inr (by omega)) 4 u; exact ⟨a, b, c, d, h1, fun w2 hc => h2 w2 (hq.trans hc (fun _ _ e => e)), fun w2 hc => h3 w2 (hq.trans hc (fun _ _ e => e))⟩))), Or.inr (Or.inr (Or.inr k4)), Or.inr (Or.inr (Or.inl (by kernel_rfl))), Or.inr (Or.inr (Or.inr k4)), Or.inl rfl, Or.inr (Or.inr (Or.inr k4)), Or.inr (Or.inl (by kernel_rfl)), trivial⟩, ⟨Or.inr (Or.inr (Or.inr k4)), Or.inr (Or.inr (Or.inr k4)), Or.inr (Or.inr (Or.inl (by kernel_rfl))), Or.inr (Or.inr (Or.inr k4)), Or.inr (Or.inr (Or.inr k4)), Or.inr (Or.inr (Or.inl (by kernel_rfl))), Or.inr (Or.inr (Or.inr k4)), Or.inr (Or.inr (Or.inl (by kernel_rfl))), Or.inr (Or.inr (Or.inl (by kernel_rfl))), Or.inr (Or.inr (Or.inr k4)), Or.inr (Or.inr (Or.inl (by kernel_rfl))), Or.inr (Or.inr (Or.inr k4)), Or.inr (Or.inr (Or.inl (by kernel_rfl))), Or.inr (Or.inr (Or.inr k4)), Or.inl rfl, trivial⟩, trivial⟩
 ·refine ⟨?_, ?_, ?_, ?_, ?_, ?_, ?_, ?_, ?_, ?_, ?_, ?_, ?_, ?_, ?_, trivial⟩
  ·intro ev w hc hf hg hfix hdep hchg hinv
   have e1 : ev (.tmp 1) = _ := hfix 1 (by decide)
   exact Or.inl ⟨trivial, Or.inl ⟨_, w, by go_simp, rfl, Chg.refl _ _⟩⟩
  ·intro ev w hc hf hg hfix hdep hchg hinv
   have e3 : ev (.tmp 3) = _ := hdep 0 (by decide)
   have hb0 := RegE.chg0 (hchg [] (by kernel_rfl))
   obtain ⟨hc0, hc1, hc2, hc3, hc4, hc5, hc6, hc7, hc8, hc9, hc10⟩ := HCs.out w hb0
   exact Or.inl ⟨trivial, Or.inl ⟨_, w, by go_simp, rfl, Chg.refl _ _⟩⟩
  ·intro ev w hc hf hg hfix hdep hchg hinv
   have e4 : ev (.tmp 4) = _ := hdep 1 (by decide)
   refine Or.inl ⟨trivial, Or.inr (Or.inl ⟨27, #[.slice qa ql qc], w, by go_simp, ?_⟩)⟩
   have hb0 := RegE.chg0 (hchg [] (by kernel_rfl))
   have hbw := HB2.out.trans (hb0.mono HB2.out.size)
   have hsz : W.heap.size + 1 + 1 ≤ w.heap.size := by simpa using hb0.size
   refine (cloneD_x qa ql qc lq w (HQ.out.below hbw) HQl.out hqn).mono ?_
   rintro e w9 ⟨⟨a, c, row, rfl, hr⟩, hb⟩
   exact ⟨_, rfl, ⟨a, c, row, rfl, hr.base hsz⟩, Chg.of_below hb⟩
  ·intro ev w hc hf hg hfix hdep hchg hinv
   have e1 : ev (.tmp 1) = _ := hfix 1 (by decide)
   exact Or.inl ⟨trivial, Or.inl ⟨_, w, by go_simp, rfl, Chg.refl _ _⟩⟩
  ·intro ev w hc hf hg hfix hdep hchg hinv
   have e6 : ev (.tmp 6) = _ := hdep 3 (by decide)
   have hb0 := RegE.chg0 (hchg [] (by kernel_rfl))
   obtain ⟨hc0, hc1, hc2, hc3, hc4, hc5, hc6, hc7, hc8, hc9, hc10⟩ := HCs.out w hb0
   exact Or.inl ⟨trivial, Or.inl ⟨_, w, by go_simp, rfl, Chg.refl _ _⟩⟩
  ·intro ev w hc hf hg hfix hdep hchg hinv
   have e7 : ev (.tmp 7) = _ := hdep 4 (by decide)
   refine Or.inl ⟨trivial, Or.inr (Or.inl ⟨32, #[.slice va vl vc], w, by go_simp, ?_⟩)⟩
   have hb0 := RegE.chg0 (hchg [] (by kernel_rfl))
   have hbw := HB2.out.trans (hb0.mono HB2.out.size)
   have hsz : W.heap.size + 1 + 1 ≤ w.heap.size := by simpa using hb0.size
   refine (cloneV_x va vl vc lv w (HV.out.below hbw) HVl.out hvn).mono ?_
   rintro e w9 ⟨⟨a, c, row, rfl, hr⟩, hb⟩
   exact ⟨_, rfl, ⟨a, c, row, rfl, hr.base hsz⟩, Chg.of_below hb⟩
  ·intro ev w hc hf hg hfix hdep hchg hinv
   have e1 : ev (.tmp 1) = _ := hfix 1 (by decide)
   have hb0 := RegE.chg0 (hchg [] (by kernel_rfl))
   obtain ⟨hc0, hc1, hc2, hc3, hc4, hc5, hc6, hc7, hc8, hc9, hc10⟩ := HCs.out w hb0
   exact Or.inl ⟨trivial, Or.inl ⟨_, w, by go_simp, rfl, Chg.refl _ _⟩⟩
  ·intro ev w hc hf hg hfix hdep hchg hinv
   have e9 : ev (.tmp 9) = _ := hdep 6 (by decide)
   refine Or.inl ⟨trivial, Or.inr (Or.inl ⟨38, #[.agg #[.int .u8 (r : Int), .int .u32 (i : Int), .int .u64 (s : Int), .slice qa ql qc, .slice va vl vc, .int .u64 (tm : Int), .int .u8 (k : Int), .slice pa pl pc, .int .i64 n, .string t, .slice da dl dc]], w, by go_simp, ?_⟩)⟩
   have hb0 := RegE.chg0 (hchg [] (by kernel_rfl))
   have hbw := HB2.out.trans (hb0.mono HB2.out.size)
   have hsz : W.heap.size + 1 + 1 ≤ w.heap.size := by simpa using hb0.size
   refine (event_s r i s qa ql qc va vl vc tm k pa pl pc n t da dl dc lq lv lp ld w (HQ.out.below hbw) HQl.out (HV.out.below hbw) HVl.out (HP.out.below hbw) HPl.out (HD.out.below hbw) HDl.out hpn hdn).mono ?_
   rintro e w9 ⟨pa', pc', da', dc', rfl, g1, g2, hb⟩
   exact ⟨_, rfl, ⟨pa', pc', da', dc', rfl, fun w2 hc => g1 w2 (hc.mono (fun q _ e => Nat.lt_of_lt_of_le e hsz)), fun w2 hc => g2 w2 (hc.mono (fun q _ e => Nat.lt_of_lt_of_le e hsz))⟩, Chg.of_below hb⟩
  ·intro ev w hc hf hg hfix hdep hchg hinv
   have e10 := hdep 7 (by decide)
   obtain ⟨pa', pc', da', dc', hv, g1, g2⟩ := e10
   have e10 : ev (.tmp 10) = evV r i s tm k pa' pl pc' n t da' dl dc' := hv
   have hfo := field_op r i s tm k pa' pl pc' n t da' dl dc' w
   exact Or.inl ⟨trivial, Or.inl ⟨.agg #[.int .u8 (k : Int), .slice pa' pl pc', .int .i64 n, .string t, .slice da' dl dc'], w, by go_simp, ⟨pa', pc', da', dc', rfl, g1, g2⟩, Chg.refl _ _⟩⟩
  ·intro ev w hc hf hg hfix hdep hchg hinv
   have e1 : ev (.tmp 1) = _ := hfix 1 (by decide)
   exact Or.inl ⟨trivial, Or.inl ⟨_, w, by go_simp, rfl, Chg.refl _ _⟩⟩
  ·intro ev w hc hf hg hfix hdep hchg hinv
   have e12 : ev (.tmp 12) = _ := hdep 9 (by decide)
   have e5 := hdep 2 (by decide)
   have hb0 := RegE.chg0 (hchg [] (by kernel_rfl))
   obtain ⟨a, c, row, hv, hrow⟩ := e5
   have e5 : ev (.tmp 5) = .slice a ql c := hv
   have hblk := HBk.out w hb0
   obtain ⟨hc0, hc1, hc2, hc3, hc4, hc5, hc6, hc7, hc8, hc9, hc10⟩ := HCs.out w hb0
   have hy := hblk.frozen 3
   exact Or.inl ⟨trivial, Or.inr (Or.inr ⟨w.setCell ⟨W.heap.size, 3, none⟩ (.slice a ql c), by go_simp, ⟨a, c, row, e12, hblk.set 3 _, ownCell hrow (by omega) _ _⟩, ⟨_, rfl⟩⟩)⟩
  ·intro ev w hc hf hg hfix hdep hchg hinv
   have e1 : ev (.tmp 1) = _ := hfix 1 (by decide)
   exact Or.inl ⟨trivial, Or.inl ⟨_, w, by go_simp, rfl, Chg.refl _ _⟩⟩
  ·intro ev w hc hf hg hfix hdep hchg hinv
   have e13 : ev (.tmp 13) = _ := hdep 11 (by decide)
   have e8 := hdep 5 (by decide)
   obtain ⟨a2, c2, row2, hv, hrow⟩ := e8
   have e8 : ev (.tmp 8) = .slice a2 vl c2 := hv
   obtain ⟨a, c, row, hv5, hblk, hrow5⟩ := hdep 10 (by decide)
   have hc4 := hblk.cell 4
   simp only [List.getElem?_cons_succ, List.getElem?_cons_zero] at hc4
   have hy := hblk.frozen 4
   exact Or.inl ⟨trivial, Or.inr (Or.inr ⟨w.setCell ⟨W.heap.size, 4, none⟩ (.slice a2 vl c2), by go_simp, ⟨a, c, row, a2, c2, row2, e13, hblk.set 4 _, ownCell hrow5 (by omega) _ _, ownCell hrow (by omega) _ _⟩, ⟨_, rfl⟩⟩)⟩
  ·intro ev w hc hf hg hfix hdep hchg hinv
   have e1 : ev (.tmp 1) = _ := hfix 1 (by decide)
   exact Or.inl ⟨trivial, Or.inl ⟨_, w, by go_simp, rfl, Chg.refl _ _⟩⟩
  ·intro ev w hc hf hg hfix hdep hchg hinv
   have e14 : ev (.tmp 14) = _ := hdep 13 (by decide)
   have e11 := hdep 8 (by decide)
   obtain ⟨pa', pc', da', dc', hv, g1, g2⟩ := e11
   have e11 : ev (.tmp 11) = .agg #[.int .u8 (k : Int), .slice pa' pl pc', .int .i64 n, .string t, .slice da' dl dc'] := hv
   obtain ⟨a, c, row, a2, c2, row2, hv5, hblk, hr1, hr2⟩ := hdep 12 (by decide)
   have hc6 := hblk.cell 6; have hc7 := hblk.cell 7; have hc8 := hblk.cell 8; have hc9 := hblk.cell 9; have hc10 := hblk.cell 10
   simp only [List.getElem?_cons_succ, List.getElem?_cons_zero] at hc6 hc7 hc8 hc9 hc10
   have hy6 := hblk.frozen 6; have hy7 := hblk.frozen 7; have hy8 := hblk.frozen 8; have hy9 := hblk.frozen 9; have hy10 := hblk.frozen 10
   have hq := (((((Chg.refl (fun q => q < W.heap.size + 1 + 1) w).set (b := W.heap.size) (Or.inr (by omega)) 6 (.int .u8 (k : Int))).set (b := W.heap.size) (Or.inr (by omega)) 7 (.slice pa' pl pc')).set (b := W.heap.size) (Or.inr (by omega)) 8 (.int .i64 n)).set (b := W.heap.size) (Or.inr (by omega)) 9 (.string t)).set (b := W.heap.size) (Or.inr (by omega)) 10 (.slice da' dl dc')
   exact Or.inl ⟨trivial, Or.inr (Or.inr ⟨(((((w.setCell ⟨W.heap.size, 6, none⟩ (.int .u8 (k : Int))).setCell ⟨W.heap.size, 7, none⟩ (.slice pa' pl pc')).setCell ⟨W.heap.size, 8, none⟩ (.int .i64 n)).setCell ⟨W.heap.size, 9, none⟩ (.string t)).setCell ⟨W.heap.size, 10, none⟩ (.slice da' dl dc')), by go_simp, ⟨a, c, row, a2, c2, row2, pa', pc', da', dc', e14, ((((hblk.set 6 _).set 7 _).set 8 _).set 9 _).set 10 _, hr1.chg hq (fun q hk e => by have := (hr1.lt q hk).1; omega), hr2.chg hq (fun q hk e => by have := (hr2.lt q hk).1; omega), fun w2 hc => g1 w2 (hq.trans hc (fun _ _ e => e)), fun w2 hc => g2 w2 (hq.trans hc (fun _ _ e => e))⟩, ⟨_, _, _, _, _, rfl⟩⟩)⟩
 ·intro v w2 hv hlk hb2 hJ2
  have r14 := hv 14 (by decide) (by decide)
  simp only [Reg.putAll, Act.put, List.setIfInBounds_toArray, List.set_cons_zero, List.set_cons_succ]
  clear hv hlk
  obtain ⟨a, c, row, a2, c2, row2, pa', pc', da', dc', _, hblk, hr1, hr2, g1, g2⟩ := r14
  have hbW : Below W.heap.size W w2 := HB2.out.trans (hb2.below (fun k _ h => by rcases h with h | h | h | h <;> first | exact h.elim | (have : k = W.heap.size := h; omega)) HB2.out.size)
  have hz : Blk w2 (W.heap.size + 1) 34 [.int .u8 0, .int .u32 0, .int .u64 0, .slice none 0 0, .slice none 0 0, .int .u64 0, .int .u8 0, .slice none 0 0, .int .i64 0, .string ⟨#[]⟩, .slice none 0 0] := HZ0.out.chg hb2 (fun h => by rcases h with h | h | h | h <;> first | exact h.elim | (have : W.heap.size + 1 = W.heap.size := h; omega))
  have HR1 := Lib.hid hr1; have HR2 := Lib.hid hr2; have HG1 := Lib.hid g1; have HG2 := Lib.hid g2; have HBW := Lib.hid hbW; have HZ := Lib.hid hz
  have hq := chg11 (Chg.refl (fun q => q < W.heap.size + 1 + 1) w2) (b := W.heap.size + 1) (Or.inr (Nat.lt_succ_self _)) (.int .u8 (r : Int)) (.int .u32 (i : Int)) (.int .u64 (s : Int)) (.slice a ql c) (.slice a2 vl c2) (.int .u64 (tm : Int)) (.int .u8 (k : Int)) (.slice pa' pl pc') (.int .i64 n) (.string t) (.slice da' dl dc')
  have HQ1 := Lib.hid hq
  have d0 := hblk.cell 0; have d1 := hblk.cell 1; have d2 := hblk.cell 2; have d3 := hblk.cell 3; have d4 := hblk.cell 4; have d5 := hblk.cell 5; have d6 := hblk.cell 6; have d7 := hblk.cell 7; have d8 := hblk.cell 8; have d9 := hblk.cell 9; have d10 := hblk.cell 10
  have z0 := hz.cell 0; have z1 := hz.cell 1; have z2 := hz.cell 2; have z3 := hz.cell 3; have z4 := hz.cell 4; have z5 := hz.cell 5; have z6 := hz.cell 6; have z7 := hz.cell 7; have z8 := hz.cell 8; have z9 := hz.cell 9; have z10 := hz.cell 10
  have y0 := hz.frozen 0; have y1 := hz.frozen 1; have y2 := hz.frozen 2; have y3 := hz.frozen 3; have y4 := hz.frozen 4; have y5 := hz.frozen 5; have y6 := hz.frozen 6; have y7 := hz.frozen 7; have y8 := hz.frozen 8; have y9 := hz.frozen 9; have y10 := hz.frozen 10
  simp only [List.getElem?_cons_succ, List.getElem?_cons_zero] at d0 d1 d2 d3 d4 d5 d6 d7 d8 d9 d10 z0 z1 z2 z3 z4 z5 z6 z7 z8 z9 z10
  clear hb2 hbW hz hblk hr1 hr2 g1 g2 hq
  go_wp2_with fail
  refine bodyPost_ret (v := cmV r i s a ql c a2 vl c2 tm k pa' pl pc' n t da' dl dc') (res_cm (b := W.heap.size + 1) Tryz.results16 (by simp) (HZ.out.set11 (.int .u8 (r : Int)) (.int .u32 (i : Int)) (.int .u64 (s : Int)) (.slice a ql c) (.slice a2 vl c2) (.int .u64 (tm : Int)) (.int .u8 (k : Int)) (.slice pa' pl pc') (.int .i64 n) (.string t) (.slice da' dl dc'))) rfl ⟨a, c, a2, c2, pa', pc', da', dc', rfl, ?_, below11 HBW.out (by omega) (.int .u8 (r : Int)) (.int .u32 (i : Int)) (.int .u64 (s : Int)) (.slice a ql c) (.slice a2 vl c2) (.int .u64 (tm : Int)) (.int .u8 (k : Int)) (.slice pa' pl pc') (.int .i64 n) (.string t) (.slice da' dl dc')⟩
  intro w3 h3
  have hc := HQ1.out.trans (h3.mono (T := fun q => q < W.heap.size + 1 + 1) (fun q _ e => by have : q < W.heap.size := e; omega)) (fun _ _ e => e)
  exact ⟨ownT_vrow (HR1.out.chg hc (fun q hk e => by have := (HR1.out.lt q hk).1; omega)) HQ.out.ok, ownT_vrow (HR2.out.chg hc (fun q hk e => by have := (HR2.out.lt q hk).1; omega)) HV.out.ok, HG1.out _ hc, HG2.out _ hc⟩
end Go.Proofs.YtiiidmphmojlgaaGreat
