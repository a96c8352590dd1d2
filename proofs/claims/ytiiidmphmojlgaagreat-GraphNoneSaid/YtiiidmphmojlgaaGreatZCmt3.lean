import Derived.Test.YtiiidmphmojlgaaGreatZCmt2
import Derived.Test.YtiiidmphmojlgaaGreatZRegE
import Derived.Test.YtiiidmphmojlgaaGreatZOp3
import Derived.Test.YtiiidmphmojlgaaGreatZBuf
import Derived.Test.YtiiidmphmojlgaaGreatZLeafMath
namespace Go.Proofs.YtiiidmphmojlgaaGreat
open Go.RowKit Go.Buf Go.LB
set_option linter.unusedSimpArgs false
set_option linter.unusedVariables false
theorem ownS_srow {B : Nat} {w : World} {a : Option Addr} {n c : Nat} {l : List ByteArray} {row : Option Nat} (h : Own 9 1 encS B w (.slice a n c) l row) (hok : ∀ x ∈ l, x.size ≤ 9223372036854775807) : SRow w a c l := by
 obtain ⟨a', c', e1, h⟩ := cloneS_x_row h hok
 simp only [Value.slice.injEq] at e1
 obtain ⟨rfl, _, rfl⟩ := e1
 exact h
theorem ownT_vrow {B : Nat} {w : World} {a : Option Addr} {n c : Nat} {l : List Dt.Dot} {row : Option Nat} (h : Own 27 3 encT B w (.slice a n c) l row) (hok : ∀ x ∈ l, Dt.okD x) : VRow w a c l := by
 obtain ⟨a', c', e1, h⟩ := cloneD_x_row h hok
 simp only [Value.slice.injEq] at e1
 obtain ⟨rfl, _, rfl⟩ := e1
 exact h
theorem ownCell {α : Type} {e : TypeId} {size : Nat} {enc : α → List Value} {B : Nat} {w : World} {v : Value} {l : List α} {row : Option Nat} (h : Own e size enc B w v l row) {g : Nat} (hg : g < B) (j : Nat) (u : Value) : Own e size enc B (w.setCell ⟨g, j, none⟩ u) v l row :=
 h.chg (S := fun k => k = g) (Chg.set (S := fun k => k = g) (Chg.refl _ w) (Or.inr rfl) j u) (fun k hk e => by have := (h.lt k hk).1; omega)
set_option maxRecDepth 100000 in
set_option maxHeartbeats 6400000 in
theorem event_s (r i s : Nat) (qa : Option Addr) (ql qc : Nat) (va : Option Addr) (vl vc : Nat) (tm k : Nat) (pa : Option Addr) (pl pc : Nat) (n : Int) (t : ByteArray) (da : Option Addr) (dl dc : Nat) (lq lv : List Dt.Dot) (lp : List ByteArray) (ld : List Dt.Dot) (W : World) (hq : VRow W qa qc lq) (hql : lq.length = ql) (hv : VRow W va vc lv) (hvl : lv.length = vl) (hp : SRow W pa pc lp) (hpl : lp.length = pl) (hd : VRow W da dc ld) (hdl : ld.length = dl) (hpn : pl ≤ 1000000000) (hdn : dl ≤ 1000000000) :
  Calls Tryz.prog 38 #[cmV r i s qa ql qc va vl vc tm k pa pl pc n t da dl dc] W fun e w' => ∃ pa' pc' da' dc', e = .returned (evV r i s tm k pa' pl pc' n t da' dl dc') ∧ (∀ w2, Chg (fun k => k < W.heap.size) w' w2 → SRow w2 pa' pc' lp) ∧ (∀ w2, Chg (fun k => k < W.heap.size) w' w2 → VRow w2 da' dc' ld) ∧ Below W.heap.size W w' := by
 have HP := Lib.hid hp; have HPl := Lib.hid hpl; have HD := Lib.hid hd; have HDl := Lib.hid hdl
 have HBox := Lib.hid (below_box W #[.int .u8 (r : Int), .int .u32 (i : Int), .int .u64 (s : Int), .slice qa ql qc, .slice va vl vc, .int .u64 (tm : Int), .int .u8 (k : Int), .slice pa pl pc, .int .i64 n, .string t, .slice da dl dc] 34)
 clear hq hql hv hvl hp hpl hd hdl
 go_enter Tryz.func38, Tryz.ntmps38
 go_wp2_with fail
 have HB2 := Lib.hid (HBox.out.trans (((below_box (W.alloc (.cells #[.int .u8 (r : Int), .int .u32 (i : Int), .int .u64 (s : Int), .slice qa ql qc, .slice va vl vc, .int .u64 (tm : Int), .int .u8 (k : Int), .slice pa pl pc, .int .i64 n, .string t, .slice da dl dc] 34)) #[.int .u8 0, .int .u32 0, .int .u64 0, .int .u64 0, .int .u8 0, .slice none 0 0, .int .i64 0, .string ⟨#[]⟩, .slice none 0 0] 84).trans ((below_box _ #[.int .u8 (r : Int), .int .u32 (i : Int), .int .u64 (s : Int), .int .u64 (tm : Int), .int .u8 (k : Int), .slice pa pl pc, .int .i64 n, .string t, .slice da dl dc] 84).mono (by simp))).mono HBox.out.size))
 have HBk := Lib.hid (show ∀ w, Below (((W.alloc (.cells #[.int .u8 (r : Int), .int .u32 (i : Int), .int .u64 (s : Int), .slice qa ql qc, .slice va vl vc, .int .u64 (tm : Int), .int .u8 (k : Int), .slice pa pl pc, .int .i64 n, .string t, .slice da dl dc] 34)).alloc (.cells #[.int .u8 0, .int .u32 0, .int .u64 0, .int .u64 0, .int .u8 0, .slice none 0 0, .int .i64 0, .string ⟨#[]⟩, .slice none 0 0] 84)).alloc (.cells #[.int .u8 (r : Int), .int .u32 (i : Int), .int .u64 (s : Int), .int .u64 (tm : Int), .int .u8 (k : Int), .slice pa pl pc, .int .i64 n, .string t, .slice da dl dc] 84)).heap.size (((W.alloc (.cells #[.int .u8 (r : Int), .int .u32 (i : Int), .int .u64 (s : Int), .slice qa ql qc, .slice va vl vc, .int .u64 (tm : Int), .int .u8 (k : Int), .slice pa pl pc, .int .i64 n, .string t, .slice da dl dc] 34)).alloc (.cells #[.int .u8 0, .int .u32 0, .int .u64 0, .int .u64 0, .int .u8 0, .slice none 0 0, .int .i64 0, .string ⟨#[]⟩, .slice none 0 0] 84)).alloc (.cells #[.int .u8 (r : Int), .int .u32 (i : Int), .int .u64 (s : Int), .int .u64 (tm : Int), .int .u8 (k : Int), .slice pa pl pc, .int .i64 n, .string t, .slice da dl dc] 84)) w → Blk w (W.heap.size + 1 + 1) 84 [.int .u8 (r : Int), .int .u32 (i : Int), .int .u64 (s : Int), .int .u64 (tm : Int), .int .u8 (k : Int), .slice pa pl pc, .int .i64 n, .string t, .slice da dl dc] from fun w h => by
  have := (Blk.new ((W.alloc (.cells #[.int .u8 (r : Int), .int .u32 (i : Int), .int .u64 (s : Int), .slice qa ql qc, .slice va vl vc, .int .u64 (tm : Int), .int .u8 (k : Int), .slice pa pl pc, .int .i64 n, .string t, .slice da dl dc] 34)).alloc (.cells #[.int .u8 0, .int .u32 0, .int .u64 0, .int .u64 0, .int .u8 0, .slice none 0 0, .int .i64 0, .string ⟨#[]⟩, .slice none 0 0] 84)) #[.int .u8 (r : Int), .int .u32 (i : Int), .int .u64 (s : Int), .int .u64 (tm : Int), .int .u8 (k : Int), .slice pa pl pc, .int .i64 n, .string t, .slice da dl dc] 84).below h
  simpa using this)
 have HCs := Lib.hid (show ∀ w, Below (((W.alloc (.cells #[.int .u8 (r : Int), .int .u32 (i : Int), .int .u64 (s : Int), .slice qa ql qc, .slice va vl vc, .int .u64 (tm : Int), .int .u8 (k : Int), .slice pa pl pc, .int .i64 n, .string t, .slice da dl dc] 34)).alloc (.cells #[.int .u8 0, .int .u32 0, .int .u64 0, .int .u64 0, .int .u8 0, .slice none 0 0, .int .i64 0, .string ⟨#[]⟩, .slice none 0 0] 84)).alloc (.cells #[.int .u8 (r : Int), .int .u32 (i : Int), .int .u64 (s : Int), .int .u64 (tm : Int), .int .u8 (k : Int), .slice pa pl pc, .int .i64 n, .string t, .slice da dl dc] 84)).heap.size (((W.alloc (.cells #[.int .u8 (r : Int), .int .u32 (i : Int), .int .u64 (s : Int), .slice qa ql qc, .slice va vl vc, .int .u64 (tm : Int), .int .u8 (k : Int), .slice pa pl pc, .int .i64 n, .string t, .slice da dl dc] 34)).alloc (.cells #[.int .u8 0, .int .u32 0, .int .u64 0, .int .u64 0, .int .u8 0, .slice none 0 0, .int .i64 0, .string ⟨#[]⟩, .slice none 0 0] 84)).alloc (.cells #[.int .u8 (r : Int), .int .u32 (i : Int), .int .u64 (s : Int), .int .u64 (tm : Int), .int .u8 (k : Int), .slice pa pl pc, .int .i64 n, .string t, .slice da dl dc] 84)) w → w.cell? ⟨W.heap.size + 1 + 1, 0, none⟩ = some (.int .u8 (r : Int)) ∧ w.cell? ⟨W.heap.size + 1 + 1, 1, none⟩ = some (.int .u32 (i : Int)) ∧ w.cell? ⟨W.heap.size + 1 + 1, 2, none⟩ = some (.int .u64 (s : Int)) ∧ w.cell? ⟨W.heap.size + 1 + 1, 3, none⟩ = some (.int .u64 (tm : Int)) ∧ w.cell? ⟨W.heap.size + 1 + 1, 4, none⟩ = some (.int .u8 (k : Int)) ∧ w.cell? ⟨W.heap.size + 1 + 1, 5, none⟩ = some (.slice pa pl pc) ∧ w.cell? ⟨W.heap.size + 1 + 1, 6, none⟩ = some (.int .i64 n) ∧ w.cell? ⟨W.heap.size + 1 + 1, 7, none⟩ = some (.string t) ∧ w.cell? ⟨W.heap.size + 1 + 1, 8, none⟩ = some (.slice da dl dc) from fun w h => by
  have := evcells (W := (W.alloc (.cells #[.int .u8 (r : Int), .int .u32 (i : Int), .int .u64 (s : Int), .slice qa ql qc, .slice va vl vc, .int .u64 (tm : Int), .int .u8 (k : Int), .slice pa pl pc, .int .i64 n, .string t, .slice da dl dc] 34)).alloc (.cells #[.int .u8 0, .int .u32 0, .int .u64 0, .int .u64 0, .int .u8 0, .slice none 0 0, .int .i64 0, .string ⟨#[]⟩, .slice none 0 0] 84)) h
  simpa using this)
 refine RegE.region_list (by kernel_rfl) (fun _ => True) [10, 13] [13] [RegE.plain (fun v _ => v = .pointer (some ⟨W.heap.size + 1 + 1, 4, none⟩)), RegE.plain (fun v _ => v = .pointer (some ⟨W.heap.size + 1 + 1, 5, none⟩)), RegE.plain (fun v _ => v = .slice pa pl pc), RegE.plain (fun v w => ∃ a c row, v = .slice a pl c ∧ Own 9 1 encS (W.heap.size + 1 + 1 + 1) w (.slice a pl c) lp row), RegE.plain (fun v _ => v = .pointer (some ⟨W.heap.size + 1 + 1, 4, none⟩)), RegE.plain (fun v _ => v = .pointer (some ⟨W.heap.size + 1 + 1, 8, none⟩)), RegE.plain (fun v _ => v = .slice da dl dc), RegE.plain (fun v w => ∃ a c row, v = .slice a dl c ∧ Own 27 3 encT (W.heap.size + 1 + 1 + 1) w (.slice a dl c) ld row), RegE.plain (fun v _ => v = .pointer (some ⟨W.heap.size + 1 + 1, 4, none⟩)), RegE.plain (fun v _ => v = .pointer (some ⟨W.heap.size + 1 + 1, 5, none⟩)), RegE.change (fun v w => ∃ a c row, v = .pointer (some ⟨W.heap.size + 1 + 1, 5, none⟩) ∧ Blk w (W.heap.size + 1 + 1) 84 [.int .u8 (r : Int), .int .u32 (i : Int), .int .u64 (s : Int), .int .u64 (tm : Int), .int .u8 (k : Int), .slice a pl c, .int .i64 n, .string t, .slice da dl dc] ∧ Own 9 1 encS (W.heap.size + 1 + 1 + 1) w (.slice a pl c) lp row) (fun k => k = W.heap.size + 1 + 1) (fun w w' => ∃ u, w' = w.setCell ⟨W.heap.size + 1 + 1, 5, none⟩ u), RegE.plain (fun v _ => v = .pointer (some ⟨W.heap.size + 1 + 1, 4, none⟩)), RegE.plain (fun v _ => v = .pointer (some ⟨W.heap.size + 1 + 1, 8, none⟩)), RegE.change (fun v w => ∃ a c row a2 c2 row2, v = .pointer (some ⟨W.heap.size + 1 + 1, 8, none⟩) ∧ Blk w (W.heap.size + 1 + 1) 84 [.int .u8 (r : Int), .int .u32 (i : Int), .int .u64 (s : Int), .int .u64 (tm : Int), .int .u8 (k : Int), .slice a pl c, .int .i64 n, .string t, .slice a2 dl c2] ∧ Own 9 1 encS (W.heap.size + 1 + 1 + 1) w (.slice a pl c) lp row ∧ Own 27 3 encT (W.heap.size + 1 + 1 + 1) w (.slice a2 dl c2) ld row2) (fun k => k = W.heap.size + 1 + 1) (fun w w' => ∃ u, w' = w.setCell ⟨W.heap.size + 1 + 1, 8, none⟩ u)] (by kernel_rfl) (by kernel_rfl) (trivial) (fun (_ _ : World) _ _ => trivial) ?_ ?_ ?_ ?_ ?_ ?_
 ·exact ⟨Or.inr ⟨fun _ h => h, rfl⟩, Or.inr ⟨fun _ h => h, rfl⟩, Or.inr ⟨fun _ h => h, rfl⟩, Or.inr ⟨fun _ h => h, rfl⟩, Or.inr ⟨fun _ h => h, rfl⟩, Or.inr ⟨fun _ h => h, rfl⟩, Or.inr ⟨fun _ h => h, rfl⟩, Or.inr ⟨fun _ h => h, rfl⟩, Or.inr ⟨fun _ h => h, rfl⟩, Or.inr ⟨fun _ h => h, rfl⟩, Or.inl (by decide), Or.inr ⟨fun _ h => h, rfl⟩, Or.inr ⟨fun _ h => h, rfl⟩, Or.inl (by decide), trivial⟩
 ·exact ⟨⟨fun _ _ h => h, fun wx wy h => (fun (_ _ : World) _ _ => trivial) wx wy (RegE.to_below h (fun _ h => h))⟩, ⟨fun _ _ h => h, fun wx wy h => (fun (_ _ : World) _ _ => trivial) wx wy (RegE.to_below h (fun _ h => h))⟩, ⟨fun _ _ h => h, fun wx wy h => (fun (_ _ : World) _ _ => trivial) wx wy (RegE.to_below h (fun _ h => h))⟩, ⟨fun _ _ h => h, fun wx wy h => (fun (_ _ : World) _ _ => trivial) wx wy (RegE.to_below h (fun _ h => h))⟩, ⟨fun _ _ h => h, fun wx wy h => (fun (_ _ : World) _ _ => trivial) wx wy (RegE.to_below h (fun _ h => h))⟩, ⟨fun _ _ h => h, fun wx wy h => (fun (_ _ : World) _ _ => trivial) wx wy (RegE.to_below h (fun _ h => h))⟩, ⟨fun _ _ h => h, fun wx wy h => (fun (_ _ : World) _ _ => trivial) wx wy (RegE.to_below h (fun _ h => h))⟩, ⟨fun _ _ h => h, fun wx wy h => (fun (_ _ : World) _ _ => trivial) wx wy (RegE.to_below h (fun _ h => h))⟩, ⟨fun _ _ h => h, fun wx wy h => (fun (_ _ : World) _ _ => trivial) wx wy (RegE.to_below h (fun _ h => h))⟩, ⟨fun _ _ h => h, fun wx wy h => (fun (_ _ : World) _ _ => trivial) wx wy (RegE.to_below h (fun _ h => h))⟩, ⟨(fun wa wb h => by obtain ⟨u, rfl⟩ := h; exact (Chg.refl (fun k => k = W.heap.size + 1 + 1) wa).set (Or.inr rfl) _ _), (fun _ _ _ _ => trivial)⟩, ⟨fun _ _ h => h, fun wx wy h => (fun (_ _ : World) _ _ => trivial) wx wy (RegE.to_below h (fun _ h => h))⟩, ⟨fun _ _ h => h, fun wx wy h => (fun (_ _ : World) _ _ => trivial) wx wy (RegE.to_below h (fun _ h => h))⟩, ⟨(fun wa wb h => by obtain ⟨u, rfl⟩ := h; exact (Chg.refl (fun k => k = W.heap.size + 1 + 1) wa).set (Or.inr rfl) _ _), (fun _ _ _ _ => trivial)⟩, trivial⟩
 ·refine ⟨k4, k4, k4, (fun v wa wb hb h => by obtain ⟨a, c, row, h1, h2⟩ := h; exact ⟨a, c, row, h1, h2.below hb⟩), k4, k4, k4, (fun v wa wb hb h => by obtain ⟨a, c, row, h1, h2⟩ := h; exact ⟨a, c, row, h1, h2.below hb⟩), k4, k4, (fun v wa wb hb h => by obtain ⟨a, c, row, h1, h2, h3⟩ := h; exact ⟨a, c, row, h1, h2.below hb, h3.below hb⟩), k4, k4, (fun v wa wb hb h => by obtain ⟨a, c, row, a2, c2, row2, h1, h2, h3, h4⟩ := h; exact ⟨a, c, row, a2, c2, row2, h1, h2.below hb, h3.below hb, h4.below hb⟩), trivial⟩
 ·refine ⟨⟨Or.inr (Or.inr (Or.inr k4)), Or.inr (Or.inr (Or.inr k4)), Or.inr (Or.inr (Or.inr k4)), Or.inr (Or.inr (Or.inl (by kernel_rfl))), Or.inr (Or.inr (Or.inr k4)), Or.inr (Or.inr (Or.inr k4)), Or.inr (Or.inr (Or.inr k4)), Or.inr (Or.inr (Or.inr (fun v wa wb hr h => by obtain ⟨u, rfl⟩ := hr; obtain ⟨a, c, row, h1, h2⟩ := h; exact ⟨a, c, row, h1, ownCell h2 (Nat.lt_succ_self _) _ _⟩))), Or.inr (Or.inr (Or.inr k4)), Or.inr (Or.inr (Or.inr k4)), Or.inl rfl, Or.inr (Or.inr (Or.inr k4)), Or.inr (Or.inr (Or.inr k4)), Or.inr (Or.inl (by kernel_rfl)), trivial⟩, ⟨Or.inr (Or.inr (Or.inr k4)), Or.inr (Or.inr (Or.inr k4)), Or.inr (Or.inr (Or.inr k4)), Or.inr (Or.inr (Or.inl (by kernel_rfl))), Or.inr (Or.inr (Or.inr k4)), Or.inr (Or.inr (Or.inr k4)), Or.inr (Or.inr (Or.inr k4)), Or.inr (Or.inr (Or.inl (by kernel_rfl))), Or.inr (Or.inr (Or.inr k4)), Or.inr (Or.inr (Or.inr k4)), Or.inr (Or.inr (Or.inl (by kernel_rfl))), Or.inr (Or.inr (Or.inr k4)), Or.inr (Or.inr (Or.inr k4)), Or.inl rfl, trivial⟩, trivial⟩
 ·refine ⟨?_, ?_, ?_, ?_, ?_, ?_, ?_, ?_, ?_, ?_, ?_, ?_, ?_, ?_, trivial⟩
  ·intro ev w hc hf hg hfix hdep hchg hinv
   have e3 : ev (.tmp 3) = _ := hfix 3 (by decide)
   exact Or.inl ⟨trivial, Or.inl ⟨_, w, by go_simp, rfl, Chg.refl _ _⟩⟩
  ·intro ev w hc hf hg hfix hdep hchg hinv
   have e11 : ev (.tmp 11) = _ := hdep 0 (by decide)
   exact Or.inl ⟨trivial, Or.inl ⟨_, w, by go_simp, rfl, Chg.refl _ _⟩⟩
  ·intro ev w hc hf hg hfix hdep hchg hinv
   have e12 : ev (.tmp 12) = _ := hdep 1 (by decide)
   have hb0 := RegE.chg0 (hchg [] (by kernel_rfl))
   have hcs := HCs.out w hb0
   obtain ⟨hc0, hc1, hc2, hc3, hc4, hc5, hc6, hc7, hc8⟩ := hcs
   exact Or.inl ⟨trivial, Or.inl ⟨_, w, by go_simp, rfl, Chg.refl _ _⟩⟩
  ·intro ev w hc hf hg hfix hdep hchg hinv
   have e13 : ev (.tmp 13) = _ := hdep 2 (by decide)
   refine Or.inl ⟨trivial, Or.inr (Or.inl ⟨56, #[.slice pa pl pc], w, by go_simp, ?_⟩)⟩
   have hb0 := RegE.chg0 (hchg [] (by kernel_rfl))
   refine (cloneS_x pa pl pc lp w (HP.out.below (HB2.out.trans (hb0.mono HB2.out.size))) HPl.out hpn).mono ?_
   rintro e w9 ⟨⟨a, c, row, rfl, hr⟩, hb⟩
   have hsz : W.heap.size + 1 + 1 + 1 ≤ w.heap.size := by simpa using hb0.size
   exact ⟨_, rfl, ⟨a, c, row, rfl, hr.base hsz⟩, Chg.of_below hb⟩
  ·intro ev w hc hf hg hfix hdep hchg hinv
   have e3 : ev (.tmp 3) = _ := hfix 3 (by decide)
   exact Or.inl ⟨trivial, Or.inl ⟨_, w, by go_simp, rfl, Chg.refl _ _⟩⟩
  ·intro ev w hc hf hg hfix hdep hchg hinv
   have e15 : ev (.tmp 15) = _ := hdep 4 (by decide)
   exact Or.inl ⟨trivial, Or.inl ⟨_, w, by go_simp, rfl, Chg.refl _ _⟩⟩
  ·intro ev w hc hf hg hfix hdep hchg hinv
   have e16 : ev (.tmp 16) = _ := hdep 5 (by decide)
   have hb0 := RegE.chg0 (hchg [] (by kernel_rfl))
   have hcs := HCs.out w hb0
   obtain ⟨hc0, hc1, hc2, hc3, hc4, hc5, hc6, hc7, hc8⟩ := hcs
   exact Or.inl ⟨trivial, Or.inl ⟨_, w, by go_simp, rfl, Chg.refl _ _⟩⟩
  ·intro ev w hc hf hg hfix hdep hchg hinv
   have e17 : ev (.tmp 17) = _ := hdep 6 (by decide)
   refine Or.inl ⟨trivial, Or.inr (Or.inl ⟨27, #[.slice da dl dc], w, by go_simp, ?_⟩)⟩
   have hb0 := RegE.chg0 (hchg [] (by kernel_rfl))
   refine (cloneD_x da dl dc ld w (HD.out.below (HB2.out.trans (hb0.mono HB2.out.size))) HDl.out hdn).mono ?_
   rintro e w9 ⟨⟨a, c, row, rfl, hr⟩, hb⟩
   have hsz : W.heap.size + 1 + 1 + 1 ≤ w.heap.size := by simpa using hb0.size
   exact ⟨_, rfl, ⟨a, c, row, rfl, hr.base hsz⟩, Chg.of_below hb⟩
  ·intro ev w hc hf hg hfix hdep hchg hinv
   have e3 : ev (.tmp 3) = _ := hfix 3 (by decide)
   exact Or.inl ⟨trivial, Or.inl ⟨_, w, by go_simp, rfl, Chg.refl _ _⟩⟩
  ·intro ev w hc hf hg hfix hdep hchg hinv
   have e19 : ev (.tmp 19) = _ := hdep 8 (by decide)
   exact Or.inl ⟨trivial, Or.inl ⟨_, w, by go_simp, rfl, Chg.refl _ _⟩⟩
  ·intro ev w hc hf hg hfix hdep hchg hinv
   have e20 : ev (.tmp 20) = _ := hdep 9 (by decide)
   have e14 := hdep 3 (by decide)
   have hb0 := RegE.chg0 (hchg [] (by kernel_rfl))
   obtain ⟨a, c, row, hv, hrow⟩ := e14
   have e14 : ev (.tmp 14) = .slice a pl c := hv
   have hblk := HBk.out w hb0
   have hcs := HCs.out w hb0
   obtain ⟨hc0, hc1, hc2, hc3, hc4, hc5, hc6, hc7, hc8⟩ := hcs
   have hy := hblk.frozen 5
   exact Or.inl ⟨trivial, Or.inr (Or.inr ⟨w.setCell ⟨W.heap.size + 1 + 1, 5, none⟩ (.slice a pl c), by go_simp, ⟨a, c, row, e20, hblk.set 5 _, ownCell hrow (Nat.lt_succ_self _) _ _⟩, ⟨_, rfl⟩⟩)⟩
  ·intro ev w hc hf hg hfix hdep hchg hinv
   have e3 : ev (.tmp 3) = _ := hfix 3 (by decide)
   exact Or.inl ⟨trivial, Or.inl ⟨_, w, by go_simp, rfl, Chg.refl _ _⟩⟩
  ·intro ev w hc hf hg hfix hdep hchg hinv
   have e21 : ev (.tmp 21) = _ := hdep 11 (by decide)
   exact Or.inl ⟨trivial, Or.inl ⟨_, w, by go_simp, rfl, Chg.refl _ _⟩⟩
  ·intro ev w hc hf hg hfix hdep hchg hinv
   have e22 : ev (.tmp 22) = _ := hdep 12 (by decide)
   have e18 := hdep 7 (by decide)
   obtain ⟨a, c, row, hv, hrow⟩ := e18
   have e18 : ev (.tmp 18) = .slice a dl c := hv
   obtain ⟨a5, c5, row5, hv5, hblk, hrow5⟩ := hdep 10 (by decide)
   have hc8 := hblk.cell 8
   simp only [List.getElem?_cons_succ, List.getElem?_cons_zero] at hc8
   have hy := hblk.frozen 8
   exact Or.inl ⟨trivial, Or.inr (Or.inr ⟨w.setCell ⟨W.heap.size + 1 + 1, 8, none⟩ (.slice a dl c), by go_simp, ⟨a5, c5, row5, a, c, row, e22, hblk.set 8 _, ownCell hrow5 (Nat.lt_succ_self _) _ _, ownCell hrow (Nat.lt_succ_self _) _ _⟩, ⟨_, rfl⟩⟩)⟩
 ·intro v w2 hv hlk hb2 hJ2
  have r13 := hv 13 (by decide) (by decide)
  simp only [Reg.putAll, Act.put, List.setIfInBounds_toArray, List.set_cons_zero, List.set_cons_succ]
  clear hv hlk
  obtain ⟨a, c, row, a2, c2, row2, _, hblk, hr1, hr2⟩ := r13
  have hch := hb2
  have hbW : Below W.heap.size W w2 := HB2.out.trans (hch.below (fun k _ h => by rcases h with h | h | h <;> first | exact h.elim | (have : k = W.heap.size + 1 + 1 := h; omega)) HB2.out.size)
  have hz : Blk w2 (W.heap.size + 1) 84 [.int .u8 0, .int .u32 0, .int .u64 0, .int .u64 0, .int .u8 0, .slice none 0 0, .int .i64 0, .string ⟨#[]⟩, .slice none 0 0] := by
   have h0 : Blk (((W.alloc (.cells #[.int .u8 (r : Int), .int .u32 (i : Int), .int .u64 (s : Int), .slice qa ql qc, .slice va vl vc, .int .u64 (tm : Int), .int .u8 (k : Int), .slice pa pl pc, .int .i64 n, .string t, .slice da dl dc] 34)).alloc (.cells #[.int .u8 0, .int .u32 0, .int .u64 0, .int .u64 0, .int .u8 0, .slice none 0 0, .int .i64 0, .string ⟨#[]⟩, .slice none 0 0] 84)).alloc (.cells #[.int .u8 (r : Int), .int .u32 (i : Int), .int .u64 (s : Int), .int .u64 (tm : Int), .int .u8 (k : Int), .slice pa pl pc, .int .i64 n, .string t, .slice da dl dc] 84)) (W.heap.size + 1) 84 [.int .u8 0, .int .u32 0, .int .u64 0, .int .u64 0, .int .u8 0, .slice none 0 0, .int .i64 0, .string ⟨#[]⟩, .slice none 0 0] := by
    have := (Blk.new (W.alloc (.cells #[.int .u8 (r : Int), .int .u32 (i : Int), .int .u64 (s : Int), .slice qa ql qc, .slice va vl vc, .int .u64 (tm : Int), .int .u8 (k : Int), .slice pa pl pc, .int .i64 n, .string t, .slice da dl dc] 34)) #[.int .u8 0, .int .u32 0, .int .u64 0, .int .u64 0, .int .u8 0, .slice none 0 0, .int .i64 0, .string ⟨#[]⟩, .slice none 0 0] 84).below (below_box _ #[.int .u8 (r : Int), .int .u32 (i : Int), .int .u64 (s : Int), .int .u64 (tm : Int), .int .u8 (k : Int), .slice pa pl pc, .int .i64 n, .string t, .slice da dl dc] 84)
    simpa using this
   exact h0.chg hch (fun h => by rcases h with h | h | h <;> first | exact h.elim | (have : W.heap.size + 1 = W.heap.size + 1 + 1 := h; omega))
  have HO1 := Lib.hid hr1; have HO2 := Lib.hid hr2; have HBW := Lib.hid hbW
  have d0 := hblk.cell 0; have d1 := hblk.cell 1; have d2 := hblk.cell 2; have d3 := hblk.cell 3; have d4 := hblk.cell 4; have d5 := hblk.cell 5; have d6 := hblk.cell 6; have d7 := hblk.cell 7; have d8 := hblk.cell 8
  have y0 := hz.frozen 0; have y1 := hz.frozen 1; have y2 := hz.frozen 2; have y3 := hz.frozen 3; have y4 := hz.frozen 4; have y5 := hz.frozen 5; have y6 := hz.frozen 6; have y7 := hz.frozen 7; have y8 := hz.frozen 8
  have z0 := hz.cell 0; have z1 := hz.cell 1; have z2 := hz.cell 2; have z3 := hz.cell 3; have z4 := hz.cell 4; have z5 := hz.cell 5; have z6 := hz.cell 6; have z7 := hz.cell 7; have z8 := hz.cell 8
  simp only [List.getElem?_cons_succ, List.getElem?_cons_zero] at d0 d1 d2 d3 d4 d5 d6 d7 d8 z0 z1 z2 z3 z4 z5 z6 z7 z8
  clear hb2 hch hbW hz hblk hr1 hr2
  go_wp2_with fail
  refine bodyPost_ret (v := evV r i s tm k a pl c n t a2 dl c2) (by simp [results, Tryz.results38, go_sem, z0, z1, z2, z3, z4, z5, z6, z7, z8]) rfl ⟨a, c, a2, c2, rfl, ?_, ?_, ?_⟩
  ·intro w2 h2
   exact ownS_srow ((ownCell (ownCell (ownCell (ownCell (ownCell (ownCell (ownCell (ownCell (ownCell HO1.out (by omega) 0 _) (by omega) 1 _) (by omega) 2 _) (by omega) 3 _) (by omega) 4 _) (by omega) 5 _) (by omega) 6 _) (by omega) 7 _) (by omega) 8 _).chg h2 (fun k hk e => by have := (HO1.out.lt k hk).1; omega)) HP.out.ok
  ·intro w2 h2
   exact ownT_vrow ((ownCell (ownCell (ownCell (ownCell (ownCell (ownCell (ownCell (ownCell (ownCell HO2.out (by omega) 0 _) (by omega) 1 _) (by omega) 2 _) (by omega) 3 _) (by omega) 4 _) (by omega) 5 _) (by omega) 6 _) (by omega) 7 _) (by omega) 8 _).chg h2 (fun k hk e => by have := (HO2.out.lt k hk).1; omega)) HD.out.2.2.1
  ·exact ((((((((HBW.out.setCell (by simp) _).setCell (by simp) _).setCell (by simp) _).setCell (by simp) _).setCell (by simp) _).setCell (by simp) _).setCell (by simp) _).setCell (by simp) _).setCell (by simp) _
theorem event_any (r i s : Nat) (qa : Option Addr) (ql qc : Nat) (va : Option Addr) (vl vc : Nat) (tm k : Nat) (pa : Option Addr) (pl pc : Nat) (n : Int) (t : ByteArray) (da : Option Addr) (dl dc : Nat) (lq lv : List Dt.Dot) (lp : List ByteArray) (ld : List Dt.Dot) (W : World) (hq : VRow W qa qc lq) (hql : lq.length = ql) (hv : VRow W va vc lv) (hvl : lv.length = vl) (hp : SRow W pa pc lp) (hpl : lp.length = pl) (hd : VRow W da dc ld) (hdl : ld.length = dl) (hpn : pl ≤ 1000000000) (hdn : dl ≤ 1000000000) :
  Calls Tryz.prog 38 #[cmV r i s qa ql qc va vl vc tm k pa pl pc n t da dl dc] W fun e w' => ∃ pa' pc' da' dc', e = .returned (evV r i s tm k pa' pl pc' n t da' dl dc') ∧ SRow w' pa' pc' lp ∧ VRow w' da' dc' ld ∧ Below W.heap.size W w' := by
 refine (event_s r i s qa ql qc va vl vc tm k pa pl pc n t da dl dc lq lv lp ld W hq hql hv hvl hp hpl hd hdl hpn hdn).mono ?_
 rintro e w' ⟨a, b, c, d, h1, h2, h3, h4⟩
 exact ⟨a, b, c, d, h1, h2 _ (Chg.refl _ _), h3 _ (Chg.refl _ _), h4⟩
end Go.Proofs.YtiiidmphmojlgaaGreat
namespace Go.Proofs.YtiiidmphmojlgaaGreat
open Go.RowKit Go.Buf Go.Maps
set_option linter.unusedSimpArgs false
set_option linter.unusedVariables false
theorem dot_neO {d e : Dt.Dot} (h : d ≠ e) : d.1.1 ≠ e.1.1 ∨ (d.1.1 = e.1.1 ∧ d.1.2 ≠ e.1.2) ∨ (d.1.1 = e.1.1 ∧ d.1.2 = e.1.2 ∧ d.2 ≠ e.2) := by
 rcases d with ⟨⟨a, b⟩, c⟩; rcases e with ⟨⟨x, y⟩, z⟩
 simp only [ne_eq, Prod.mk.injEq] at *
 omega
theorem take_eq_succO {la lb : List Dt.Dot} {k : Nat} {d : Dt.Dot} (h : la.take k = lb.take k) (ha : la[k]? = some d) (hb : lb[k]? = some d) : la.take (k + 1) = lb.take (k + 1) := by
 obtain ⟨h1, rfl⟩ := List.getElem?_eq_some_iff.1 ha
 obtain ⟨h2, e⟩ := List.getElem?_eq_some_iff.1 hb
 rw [List.take_succ_eq_append_getElem h1, List.take_succ_eq_append_getElem h2, h, e]
end Go.Proofs.YtiiidmphmojlgaaGreat
namespace Go.Proofs.YtiiidmphmojlgaaGreat
open Go.RowKit Go.Buf Go.LB
set_option linter.unusedSimpArgs false
set_option linter.unusedVariables false
def okI (x : Lm.It) : Prop := x.1 < 18446744073709551616 ∧ Dt.okD x.2.1 ∧ x.2.2.size ≤ 9223372036854775807
def encI (x : Lm.It) : List Value := [.int .u64 (x.1 : Int), .int .u8 (x.2.1.1.1 : Int), .int .u32 (x.2.1.1.2 : Int), .int .u64 (x.2.1.2 : Int), .string x.2.2]
abbrev itV (t r i s : Nat) (x : ByteArray) : Value := .agg #[.int .u64 (t : Int), .int .u8 (r : Int), .int .u32 (i : Int), .int .u64 (s : Int), .string x]
abbrev leafV (k : Nat) (n : Int) (t r i s : Nat) (x : ByteArray) (ia : Option Addr) (il ic : Nat) (da : Option Addr) (dl dc : Nat) : Value := .agg #[.int .u8 (k : Int), .int .i64 n, .int .u64 (t : Int), .int .u8 (r : Int), .int .u32 (i : Int), .int .u64 (s : Int), .string x, .slice ia il ic, .slice da dl dc]
def IRow (w : World) (a : Option Addr) (cap : Nat) (l : List Lm.It) : Prop :=
 l.length ≤ cap ∧ cap ≤ 9223372036854775807 ∧ (∀ x ∈ l, okI x) ∧ (a = none → cap = 0) ∧
 ∀ i x, l[i]? = some x → ∃ p, a = some p ∧ w.cell? (p.add (i * 5)) = some (.int .u64 (x.1 : Int)) ∧ w.cell? (p.add (i * 5 + 1)) = some (.int .u8 (x.2.1.1.1 : Int)) ∧ w.cell? (p.add (i * 5 + 2)) = some (.int .u32 (x.2.1.1.2 : Int)) ∧ w.cell? (p.add (i * 5 + 3)) = some (.int .u64 (x.2.1.2 : Int)) ∧ w.cell? (p.add (i * 5 + 4)) = some (.string x.2.2)
theorem IRow.le {w : World} {a : Option Addr} {cap : Nat} {l : List Lm.It} (h : IRow w a cap l) : l.length ≤ cap := h.1
theorem IRow.cap {w : World} {a : Option Addr} {cap : Nat} {l : List Lm.It} (h : IRow w a cap l) : cap ≤ 9223372036854775807 := h.2.1
theorem IRow.ok {w : World} {a : Option Addr} {cap : Nat} {l : List Lm.It} (h : IRow w a cap l) : ∀ x ∈ l, okI x := h.2.2.1
theorem IRow.below {w w' : World} {a : Option Addr} {cap : Nat} {l : List Lm.It} (h : IRow w a cap l) (hb : Below w.heap.size w w') : IRow w' a cap l := by
 refine ⟨h.1, h.2.1, h.2.2.1, h.2.2.2.1, fun i d hd => ?_⟩
 obtain ⟨p, hp, h1, h2, h3, h4, h5⟩ := h.2.2.2.2 i d hd
 exact ⟨p, hp, (hb.cell (World.block_lt_of_cell? _ _ h1)).trans h1, (hb.cell (World.block_lt_of_cell? _ _ h2)).trans h2, (hb.cell (World.block_lt_of_cell? _ _ h3)).trans h3, (hb.cell (World.block_lt_of_cell? _ _ h4)).trans h4, (hb.cell (World.block_lt_of_cell? _ _ h5)).trans h5⟩
theorem IRow.nil (w : World) : IRow w none 0 [] := ⟨by simp, by omega, by simp, by simp, by simp⟩
theorem IRow.at {w : World} {a : Option Addr} {cap : Nat} {l : List Lm.It} (h : IRow w a cap l) (hl : 0 < l.length) :
  ∃ b off, a = some ⟨b, off, none⟩ ∧ b < w.heap.size ∧ ∀ i x, l[i]? = some x → w.cell? ⟨b, off + i * 5, none⟩ = some (.int .u64 (x.1 : Int)) ∧ w.cell? ⟨b, off + i * 5 + 1, none⟩ = some (.int .u8 (x.2.1.1.1 : Int)) ∧ w.cell? ⟨b, off + i * 5 + 2, none⟩ = some (.int .u32 (x.2.1.1.2 : Int)) ∧ w.cell? ⟨b, off + i * 5 + 3, none⟩ = some (.int .u64 (x.2.1.2 : Int)) ∧ w.cell? ⟨b, off + i * 5 + 4, none⟩ = some (.string x.2.2) := by
 obtain ⟨p, hp, hc, _⟩ := h.2.2.2.2 0 l[0] (by simp [hl])
 have hs := World.cell?_spot hc
 obtain ⟨b, off, spot⟩ := p
 have hspot : spot = none := by simpa [Addr.add] using hs
 subst hspot
 refine ⟨b, off, hp, by simpa [Addr.add] using World.block_lt_of_cell? w _ hc, fun i d hd => ?_⟩
 obtain ⟨q, hq, h1, h2, h3, h4, h5⟩ := h.2.2.2.2 i d hd
 rw [hp] at hq
 obtain rfl := Option.some.inj hq
 rw [Addr.add_mid] at h1 h2 h3 h4 h5
 exact ⟨h1, h2, h3, h4, h5⟩
def newK (k : Nat) : Nat := if 1 ≤ k ∧ k ≤ 4 then k else 0
abbrev bareV (k : Nat) : Value := leafV k 0 0 0 0 0 ⟨#[]⟩ none 0 0 none 0 0
end Go.Proofs.YtiiidmphmojlgaaGreat
