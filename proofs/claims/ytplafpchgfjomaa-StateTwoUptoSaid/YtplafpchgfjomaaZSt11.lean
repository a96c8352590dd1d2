import Derived.Test.YtplafpchgfjomaaZSt10
namespace Go.Proofs.Ytplafpchgfjomaa
open Go.RowKit Go.Buf Go.LB
set_option linter.unusedSimpArgs false
set_option linter.unusedVariables false
structure PS (B g : Nat) (X : World) (row0 : Option Nat) (w : World) (L : List Nat) (a : Option Addr) (n c : Nat) (row : Option Nat) : Prop where
  blk : Blk w g 26 [.slice a n c]
  bb : BB B w (.slice a n c) L row
  nw : NewH X.heap.size row0 row
  chg : Chg (fun k => some k = row0 ∨ k = g) X w
def Stay (g : Nat) (w w' : World) : Prop := ∀ b T cs, Blk w b T cs → T ≠ 5 → b ≠ g → Blk w' b T cs
theorem ps_call {B g : Nat} {X w w1 : World} {row0 row : Option Nat} {L L' : List Nat} {a : Option Addr} {n c : Nat} {e : Ending} (h : PS B g X row0 w L a n c row) (hr : RetBB B w row L' e w1) :
  ∃ a1 n1 c1 row1, e = .returned (.slice a1 n1 c1) ∧ Blk w1 g 26 [.slice a n c] ∧ BB B w1 (.slice a1 n1 c1) L' row1 ∧ NewH X.heap.size row0 row1 ∧ Chg (fun k => some k = row0 ∨ k = g) X w1 ∧ Stay g w w1 := by
 obtain ⟨v1, row1, rfl, h1, h2, h3⟩ := hr
 obtain ⟨a1, n1, c1, rfl, _, _⟩ := h1.rowN
 refine ⟨a1, n1, c1, row1, rfl, h.blk.grown h2 (bb_row_ne h.bb h.blk (by decide)), h1, h.nw.step h3 h.chg.size, h.chg.trans (h.nw.chg h2) (fun k hk e => ?_), fun b T cs hb hT _ => hb.grown h2 (bb_row_ne h.bb hb hT)⟩
 rcases e with e | e
 ·exact Or.inl e
 ·omega
theorem ps_store {B g : Nat} {X w1 : World} {row0 row1 : Option Nat} {L' : List Nat} {a a1 : Option Addr} {n c n1 c1 : Nat} (h1 : Blk w1 g 26 [.slice a n c]) (h2 : BB B w1 (.slice a1 n1 c1) L' row1) (h3 : NewH X.heap.size row0 row1) (h4 : Chg (fun k => some k = row0 ∨ k = g) X w1) (hL : 0 < L'.length) :
  PS B g X row0 (w1.setCell ⟨g, 0, none⟩ (.slice a1 n1 c1)) L' a1 n1 c1 row1 :=
 ⟨h1.set 0 _, h2.set_box hL h1 _, h3, h4.set (Or.inr (Or.inr rfl)) 0 _⟩
theorem PS.alloc {B g : Nat} {X w : World} {row0 row : Option Nat} {L : List Nat} {a : Option Addr} {n c : Nat} (h : PS B g X row0 w L a n c row) (ob : Obj) : PS B g X row0 (w.alloc ob) L a n c row :=
 ⟨h.blk.grown (World.grownBy_alloc w ob none) (by simp), h.bb.alloc ob, h.nw, h.chg.alloc ob⟩
theorem PS.below {B g : Nat} {X w : World} {row0 row : Option Nat} {L : List Nat} {a : Option Addr} {n c : Nat} (h : PS B g X row0 w L a n c row) {X0 : World} (hX : Below B X0 X) (hB : B ≤ X0.heap.size) (hr : ∀ k, row0 = some k → B ≤ k) (hg : B ≤ g) : Below B X0 w :=
 hX.trans (h.chg.below (fun k _ e => by rcases e with e | e; exact hr k e.symm; omega) (Nat.le_trans hB hX.size))
theorem Stay.set {g : Nat} {w w1 : World} (h : Stay g w w1) (v : Value) : Stay g w (w1.setCell ⟨g, 0, none⟩ v) := fun b T cs hb hT hn => (h b T cs hb hT hn).other hn 0 v
theorem Stay.trans {g : Nat} {w w1 w2 : World} (h : Stay g w w1) (h2 : Stay g w1 w2) : Stay g w w2 := fun b T cs hb hT hn => h2 b T cs (h b T cs hb hT hn) hT hn
theorem ps_lay {B g : Nat} {X w : World} {row0 row : Option Nat} {L : List Nat} {a : Option Addr} {n c : Nat} (h : PS B g X row0 w L a n c row) (hL : 0 < L.length) (hsm : L.length + 40 ≤ 140737488355328) (d : Dt.Dot) (hd : Dt.okD d) :
  Calls Try.prog 25 #[dotV d, .pointer (some ⟨g, 0, none⟩)] w fun e w' => e = .returned (.tuple #[]) ∧ (∃ a1 n1 c1 row1, PS B g X row0 w' (L ++ dotE d) a1 n1 c1 row1) ∧ Stay g w w' := by
 refine (lay_any B g _ L row d hd w h.bb hL h.blk hsm).mono ?_
 rintro e w1 ⟨rfl, v', row', h1, h2, h3, h4⟩
 obtain ⟨a1, n1, c1, rfl, _, _⟩ := h2.rowN
 refine ⟨rfl, ⟨a1, n1, c1, row', h1, h2, h.nw.step h3 h.chg.size, h.chg.trans h4 (fun k hk e => ?_)⟩, fun b T cs hb hT hn => hb.chg h4 (fun e => ?_)⟩
 ·rcases e with e | e
  ·rcases h.nw with rfl | ⟨j, rfl, hj⟩
   ·exact Or.inl e
   ·cases e; omega
  ·exact Or.inr e
 ·rcases e with e | e
  ·exact bb_row_ne h.bb hb hT e
  ·exact hn e
theorem upE_le {α : Type} (f : α → List Nat) (l : List α) (j : Nat) : (upE f l j).length ≤ (l.flatMap f).length := by
 have h : l.flatMap f = (l.take j).flatMap f ++ (l.drop j).flatMap f := by rw [← List.flatMap_append, List.take_append_drop]
 rw [h, List.length_append]; unfold upE; omega
theorem flat_ge {α : Type} (f : α → List Nat) {l : List α} {x : α} (h : x ∈ l) : (f x).length ≤ (l.flatMap f).length := by
 induction l with
 | nil => cases h
 | cons y l ih =>
  simp only [List.flatMap_cons, List.length_append]
  rcases List.mem_cons.1 h with rfl | h
  ·omega
  ·have := ih h; omega
theorem ps_region {B g : Nat} {X XX w2 : World} {row0 row : Option Nat} {L L2 : List Nat} {a : Option Addr} {n c : Nat} (h : PS B g X row0 XX L a n c row) {v' : Value} (hk : Blk w2 g 26 [v']) (hq : BQ B XX.heap.size row L2 v' w2) (hch : Chg (fun k => some k = row ∨ XX.heap.size ≤ k ∨ k = g) XX w2) :
  (∃ a1 n1 c1 row1, PS B g X row0 w2 L2 a1 n1 c1 row1) ∧ Stay g XX w2 := by
 obtain ⟨row', hb, hn⟩ := hq
 obtain ⟨a1, n1, c1, rfl, _, _⟩ := hb.rowN
 refine ⟨⟨a1, n1, c1, row', hk, hb, ?_, h.chg.trans hch (fun k hk e => ?_)⟩, fun b T cs hbk hT hne => hbk.chg hch (fun e => ?_)⟩
 ·rcases hn with rfl | ⟨k, rfl, hk⟩
  ·exact h.nw
  ·exact Or.inr ⟨k, rfl, Nat.le_trans h.chg.size hk⟩
 ·have := h.chg.size
  rcases e with e | e | e
  ·rcases h.nw with rfl | ⟨j, rfl, hj⟩
   ·exact Or.inl e
   ·cases e; omega
  ·omega
  ·exact Or.inr e
 ·rcases e with e | e | e
  ·exact bb_row_ne h.bb hbk hT e
  ·have := hbk.lt; omega
  ·exact hne e
set_option maxRecDepth 100000 in
set_option maxHeartbeats 25600000 in
theorem putLeaf_any {X W : World} {v : Value} {l : List Nat} {row0 : Option Nat} (hb0 : BB X.heap.size W v l row0) (hbel : Below X.heap.size X W) (k : Nat) (hk : k < 256) (n : Int) (hn : -9223372036854775808 ≤ n ∧ n ≤ 9223372036854775807) (t : Nat) (ht : t < 18446744073709551616) (r i s : Nat) (hd : Dt.okD ((r, i), s)) (u : ByteArray) (hu : u.size ≤ 100000000) (ia : Option Addr) (il ic : Nat) (da : Option Addr) (dl dc : Nat) (li : List Lm.It) (ld : List Dt.Dot) (hir : IRow X ia ic li) (hil : li.length = il) (hdr : VRow X da dc ld) (hdl : ld.length = dl) (hil2 : il ≤ 1000000) (hdl2 : dl ≤ 1000000) (hti : (li.flatMap itE).length ≤ 1000000000) (hsm : l.length ≤ 1000000000) :
  Calls Try.prog 21 #[v, leafV k n t r i s u ia il ic da dl dc] W (RetBB X.heap.size W row0 (l ++ lfE ⟨k, n, t, ((r, i), s), u, li, ld⟩)) := by
 obtain ⟨v0, n0, c0, rfl, _, _⟩ := hb0.rowN
 obtain ⟨B, hB⟩ : ∃ B, B = X.heap.size := ⟨_, rfl⟩
 rw [← hB] at hb0 hbel ⊢
 have hrl := hb0.2.row_le
 have hBW : B ≤ W.heap.size := hb0.2.1
 have HK := Lib.hid hk; have HN := Lib.hid hn; have HT := Lib.hid ht; have HD := Lib.hid hd; have HU := Lib.hid hu; have HIR := Lib.hid hir; have HILn := Lib.hid hil; have HDR := Lib.hid hdr; have HDLn := Lib.hid hdl; have HIL := Lib.hid hil2; have HDL := Lib.hid hdl2; have HTI := Lib.hid hti; have HSL := Lib.hid hsm
 have HW1 := Lib.hid (show IntKind.u64.wrap (k : Int) = (k : Int) by simp [IntKind.wrap, IntKind.bits, IntKind.signed]; omega)
 have HW2 := Lib.hid (show IntKind.u64.wrap (il : Int) = (il : Int) by simp [IntKind.wrap, IntKind.bits, IntKind.signed]; omega)
 have HW3 := Lib.hid (show IntKind.u64.wrap (dl : Int) = (dl : Int) by simp [IntKind.wrap, IntKind.bits, IntKind.signed]; omega)
 have HB0 := Lib.hid hb0; have HBel := Lib.hid hbel; have HRL := Lib.hid hrl; have HBW := Lib.hid hBW; have HB := Lib.hid hB
 clear hb0 hbel hrl hk hn ht hd hu hir hil hdr hdl hil2 hdl2 hti hsm hBW hB
 go_enter Try.func21, Try.ntmps21
 go_wp2_with fail
 obtain ⟨g, hg⟩ : ∃ b, b = W.heap.size := ⟨_, rfl⟩
 obtain ⟨lb, hlb⟩ : ∃ b, b = W.heap.size + 1 := ⟨_, rfl⟩
 obtain ⟨XX, hXX⟩ : ∃ w, w = (W.alloc (.cells #[.slice v0 n0 c0] 26)).alloc (.cells #[.int .u8 (k : Int), .int .i64 n, .int .u64 (t : Int), .int .u8 (r : Int), .int .u32 (i : Int), .int .u64 (s : Int), .string u, .slice ia il ic, .slice da dl dc] 44) := ⟨_, rfl⟩
 have hbe : Below W.heap.size W XX := by rw [hXX]; exact (below_box3 _ _ _).trans ((below_box3 _ _ _).mono (by simp))
 have hXH : XX.heap.size = W.heap.size + 2 := by rw [hXX]; simp
 have hbg : Blk XX g 26 [.slice v0 n0 c0] := by rw [hXX, hg]; exact (Blk.new W #[.slice v0 n0 c0] 26).below (below_box3 _ _ _)
 have hbl : Blk XX lb 44 [.int .u8 (k : Int), .int .i64 n, .int .u64 (t : Int), .int .u8 (r : Int), .int .u32 (i : Int), .int .u64 (s : Int), .string u, .slice ia il ic, .slice da dl dc] := by
  have := Blk.new (W.alloc (.cells #[.slice v0 n0 c0] 26)) #[.int .u8 (k : Int), .int .i64 n, .int .u64 (t : Int), .int .u8 (r : Int), .int .u32 (i : Int), .int .u64 (s : Int), .string u, .slice ia il ic, .slice da dl dc] 44
  rw [hXX, hlb]; simpa using this
 rw [← hXX, ← hlb, ← hg]
 obtain ⟨X1, hX1⟩ : ∃ w, w = XX := ⟨_, rfl⟩
 have HBe1 := Lib.hid (show Below W.heap.size W X1 ∧ W.heap.size ≤ g by rw [hX1]; exact ⟨hbe, by omega⟩)
 have hps : PS B g X1 row0 XX l v0 n0 c0 row0 := by rw [hX1]; exact ⟨hbg, HB0.out.below hbe, Or.inl rfl, Chg.refl _ _⟩
 have hBg : B ≤ g := by rw [hg]; exact HBW.out
 have hXB : Below B X XX := HBel.out.trans (hbe.mono HBW.out)
 have hlg : lb ≠ g := by omega
 have HBg := Lib.hid hBg; have HXB := Lib.hid hXB; have HLg := Lib.hid hlg
 have HBB2 := Lib.hid (show ∀ w L a n c row, PS B g X1 row0 w L a n c row → Below X.heap.size X w from fun w L a n c row h => by
  rw [hX1] at h
  have := h.below hXB (by rw [HB.out]; exact Nat.le_refl _) (fun k e => (HRL.out k e).1) hBg
  rwa [HB.out] at this)
 have HPos2 := Lib.hid (num_pos t)
 obtain ⟨L, hL⟩ : ∃ L, L = l := ⟨_, rfl⟩
 obtain ⟨row, hrow⟩ : ∃ row, row = row0 := ⟨_, rfl⟩
 replace hps : PS B g X1 row0 XX L v0 n0 c0 row := by rw [hL, hrow]; exact hps
 have hsmL : L.length + 200 ≤ 140737488355328 := by rw [hL]; have := HSL.out; omega
 have HSM := Lib.hid hsmL
 have HPOS := Lib.hid (show 0 < (L ++ Cd.num k ++ Cd.num (Cd.uns n) ++ Cd.num t).length by have := num_pos t; simp only [List.length_append]; omega)
 have HLl := Lib.hid hL; have HPs := Lib.hid hps; have HBl := Lib.hid hbl
 clear hXX hbe hbg hXH hlb hBg hXB hlg hL hsmL
 clear hrow hg hX1
 have HBB := Lib.hid hps.bb
 have HGB := Lib.hid (show ∀ w, Chg (fun k => some k = row ∨ XX.heap.size ≤ k) XX w → Blk w g 26 [.slice v0 n0 c0] from fun w h => hps.blk.chg h (fun e => by rcases e with e | e; exact bb_row_ne hps.bb hps.blk (by decide) e; have := hps.blk.lt; omega))
 have HLB := Lib.hid (show ∀ w, Chg (fun k => some k = row ∨ XX.heap.size ≤ k) XX w → Blk w lb 44 [.int .u8 (k : Int), .int .i64 n, .int .u64 (t : Int), .int .u8 (r : Int), .int .u32 (i : Int), .int .u64 (s : Int), .string u, .slice ia il ic, .slice da dl dc] from fun w h => hbl.chg h (fun e => by rcases e with e | e; exact bb_row_ne hps.bb hbl (by decide) e; have := hbl.lt; omega))
 clear hps hbl
 refine RegH.region_list (by kernel_rfl) (fun _ _ => True) [] [4, 7, 10, 11] [11] [] [RegH.plain (fun v _ => v = .slice v0 n0 c0), RegH.plain (fun v _ => v = .pointer (some ⟨lb, 0, none⟩)), RegH.plain (fun v _ => v = .int .u8 (k : Int)), RegH.plain (fun v _ => v = .int .u64 (k : Int)), RegH.change (fun v w => BQ B XX.heap.size row (L ++ Cd.num k) v w) (fun k => some k = row ∨ XX.heap.size ≤ k) (fun u w w' => Chg (fun k => some k = row ∨ XX.heap.size ≤ k) w w'), RegH.plain (fun v _ => v = .pointer (some ⟨lb, 1, none⟩)), RegH.plain (fun v _ => v = .int .i64 n), RegH.change (fun v w => BQ B XX.heap.size row (L ++ Cd.num k ++ Cd.num (Cd.uns n)) v w) (fun k => some k = row ∨ XX.heap.size ≤ k) (fun u w w' => Chg (fun k => some k = row ∨ XX.heap.size ≤ k) w w'), RegH.plain (fun v _ => v = .pointer (some ⟨lb, 2, none⟩)), RegH.plain (fun v _ => v = .int .u64 (t : Int)), RegH.change (fun v w => BQ B XX.heap.size row (L ++ Cd.num k ++ Cd.num (Cd.uns n) ++ Cd.num t) v w) (fun k => some k = row ∨ XX.heap.size ≤ k) (fun u w w' => Chg (fun k => some k = row ∨ XX.heap.size ≤ k) w w'), RegH.change (fun v w => ∃ v', Blk w g 26 [v'] ∧ BQ B XX.heap.size row (L ++ Cd.num k ++ Cd.num (Cd.uns n) ++ Cd.num t) v' w) (fun k => k = g) (fun u w w' => w.grownBy w' (some g))] (by kernel_rfl) (by kernel_rfl) (by kernel_rfl) (fun i hi => by simp at hi) (by kernel_rfl) (by kernel_rfl) rfl (trivial) (fun _ _ _ _ _ => trivial) ?_ ?_ ?_ ?_ ?_ ?_
 ·exact ⟨Or.inr ⟨fun _ h => h, fun _ _ _ h => h⟩, Or.inr ⟨fun _ h => h, fun _ _ _ h => h⟩, Or.inr ⟨fun _ h => h, fun _ _ _ h => h⟩, Or.inr ⟨fun _ h => h, fun _ _ _ h => h⟩, Or.inl (by decide), Or.inr ⟨fun _ h => h, fun _ _ _ h => h⟩, Or.inr ⟨fun _ h => h, fun _ _ _ h => h⟩, Or.inl (by decide), Or.inr ⟨fun _ h => h, fun _ _ _ h => h⟩, Or.inr ⟨fun _ h => h, fun _ _ _ h => h⟩, Or.inl (by decide), Or.inl (by decide), trivial⟩
 ·exact ⟨⟨fun _ _ _ h => h, Or.inl ⟨by decide, fun _ wx wy n h => (fun _ _ _ _ _ => trivial) n wx wy (RegH.to_below h (fun _ h => h))⟩⟩, ⟨fun _ _ _ h => h, Or.inl ⟨by decide, fun _ wx wy n h => (fun _ _ _ _ _ => trivial) n wx wy (RegH.to_below h (fun _ h => h))⟩⟩, ⟨fun _ _ _ h => h, Or.inl ⟨by decide, fun _ wx wy n h => (fun _ _ _ _ _ => trivial) n wx wy (RegH.to_below h (fun _ h => h))⟩⟩, ⟨fun _ _ _ h => h, Or.inl ⟨by decide, fun _ wx wy n h => (fun _ _ _ _ _ => trivial) n wx wy (RegH.to_below h (fun _ h => h))⟩⟩, ⟨(fun u wa wb h => h), Or.inl ⟨by decide, (fun u wa wb n h hj => trivial)⟩⟩, ⟨fun _ _ _ h => h, Or.inl ⟨by decide, fun _ wx wy n h => (fun _ _ _ _ _ => trivial) n wx wy (RegH.to_below h (fun _ h => h))⟩⟩, ⟨fun _ _ _ h => h, Or.inl ⟨by decide, fun _ wx wy n h => (fun _ _ _ _ _ => trivial) n wx wy (RegH.to_below h (fun _ h => h))⟩⟩, ⟨(fun u wa wb h => h), Or.inl ⟨by decide, (fun u wa wb n h hj => trivial)⟩⟩, ⟨fun _ _ _ h => h, Or.inl ⟨by decide, fun _ wx wy n h => (fun _ _ _ _ _ => trivial) n wx wy (RegH.to_below h (fun _ h => h))⟩⟩, ⟨fun _ _ _ h => h, Or.inl ⟨by decide, fun _ wx wy n h => (fun _ _ _ _ _ => trivial) n wx wy (RegH.to_below h (fun _ h => h))⟩⟩, ⟨(fun u wa wb h => h), Or.inl ⟨by decide, (fun u wa wb n h hj => trivial)⟩⟩, ⟨(fun u wa wb h => (Chg.of_grown h).mono (fun k _ e => by simpa using e)), Or.inl ⟨by decide, (fun u wa wb n h hj => trivial)⟩⟩, trivial⟩
 ·refine ⟨k4, k4, k4, k4, (fun v wa wb hb h => by exact h.below hb), k4, k4, (fun v wa wb hb h => by exact h.below hb), k4, k4, (fun v wa wb hb h => by exact h.below hb), (fun v wa wb hb h => by obtain ⟨v', h1, h2⟩ := h; exact ⟨v', h1.below hb, h2.below hb⟩), trivial⟩
 ·refine ⟨⟨Or.inr (Or.inr (Or.inr (fun _ _ _ _ _ _ h => h))), Or.inr (Or.inr (Or.inr (fun _ _ _ _ _ _ h => h))), Or.inr (Or.inr (Or.inr (fun _ _ _ _ _ _ h => h))), Or.inr (Or.inr (Or.inr (fun _ _ _ _ _ _ h => h))), Or.inl rfl, Or.inr (Or.inr (Or.inr (fun _ _ _ _ _ _ h => h))), Or.inr (Or.inr (Or.inr (fun _ _ _ _ _ _ h => h))), Or.inr (Or.inl (by kernel_rfl)), Or.inr (Or.inr (Or.inr (fun _ _ _ _ _ _ h => h))), Or.inr (Or.inr (Or.inr (fun _ _ _ _ _ _ h => h))), Or.inr (Or.inl (by kernel_rfl)), Or.inr (Or.inl (by kernel_rfl)), trivial⟩, ⟨Or.inr (Or.inr (Or.inr (fun _ _ _ _ _ _ h => h))), Or.inr (Or.inr (Or.inr (fun _ _ _ _ _ _ h => h))), Or.inr (Or.inr (Or.inr (fun _ _ _ _ _ _ h => h))), Or.inr (Or.inr (Or.inr (fun _ _ _ _ _ _ h => h))), Or.inr (Or.inr (Or.inl (by kernel_rfl))), Or.inr (Or.inr (Or.inr (fun _ _ _ _ _ _ h => h))), Or.inr (Or.inr (Or.inr (fun _ _ _ _ _ _ h => h))), Or.inl rfl, Or.inr (Or.inr (Or.inr (fun _ _ _ _ _ _ h => h))), Or.inr (Or.inr (Or.inr (fun _ _ _ _ _ _ h => h))), Or.inr (Or.inl (by kernel_rfl)), Or.inr (Or.inl (by kernel_rfl)), trivial⟩, ⟨Or.inr (Or.inr (Or.inr (fun _ _ _ _ _ _ h => h))), Or.inr (Or.inr (Or.inr (fun _ _ _ _ _ _ h => h))), Or.inr (Or.inr (Or.inr (fun _ _ _ _ _ _ h => h))), Or.inr (Or.inr (Or.inr (fun _ _ _ _ _ _ h => h))), Or.inr (Or.inr (Or.inl (by kernel_rfl))), Or.inr (Or.inr (Or.inr (fun _ _ _ _ _ _ h => h))), Or.inr (Or.inr (Or.inr (fun _ _ _ _ _ _ h => h))), Or.inr (Or.inr (Or.inl (by kernel_rfl))), Or.inr (Or.inr (Or.inr (fun _ _ _ _ _ _ h => h))), Or.inr (Or.inr (Or.inr (fun _ _ _ _ _ _ h => h))), Or.inl rfl, Or.inr (Or.inl (by kernel_rfl)), trivial⟩, ⟨Or.inr (Or.inr (Or.inr (fun _ _ _ _ _ _ h => h))), Or.inr (Or.inr (Or.inr (fun _ _ _ _ _ _ h => h))), Or.inr (Or.inr (Or.inr (fun _ _ _ _ _ _ h => h))), Or.inr (Or.inr (Or.inr (fun _ _ _ _ _ _ h => h))), Or.inr (Or.inr (Or.inl (by kernel_rfl))), Or.inr (Or.inr (Or.inr (fun _ _ _ _ _ _ h => h))), Or.inr (Or.inr (Or.inr (fun _ _ _ _ _ _ h => h))), Or.inr (Or.inr (Or.inl (by kernel_rfl))), Or.inr (Or.inr (Or.inr (fun _ _ _ _ _ _ h => h))), Or.inr (Or.inr (Or.inr (fun _ _ _ _ _ _ h => h))), Or.inr (Or.inr (Or.inl (by kernel_rfl))), Or.inl rfl, trivial⟩, trivial⟩
 ·refine ⟨?_, ?_, ?_, ?_, ?_, ?_, ?_, ?_, ?_, ?_, ?_, ?_, trivial⟩
  ·intro ev w hc hf hg hfix hdep hchg hinv
   have e2 : ev (.tmp 2) = _ := hfix 2 (by decide)
   have d0 := (HGB.out w (Chg.mono (RegH.undrewC (hchg [] (by kernel_rfl))) (fun k _ h => by rcases h with h <;> first | exact h.elim | exact h))).cell 0
   simp only [List.getElem?_cons_zero] at d0
   exact Or.inl ⟨trivial, Or.inl ⟨_, w, by go_simp, rfl, Chg.refl _ _⟩⟩
  ·intro ev w hc hf hg hfix hdep hchg hinv
   have e3 : ev (.tmp 3) = _ := hfix 3 (by decide)
   exact Or.inl ⟨trivial, Or.inl ⟨_, w, by go_simp, rfl, Chg.refl _ _⟩⟩
  ·intro ev w hc hf hg hfix hdep hchg hinv
   have e12 : ev (.tmp 12) = _ := hdep 1 (by decide)
   have hdd := HLB.out w (Chg.mono (RegH.undrewC (hchg [] (by kernel_rfl))) (fun k _ h => by rcases h with h <;> first | exact h.elim | exact h))
   have d0 := hdd.cell 0; have d1 := hdd.cell 1; have d2 := hdd.cell 2; have d3 := hdd.cell 3; have d4 := hdd.cell 4; have d5 := hdd.cell 5; have d6 := hdd.cell 6; have d7 := hdd.cell 7; have d8 := hdd.cell 8; simp only [List.getElem?_cons_succ, List.getElem?_cons_zero] at d0 d1 d2 d3 d4 d5 d6 d7 d8
   exact Or.inl ⟨trivial, Or.inl ⟨_, w, by go_simp, rfl, Chg.refl _ _⟩⟩
  ·intro ev w hc hf hg hfix hdep hchg hinv
   have e13 : ev (.tmp 13) = _ := hdep 2 (by decide)
   have hw := HW1.out
   exact Or.inl ⟨trivial, Or.inl ⟨_, w, by go_simp, rfl, Chg.refl _ _⟩⟩
  ·intro ev w hc hf hg hfix hdep hchg hinv
   have e11 : ev (.tmp 11) = _ := hdep 0 (by decide)
   have e14 : ev (.tmp 14) = _ := hdep 3 (by decide)
   refine Or.inl ⟨trivial, Or.inr (Or.inl ⟨19, #[.slice v0 n0 c0, .int .u64 (k : Int)], w, by go_simp, ?_⟩)⟩
   have hsz : XX.heap.size ≤ w.heap.size := (hchg [] (by kernel_rfl)).size
   have hbe := RegH.chg0 (hchg [] (by kernel_rfl))
   have hb := HBB.out.below hbe
   have hnw : NewH XX.heap.size row row := Or.inl rfl
   refine (num_any B (.slice v0 n0 c0) L row k w hb (by have := HK.out; omega) (by have := HSM.out; omega)).mono ?_
   rintro e w9 ⟨v9, row9, rfl, hb9, hg9, hn9⟩
   exact ⟨_, rfl, ⟨row9, hb9, hnw.step hn9 hsz⟩, hnw.chg hg9⟩
  ·intro ev w hc hf hg hfix hdep hchg hinv
   have e3 : ev (.tmp 3) = _ := hfix 3 (by decide)
   exact Or.inl ⟨trivial, Or.inl ⟨_, w, by go_simp, rfl, Chg.refl _ _⟩⟩
  ·intro ev w hc hf hg hfix hdep hchg hinv
   have e16 : ev (.tmp 16) = _ := hdep 5 (by decide)
   have hdd := HLB.out w (Chg.mono (RegH.undrewC (hchg [4] (by kernel_rfl))) (fun k _ h => by rcases h with h | h <;> first | exact h.elim | exact h))
   have d0 := hdd.cell 0; have d1 := hdd.cell 1; have d2 := hdd.cell 2; have d3 := hdd.cell 3; have d4 := hdd.cell 4; have d5 := hdd.cell 5; have d6 := hdd.cell 6; have d7 := hdd.cell 7; have d8 := hdd.cell 8; simp only [List.getElem?_cons_succ, List.getElem?_cons_zero] at d0 d1 d2 d3 d4 d5 d6 d7 d8
   exact Or.inl ⟨trivial, Or.inl ⟨_, w, by go_simp, rfl, Chg.refl _ _⟩⟩
  ·intro ev w hc hf hg hfix hdep hchg hinv
   have e15 := hdep 4 (by decide)
   have e17 : ev (.tmp 17) = _ := hdep 6 (by decide)
   refine Or.inl ⟨trivial, Or.inr (Or.inl ⟨26, #[ev (.tmp 15), .int .i64 n], w, by go_simp, ?_⟩)⟩
   have hsz : XX.heap.size ≤ w.heap.size := (hchg [4] (by kernel_rfl)).size
   obtain ⟨row1, hb, hnw⟩ := e15
   refine (int_any B _ _ row1 n w hb HN.out.1 HN.out.2 (by have := HSM.out; have := num_lenO k; simp only [List.length_append]; omega)).mono ?_
   rintro e w9 ⟨v9, row9, rfl, hb9, hg9, hn9⟩
   exact ⟨_, rfl, ⟨row9, hb9, hnw.step hn9 hsz⟩, hnw.chg hg9⟩
  ·intro ev w hc hf hg hfix hdep hchg hinv
   have e3 : ev (.tmp 3) = _ := hfix 3 (by decide)
   exact Or.inl ⟨trivial, Or.inl ⟨_, w, by go_simp, rfl, Chg.refl _ _⟩⟩
  ·intro ev w hc hf hg hfix hdep hchg hinv
   have e19 : ev (.tmp 19) = _ := hdep 8 (by decide)
   have hdd := HLB.out w (Chg.mono (RegH.undrewC (hchg [4, 7] (by kernel_rfl))) (fun k _ h => by rcases h with h | h | h <;> first | exact h.elim | exact h))
   have d0 := hdd.cell 0; have d1 := hdd.cell 1; have d2 := hdd.cell 2; have d3 := hdd.cell 3; have d4 := hdd.cell 4; have d5 := hdd.cell 5; have d6 := hdd.cell 6; have d7 := hdd.cell 7; have d8 := hdd.cell 8; simp only [List.getElem?_cons_succ, List.getElem?_cons_zero] at d0 d1 d2 d3 d4 d5 d6 d7 d8
   exact Or.inl ⟨trivial, Or.inl ⟨_, w, by go_simp, rfl, Chg.refl _ _⟩⟩
  ·intro ev w hc hf hg hfix hdep hchg hinv
   have e18 := hdep 7 (by decide)
   have e20 : ev (.tmp 20) = _ := hdep 9 (by decide)
   refine Or.inl ⟨trivial, Or.inr (Or.inl ⟨19, #[ev (.tmp 18), .int .u64 (t : Int)], w, by go_simp, ?_⟩)⟩
   have hsz : XX.heap.size ≤ w.heap.size := (hchg [4, 7] (by kernel_rfl)).size
   obtain ⟨row1, hb, hnw⟩ := e18
   refine (num_any B _ _ row1 t w hb HT.out (by have := HSM.out; have := num_lenO k; have := num_lenO (Cd.uns n); simp only [List.length_append]; omega)).mono ?_
   rintro e w9 ⟨v9, row9, rfl, hb9, hg9, hn9⟩
   exact ⟨_, rfl, ⟨row9, hb9, hnw.step hn9 hsz⟩, hnw.chg hg9⟩
  ·intro ev w hc hf hg hfix hdep hchg hinv
   have e2 : ev (.tmp 2) = _ := hfix 2 (by decide)
   have e21 := hdep 10 (by decide)
   obtain ⟨row1, hb, hnw⟩ := e21
   obtain ⟨a, n, c, hv, _, _⟩ := hb.rowN
   rw [hv] at hb
   have e21 : ev (.tmp 21) = .slice a n c := hv
   have hbk := HGB.out w (Chg.mono (RegH.undrewC (hchg [4, 7, 10] (by kernel_rfl))) (fun k _ h => by rcases h with h | h | h | h <;> first | exact h.elim | exact h))
   have d0 := hbk.cell 0; have y0 := hbk.frozen 0
   simp only [List.getElem?_cons_zero] at d0
   exact Or.inl ⟨trivial, Or.inr (Or.inr ⟨w.setCell ⟨g, 0, none⟩ (.slice a n c), by go_simp, ⟨.slice a n c, hbk.set 0 _, row1, hb.set_box HPOS.out hbk _, hnw⟩, grown_setCell _ _ _ _⟩)⟩
 ·intro v w2 hv hlk hap hb2 hJ2
  have r11 := hv 11 (by decide) (by decide)
  simp only [Reg.putAll, Act.put, List.setIfInBounds_toArray, List.set_cons_zero, List.set_cons_succ]
  clear hv hlk hap
  obtain ⟨v', hbk, hq⟩ := r11
  obtain ⟨⟨a1, n1, c1, row1, hps⟩, hst⟩ := ps_region HPs.out hbk hq (Chg.mono (T := fun k => some k = row ∨ XX.heap.size ≤ k ∨ k = g) hb2 (fun k _ h => by rcases h with h | h | h | h | h <;> first | exact h.elim | exact h.elim Or.inl (fun h => Or.inr (Or.inl h)) | exact Or.inr (Or.inr h)))
  have hbl := hst lb _ _ HBl.out (by decide) HLg.out
  obtain ⟨L2, hL2⟩ : ∃ L', L' = L ++ Cd.num k ++ Cd.num (Cd.uns n) ++ Cd.num t := ⟨_, rfl⟩
  rw [← hL2] at hps
  have hl2 : 0 < L2.length ∧ L2.length ≤ l.length + 30 := by
   have a1 := num_pos t; have a2 := num_lenO k; have a3 := num_lenO (Cd.uns n); have a4 := num_lenO t; have a5 := HLl.out
   rw [hL2, a5]; simp only [List.length_append]; omega
  have HPs2 := Lib.hid hps; have HL2 := Lib.hid hL2; have HLn2 := Lib.hid hl2; have HBl2 := Lib.hid hbl
  have d0 := hbl.cell 0; have d1 := hbl.cell 1; have d2 := hbl.cell 2; have d3 := hbl.cell 3; have d4 := hbl.cell 4; have d5 := hbl.cell 5; have d6 := hbl.cell 6; have d7 := hbl.cell 7; have d8 := hbl.cell 8
  simp only [List.getElem?_cons_succ, List.getElem?_cons_zero] at d0 d1 d2 d3 d4 d5 d6 d7 d8
  clear hb2 hbk hq hst hps hL2 hl2 hbl
  go_wp2_with fail
  refine (ps_lay HPs2.out HLn2.out.1 (by have := HLn2.out; have := HSL.out; omega) ((r, i), s) HD.out).mono ?_
  rintro e XX ⟨rfl, ⟨v0, n0, c0, row, hps⟩, hst⟩
  have hbl := hst lb _ _ HBl2.out (by decide) HLg.out
  clear d0 d1 d2 d3 d4 d5 d6 d7 d8
  obtain ⟨L, hL⟩ : ∃ L', L' = L2 ++ dotE ((r, i), s) := ⟨_, rfl⟩
  rw [← hL] at hps
  have hlL : L.length ≤ l.length + 60 := by
   have a1 := HLn2.out; have a2 := dotE_length ((r, i), s)
   rw [hL, List.length_append]; omega
  have HSM := Lib.hid (show L.length + 200 + 100000000 ≤ 140737488355328 by have := HSL.out; omega)
  have HPOS := Lib.hid (show 0 < (L ++ (Cd.num u.size ++ strL u) ++ Cd.num il).length by have := num_pos il; simp only [List.length_append]; omega)
  have HL3 := Lib.hid hL; have HLn3 := Lib.hid hlL; have HPs3 := Lib.hid hps; have HBl3 := Lib.hid hbl
  clear hL hlL hst
  have HBB := Lib.hid hps.bb
  have HGB := Lib.hid (show ∀ w, Chg (fun k => some k = row ∨ XX.heap.size ≤ k) XX w → Blk w g 26 [.slice v0 n0 c0] from fun w h => hps.blk.chg h (fun e => by rcases e with e | e; exact bb_row_ne hps.bb hps.blk (by decide) e; have := hps.blk.lt; omega))
  have HLB := Lib.hid (show ∀ w, Chg (fun k => some k = row ∨ XX.heap.size ≤ k) XX w → Blk w lb 44 [.int .u8 (k : Int), .int .i64 n, .int .u64 (t : Int), .int .u8 (r : Int), .int .u32 (i : Int), .int .u64 (s : Int), .string u, .slice ia il ic, .slice da dl dc] from fun w h => hbl.chg h (fun e => by rcases e with e | e; exact bb_row_ne hps.bb hbl (by decide) e; have := hbl.lt; omega))
  clear hps hbl
  go_wp2_with fail
  refine RegH.region_list (by kernel_rfl) (fun _ _ => True) [] [3, 8, 9] [9] [] [RegH.plain (fun v _ => v = .slice v0 n0 c0), RegH.plain (fun v _ => v = .pointer (some ⟨lb, 6, none⟩)), RegH.plain (fun v _ => v = .string u), RegH.change (fun v w => BQ B XX.heap.size row (L ++ (Cd.num u.size ++ strL u)) v w) (fun k => some k = row ∨ XX.heap.size ≤ k) (fun u w w' => Chg (fun k => some k = row ∨ XX.heap.size ≤ k) w w'), RegH.plain (fun v _ => v = .pointer (some ⟨lb, 7, none⟩)), RegH.plain (fun v _ => v = .slice ia il ic), RegH.plain (fun v _ => v = .int .i64 il), RegH.plain (fun v _ => v = .int .u64 (il : Int)), RegH.change (fun v w => BQ B XX.heap.size row (L ++ (Cd.num u.size ++ strL u) ++ Cd.num il) v w) (fun k => some k = row ∨ XX.heap.size ≤ k) (fun u w w' => Chg (fun k => some k = row ∨ XX.heap.size ≤ k) w w'), RegH.change (fun v w => ∃ v', Blk w g 26 [v'] ∧ BQ B XX.heap.size row (L ++ (Cd.num u.size ++ strL u) ++ Cd.num il) v' w) (fun k => k = g) (fun u w w' => w.grownBy w' (some g))] (by kernel_rfl) (by kernel_rfl) (by kernel_rfl) (fun i hi => by simp at hi) (by kernel_rfl) (by kernel_rfl) rfl (trivial) (fun _ _ _ _ _ => trivial) ?_ ?_ ?_ ?_ ?_ ?_
  ·exact ⟨Or.inr ⟨fun _ h => h, fun _ _ _ h => h⟩, Or.inr ⟨fun _ h => h, fun _ _ _ h => h⟩, Or.inr ⟨fun _ h => h, fun _ _ _ h => h⟩, Or.inl (by decide), Or.inr ⟨fun _ h => h, fun _ _ _ h => h⟩, Or.inr ⟨fun _ h => h, fun _ _ _ h => h⟩, Or.inr ⟨fun _ h => h, fun _ _ _ h => h⟩, Or.inr ⟨fun _ h => h, fun _ _ _ h => h⟩, Or.inl (by decide), Or.inl (by decide), trivial⟩
  ·exact ⟨⟨fun _ _ _ h => h, Or.inl ⟨by decide, fun _ wx wy n h => (fun _ _ _ _ _ => trivial) n wx wy (RegH.to_below h (fun _ h => h))⟩⟩, ⟨fun _ _ _ h => h, Or.inl ⟨by decide, fun _ wx wy n h => (fun _ _ _ _ _ => trivial) n wx wy (RegH.to_below h (fun _ h => h))⟩⟩, ⟨fun _ _ _ h => h, Or.inl ⟨by decide, fun _ wx wy n h => (fun _ _ _ _ _ => trivial) n wx wy (RegH.to_below h (fun _ h => h))⟩⟩, ⟨(fun u wa wb h => h), Or.inl ⟨by decide, (fun u wa wb n h hj => trivial)⟩⟩, ⟨fun _ _ _ h => h, Or.inl ⟨by decide, fun _ wx wy n h => (fun _ _ _ _ _ => trivial) n wx wy (RegH.to_below h (fun _ h => h))⟩⟩, ⟨fun _ _ _ h => h, Or.inl ⟨by decide, fun _ wx wy n h => (fun _ _ _ _ _ => trivial) n wx wy (RegH.to_below h (fun _ h => h))⟩⟩, ⟨fun _ _ _ h => h, Or.inl ⟨by decide, fun _ wx wy n h => (fun _ _ _ _ _ => trivial) n wx wy (RegH.to_below h (fun _ h => h))⟩⟩, ⟨fun _ _ _ h => h, Or.inl ⟨by decide, fun _ wx wy n h => (fun _ _ _ _ _ => trivial) n wx wy (RegH.to_below h (fun _ h => h))⟩⟩, ⟨(fun u wa wb h => h), Or.inl ⟨by decide, (fun u wa wb n h hj => trivial)⟩⟩, ⟨(fun u wa wb h => (Chg.of_grown h).mono (fun k _ e => by simpa using e)), Or.inl ⟨by decide, (fun u wa wb n h hj => trivial)⟩⟩, trivial⟩
  ·refine ⟨k4, k4, k4, (fun v wa wb hb h => by exact h.below hb), k4, k4, k4, k4, (fun v wa wb hb h => by exact h.below hb), (fun v wa wb hb h => by obtain ⟨v', h1, h2⟩ := h; exact ⟨v', h1.below hb, h2.below hb⟩), trivial⟩
  ·refine ⟨⟨Or.inr (Or.inr (Or.inr (fun _ _ _ _ _ _ h => h))), Or.inr (Or.inr (Or.inr (fun _ _ _ _ _ _ h => h))), Or.inr (Or.inr (Or.inr (fun _ _ _ _ _ _ h => h))), Or.inl rfl, Or.inr (Or.inr (Or.inr (fun _ _ _ _ _ _ h => h))), Or.inr (Or.inr (Or.inr (fun _ _ _ _ _ _ h => h))), Or.inr (Or.inr (Or.inr (fun _ _ _ _ _ _ h => h))), Or.inr (Or.inr (Or.inr (fun _ _ _ _ _ _ h => h))), Or.inr (Or.inl (by kernel_rfl)), Or.inr (Or.inl (by kernel_rfl)), trivial⟩, ⟨Or.inr (Or.inr (Or.inr (fun _ _ _ _ _ _ h => h))), Or.inr (Or.inr (Or.inr (fun _ _ _ _ _ _ h => h))), Or.inr (Or.inr (Or.inr (fun _ _ _ _ _ _ h => h))), Or.inr (Or.inr (Or.inl (by kernel_rfl))), Or.inr (Or.inr (Or.inr (fun _ _ _ _ _ _ h => h))), Or.inr (Or.inr (Or.inr (fun _ _ _ _ _ _ h => h))), Or.inr (Or.inr (Or.inr (fun _ _ _ _ _ _ h => h))), Or.inr (Or.inr (Or.inr (fun _ _ _ _ _ _ h => h))), Or.inl rfl, Or.inr (Or.inl (by kernel_rfl)), trivial⟩, ⟨Or.inr (Or.inr (Or.inr (fun _ _ _ _ _ _ h => h))), Or.inr (Or.inr (Or.inr (fun _ _ _ _ _ _ h => h))), Or.inr (Or.inr (Or.inr (fun _ _ _ _ _ _ h => h))), Or.inr (Or.inr (Or.inl (by kernel_rfl))), Or.inr (Or.inr (Or.inr (fun _ _ _ _ _ _ h => h))), Or.inr (Or.inr (Or.inr (fun _ _ _ _ _ _ h => h))), Or.inr (Or.inr (Or.inr (fun _ _ _ _ _ _ h => h))), Or.inr (Or.inr (Or.inr (fun _ _ _ _ _ _ h => h))), Or.inr (Or.inr (Or.inl (by kernel_rfl))), Or.inl rfl, trivial⟩, trivial⟩
  ·refine ⟨?_, ?_, ?_, ?_, ?_, ?_, ?_, ?_, ?_, ?_, trivial⟩
   ·intro ev w hc hf hg hfix hdep hchg hinv
    have e2 : ev (.tmp 2) = _ := hfix 2 (by decide)
    have d0 := (HGB.out w (Chg.mono (RegH.undrewC (hchg [] (by kernel_rfl))) (fun k _ h => by rcases h with h <;> first | exact h.elim | exact h))).cell 0
    simp only [List.getElem?_cons_zero] at d0
    exact Or.inl ⟨trivial, Or.inl ⟨_, w, by go_simp, rfl, Chg.refl _ _⟩⟩
   ·intro ev w hc hf hg hfix hdep hchg hinv
    have e3 : ev (.tmp 3) = _ := hfix 3 (by decide)
    exact Or.inl ⟨trivial, Or.inl ⟨_, w, by go_simp, rfl, Chg.refl _ _⟩⟩
   ·intro ev w hc hf hg hfix hdep hchg hinv
    have e27 : ev (.tmp 27) = _ := hdep 1 (by decide)
    have hdd := HLB.out w (Chg.mono (RegH.undrewC (hchg [] (by kernel_rfl))) (fun k _ h => by rcases h with h <;> first | exact h.elim | exact h))
    have d0 := hdd.cell 0; have d1 := hdd.cell 1; have d2 := hdd.cell 2; have d3 := hdd.cell 3; have d4 := hdd.cell 4; have d5 := hdd.cell 5; have d6 := hdd.cell 6; have d7 := hdd.cell 7; have d8 := hdd.cell 8; simp only [List.getElem?_cons_succ, List.getElem?_cons_zero] at d0 d1 d2 d3 d4 d5 d6 d7 d8
    exact Or.inl ⟨trivial, Or.inl ⟨_, w, by go_simp, rfl, Chg.refl _ _⟩⟩
   ·intro ev w hc hf hg hfix hdep hchg hinv
    have e26 : ev (.tmp 26) = _ := hdep 0 (by decide)
    have e28 : ev (.tmp 28) = _ := hdep 2 (by decide)
    refine Or.inl ⟨trivial, Or.inr (Or.inl ⟨20, #[.slice v0 n0 c0, .string u], w, by go_simp, ?_⟩)⟩
    have hsz : XX.heap.size ≤ w.heap.size := (hchg [] (by kernel_rfl)).size
    have hbe := RegH.chg0 (hchg [] (by kernel_rfl))
    have hb := HBB.out.below hbe
    have hnw : NewH XX.heap.size row row := Or.inl rfl
    refine (text_any B (.slice v0 n0 c0) L row u w hb (by have := HU.out; omega) (by have := HSM.out; have := HU.out; omega)).mono ?_
    rintro e w9 ⟨v9, row9, rfl, hb9, hg9, hn9⟩
    exact ⟨_, rfl, ⟨row9, hb9, hnw.step hn9 hsz⟩, hnw.chg hg9⟩
   ·intro ev w hc hf hg hfix hdep hchg hinv
    have e3 : ev (.tmp 3) = _ := hfix 3 (by decide)
    exact Or.inl ⟨trivial, Or.inl ⟨_, w, by go_simp, rfl, Chg.refl _ _⟩⟩
   ·intro ev w hc hf hg hfix hdep hchg hinv
    have e30 : ev (.tmp 30) = _ := hdep 4 (by decide)
    have hdd := HLB.out w (Chg.mono (RegH.undrewC (hchg [3] (by kernel_rfl))) (fun k _ h => by rcases h with h | h <;> first | exact h.elim | exact h))
    have d0 := hdd.cell 0; have d1 := hdd.cell 1; have d2 := hdd.cell 2; have d3 := hdd.cell 3; have d4 := hdd.cell 4; have d5 := hdd.cell 5; have d6 := hdd.cell 6; have d7 := hdd.cell 7; have d8 := hdd.cell 8; simp only [List.getElem?_cons_succ, List.getElem?_cons_zero] at d0 d1 d2 d3 d4 d5 d6 d7 d8
    exact Or.inl ⟨trivial, Or.inl ⟨_, w, by go_simp, rfl, Chg.refl _ _⟩⟩
   ·intro ev w hc hf hg hfix hdep hchg hinv
    have e31 : ev (.tmp 31) = _ := hdep 5 (by decide)
    exact Or.inl ⟨trivial, Or.inl ⟨_, w, by go_simp, rfl, Chg.refl _ _⟩⟩
   ·intro ev w hc hf hg hfix hdep hchg hinv
    have e32 : ev (.tmp 32) = _ := hdep 6 (by decide)
    have hw := HW2.out
    exact Or.inl ⟨trivial, Or.inl ⟨_, w, by go_simp, rfl, Chg.refl _ _⟩⟩
   ·intro ev w hc hf hg hfix hdep hchg hinv
    have e29 := hdep 3 (by decide)
    have e33 : ev (.tmp 33) = _ := hdep 7 (by decide)
    refine Or.inl ⟨trivial, Or.inr (Or.inl ⟨19, #[ev (.tmp 29), .int .u64 (il : Int)], w, by go_simp, ?_⟩)⟩
    have hsz : XX.heap.size ≤ w.heap.size := (hchg [3] (by kernel_rfl)).size
    obtain ⟨row1, hb, hnw⟩ := e29
    refine (num_any B _ _ row1 il w hb (by have := HIL.out; omega) (by have := HSM.out; have := HU.out; have := txtE_length u; unfold txtE at this; rw [List.length_append]; omega)).mono ?_
    rintro e w9 ⟨v9, row9, rfl, hb9, hg9, hn9⟩
    exact ⟨_, rfl, ⟨row9, hb9, hnw.step hn9 hsz⟩, hnw.chg hg9⟩
   ·intro ev w hc hf hg hfix hdep hchg hinv
    have e2 : ev (.tmp 2) = _ := hfix 2 (by decide)
    have e34 := hdep 8 (by decide)
    obtain ⟨row1, hb, hnw⟩ := e34
    obtain ⟨a, n, c, hv, _, _⟩ := hb.rowN
    rw [hv] at hb
    have e34 : ev (.tmp 34) = .slice a n c := hv
    have hbk := HGB.out w (Chg.mono (RegH.undrewC (hchg [3, 8] (by kernel_rfl))) (fun k _ h => by rcases h with h | h | h <;> first | exact h.elim | exact h))
    have d0 := hbk.cell 0; have y0 := hbk.frozen 0
    simp only [List.getElem?_cons_zero] at d0
    exact Or.inl ⟨trivial, Or.inr (Or.inr ⟨w.setCell ⟨g, 0, none⟩ (.slice a n c), by go_simp, ⟨.slice a n c, hbk.set 0 _, row1, hb.set_box HPOS.out hbk _, hnw⟩, grown_setCell _ _ _ _⟩)⟩
  ·intro v w2 hv hlk hap hb2 hJ2
   have r9 := hv 9 (by decide) (by decide)
   simp only [Reg.putAll, Act.put, List.setIfInBounds_toArray, List.set_cons_zero, List.set_cons_succ]
   clear hv hlk hap
   obtain ⟨v', hbk, hq⟩ := r9
   obtain ⟨⟨a1, n1, c1, row1, hps⟩, hst⟩ := ps_region HPs3.out hbk hq (Chg.mono (T := fun k => some k = row ∨ XX.heap.size ≤ k ∨ k = g) hb2 (fun k _ h => by rcases h with h | h | h | h <;> first | exact h.elim | exact h.elim Or.inl (fun h => Or.inr (Or.inl h)) | exact Or.inr (Or.inr h)))
   have hbl := hst lb _ _ HBl3.out (by decide) HLg.out
   obtain ⟨A, hA⟩ : ∃ L', L' = L ++ (Cd.num u.size ++ strL u) ++ Cd.num il := ⟨_, rfl⟩
   rw [← hA] at hps
   have hlA : 0 < A.length ∧ A.length ≤ l.length + 100000080 := by
    have a1 := num_pos il; have a2 := num_lenO il; have a3 := txtE_length u; have a4 := HU.out; have a5 := HLn3.out
    unfold txtE at a3
    rw [List.length_append] at a3
    rw [hA]; simp only [List.length_append]; omega
   have HPs4 := Lib.hid hps; have HA := Lib.hid hA; have HLnA := Lib.hid hlA; have HBl4 := Lib.hid hbl
   have d0 := hbl.cell 0; have d1 := hbl.cell 1; have d2 := hbl.cell 2; have d3 := hbl.cell 3; have d4 := hbl.cell 4; have d5 := hbl.cell 5; have d6 := hbl.cell 6; have d7 := hbl.cell 7; have d8 := hbl.cell 8
   simp only [List.getElem?_cons_succ, List.getElem?_cons_zero] at d0 d1 d2 d3 d4 d5 d6 d7 d8
   clear hb2 hbk hq hst hps hA hlA hbl
   go_wp2_with fail
   go_loopw [7, 38] (fun _ zz wr => ∃ (j : Nat) (ax : Option Addr) (nx cx : Nat) (rx : Option Nat), j ≤ il ∧ zz = .int .i64 j ∧ PS B g X1 row0 wr (A ++ upE itE li j) ax nx cx rx ∧ Blk wr lb 44 [.int .u8 (k : Int), .int .i64 n, .int .u64 (t : Int), .int .u8 (r : Int), .int .u32 (i : Int), .int .u64 (s : Int), .string u, .slice ia il ic, .slice da dl dc]) (fun _ zz _ => il - (intOf zz).toNat)
   case atStart => exact ⟨0, _, _, _, _, Nat.zero_le _, rfl, by rw [upE_zero, List.append_nil]; exact HPs4.out, HBl4.out⟩
   case round =>
    obtain ⟨j, aj, nj, cj, rowj, hj, rfl, hpsj, hblj⟩ := hrel
    have HPj := Lib.hid hpsj; have HBlj := Lib.hid hblj
    clear hpsj hblj d0 d1 d2 d3 d4 d5 d6 d7 d8
    have hupl : (upE itE li j).length ≤ 1000000000 := Nat.le_trans (upE_le _ _ _) HTI.out
    have HUp := Lib.hid hupl; clear hupl
    by_cases hlt : j < il
    ·obtain ⟨x, hx⟩ : ∃ x, li[j]? = some x := ⟨li[j]'(by rw [HILn.out]; exact hlt), List.getElem?_eq_getElem _⟩
     have hir1 := HIR.out.below (HBB2.out _ _ _ _ _ _ HPj.out)
     obtain ⟨b, off, rfl, hblt, hc⟩ := hir1.at (by rw [HILn.out]; omega)
     obtain ⟨q0, q1, q2, q3, q4⟩ := hc j x hx
     have hokx := hir1.ok x (List.mem_of_getElem? hx)
     have HS := Lib.hid (upE_succ (f := itE) hx); have HO := Lib.hid hokx; have HTx := Lib.hid (show x.2.2.size ≤ 1000000000 by
      have a1 := flat_ge itE (List.mem_of_getElem? hx); have a2 := HTI.out; have a3 : (strL x.2.2).length = x.2.2.size := strL_length _
      simp only [itE, txtE, List.length_append] at a1; omega)
     obtain ⟨xt, ⟨⟨xr, xi⟩, xs⟩, xu⟩ := x
     simp only at q0 q1 q2 q3 q4
     have i0 : (0 : Int) ≤ (j : Int) := by omega
     have i1 : (j : Int) < (il : Int) := by omega
     have hilb := HIL.out
     have hglt := HPj.out.blk.lt
     have hllt := HBlj.out.lt
     have g0 := HPj.out.blk.cell 0
     simp only [List.getElem?_cons_zero] at g0
     have hn1 : ¬ (wr.heap.size = g) := by omega
     have hn2 : ¬ (g = wr.heap.size) := by omega
     clear hir1 hc hx hokx
     go_wp2_with fail
     refine (num_any B _ _ rowj xt _ (HPj.out.alloc _).bb HO.out.1 (by have := HUp.out; have := HLnA.out; have := HSL.out; have := HIL.out; rw [List.length_append]; omega)).mono ?_
     intro e w5 hret
     obtain ⟨a5, n5, c5, row5, rfl, hk5, hb5, hnw5, hc5, hs5⟩ := ps_call (HPj.out.alloc _) hret
     have hib := hs5 wr.heap.size _ _ (Blk.new wr _ _) (by decide) hn1
     have e0 := hib.cell 0; have e1 := hib.cell 1; have e2 := hib.cell 2; have e3 := hib.cell 3; have e4 := hib.cell 4
     simp only [List.getElem?_cons_succ, List.getElem?_cons_zero] at e0 e1 e2 e3 e4
     have k0 := hk5.cell 0; have f0 := hk5.frozen 0
     simp only [List.getElem?_cons_zero] at k0
     have hps5 := ps_store hk5 hb5 hnw5 hc5 (by have := num_pos xt; simp only [List.length_append]; omega)
     have hst5 := hs5.set (.slice a5 n5 c5)
     have HP5 := Lib.hid hps5; have HS5 := Lib.hid hst5; have HIb5 := Lib.hid hib
     have HBl5 := Lib.hid (hst5 lb _ _ (HBlj.out.grown (World.grownBy_alloc wr _ none) (by simp)) (by decide) HLg.out)
     clear hret hk5 hb5 hnw5 hc5 hs5 hib hps5 hst5 g0 q0 q1 q2 q3 q4
     go_wp2_with fail
     refine (ps_lay HP5.out (by have := num_pos xt; simp only [List.length_append]; omega) (by have := HUp.out; have := HLnA.out; have := HSL.out; have := HIL.out; have := num_lenO xt; simp only [List.length_append]; omega) ((xr, xi), xs) HO.out.2.1).mono ?_
     rintro e w6 ⟨rfl, ⟨a6, n6, c6, row6, hps6⟩, hst6⟩
     have hib6 := hst6 wr.heap.size _ _ (HIb5.out.other hn1 0 _) (by decide) hn1
     have k6 := hps6.blk.cell 0
     simp only [List.getElem?_cons_zero] at k6
     clear e0 e1 e2 e3 e4 k0 f0
     have e4 := hib6.cell 4
     simp only [List.getElem?_cons_succ, List.getElem?_cons_zero] at e4
     have HP6 := Lib.hid hps6; have HBl6 := Lib.hid (hst6 lb _ _ HBl5.out (by decide) HLg.out)
     clear hps6 hst6 hib6
     go_wp2_with fail
     refine (text_any B _ _ row6 xu _ HP6.out.bb HO.out.2.2 (by have := HUp.out; have := HLnA.out; have := HSL.out; have := HIL.out; have := num_lenO xt; have := dotE_length ((xr, xi), xs); have := HTx.out; simp only [List.length_append]; omega)).mono ?_
     intro e w7 hret
     obtain ⟨a7, n7, c7, row7, rfl, hk7, hb7, hnw7, hc7, hs7⟩ := ps_call HP6.out hret
     have k7 := hk7.cell 0; have f7 := hk7.frozen 0
     simp only [List.getElem?_cons_zero] at k7
     have hps7 := ps_store hk7 hb7 hnw7 hc7 (by have := num_pos xt; simp only [List.length_append]; omega)
     rw [show A ++ upE itE li j ++ Cd.num xt ++ dotE ((xr, xi), xs) ++ (Cd.num xu.size ++ strL xu) = A ++ upE itE li (j + 1) from by rw [HS.out]; simp only [itE, txtE, List.append_assoc]] at hps7
     have HP7 := Lib.hid hps7; have HBl7 := Lib.hid ((hs7.set (.slice a7 n7 c7)) lb _ _ HBl6.out (by decide) HLg.out)
     clear hret hk7 hb7 hnw7 hc7 hs7 hps7 e4 k6
     go_wp2_with fail
     go_roundw
     case rel =>
      refine ⟨_, _, _, _, _, _, _, _, _, _, _, _, _, _, _, _, _, _, ?_, rfl⟩
      exact ⟨j + 1, _, _, _, _, by omega, by go_num, HP7.out, HBl7.out⟩
     case measure => simp [intOf]; omega
    ·obtain rfl : j = il := by omega
     obtain ⟨A2, hA2⟩ : ∃ L', L' = A ++ li.flatMap itE := ⟨_, rfl⟩
     have hpsk := HPj.out
     rw [upE_all itE (by rw [HILn.out]; omega), ← hA2] at hpsk
     have hlA2 : 0 < A2.length ∧ A2.length ≤ l.length + 300000000000 := by
      have a1 := HLnA.out; have a2 := HUp.out; have a3 := HIL.out
      rw [upE_all itE (by rw [HILn.out]; omega)] at a2
      rw [hA2, List.length_append]; omega
     have hblk := HBlj.out
     have HPk := Lib.hid hpsk; have HA2 := Lib.hid hA2; have HLn4 := Lib.hid hlA2
     have d0 := hblk.cell 0; have d1 := hblk.cell 1; have d2 := hblk.cell 2; have d3 := hblk.cell 3; have d4 := hblk.cell 4; have d5 := hblk.cell 5; have d6 := hblk.cell 6; have d7 := hblk.cell 7; have d8 := hblk.cell 8
     simp only [List.getElem?_cons_succ, List.getElem?_cons_zero] at d0 d1 d2 d3 d4 d5 d6 d7 d8
     have k0 := hpsk.blk.cell 0
     simp only [List.getElem?_cons_zero] at k0
     have hw3 := HW3.out
     clear hpsk hA2 hlA2 hblk
     go_wp2_with fail
     refine (num_any B _ _ rowj dl _ HPk.out.bb (by have := HDL.out; omega) (by have := HLn4.out; have := HSL.out; omega)).mono ?_
     intro e w5 hret
     obtain ⟨a5, n5, c5, row5, rfl, hk5, hb5, hnw5, hc5, hs5⟩ := ps_call HPk.out hret
     have hbl5 := hs5 lb _ _ HBlj.out (by decide) HLg.out
     clear d0 d1 d2 d3 d4 d5 d6 d7 d8 k0
     have d0 := hbl5.cell 0; have d1 := hbl5.cell 1; have d2 := hbl5.cell 2; have d3 := hbl5.cell 3; have d4 := hbl5.cell 4; have d5 := hbl5.cell 5; have d6 := hbl5.cell 6; have d7 := hbl5.cell 7; have d8 := hbl5.cell 8
     simp only [List.getElem?_cons_succ, List.getElem?_cons_zero] at d0 d1 d2 d3 d4 d5 d6 d7 d8
     have k0 := hk5.cell 0; have f0 := hk5.frozen 0
     simp only [List.getElem?_cons_zero] at k0
     have hps5 := ps_store hk5 hb5 hnw5 hc5 (by have := num_pos dl; simp only [List.length_append]; omega)
     obtain ⟨A3, hA3⟩ : ∃ L', L' = A2 ++ Cd.num dl := ⟨_, rfl⟩
     rw [← hA3] at hps5
     have hlA3 : 0 < A3.length ∧ A3.length ≤ l.length + 300000000010 := by
      have a1 := HLn4.out; have a2 := num_lenO dl; have a3 := num_pos dl
      rw [hA3, List.length_append]; omega
     have hln2 : ¬ (lb = g) := HLg.out
     have hln1 : ¬ (g = lb) := fun e => HLg.out e.symm
     have HP5 := Lib.hid hps5; have HA3 := Lib.hid hA3; have HLn5 := Lib.hid hlA3; have HBl5 := Lib.hid (hbl5.other HLg.out 0 (.slice a5 n5 c5))
     clear hret hk5 hb5 hnw5 hc5 hs5 hps5 hA3 hlA3 hbl5
     go_wp2_with fail
     go_loopw [9, 64] (fun _ zz wr => ∃ (j : Nat) (ax : Option Addr) (nx cx : Nat) (rx : Option Nat), j ≤ dl ∧ zz = .int .i64 j ∧ PS B g X1 row0 wr (A3 ++ upE dotE ld j) ax nx cx rx) (fun _ zz _ => dl - (intOf zz).toNat)
     case atStart => exact ⟨0, _, _, _, _, Nat.zero_le _, rfl, by rw [upE_zero, List.append_nil]; exact HP5.out⟩
     case round =>
      obtain ⟨j, aj, nj, cj, rowj, hj, rfl, hpsj⟩ := hrel
      have HPj := Lib.hid hpsj
      clear hpsj d0 d1 d2 d3 d4 d5 d6 d7 d8 k0 f0
      have hupl : (upE dotE ld j).length ≤ 30 * j := by
       have := upE_length (f := dotE) (l := ld) (m := 30) (fun x _ => dotE_length x) j
       omega
      have HUp := Lib.hid hupl; clear hupl
      by_cases hlt : j < dl
      ·obtain ⟨x, hx⟩ : ∃ x, ld[j]? = some x := ⟨ld[j]'(by rw [HDLn.out]; exact hlt), List.getElem?_eq_getElem _⟩
       have hdr1 := HDR.out.below (HBB2.out _ _ _ _ _ _ HPj.out)
       obtain ⟨b, off, rfl, hblt, hc⟩ := hdr1.at (by rw [HDLn.out]; omega)
       obtain ⟨q0, q1, q2⟩ := hc j x hx
       have hokx := hdr1.ok x (List.mem_of_getElem? hx)
       have HS := Lib.hid (upE_succ (f := dotE) hx); have HO := Lib.hid hokx
       obtain ⟨⟨xr, xi⟩, xs⟩ := x
       simp only at q0 q1 q2
       have i0 : (0 : Int) ≤ (j : Int) := by omega
       have i1 : (j : Int) < (dl : Int) := by omega
       have hdlb := HDL.out
       clear hdr1 hc hx hokx
       go_wp2_with fail
       refine (ps_lay (HPj.out.alloc _) (by have := HLn5.out; simp only [List.length_append]; omega) (by have := HUp.out; have := HLn5.out; have := HSL.out; have := HDL.out; simp only [List.length_append]; omega) ((xr, xi), xs) HO.out).mono ?_
       rintro e w6 ⟨rfl, ⟨a6, n6, c6, row6, hps6⟩, hst6⟩
       rw [List.append_assoc, ← HS.out] at hps6
       have HP6 := Lib.hid hps6
       clear hps6 hst6
       go_wp2_with fail
       go_roundw
       case rel => exact ⟨j + 1, _, _, _, _, by omega, by go_num, HP6.out⟩
       case measure => simp [intOf]; omega
      ·obtain rfl : j = dl := by omega
       have hpsk := HPj.out
       rw [upE_all dotE (by rw [HDLn.out]; omega)] at hpsk
       have k0 := hpsk.blk.cell 0
       simp only [List.getElem?_cons_zero] at k0
       have hfin : A3 ++ ld.flatMap dotE = l ++ lfE ⟨k, n, t, ((r, i), s), u, li, ld⟩ := by
        rw [HA3.out, HA2.out, HA.out, HL3.out, HL2.out, HLl.out]
        simp only [lfE, txtE, HILn.out, HDLn.out, List.append_assoc]
       rw [hfin] at hpsk
       have HPk := Lib.hid hpsk; clear hpsk hfin
       go_wp2_with fail
       go_ret
       refine ⟨_, _, rfl, HPk.out.bb, ⟨HPk.out.chg.os.trans HBe1.out.1.os, HPk.out.chg.tape.trans HBe1.out.1.tape, HPk.out.chg.output.trans HBe1.out.1.output, Nat.le_trans HBe1.out.1.size HPk.out.chg.size, fun k hk hn => ?_⟩, ?_⟩
       ·refine (HPk.out.chg.block k (Nat.lt_of_lt_of_le hk HBe1.out.1.size) (fun e => ?_)).trans (HBe1.out.1.block k hk)
        rcases e with e | e
        ·exact hn e
        ·have := HBe1.out.2; omega
       ·rcases HPk.out.nw with h | ⟨k, h, hk⟩
        ·exact Or.inl h
        ·exact Or.inr ⟨k, h, Nat.le_trans HBe1.out.1.size hk⟩
end Go.Proofs.Ytplafpchgfjomaa
