import Derived.Test.YthbkieghkfpbhaaGreatZCut4
import Derived.Test.YthbkieghkfpbhaaGreatZRegH
namespace Go.Proofs.YthbkieghkfpbhaaGreat
open Go.RowKit Go.Buf Go.LB
set_option linter.unusedSimpArgs false
set_option linter.unusedVariables false
set_option maxHeartbeats 1000000 in
theorem lists_any (p : Nat) (W : World) : Calls Tryz.prog 34 #[.pointer (some ⟨p, 0, none⟩)] W fun e w' => e = .returned (.func (.func 52) #[] #[.pointer (some ⟨W.heap.size, 0, none⟩)]) ∧ w'.cell? ⟨W.heap.size, 0, none⟩ = some (.pointer (some ⟨p, 0, none⟩)) ∧ Below W.heap.size W w' ∧ w'.heap.size = W.heap.size + 1 := by
 go_enter Tryz.func34, Tryz.ntmps34
 go_wp2_with fail
 go_ret
 exact ⟨rfl, by simp, below_box _ _ _, by simp⟩
theorem clist64_x (p b : Nat) (l : List Dt.Dot) (n : Nat) (hln : l.length = n) (hn : n ≤ 64) (hok : ∀ d ∈ l, Dt.okD d) (R z : List Nat) (er : Nat) (W : World) (hbp : p ≠ b) (hcell : W.cell? ⟨b, 0, none⟩ = some (.pointer (some ⟨p, 0, none⟩))) (h : RdX W p (Cd.num n ++ (l.flatMap dotE ++ R)) z er) :
  Calls Tryz.prog 52 #[.int .u64 64, .pointer (some ⟨b, 0, none⟩)] W fun e w' => ∃ v l' er', e = .returned v ∧ OB 27 3 encT W.heap.size w' v l' ∧ l'.length ≤ 64 ∧ (∀ d ∈ l', Dt.okD d) ∧ (er' = 0 → l' = l ∧ er = 0) ∧ RdX w' p R z er' ∧ W.grownBy w' (some p) :=
 clist_x p b l n 64 hln hn (by omega) hok R z er W hbp hcell h
theorem grown_set11 (w : World) (g : Nat) (x0 x1 x2 x3 x4 x5 x6 x7 x8 x9 x10 : Value) : w.grownBy (((((((((((w.setCell ⟨g, 0, none⟩ x0).setCell ⟨g, 1, none⟩ x1).setCell ⟨g, 2, none⟩ x2).setCell ⟨g, 3, none⟩ x3).setCell ⟨g, 4, none⟩ x4).setCell ⟨g, 5, none⟩ x5).setCell ⟨g, 6, none⟩ x6).setCell ⟨g, 7, none⟩ x7).setCell ⟨g, 8, none⟩ x8).setCell ⟨g, 9, none⟩ x9).setCell ⟨g, 10, none⟩ x10) (some g) :=
 grownR (grownR (grownR (grownR (grownR (grownR (grown_set5 w g x0 x1 x2 x3 x4) (grown_setCell _ g 5 x5)) (grown_setCell _ g 6 x6)) (grown_setCell _ g 7 x7)) (grown_setCell _ g 8 x8)) (grown_setCell _ g 9 x9)) (grown_setCell _ g 10 x10)
theorem blk11 {w : World} {b : Nat} {t : TypeId} {c0 c1 c2 c3 c4 c5 c6 c7 c8 c9 c10 : Value} (h : Blk w b t [c0, c1, c2, c3, c4, c5, c6, c7, c8, c9, c10]) (v0 v1 v2 v3 v4 v5 v6 v7 v8 v9 v10 : Value) : Blk (((((((((((w.setCell ⟨b, 0, none⟩ (v0)).setCell ⟨b, 1, none⟩ (v1)).setCell ⟨b, 2, none⟩ (v2)).setCell ⟨b, 3, none⟩ (v3)).setCell ⟨b, 4, none⟩ (v4)).setCell ⟨b, 5, none⟩ (v5)).setCell ⟨b, 6, none⟩ (v6)).setCell ⟨b, 7, none⟩ (v7)).setCell ⟨b, 8, none⟩ (v8)).setCell ⟨b, 9, none⟩ (v9)).setCell ⟨b, 10, none⟩ (v10)) b t [v0, v1, v2, v3, v4, v5, v6, v7, v8, v9, v10] := (((((((((((h.set 0 v0).set 1 v1).set 2 v2).set 3 v3).set 4 v4).set 5 v5).set 6 v6).set 7 v7).set 8 v8).set 9 v9).set 10 v10)
def Bad (q : Nat) (w : World) : Prop := ∃ l er, RdrS w q l er ∧ er ≠ 0
theorem RdrS.uniq {w : World} {p : Nat} {l l' : List Nat} {er er' : Nat} (h : RdrS w p l er) (h' : RdrS w p l' er') : er = er' := by
 obtain ⟨a, n, c, h⟩ := h
 obtain ⟨a', n', c', h'⟩ := h'
 have e1 := h.c1
 rw [h'.c1] at e1
 simp only [Option.some.injEq, Value.int.injEq, true_and] at e1
 omega
theorem Bad.grown {q : Nat} {w w' : World} {row : Option Nat} (h : Bad q w) (hg : w.grownBy w' row) (hr : ∀ k, row = some k → q < k) : Bad q w' := by
 obtain ⟨l, er, h, he⟩ := h; exact ⟨l, er, h.grown hg hr, he⟩
theorem Bad.below {q : Nat} {w w' : World} (h : Bad q w) (hb : Below w.heap.size w w') : Bad q w' := by
 obtain ⟨l, er, h, he⟩ := h; exact ⟨l, er, h.below hb, he⟩
theorem bad_of {q : Nat} {w : World} {E z : List Nat} {er : Nat} (h : RdX w q E z er) (he : er ≠ 0) : Bad q w := by
 obtain ⟨l, h, _⟩ := h; exact ⟨l, er, h, he⟩
theorem bad_step {q : Nat} {w w' : World} {E z E' z' : List Nat} {er er' : Nat} (h : RdX w q E z er) (h' : RdX w' q E' z' er') (hs : er' = 0 → er = 0) : Bad q w → Bad q w' := fun hb => by
 obtain ⟨l, e2, h2, he⟩ := hb
 obtain ⟨l', h1, _⟩ := h
 have := h1.uniq h2
 exact bad_of h' (fun e => he (by rw [← this]; exact hs e))
theorem or_bad {A : Prop} {q : Nat} {w' : World} {E' z' : List Nat} {er' : Nat} (h' : RdX w' q E' z' er') (hs : er' = 0 → A) : A ∨ Bad q w' := by
 by_cases h : er' = 0
 ·exact Or.inl (hs h)
 ·exact Or.inr (bad_of h' h)
theorem not_bad {q : Nat} {w : World} {E z : List Nat} (h : RdX w q E z 0) : ¬ Bad q w := fun ⟨l, er, h2, he⟩ => by
 obtain ⟨l', h1, _⟩ := h
 exact he (h1.uniq h2).symm
theorem ob_off {α : Type} {e : TypeId} {size B : Nat} {enc : α → List Value} {w w' : World} {v : Value} {l : List α} {b : Nat} {t : TypeId} {cs : List Value} (h : OB e size enc B w v l) (hb : Blk w b t cs) (ht : t ≠ e) (hg : w.grownBy w' (some b)) : OB e size enc B w' v l := by
 refine ⟨Nat.le_trans h.1 hg.size, h.2.kept hg ?_⟩
 rcases h.2.2 with ⟨hv, _⟩ | ⟨g, cap, cur, hv, _, hh, _⟩
 ·rw [hv]; exact Or.inl rfl
 ·rw [hv]
  refine Or.inr (fun e => ?_)
  simp only [Value.ownBlock, Option.some.injEq] at e
  subst e
  unfold Blk at hb
  rw [hh] at hb
  simp only [Option.some.injEq, Obj.cells.injEq] at hb
  exact ht hb.2.1.symm
def TkL (B : Nat) (q : Nat) (L : List Dt.Dot) (v : Value) (w : World) : Prop := ∃ a m c l, v = .slice a m c ∧ l.length = m ∧ OB 27 3 encT B w (.slice a m c) l ∧ (∀ d ∈ l, Dt.okD d) ∧ l.length ≤ 64 ∧ (l = L ∨ Bad q w)
def TkN (q : Nat) (tm : Nat) (v : Value) (w : World) : Prop := ∃ tm1 : Nat, v = .int .u64 (tm1 : Int) ∧ (tm1 = tm ∨ Bad q w)
def TkO (B : Nat) (q : Nat) (o : Om.O) (v : Value) (w : World) : Prop := ∃ o', OpX B w v o' ∧ (o' = o ∨ Bad q w)
theorem TkL.step {B q : Nat} {L : List Dt.Dot} {v : Value} {w w' : World} (h : TkL B q L v w) (hg : w.grownBy w' (some q)) (hq : q < B) (hb : Bad q w → Bad q w') : TkL B q L v w' := by
 obtain ⟨a, m, c, l, h1, h2, h3, h4, h5, h6⟩ := h
 exact ⟨a, m, c, l, h1, h2, h3.grown hg (fun k hk => by cases hk; exact hq), h4, h5, h6.imp id hb⟩
theorem TkL.below {B q : Nat} {L : List Dt.Dot} {v : Value} {w w' : World} (h : TkL B q L v w) (hb : Below w.heap.size w w') : TkL B q L v w' := by
 obtain ⟨a, m, c, l, h1, h2, h3, h4, h5, h6⟩ := h
 exact ⟨a, m, c, l, h1, h2, h3.below hb, h4, h5, h6.imp id (fun h => h.below hb)⟩
theorem TkN.step {q tm : Nat} {v : Value} {w w' : World} (h : TkN q tm v w) (hb : Bad q w → Bad q w') : TkN q tm v w' := by
 obtain ⟨t1, h1, h2⟩ := h; exact ⟨t1, h1, h2.imp id hb⟩
theorem OpX.grown {B : Nat} {w w' : World} {x : Value} {o : Om.O} {q : Nat} (h : OpX B w x o) (hg : w.grownBy w' (some q)) (hq : q < B) : OpX B w' x o := by
 obtain ⟨pa, pl, pc, da, dl, dc, h1, h2, h3, h4, h5, h6⟩ := h
 exact ⟨pa, pl, pc, da, dl, dc, h1, h2, h3, h4.grown hg (fun k hk => by cases hk; exact hq), h5.grown hg (fun k hk => by cases hk; exact hq), h6⟩
theorem OpX.below {B : Nat} {w w' : World} {x : Value} {o : Om.O} (h : OpX B w x o) (hb : Below w.heap.size w w') : OpX B w' x o := by
 obtain ⟨pa, pl, pc, da, dl, dc, h1, h2, h3, h4, h5, h6⟩ := h
 exact ⟨pa, pl, pc, da, dl, dc, h1, h2, h3, h4.below hb, h5.below hb, h6⟩
theorem OpX.base {B B' : Nat} {w : World} {x : Value} {o : Om.O} (h : OpX B w x o) (hB : B' ≤ B) : OpX B' w x o := by
 obtain ⟨pa, pl, pc, da, dl, dc, h1, h2, h3, h4, h5, h6⟩ := h
 exact ⟨pa, pl, pc, da, dl, dc, h1, h2, h3, h4.base hB, h5.base hB, h6⟩
theorem TkO.below {B q : Nat} {o : Om.O} {v : Value} {w w' : World} (h : TkO B q o v w) (hb : Below w.heap.size w w') : TkO B q o v w' := by
 obtain ⟨o', h1, h2⟩ := h; exact ⟨o', h1.below hb, h2.imp id (fun h => h.below hb)⟩
def CmP (B : Nat) (q : Nat) (C : Cm.C) (qa : Option Addr) (ql1 qc : Nat) (va : Option Addr) (vl1 vc tm1 k6 : Nat) (pa6 : Option Addr) (pl6 pc6 : Nat) (n6 : Int) (t6 : ByteArray) (da6 : Option Addr) (dl6 dc6 : Nat) (w : World) : Prop := ∃ l3 l4 p6 d6, l3.length = ql1 ∧ l4.length = vl1 ∧ p6.length = pl6 ∧ d6.length = dl6 ∧ OB 27 3 encT B w (.slice qa ql1 qc) l3 ∧ OB 27 3 encT B w (.slice va vl1 vc) l4 ∧ OB 9 1 encS B w (.slice pa6 pl6 pc6) p6 ∧ OB 27 3 encT B w (.slice da6 dl6 dc6) d6 ∧
 (∀ d ∈ l3, Dt.okD d) ∧ (∀ d ∈ l4, Dt.okD d) ∧ (∀ d ∈ d6, Dt.okD d) ∧ (∀ s ∈ p6, s.size ≤ 9223372036854775807) ∧ k6 < 256 ∧ vl1 ≤ 64 ∧ pl6 ≤ 1000 ∧ dl6 ≤ 1000 ∧ ((l3 = C.par ∧ l4 = C.vv ∧ tm1 = C.time ∧ (⟨k6, p6, n6, t6, d6⟩ : Om.O) = C.op) ∨ Bad q w)
theorem CmP.mk' {B q : Nat} {C : Cm.C} {x12 x14 x16 x18 : Value} {w : World} (h2 : TkL B q C.par x12 w) (h4 : TkL B q C.vv x14 w) (h6 : TkN q C.time x16 w) (h8 : TkO B q C.op x18 w) :
  ∃ (qa : Option Addr) (ql1 qc : Nat) (va : Option Addr) (vl1 vc tm1 k6 : Nat) (pa6 : Option Addr) (pl6 pc6 : Nat) (n6 : Int) (t6 : ByteArray) (da6 : Option Addr) (dl6 dc6 : Nat), x12 = .slice qa ql1 qc ∧ x14 = .slice va vl1 vc ∧ x16 = .int .u64 (tm1 : Int) ∧ x18 = opV k6 pa6 pl6 pc6 n6 t6 da6 dl6 dc6 ∧ CmP B q C qa ql1 qc va vl1 vc tm1 k6 pa6 pl6 pc6 n6 t6 da6 dl6 dc6 w := by
 obtain ⟨a, m, c, l, e1, e2, e3, e4, e5, e6⟩ := h2
 obtain ⟨a', m', c', l', f1, f2, f3, f4, f5, f6⟩ := h4
 obtain ⟨t1, g1, g2⟩ := h6
 obtain ⟨⟨k6, p6, n6, t6, d6⟩, ⟨pa, pl, pc, da, dl, dc, i1, i2, i3, i4, i5, i6, i7, i8, i9, i10, i11, i12⟩, j⟩ := h8
 refine ⟨a, m, c, a', m', c', t1, k6, pa, pl, pc, n6, t6, da, dl, dc, e1, f1, g1, i1, l, l', p6, d6, e2, f2, i2, i3, e3, f3, i4, i5, e4, f4, i10, i9, i6, by omega, by (try simp only at i2 i11); omega, by (try simp only at i3 i12); omega, ?_⟩
 rcases e6 with rfl | h
 ·rcases f6 with rfl | h
  ·rcases g2 with rfl | h
   ·exact j.imp (fun h => ⟨rfl, rfl, rfl, h⟩) id
   ·exact Or.inr h
  ·exact Or.inr h
 ·exact Or.inr h
theorem CmP.below {B q : Nat} {C : Cm.C} {qa : Option Addr} {ql1 qc : Nat} {va : Option Addr} {vl1 vc tm1 k6 : Nat} {pa6 : Option Addr} {pl6 pc6 : Nat} {n6 : Int} {t6 : ByteArray} {da6 : Option Addr} {dl6 dc6 : Nat} {w w' : World} (h : CmP B q C qa ql1 qc va vl1 vc tm1 k6 pa6 pl6 pc6 n6 t6 da6 dl6 dc6 w) (hb : Below w.heap.size w w') : CmP B q C qa ql1 qc va vl1 vc tm1 k6 pa6 pl6 pc6 n6 t6 da6 dl6 dc6 w' := by
 obtain ⟨l3, l4, p6, d6, h1, h2, h3, h4, h5, h6, h7, h8, h9, h10, h11, h12, h13, g1, g2, g3, h14⟩ := h
 exact ⟨l3, l4, p6, d6, h1, h2, h3, h4, h5.below hb, h6.below hb, h7.below hb, h8.below hb, h9, h10, h11, h12, h13, g1, g2, g3, h14.imp id (fun h => h.below hb)⟩
theorem CmP.off {B q : Nat} {C : Cm.C} {qa : Option Addr} {ql1 qc : Nat} {va : Option Addr} {vl1 vc tm1 k6 : Nat} {pa6 : Option Addr} {pl6 pc6 : Nat} {n6 : Int} {t6 : ByteArray} {da6 : Option Addr} {dl6 dc6 : Nat} {w w' : World} {b : Nat} {cs : List Value} (h : CmP B q C qa ql1 qc va vl1 vc tm1 k6 pa6 pl6 pc6 n6 t6 da6 dl6 dc6 w) (hb : Blk w b 34 cs) (hg : w.grownBy w' (some b)) (hq : q < b) : CmP B q C qa ql1 qc va vl1 vc tm1 k6 pa6 pl6 pc6 n6 t6 da6 dl6 dc6 w' := by
 obtain ⟨l3, l4, p6, d6, h1, h2, h3, h4, h5, h6, h7, h8, h9, h10, h11, h12, h13, g1, g2, g3, h14⟩ := h
 exact ⟨l3, l4, p6, d6, h1, h2, h3, h4, ob_off h5 hb (by decide) hg, ob_off h6 hb (by decide) hg, ob_off h7 hb (by decide) hg, ob_off h8 hb (by decide) hg, h9, h10, h11, h12, h13, g1, g2, g3, h14.imp id (fun h => h.grown hg (fun k hk => by cases hk; exact hq))⟩
theorem CmP.low {B q : Nat} {C : Cm.C} {qa : Option Addr} {ql1 qc : Nat} {va : Option Addr} {vl1 vc tm1 k6 : Nat} {pa6 : Option Addr} {pl6 pc6 : Nat} {n6 : Int} {t6 : ByteArray} {da6 : Option Addr} {dl6 dc6 : Nat} {w w' : World} {g : Nat} (h : CmP B q C qa ql1 qc va vl1 vc tm1 k6 pa6 pl6 pc6 n6 t6 da6 dl6 dc6 w) (hg : w.grownBy w' (some g)) (hB : g < B) (hq : q < g) : CmP B q C qa ql1 qc va vl1 vc tm1 k6 pa6 pl6 pc6 n6 t6 da6 dl6 dc6 w' := by
 obtain ⟨l3, l4, p6, d6, h1, h2, h3, h4, h5, h6, h7, h8, h9, h10, h11, h12, h13, g1, g2, g3, h14⟩ := h
 have hr : ∀ k, some g = some k → k < B := fun k hk => by cases hk; exact hB
 exact ⟨l3, l4, p6, d6, h1, h2, h3, h4, h5.grown hg hr, h6.grown hg hr, h7.grown hg hr, h8.grown hg hr, h9, h10, h11, h12, h13, g1, g2, g3, h14.imp id (fun h => h.grown hg (fun k hk => by cases hk; exact hq))⟩
theorem ob_vrow {B : Nat} {w : World} {a : Option Addr} {m c : Nat} {l : List Dt.Dot} (h : OB 27 3 encT B w (.slice a m c) l) (hl : l.length = m) (hok : ∀ s ∈ l, Dt.okD s) : VRow w a c l := by
 obtain ⟨a', c', e1, h⟩ := vrow_of_ob h hl hok
 simp only [Value.slice.injEq] at e1
 obtain ⟨rfl, _, rfl⟩ := e1
 exact h
theorem ob_srow {B : Nat} {w : World} {a : Option Addr} {m c : Nat} {l : List ByteArray} (h : OB 9 1 encS B w (.slice a m c) l) (hl : l.length = m) (hok : ∀ s ∈ l, s.size ≤ 9223372036854775807) : SRow w a c l := by
 obtain ⟨a', c', e1, h⟩ := srow_of_ob h hl hok
 simp only [Value.slice.injEq] at e1
 obtain ⟨rfl, _, rfl⟩ := e1
 exact h
def CmX (B : Nat) (w : World) (x : Value) (c : Cm.C) : Prop := ∃ qa qc va vc pa pc da dc ql vl pl dl, x = cmV c.dot.1.1 c.dot.1.2 c.dot.2 qa ql qc va vl vc c.time c.op.kind pa pl pc c.op.n c.op.text da dl dc ∧ c.par.length = ql ∧ c.vv.length = vl ∧ c.op.path.length = pl ∧ c.op.dots.length = dl ∧
 OB 27 3 encT B w (.slice qa ql qc) c.par ∧ OB 27 3 encT B w (.slice va vl vc) c.vv ∧ OB 9 1 encS B w (.slice pa pl pc) c.op.path ∧ OB 27 3 encT B w (.slice da dl dc) c.op.dots
end Go.Proofs.YthbkieghkfpbhaaGreat
