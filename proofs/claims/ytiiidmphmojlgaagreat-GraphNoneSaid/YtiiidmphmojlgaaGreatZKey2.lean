import Derived.Test.YtiiidmphmojlgaaGreatZKey1
import Derived.Test.YtiiidmphmojlgaaGreatZLeaf2
/- slices.AppendSeq of dots onto no slice, over whatever iterator stops. -/
namespace Go.Proofs.YtiiidmphmojlgaaGreat
open Go.RowKit Go.Buf Go.LB Go.Lib
set_option linter.unusedSimpArgs false
set_option linter.unusedVariables false
attribute [local go_sem] Oper.semAt_some
theorem wpListIn_append_run {F : Fence} {n : Nat} {P : Program} (w : World) {ops : Array Oper} {rest : List Oper} {o : Oper} {a : Act} {Q : Exit → Act → World → Prop} (hgd : o.guard = none) (s x : Operand) (t tn : TypeId)
  (ho : o.op = .call { callee := .builtin .append, args := #[s, x], argTypes := #[t, tn] }) (vs vx : Value) (hs : a.eval s = vs) (hx : a.eval x = vx)
  (v' : Value) (w' : World) (hr : (Builtin.append_ #[t, tn] o.type #[vs, vx]).run P w = .ok v' w') (h : wpListIn F n P ops Q rest (a.put o.dst v') w') : wpListIn F n P ops Q (o :: rest) a w := by
 refine wpListIn_plain hgd fun K hK' => ?_
 unfold Oper.wpIn
 refine ⟨?_, ?_⟩
 ·simp [Oper.about, ho, resolve, Target.leads, Sem.run_pure]
 ·rw [Oper.semAt_plain F _ _ (by rw [ho]; intro c hc'; cases hc')]
  simp [execOp, ho, resolve, invoke, builtin, hs, hx, hr, Result.andThen]
  exact hK' _ _ h
theorem ownD_keep {B : Nat} {w w' : World} {v : Value} {l : List Dt.Dot} {row r : Option Nat} (h : OwnD B w v l row) (hg : w.grownBy w' r) (hr : ∀ k, r = some k → ∃ o : Obj, w.heap[k]? = some o ∧ o.isCells = false) : OwnD B w' v l row := by
 refine LB.Own.chg h (LB.Chg.of_grown hg) (fun k hk e => ?_)
 obtain ⟨o, ho, hc⟩ := hr k e.symm
 rcases h.2 with ⟨h1, _⟩ | ⟨g, cap, tl, h1, _, _, hb, _⟩
 ·rw [h1] at hk; cases hk
 ·rw [h1] at hk; cases hk
  unfold LB.Blk at hb
  rw [ho] at hb; cases hb; cases hc
theorem ownD_boxed {B c : Nat} {w : World} {v : Value} {l : List Dt.Dot} {row : Option Nat} {u : TypeId} {x : Value} (h : OwnD B w v l row) (g : Boxed w c u x) (hne : u ≠ 27) : row ≠ some c := by
 intro e
 rcases h.2 with ⟨h1, _⟩ | ⟨k, cap, tl, h1, _, _, hb, _⟩
 ·rw [h1] at e; cases e
 ·rw [h1] at e; cases e
  unfold LB.Blk at hb
  unfold Boxed at g
  rw [hb] at g; simp at g; exact hne g.2.symm
set_option maxRecDepth 100000 in
set_option maxHeartbeats 6400000 in
theorem appendSeq_any (g : Nat) (lb : Array Value) (S Sp : List Dt.Dot → Prop) (N : Nat) (hN : N ≤ 100000) (w : World) (hE : ∀ (xs : Array Value) (w : World), (callFunc g xs).run Tryz.prog w = .ok (.enter g xs) w) (hseq : SeqStops Fence.wide 2 Tryz.prog g lb dotV S Sp N w) :
  Calls Tryz.prog 26 #[.slice none 0 0, .func (.func g) #[] lb] w fun e w' => (∃ v row xs, e = .returned v ∧ S xs ∧ OwnD w.heap.size w' v xs row) ∧ Below w.heap.size w w' := by
 refine (callsIn_wide (n := 3)).1 ?_
 refine callsIn_of_wp_marks Tryz.func26 rfl trivial ?_ rfl
 simp only [Tryz.ntmps26, List.size_toArray, List.length_cons, List.length_nil, Nat.reduceAdd, Nat.reduceSub, Array.replicate_succ, Array.replicate_zero, List.push_toArray, List.append_toArray, List.nil_append, List.cons_append]
 gi_wp2
 have bO := Boxed.new w 28 (.slice none 0 0)
 have hB0 : Below w.heap.size w (w.alloc (.cells #[.slice none 0 0] 28)) := (Below.refl _ w).alloc (Nat.le_refl _) _
 have hO0 : OwnD w.heap.size (w.alloc (.cells #[.slice none 0 0] 28)) (.slice none 0 0) [] none := LB.Own.empty (by simp) none
 refine wpIn_rangeFunc_ownH rfl (by omega) (gf := g) (lb := lb) rfl trivial hE (hseq.later hB0) walksK_t walksK_b (Below.refl _ _) (fun _ => rfl)
  (fun pre W => (∃ v row, (Boxed W w.heap.size 28 v ∧ OwnD w.heap.size W v pre row) ∧ ∃ a k c, v = .slice a k c) ∧ Below w.heap.size w W)
  (fun _ _ _ => False)
  (OwnFrom.and (Own.from (fun pre X Y row hs hg hr => by
   obtain ⟨v, rw, ⟨h1, h2⟩, h3⟩ := hs
   exact ⟨v, rw, ⟨boxed_own w.heap.size 28 (fun (_ : Unit) => v) () X Y row h1 hg hr, ownD_keep h2 hg hr⟩, h3⟩) _) (ownFrom_below (Nat.le_refl _) (by simp)))
  (fun _ _ _ _ _ hs _ _ => hs)
  ⟨⟨_, _, ⟨bO, hO0⟩, _, _, _, rfl⟩, hB0⟩
  (fun x a' W => ∃ Bx, w.heap.size < Bx ∧ W.heap[Bx]? = some (.cells #[.int .u8 (x.1.1 : Int), .int .u32 (x.1.2 : Int), .int .u64 (x.2 : Int)] 27 (0, 0)) ∧ a' = { tmps := #[.slice none 0 0, .func (.func g) #[] lb, .pointer (some ⟨w.heap.size, 0, none⟩), undef, .slice none 0 0, .pointer (some ⟨Bx, 0, none⟩), .func (.func g) #[] lb, dotV x, undef, undef, undef, undef, undef], defers := [] })
  (fun x a' _ X Y row hs hg hr => by
   obtain ⟨Bx, h1, h2, h3⟩ := hs
   refine ⟨Bx, h1, ?_, h3⟩
   rw [grownBy_keeps_cells hg (fun r e => (hr r e).2) h2 rfl]; exact h2)
  ?assign ?body ?done ?stop
 case assign =>
  rintro l pre x W K ⟨⟨v, row, ⟨b1, o1⟩, h3⟩, hB1⟩ hK
  gi_wp2
  refine hK _ _ ((KeepsOthers.alloc _ _).from _) (KeepsOthers.alloc _ _).walks ⟨⟨v, row, ⟨b1.alloc _, LB.Own.below o1 ((Below.refl _ _).alloc (Nat.le_refl _) _)⟩, h3⟩, hB1.alloc hB1.size _⟩ ⟨W.heap.size, b1.lt, heap_alloc_new _ _, rfl⟩
 case body =>
  rintro l pre x a' W hl _ ⟨⟨v, row, ⟨b1, o1⟩, a, k, c, rfl⟩, hB1⟩ ⟨Bx, hBx, bX, rfl⟩ hlt
  have c1 := b1.cell
  have hX : Blk W Bx 27 [.int .u8 (x.1.1 : Int), .int .u32 (x.1.2 : Int), .int .u64 (x.2 : Int)] := bX
  have x0 := hX.cell 0; have x1 := hX.cell 1; have x2 := hX.cell 2
  simp only [List.getElem?_cons_succ, List.getElem?_cons_zero] at x0 x1 x2
  have hlx := hX.lt
  obtain ⟨v', w2, row', hrun, hO2, hG2, hnew⟩ := app1D (.slice a k c) row pre x w.heap.size W o1 (by omega) 28
  have hne1 := ownD_boxed o1 b1 (by decide)
  have up : W.grownBy (W.alloc (.cells #[.int .u8 (x.1.1 : Int), .int .u32 (x.1.2 : Int), .int .u64 (x.2 : Int)] 27)) none := World.grownBy_alloc _ _ none
  have b2 : Boxed w2 w.heap.size 28 (.slice a k c) := (b1.alloc _).kept hG2 (fun e => hne1 e.symm)
  have hcells : ∀ r, row = some r → ∃ o : Obj, (W.alloc (.cells #[.int .u8 (x.1.1 : Int), .int .u32 (x.1.2 : Int), .int .u64 (x.2 : Int)] 27)).heap[r]? = some o ∧ o.isCells = true := fun r e => by
   have o2 := LB.Own.below o1 ((Below.refl _ _).alloc (Nat.le_refl _) (.cells #[.int .u8 (x.1.1 : Int), .int .u32 (x.1.2 : Int), .int .u64 (x.2 : Int)] 27))
   rcases o2.2 with ⟨h1, _⟩ | ⟨q, cap, tl, h1, _, _, hb, _⟩
   ·rw [h1] at e; cases e
   ·rw [h1] at e; cases e; exact ⟨_, hb, rfl⟩
  have hko : KeepsOthers W w2 := (KeepsOthers.alloc W _).trans (KeepsOthers.of_grownBy hG2 (fun j o ej hj => by obtain ⟨o', h1, h2⟩ := hcells j ej; rw [hj] at h1; cases h1; exact h2))
  have hbw : Below w.heap.size w w2 := (hB1.alloc hB1.size _).grown hG2 (by have := hB1.size; simp; omega) (fun j ej => (LB.Own.lt o1 j ej).1)
  have hc2 := b2.cell
  have hf2 := b2.frozen
  have hne2 := ownD_boxed hO2 b2 (by decide)
  obtain ⟨a2, k2, c2, hv2⟩ : ∃ a k c, v' = .slice a k c := by
   rcases hO2.2 with ⟨_, h, _⟩ | ⟨q, cap, tl, _, h, _⟩
   ·simp at h
   ·exact ⟨_, _, _, h⟩
  subst hv2
  have HO2 := Lib.hid hO2; have HB2 := Lib.hid b2; have HKo := Lib.hid hko; have HBw := Lib.hid hbw; have HNe := Lib.hid hne2
  clear hO2 b2 hko hbw hne2 hcells up hne1 hG2 hnew bX hX o1 hB1 b1
  gi_wp2_with (gi_at_builtin; refine wpListIn_append_run _ rfl _ _ _ _ rfl _ _ rfl rfl _ _ hrun ?_)
  refine ⟨(HKo.out.trans (KeepsOthers.setCell _ _ _)).from _, (HKo.out.trans (KeepsOthers.setCell _ _ _)).walks, ⟨⟨_, row', ⟨HB2.out.set _, ?_⟩, _, _, _, rfl⟩, HBw.out.setCell (p := ⟨w.heap.size, 0, none⟩) (Nat.le_refl _) _⟩⟩
  exact LB.Own.chg HO2.out (LB.Chg.of_grown (grownBy_setCell' _ w.heap.size _)) (fun q hq e => HNe.out (hq.trans e))
 case done =>
  rintro D xs W hD hS ⟨⟨v, row, ⟨b1, o1⟩, a, k, c, rfl⟩, hB1⟩ hK
  have c1 := b1.cell
  gi_wp2
  refine ⟨by simp, .inl ⟨_, _, rfl, run_takeDeferred hK, ?_⟩⟩
  exact ⟨_, results_tmp rfl _ _ _, ⟨_, row, xs, rfl, hS, ownD_keep o1 (grownBy_putObj' _ D _) (fun r e => by cases e; exact ⟨_, hK, rfl⟩)⟩, hB1.trans (belowK_b (w := w) (Nat.le_refl _) W D _ _ (by simp at hD; omega) hK rfl rfl)⟩
 case stop =>
  rintro D c pre W _ _ h _
  exact h.elim
end Go.Proofs.YtiiidmphmojlgaaGreat
