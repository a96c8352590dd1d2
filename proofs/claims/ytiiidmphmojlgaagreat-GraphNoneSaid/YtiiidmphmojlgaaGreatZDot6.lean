import Derived.Test.YtiiidmphmojlgaaGreatZOp18
import Derived.StillTailTactics
import Derived.Test.YtiiidmphmojlgaaGreatZDot4
namespace Go.Proofs.YtiiidmphmojlgaaGreat
open Go.RowKit Go.Maps Go.Buf
theorem still_tail {P : Program} {id : Nat} {Q : Exit → Act → World → Prop} {a : Act} {w : World} {l : List Oper} (n : Nat) (hm : P.follows .mixedOrders = true) (hB : Region.lexTailB .any l.toArray n = true)
  (h : wpStill P l.toArray w.drew (fun a' => wpList P l.toArray Q (l.drop n) a' w.drew) (l.take n) a) : (Code.region id l.toArray true).wp P Q a w := wp_region_still_tail n hm hB h
theorem grown_drew {w w' : World} {row : Option Nat} (h : w.drew.grownBy w' row) : w.grownBy w' row := ⟨h.os, h.tape, h.output, h.size, h.block⟩
theorem grown_alloc_drew {w w' : World} {row : Option Nat} (o : Obj) (h : (w.alloc o).drew.grownBy w' row) : w.grownBy w' row := grown_alloc o (grown_drew h)
def NumX (w : World) (b n : Nat) (f : Dt.Ac → Nat) : Prop := ∃ D, Nums w b n D f
def RetNum (W : World) (b n : Nat) (f : Dt.Ac → Nat) (e : Ending) (w' : World) : Prop := e = .returned (.map (some b)) ∧ NumX w' b n f ∧ W.grownBy w' (some b)
theorem NumX.kept {w w' : World} {b n : Nat} {f : Dt.Ac → Nat} {row : Option Nat} (h : NumX w b n f) (hg : w.grownBy w' row) (hne : some b ≠ row) : NumX w' b n f := by obtain ⟨D, h⟩ := h; exact ⟨D, h.kept hg hne⟩
theorem NumX.below {w w' : World} {b n : Nat} {f : Dt.Ac → Nat} (h : NumX w b n f) (hb : Below w.heap.size w w') : NumX w' b n f := by obtain ⟨D, h⟩ := h; exact ⟨D, h.below hb⟩
theorem NumX.lt {w : World} {b n : Nat} {f : Dt.Ac → Nat} (h : NumX w b n f) : b < w.heap.size := by obtain ⟨D, h⟩ := h; exact h.lt
theorem NumX.congr {w : World} {b n : Nat} {f g : Dt.Ac → Nat} (h : NumX w b n f) (e : f = g) : NumX w b n g := e ▸ h
theorem NumX.mono {w : World} {b n n' : Nat} {f : Dt.Ac → Nat} (h : NumX w b n f) (hn : n ≤ n') : NumX w b n' f := by obtain ⟨D, h⟩ := h; exact ⟨D, h.1.mono hn, h.2⟩
def standF (f : Dt.Ac → Nat) (d : Dt.Dot) : Dt.Ac → Nat := upd f d.1 (max (f d.1) d.2)
set_option maxRecDepth 100000 in
set_option maxHeartbeats 1000000 in
theorem standsClosure (b n : Nat) (d : Dt.Dot) (f : Dt.Ac → Nat) (w : World) (hm : Dt.okD d) (hn : n < 1000000000) (h : NumX w b n f) :
  Calls Tryz.prog 92 #[.map (some b), dotV d] w (RetNum w b (n + 1) (standF f d)) := by
 obtain ⟨D, hD⟩ := h
 obtain ⟨⟨r, i⟩, s⟩ := d
 have hok : okAc (r, i) := ⟨hm.1, hm.2.1⟩
 have hD1 : Nums ((w.alloc (.cells #[.int .u8 (r : Int), .int .u32 (i : Int), .int .u64 (s : Int)] 27)).drew) b n D f := (hD.kept (World.grownBy_alloc w _ none) (by simp)).kept (row := none) ⟨rfl, rfl, rfl, Nat.le_refl _, fun _ _ _ => rfl⟩ (by simp)
 have hlook := hD1.lookup hok
 have hbd := hD.bound hok
 have hs := hm.2.2
 simp only at hs
 obtain ⟨w2, hup, hN, hg⟩ := hD1.update hok (x := max (f (r, i)) s) (by omega) (by unfold maxLen; omega)
 have HN := Lib.hid hN; have HG := Lib.hid hg
 clear hN hg hD1 hD
 have fin : ∀ e : Ending, e = .returned (.map (some b)) → RetNum w b (n + 1) (standF f ((r, i), s)) e w2 := fun e he => ⟨he, ⟨_, HN.out⟩, grown_alloc_drew _ HG.out⟩
 have Fin := Lib.hid fin; clear fin
 by_cases hlt : f (r, i) < s
 ·have e1 : max (f (r, i)) s = s := by omega
  rw [e1] at hup
  clear e1
  go_enter Tryz.func92, Tryz.ntmps92
  go_wp2
  refine still_tail 10 (by kernel_rfl) (by kernel_rfl) ?_
  simp only [List.take_succ_cons, List.take_zero, List.drop_succ_cons, List.drop_zero]
  repeat still_step
  try refine wpStill_nil ?_
  go_wp2
  go_ret
  exact Fin.out _ rfl
 ·have e1 : max (f (r, i)) s = f (r, i) := by omega
  rw [e1] at hup
  clear e1
  go_enter Tryz.func92, Tryz.ntmps92
  go_wp2
  refine still_tail 10 (by kernel_rfl) (by kernel_rfl) ?_
  simp only [List.take_succ_cons, List.take_zero, List.drop_succ_cons, List.drop_zero]
  repeat still_step
  try refine wpStill_nil ?_
  go_wp2
  go_ret
  exact Fin.out _ rfl
end Go.Proofs.YtiiidmphmojlgaaGreat
