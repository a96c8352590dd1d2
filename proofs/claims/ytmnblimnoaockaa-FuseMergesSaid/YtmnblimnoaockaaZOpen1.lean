import Derived.Test.YtmnblimnoaockaaZDot4
import Derived.Deep.Slices
import Derived.ChangeSame
import Derived.WalkKit
import Derived.ProofKit
import Derived.OpenShut
import Derived.ChangeOld
import Derived.Below
import Derived.Test.YtmnblimnoaockaaZLeaf1
namespace Go.Proofs.Ytmnblimnoaockaa
open Go.RowKit Go.ChangeShapes Go.WideShapes Go.Deep
theorem list_of {α : Type} {n : Nat} {P : Nat → α → Prop} (h : ∀ i, i < n → ∃ a, P i a) : ∃ l : List α, l.length = n ∧ ∀ i d, l[i]? = some d → P i d := by
 induction n with
 | zero => exact ⟨[], rfl, fun i d h => by simp at h⟩
 | succ k ih =>
  obtain ⟨l, hl, hc⟩ := ih (fun i hi => h i (by omega))
  obtain ⟨d, hd⟩ := h k (by omega)
  refine ⟨l ++ [d], by simp [hl], fun i e he => ?_⟩
  by_cases hik : i < k
  ·rw [List.getElem?_append_left (by omega)] at he; exact hc i e he
  ·have hik2 : i = k := by have := (List.getElem?_eq_some_iff.1 he).1; simp at this; omega
   subst hik2
   rw [List.getElem?_append_right (by omega), hl, Nat.sub_self] at he
   simp at he; subst he; exact hd
section
variable {H : Type} {enc : TypeId × Value → H} {w : World} {base : Nat} {spare : Nat → Bool} {held : Bool}
theorem oc_u8 : Try.prog.cellsOf 5 = 1 := by kernel_rfl
theorem oc_u32 : Try.prog.cellsOf 23 = 1 := by kernel_rfl
theorem oc_u64 : Try.prog.cellsOf 22 = 1 := by kernel_rfl
theorem oc_i64 : Try.prog.cellsOf 2 = 1 := by kernel_rfl
theorem oc_str : Try.prog.cellsOf 9 = 1 := by kernel_rfl
theorem oc_dots : Try.prog.cellsOf 29 = 1 := by kernel_rfl
theorem oc_act : Try.prog.cellsOf 25 = 2 := by kernel_rfl
theorem oc_dot : Try.prog.cellsOf 27 = 3 := by kernel_rfl
set_option maxRecDepth 100000 in
theorem oDot {fuel : Nat} {cs : List Value} {x : DataW H × List MemPlace} (h : DataW.trod enc Try.prog w base spare held fuel 27 cs = some x) : ∃ d : Dt.Dot, Dt.okD d ∧ cs = [.int .u8 (d.1.1 : Int), .int .u32 (d.1.2 : Int), .int .u64 (d.2 : Int)] := by
 obtain ⟨ys, n, rfl, rfl, hlen, hyl, hf⟩ := DataW.trod_struct Try.underlying27 h
 rw [oc_dot] at hlen
 match cs, hlen with
 | [c0, c1, c2], _ =>
  have f0 : DataW.trod enc Try.prog w base spare held n 25 (List.take (Try.prog.cellsOf 25) [c0, c1, c2]) = ys[0]? := hf 0 _ rfl
  have f1 : DataW.trod enc Try.prog w base spare held n 22 (List.take (Try.prog.cellsOf 22) [c2]) = ys[1]? := hf 1 _ rfl
  rw [oc_act] at f0
  rw [oc_u64] at f1
  match ys, hyl with
  | [y0, y1], _ =>
   obtain ⟨s, hs, _, ws⟩ := DataW.trod_int (x := y1) Try.underlying22 f1
   obtain ⟨zs, n2, rfl, _, _, hzl, hg⟩ := DataW.trod_struct (x := y0) Try.underlying25 f0
   have g0 : DataW.trod enc Try.prog w base spare held n2 5 (List.take (Try.prog.cellsOf 5) [c0, c1]) = zs[0]? := hg 0 _ rfl
   have g1 : DataW.trod enc Try.prog w base spare held n2 23 (List.take (Try.prog.cellsOf 23) [c1]) = zs[1]? := hg 1 _ rfl
   rw [oc_u8] at g0
   rw [oc_u32] at g1
   match zs, hzl with
   | [z0, z1], _ =>
    obtain ⟨r, hr, _, wr⟩ := DataW.trod_int (x := z0) Try.underlying5 g0
    obtain ⟨i, hi, _, wi⟩ := DataW.trod_int (x := z1) Try.underlying23 g1
    simp only [List.take_succ_cons, List.take_zero, List.cons.injEq, and_true] at hs hr hi
    subst hs; subst hr; subst hi
    have br := bounds_u8 wr; have bi := bounds_u32 wi; have bs := bounds_u64 ws
    obtain ⟨r, rfl⟩ := Int.eq_ofNat_of_zero_le br.1
    obtain ⟨i, rfl⟩ := Int.eq_ofNat_of_zero_le bi.1
    obtain ⟨s, rfl⟩ := Int.eq_ofNat_of_zero_le bs.1
    exact ⟨((r, i), s), ⟨by simp only; omega, by simp only; omega, by simp only; omega⟩, rfl⟩
theorem oDots {fuel : Nat} {cs : List Value} {x : DataW H × List MemPlace} (h : DataW.trod enc Try.prog w base spare held fuel 29 cs = some x) :
  ∃ (a : Option Addr) (len cap : Nat) (l : List Dt.Dot), cs = [.slice a len cap] ∧ VRow w a cap l ∧ l.length = len := by
 rcases open_slice Try.underlying29 h with ⟨rfl, _⟩ | ⟨a, len, cap, m, n, D, Pl, rfl, hb, hl, hm, hmm, hx, hi⟩
 ·exact ⟨none, 0, 0, [], rfl, VRow.nil _, rfl⟩
 ·have hlm : len ≤ m := by rw [hmm]; split <;> omega
  obtain ⟨l, hll, hc⟩ := list_of (n := len) (P := fun i (d : Dt.Dot) => Dt.okD d ∧ w.cell? (a.add (i * 3)) = some (.int .u8 (d.1.1 : Int)) ∧ w.cell? (a.add (i * 3 + 1)) = some (.int .u32 (d.1.2 : Int)) ∧ w.cell? (a.add (i * 3 + 2)) = some (.int .u64 (d.2 : Int))) (by
   intro i hil
   obtain ⟨cs', hc, ht'⟩ := hi i (by omega)
   obtain ⟨d, hd, rfl⟩ := oDot ht'
   obtain ⟨_, _, hat⟩ := World.cells?_some hc
   rw [oc_dot] at hat
   refine ⟨d, hd, ?_, ?_, ?_⟩
   ·have := hat 0 (by omega); rw [Go.Deep.add_add] at this; rw [← Nat.add_zero (i * 3), this]; rfl
   ·have := hat 1 (by omega); rw [Go.Deep.add_add] at this; rw [this]; rfl
   ·have := hat 2 (by omega); rw [Go.Deep.add_add] at this; rw [this]; rfl)
  unfold maxLen at hm
  refine ⟨some a, len, cap, l, rfl, ⟨by omega, hm, fun d hd => ?_, (fun e => by cases e), fun i d hd => ⟨a, rfl, (hc i d hd).2⟩⟩, hll⟩
  obtain ⟨i, hi2⟩ := List.getElem?_of_mem hd
  exact (hc i d hi2).1
end
end Go.Proofs.Ytmnblimnoaockaa
namespace Go.Proofs.Ytmnblimnoaockaa
open Go.RowKit Go.ChangeShapes Go.WideShapes Go.Deep
section
variable {H : Type} {enc : TypeId × Value → H} {w : World} {base : Nat} {spare : Nat → Bool} {held : Bool}
theorem oc_item : Try.prog.cellsOf 41 = 5 := by kernel_rfl
theorem oc_items : Try.prog.cellsOf 28 = 1 := by kernel_rfl
theorem oc_leaf : Try.prog.cellsOf 31 = 9 := by kernel_rfl
set_option maxRecDepth 100000 in
theorem oItem {fuel : Nat} {cs : List Value} {x : DataW H × List MemPlace} (h : DataW.trod enc Try.prog w base spare held fuel 41 cs = some x) : ∃ d : Lm.It, okI d ∧ cs = encI d := by
 obtain ⟨ys, n, rfl, rfl, hlen, hyl, hf⟩ := DataW.trod_struct Try.underlying41 h
 rw [oc_item] at hlen
 match cs, hlen with
 | [c0, c1, c2, c3, c4], _ =>
  have f0 : DataW.trod enc Try.prog w base spare held n 22 (List.take (Try.prog.cellsOf 22) [c0, c1, c2, c3, c4]) = ys[0]? := hf 0 _ rfl
  have f1 : DataW.trod enc Try.prog w base spare held n 27 (List.take (Try.prog.cellsOf 27) [c1, c2, c3, c4]) = ys[1]? := hf 1 _ rfl
  have f2 : DataW.trod enc Try.prog w base spare held n 9 (List.take (Try.prog.cellsOf 9) [c4]) = ys[2]? := hf 2 _ rfl
  rw [oc_u64] at f0; rw [oc_dot] at f1; rw [oc_str] at f2
  match ys, hyl with
  | [y0, y1, y2], _ =>
   obtain ⟨t, ht, _, wt⟩ := DataW.trod_int (x := y0) Try.underlying22 f0
   obtain ⟨⟨⟨r, i⟩, s⟩, hok, hd0⟩ := oDot (x := y1) f1
   obtain ⟨u, hu, _, wu⟩ := DataW.trod_string (x := y2) Try.underlying9 f2
   simp only [List.take_succ_cons, List.take_zero, List.cons.injEq, and_true] at ht hd0 hu
   subst ht; subst hu
   obtain ⟨rfl, rfl, rfl⟩ := hd0
   have bt := bounds_u64 wt
   unfold maxLen at wu
   obtain ⟨t, rfl⟩ := Int.eq_ofNat_of_zero_le bt.1
   exact ⟨(t, ((r, i), s), u), ⟨by show t < 18446744073709551616; omega, hok, wu⟩, rfl⟩
theorem oItems {fuel : Nat} {cs : List Value} {x : DataW H × List MemPlace} (h : DataW.trod enc Try.prog w base spare held fuel 28 cs = some x) :
  ∃ (a : Option Addr) (len cap : Nat) (l : List Lm.It), cs = [.slice a len cap] ∧ IRow w a cap l ∧ l.length = len := by
 rcases open_slice Try.underlying28 h with ⟨rfl, _⟩ | ⟨a, len, cap, m, n, D, Pl, rfl, hb, hl, hm, hmm, hx, hi⟩
 ·exact ⟨none, 0, 0, [], rfl, IRow.nil _, rfl⟩
 ·have hlm : len ≤ m := by rw [hmm]; split <;> omega
  obtain ⟨l, hll, hc⟩ := list_of (n := len) (P := fun i (d : Lm.It) => okI d ∧ w.cell? (a.add (i * 5)) = some (.int .u64 (d.1 : Int)) ∧ w.cell? (a.add (i * 5 + 1)) = some (.int .u8 (d.2.1.1.1 : Int)) ∧ w.cell? (a.add (i * 5 + 2)) = some (.int .u32 (d.2.1.1.2 : Int)) ∧ w.cell? (a.add (i * 5 + 3)) = some (.int .u64 (d.2.1.2 : Int)) ∧ w.cell? (a.add (i * 5 + 4)) = some (.string d.2.2)) (by
   intro i hil
   obtain ⟨cs', hc, ht'⟩ := hi i (by omega)
   obtain ⟨d, hd, rfl⟩ := oItem ht'
   obtain ⟨_, _, hat⟩ := World.cells?_some hc
   rw [oc_item] at hat
   refine ⟨d, hd, ?_, ?_, ?_, ?_, ?_⟩
   ·have := hat 0 (by omega); rw [Go.Deep.add_add] at this; rw [← Nat.add_zero (i * 5), this]; rfl
   ·have := hat 1 (by omega); rw [Go.Deep.add_add] at this; rw [this]; rfl
   ·have := hat 2 (by omega); rw [Go.Deep.add_add] at this; rw [this]; rfl
   ·have := hat 3 (by omega); rw [Go.Deep.add_add] at this; rw [this]; rfl
   ·have := hat 4 (by omega); rw [Go.Deep.add_add] at this; rw [this]; rfl)
  unfold maxLen at hm
  refine ⟨some a, len, cap, l, rfl, ⟨by omega, hm, fun d hd => ?_, (fun e => by cases e), fun i d hd => ⟨a, rfl, (hc i d hd).2⟩⟩, hll⟩
  obtain ⟨i, hi2⟩ := List.getElem?_of_mem hd
  exact (hc i d hi2).1
set_option maxRecDepth 100000 in
theorem oLeaf {fuel : Nat} {cs : List Value} {x : DataW H × List MemPlace} (h : DataW.trod enc Try.prog w base spare held fuel 31 cs = some x) :
  ∃ (kk : Nat) (n : Int) (t r i s : Nat) (x : ByteArray) (ia : Option Addr) (il ic : Nat) (da : Option Addr) (dl dc : Nat) (li : List Lm.It) (ld : List Dt.Dot),
   cs = [.int .u8 (kk : Int), .int .i64 n, .int .u64 (t : Int), .int .u8 (r : Int), .int .u32 (i : Int), .int .u64 (s : Int), .string x, .slice ia il ic, .slice da dl dc] ∧ kk < 256 ∧ (-9223372036854775808 ≤ n ∧ n ≤ 9223372036854775807) ∧ t ≤ 18446744073709551615 ∧ Dt.okD ((r, i), s) ∧ x.size ≤ 9223372036854775807 ∧ IRow w ia ic li ∧ li.length = il ∧ VRow w da dc ld ∧ ld.length = dl := by
 obtain ⟨ys, m, rfl, rfl, hlen, hyl, hf⟩ := DataW.trod_struct Try.underlying31 h
 rw [oc_leaf] at hlen
 match cs, hlen with
 | [c0, c1, c2, c3, c4, c5, c6, c7, c8], _ =>
  have f0 : DataW.trod enc Try.prog w base spare held m 5 (List.take (Try.prog.cellsOf 5) [c0, c1, c2, c3, c4, c5, c6, c7, c8]) = ys[0]? := hf 0 _ rfl
  have f1 : DataW.trod enc Try.prog w base spare held m 2 (List.take (Try.prog.cellsOf 2) [c1, c2, c3, c4, c5, c6, c7, c8]) = ys[1]? := hf 1 _ rfl
  have f2 : DataW.trod enc Try.prog w base spare held m 22 (List.take (Try.prog.cellsOf 22) [c2, c3, c4, c5, c6, c7, c8]) = ys[2]? := hf 2 _ rfl
  have f3 : DataW.trod enc Try.prog w base spare held m 27 (List.take (Try.prog.cellsOf 27) [c3, c4, c5, c6, c7, c8]) = ys[3]? := hf 3 _ rfl
  have f4 : DataW.trod enc Try.prog w base spare held m 9 (List.take (Try.prog.cellsOf 9) [c6, c7, c8]) = ys[4]? := hf 4 _ rfl
  have f5 : DataW.trod enc Try.prog w base spare held m 28 (List.take (Try.prog.cellsOf 28) [c7, c8]) = ys[5]? := hf 5 _ rfl
  have f6 : DataW.trod enc Try.prog w base spare held m 29 (List.take (Try.prog.cellsOf 29) [c8]) = ys[6]? := hf 6 _ rfl
  rw [oc_u8] at f0; rw [oc_i64] at f1; rw [oc_u64] at f2; rw [oc_dot] at f3; rw [oc_str] at f4; rw [oc_items] at f5; rw [oc_dots] at f6
  match ys, hyl with
  | [y0, y1, y2, y3, y4, y5, y6], _ =>
   obtain ⟨k, hk, _, wk⟩ := DataW.trod_int (x := y0) Try.underlying5 f0
   obtain ⟨n, hn, _, wn⟩ := DataW.trod_int (x := y1) Try.underlying2 f1
   obtain ⟨t, ht, _, wt⟩ := DataW.trod_int (x := y2) Try.underlying22 f2
   obtain ⟨⟨⟨r, i⟩, s⟩, hok, hd0⟩ := oDot (x := y3) f3
   obtain ⟨u, hu, _, wu⟩ := DataW.trod_string (x := y4) Try.underlying9 f4
   obtain ⟨ia, il, ic, li, hi, hir, hil⟩ := oItems (x := y5) f5
   obtain ⟨da, dl, dc, ld, hd, hdr, hdl⟩ := oDots (x := y6) f6
   simp only [List.take_succ_cons, List.take_zero, List.cons.injEq, and_true] at hk hn ht hd0 hu hi hd
   subst hk; subst hn; subst ht; subst hu; subst hi; subst hd
   obtain ⟨rfl, rfl, rfl⟩ := hd0
   have bk := bounds_u8 wk; have bn := bounds_i64 wn; have bt := bounds_u64 wt
   unfold maxLen at wu
   obtain ⟨k, rfl⟩ := Int.eq_ofNat_of_zero_le bk.1
   obtain ⟨t, rfl⟩ := Int.eq_ofNat_of_zero_le bt.1
   exact ⟨k, n, t, r, i, s, u, ia, il, ic, da, dl, dc, li, ld, rfl, by omega, bn, by omega, hok, wu, hir, hil, hdr, hdl⟩
end
end Go.Proofs.Ytmnblimnoaockaa
