import Derived.Test.YtbciopieciglmaaZOp7
import Derived.Deep.Slices
import Derived.ChangeSame
import Derived.WalkKit
import Derived.ProofKit
import Derived.OpenShut
import Derived.ChangeOld
import Derived.Below
import Derived.Test.YtbciopieciglmaaZLeaf36
namespace Go.Proofs.Ytbciopieciglmaa
open Go.RowKit Go.ChangeShapes Go.WideShapes Go.Deep
theorem list_of {α : Type} {n : Nat} {P : Nat → α → Prop} (h : ∀ i, i < n → ∃ a, P i a) : ∃ l : List α, l.length = n ∧ ∀ i d, l[i]? = some d → P i d := by
 induction n with
 | zero => exact ⟨[], rfl, fun i d h => by simp at h⟩
 | succ k ih =>
  obtain ⟨l, hl, hc⟩ := ih (fun i hi => h i (by omega))
  obtain ⟨d, hd⟩ := h k (by omega)
  refine ⟨l ++ [d], by simp [hl], fun i e he => ?_⟩
  by_cases hik : i < k
  ·rw [List.getElem?_append_left (by omega)] at he; exact hc i e he
  ·have hik2 : i = k := by have := (List.getElem?_eq_some_iff.1 he).1; simp at this; omega
   subst hik2
   rw [List.getElem?_append_right (by omega), hl, Nat.sub_self] at he
   simp at he; subst he; exact hd
section
variable {H : Type} {enc : TypeId × Value → H} {w : World} {base : Nat} {spare : Nat → Bool} {held : Bool}
theorem oc_u8 : Try.prog.cellsOf 5 = 1 := by kernel_rfl
theorem oc_u32 : Try.prog.cellsOf 26 = 1 := by kernel_rfl
theorem oc_u64 : Try.prog.cellsOf 29 = 1 := by kernel_rfl
theorem oc_i64 : Try.prog.cellsOf 2 = 1 := by kernel_rfl
theorem oc_str : Try.prog.cellsOf 9 = 1 := by kernel_rfl
theorem oc_strs : Try.prog.cellsOf 32 = 1 := by kernel_rfl
theorem oc_dots : Try.prog.cellsOf 33 = 1 := by kernel_rfl
theorem oc_act : Try.prog.cellsOf 28 = 2 := by kernel_rfl
theorem oc_dot : Try.prog.cellsOf 31 = 3 := by kernel_rfl
theorem oc_op : Try.prog.cellsOf 35 = 5 := by kernel_rfl
theorem oc_ev : Try.prog.cellsOf 37 = 9 := by kernel_rfl
set_option maxRecDepth 100000 in
theorem oDot {fuel : Nat} {cs : List Value} {x : DataW H × List MemPlace} (h : DataW.trod enc Try.prog w base spare held fuel 31 cs = some x) : ∃ d : Dt.Dot, Dt.okD d ∧ cs = [.int .u8 (d.1.1 : Int), .int .u32 (d.1.2 : Int), .int .u64 (d.2 : Int)] := by
 obtain ⟨ys, n, rfl, rfl, hlen, hyl, hf⟩ := DataW.trod_struct Try.underlying31 h
 rw [oc_dot] at hlen
 match cs, hlen with
 | [c0, c1, c2], _ =>
  have f0 : DataW.trod enc Try.prog w base spare held n 28 (List.take (Try.prog.cellsOf 28) [c0, c1, c2]) = ys[0]? := hf 0 _ rfl
  have f1 : DataW.trod enc Try.prog w base spare held n 29 (List.take (Try.prog.cellsOf 29) [c2]) = ys[1]? := hf 1 _ rfl
  rw [oc_act] at f0
  rw [oc_u64] at f1
  match ys, hyl with
  | [y0, y1], _ =>
   obtain ⟨s, hs, _, ws⟩ := DataW.trod_int (x := y1) Try.underlying29 f1
   obtain ⟨zs, n2, rfl, _, _, hzl, hg⟩ := DataW.trod_struct (x := y0) Try.underlying28 f0
   have g0 : DataW.trod enc Try.prog w base spare held n2 5 (List.take (Try.prog.cellsOf 5) [c0, c1]) = zs[0]? := hg 0 _ rfl
   have g1 : DataW.trod enc Try.prog w base spare held n2 26 (List.take (Try.prog.cellsOf 26) [c1]) = zs[1]? := hg 1 _ rfl
   rw [oc_u8] at g0
   rw [oc_u32] at g1
   match zs, hzl with
   | [z0, z1], _ =>
    obtain ⟨r, hr, _, wr⟩ := DataW.trod_int (x := z0) Try.underlying5 g0
    obtain ⟨i, hi, _, wi⟩ := DataW.trod_int (x := z1) Try.underlying26 g1
    simp only [List.take_succ_cons, List.take_zero, List.cons.injEq, and_true] at hs hr hi
    subst hs; subst hr; subst hi
    have br := bounds_u8 wr; have bi := bounds_u32 wi; have bs := bounds_u64 ws
    obtain ⟨r, rfl⟩ := Int.eq_ofNat_of_zero_le br.1
    obtain ⟨i, rfl⟩ := Int.eq_ofNat_of_zero_le bi.1
    obtain ⟨s, rfl⟩ := Int.eq_ofNat_of_zero_le bs.1
    exact ⟨((r, i), s), ⟨by simp only; omega, by simp only; omega, by simp only; omega⟩, rfl⟩
theorem oDots {fuel : Nat} {cs : List Value} {x : DataW H × List MemPlace} (h : DataW.trod enc Try.prog w base spare held fuel 33 cs = some x) :
  ∃ (a : Option Addr) (len cap : Nat) (l : List Dt.Dot), cs = [.slice a len cap] ∧ VRow w a cap l ∧ l.length = len := by
 rcases open_slice Try.underlying33 h with ⟨rfl, _⟩ | ⟨a, len, cap, m, n, D, Pl, rfl, hb, hl, hm, hmm, hx, hi⟩
 ·exact ⟨none, 0, 0, [], rfl, VRow.nil _, rfl⟩
 ·have hlm : len ≤ m := by rw [hmm]; split <;> omega
  obtain ⟨l, hll, hc⟩ := list_of (n := len) (P := fun i (d : Dt.Dot) => Dt.okD d ∧ w.cell? (a.add (i * 3)) = some (.int .u8 (d.1.1 : Int)) ∧ w.cell? (a.add (i * 3 + 1)) = some (.int .u32 (d.1.2 : Int)) ∧ w.cell? (a.add (i * 3 + 2)) = some (.int .u64 (d.2 : Int))) (by
   intro i hil
   obtain ⟨cs', hc, ht'⟩ := hi i (by omega)
   obtain ⟨d, hd, rfl⟩ := oDot ht'
   obtain ⟨_, _, hat⟩ := World.cells?_some hc
   rw [oc_dot] at hat
   refine ⟨d, hd, ?_, ?_, ?_⟩
   ·have := hat 0 (by omega); rw [Go.Deep.add_add] at this; rw [← Nat.add_zero (i * 3), this]; rfl
   ·have := hat 1 (by omega); rw [Go.Deep.add_add] at this; rw [this]; rfl
   ·have := hat 2 (by omega); rw [Go.Deep.add_add] at this; rw [this]; rfl)
  unfold maxLen at hm
  refine ⟨some a, len, cap, l, rfl, ⟨by omega, hm, fun d hd => ?_, (fun e => by cases e), fun i d hd => ⟨a, rfl, (hc i d hd).2⟩⟩, hll⟩
  obtain ⟨i, hi2⟩ := List.getElem?_of_mem hd
  exact (hc i d hi2).1
theorem oStrs {fuel : Nat} {cs : List Value} {x : DataW H × List MemPlace} (h : DataW.trod enc Try.prog w base spare held fuel 32 cs = some x) :
  ∃ (a : Option Addr) (len cap : Nat) (l : List ByteArray), cs = [.slice a len cap] ∧ SRow w a cap l ∧ l.length = len := by
 rcases open_slice1 Try.underlying32 oc_str h with ⟨rfl, _⟩ | ⟨a, len, cap, m, n, V, D, Pl, rfl, hb, hl, hm, hmm, hx, hi⟩
 ·exact ⟨none, 0, 0, [], rfl, SRow.nil _, rfl⟩
 ·have hlm : len ≤ m := by rw [hmm]; split <;> omega
  unfold maxLen at hm
  obtain ⟨l, hll, hc⟩ := list_of (n := len) (P := fun i (s : ByteArray) => s.size ≤ 9223372036854775807 ∧ w.cell? (a.add i) = some (.string s)) (by
   intro i hil
   obtain ⟨hc, ht'⟩ := hi i (by omega)
   obtain ⟨s, hs, _, hz⟩ := DataW.trod_string Try.underlying9 ht'
   simp only [List.cons.injEq, and_true] at hs
   unfold maxLen at hz
   exact ⟨s, hz, by rw [hc, hs]⟩)
  refine ⟨some a, len, cap, l, rfl, ⟨by omega, hm, fun d hd => ?_, (fun e => by cases e), fun i d hd => ⟨a, rfl, (hc i d hd).2⟩⟩, hll⟩
  obtain ⟨i, hi2⟩ := List.getElem?_of_mem hd
  exact (hc i d hi2).1
set_option maxRecDepth 100000 in
theorem oOp {fuel : Nat} {cs : List Value} {x : DataW H × List MemPlace} (h : DataW.trod enc Try.prog w base spare held fuel 35 cs = some x) :
  ∃ (k : Nat) (pa : Option Addr) (pl pc : Nat) (n : Int) (t : ByteArray) (da : Option Addr) (dl dc : Nat) (p : List ByteArray) (d : List Dt.Dot),
   cs = [.int .u8 (k : Int), .slice pa pl pc, .int .i64 n, .string t, .slice da dl dc] ∧ k < 256 ∧ (-9223372036854775808 ≤ n ∧ n ≤ 9223372036854775807) ∧ t.size ≤ 9223372036854775807 ∧ SRow w pa pc p ∧ p.length = pl ∧ VRow w da dc d ∧ d.length = dl := by
 obtain ⟨ys, m, rfl, rfl, hlen, hyl, hf⟩ := DataW.trod_struct Try.underlying35 h
 rw [oc_op] at hlen
 match cs, hlen with
 | [c0, c1, c2, c3, c4], _ =>
  have f0 : DataW.trod enc Try.prog w base spare held m 5 (List.take (Try.prog.cellsOf 5) [c0, c1, c2, c3, c4]) = ys[0]? := hf 0 _ rfl
  have f1 : DataW.trod enc Try.prog w base spare held m 32 (List.take (Try.prog.cellsOf 32) [c1, c2, c3, c4]) = ys[1]? := hf 1 _ rfl
  have f2 : DataW.trod enc Try.prog w base spare held m 2 (List.take (Try.prog.cellsOf 2) [c2, c3, c4]) = ys[2]? := hf 2 _ rfl
  have f3 : DataW.trod enc Try.prog w base spare held m 9 (List.take (Try.prog.cellsOf 9) [c3, c4]) = ys[3]? := hf 3 _ rfl
  have f4 : DataW.trod enc Try.prog w base spare held m 33 (List.take (Try.prog.cellsOf 33) [c4]) = ys[4]? := hf 4 _ rfl
  rw [oc_u8] at f0; rw [oc_strs] at f1; rw [oc_i64] at f2; rw [oc_str] at f3; rw [oc_dots] at f4
  match ys, hyl with
  | [y0, y1, y2, y3, y4], _ =>
   obtain ⟨k, hk, _, wk⟩ := DataW.trod_int (x := y0) Try.underlying5 f0
   obtain ⟨pa, pl, pc, p, hp, hpr, hpl⟩ := oStrs (x := y1) f1
   obtain ⟨n, hn, _, wn⟩ := DataW.trod_int (x := y2) Try.underlying2 f2
   obtain ⟨t, ht, _, wt⟩ := DataW.trod_string (x := y3) Try.underlying9 f3
   obtain ⟨da, dl, dc, d, hd, hdr, hdl⟩ := oDots (x := y4) f4
   simp only [List.take_succ_cons, List.take_zero, List.cons.injEq, and_true] at hk hp hn ht hd
   subst hk; subst hp; subst hn; subst ht; subst hd
   have bk := bounds_u8 wk; have bn := bounds_i64 wn
   unfold maxLen at wt
   obtain ⟨k, rfl⟩ := Int.eq_ofNat_of_zero_le bk.1
   exact ⟨k, pa, pl, pc, n, t, da, dl, dc, p, d, rfl, by omega, bn, wt, hpr, hpl, hdr, hdl⟩
set_option maxRecDepth 100000 in
theorem oEvent {fuel : Nat} {cs : List Value} {x : DataW H × List MemPlace} (h : DataW.trod enc Try.prog w base spare held fuel 37 cs = some x) :
  ∃ (r i s tm k : Nat) (pa : Option Addr) (pl pc : Nat) (n : Int) (t : ByteArray) (da : Option Addr) (dl dc : Nat) (p : List ByteArray) (d : List Dt.Dot),
   cs = [.int .u8 (r : Int), .int .u32 (i : Int), .int .u64 (s : Int), .int .u64 (tm : Int), .int .u8 (k : Int), .slice pa pl pc, .int .i64 n, .string t, .slice da dl dc] ∧ Dt.okD ((r, i), s) ∧ tm ≤ 18446744073709551615 ∧ k < 256 ∧ (-9223372036854775808 ≤ n ∧ n ≤ 9223372036854775807) ∧ t.size ≤ 9223372036854775807 ∧ SRow w pa pc p ∧ p.length = pl ∧ VRow w da dc d ∧ d.length = dl := by
 obtain ⟨ys, m, rfl, rfl, hlen, hyl, hf⟩ := DataW.trod_struct Try.underlying37 h
 rw [oc_ev] at hlen
 match cs, hlen with
 | [a0, a1, a2, a3, c0, c1, c2, c3, c4], _ =>
  have f0 : DataW.trod enc Try.prog w base spare held m 31 (List.take (Try.prog.cellsOf 31) [a0, a1, a2, a3, c0, c1, c2, c3, c4]) = ys[0]? := hf 0 _ rfl
  have f1 : DataW.trod enc Try.prog w base spare held m 29 (List.take (Try.prog.cellsOf 29) [a3, c0, c1, c2, c3, c4]) = ys[1]? := hf 1 _ rfl
  have f2 : DataW.trod enc Try.prog w base spare held m 35 (List.take (Try.prog.cellsOf 35) [c0, c1, c2, c3, c4]) = ys[2]? := hf 2 _ rfl
  rw [oc_dot] at f0; rw [oc_u64] at f1; rw [oc_op] at f2
  match ys, hyl with
  | [y0, y1, y2], _ =>
   obtain ⟨⟨⟨r, i⟩, s⟩, hok, hd0⟩ := oDot (x := y0) f0
   obtain ⟨tm, htm, _, wtm⟩ := DataW.trod_int (x := y1) Try.underlying29 f1
   obtain ⟨k, pa, pl, pc, n, t, da, dl, dc, p, d, ho, h1, h2, h3, h4, h5, h6, h7⟩ := oOp (x := y2) f2
   simp only [List.take_succ_cons, List.take_zero, List.cons.injEq, and_true] at hd0 htm ho
   obtain ⟨rfl, rfl, rfl⟩ := hd0
   subst htm
   obtain ⟨rfl, rfl, rfl, rfl, rfl⟩ := ho
   have b := bounds_u64 wtm
   obtain ⟨tm, rfl⟩ := Int.eq_ofNat_of_zero_le b.1
   exact ⟨r, i, s, tm, k, pa, pl, pc, n, t, da, dl, dc, p, d, rfl, hok, by omega, h1, h2, h3, h4, h5, h6, h7⟩
end
end Go.Proofs.Ytbciopieciglmaa
namespace Go.Proofs.Ytbciopieciglmaa
open Go.RowKit Go.ChangeShapes Go.WideShapes Go.Deep
section
variable {H : Type} {enc : TypeId × Value → H} {w : World} {base : Nat} {spare : Nat → Bool} {held : Bool}
set_option maxRecDepth 100000 in
theorem oEvents {fuel : Nat} {cs : List Value} {x : DataW H × List MemPlace} (h : DataW.trod enc Try.prog w base spare held fuel 22 cs = some x) :
  ∃ (a : Option Addr) (len cap : Nat) (l : List ER), cs = [.slice a len cap] ∧ ERow w a cap l ∧ l.length = len := by
 rcases open_slice Try.underlying22 h with ⟨rfl, _⟩ | ⟨a, len, cap, m, n, D, Pl, rfl, hb, hl, hm, hmm, hx, hi⟩
 ·exact ⟨none, 0, 0, [], rfl, ERow.nil _, rfl⟩
 ·have hlm : len ≤ m := by rw [hmm]; split <;> omega
  obtain ⟨l, hll, hc⟩ := list_of (n := len) (P := fun i (d : ER) => d.ok w ∧ ∀ j v, (encE d)[j]? = some v → w.cell? (a.add (i * 9 + j)) = some v) (by
   intro i hil
   obtain ⟨cs', hc, ht'⟩ := hi i (by omega)
   obtain ⟨r, i', s, tm, k, pa, pl, pc, n, t, da, dl, dc, p, d, rfl, h1, h2, h3, h4, h5, h6, h7, h8, h9⟩ := oEvent ht'
   obtain ⟨_, _, hat⟩ := World.cells?_some hc
   rw [oc_ev] at hat
   refine ⟨⟨r, i', s, tm, k, pa, pl, pc, n, t, da, dl, dc, p, d⟩, ⟨h1, h2, h3, h4, h5, h6, h7, h8, h9⟩, fun j v hv => ?_⟩
   have hj : j < 9 := (List.getElem?_eq_some_iff.1 hv).1
   have := hat j hj
   rw [Go.Deep.add_add] at this
   rw [this]
   exact hv)
  unfold maxLen at hm
  refine ⟨some a, len, cap, l, rfl, ⟨by omega, hm, fun d hd => ?_, (fun e => by cases e), fun i d hd => ⟨a, rfl, (hc i d hd).2⟩⟩, hll⟩
  obtain ⟨i, hi2⟩ := List.getElem?_of_mem hd
  exact (hc i d hi2).1
end
end Go.Proofs.Ytbciopieciglmaa
