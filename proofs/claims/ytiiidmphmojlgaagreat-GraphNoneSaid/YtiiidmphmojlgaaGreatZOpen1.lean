import Derived.Test.YtiiidmphmojlgaaGreatZOp3
import Derived.Deep.Slices
import Derived.ChangeSame
import Derived.WalkKit
import Derived.ProofKit
import Derived.OpenShut
import Derived.ChangeOld
import Derived.Below
namespace Go.Proofs.YtiiidmphmojlgaaGreat
open Go.RowKit Go.ChangeShapes Go.WideShapes Go.Deep
theorem list_of {α : Type} {n : Nat} {P : Nat → α → Prop} (h : ∀ i, i < n → ∃ a, P i a) : ∃ l : List α, l.length = n ∧ ∀ i d, l[i]? = some d → P i d := by
 induction n with
 | zero => exact ⟨[], rfl, fun i d h => by simp at h⟩
 | succ k ih =>
  obtain ⟨l, hl, hc⟩ := ih (fun i hi => h i (by omega))
  obtain ⟨d, hd⟩ := h k (by omega)
  refine ⟨l ++ [d], by simp [hl], fun i e he => ?_⟩
  by_cases hik : i < k
  ·rw [List.getElem?_append_left (by omega)] at he; exact hc i e he
  ·have hik2 : i = k := by have := (List.getElem?_eq_some_iff.1 he).1; simp at this; omega
   subst hik2
   rw [List.getElem?_append_right (by omega), hl, Nat.sub_self] at he
   simp at he; subst he; exact hd
section
variable {H : Type} {enc : TypeId × Value → H} {w : World} {base : Nat} {spare : Nat → Bool} {held : Bool}
theorem oc_u8 : Tryz.prog.cellsOf 5 = 1 := by kernel_rfl
theorem oc_u32 : Tryz.prog.cellsOf 22 = 1 := by kernel_rfl
theorem oc_u64 : Tryz.prog.cellsOf 25 = 1 := by kernel_rfl
theorem oc_i64 : Tryz.prog.cellsOf 2 = 1 := by kernel_rfl
theorem oc_str : Tryz.prog.cellsOf 9 = 1 := by kernel_rfl
theorem oc_strs : Tryz.prog.cellsOf 30 = 1 := by kernel_rfl
theorem oc_dots : Tryz.prog.cellsOf 28 = 1 := by kernel_rfl
theorem oc_act : Tryz.prog.cellsOf 24 = 2 := by kernel_rfl
theorem oc_dot : Tryz.prog.cellsOf 27 = 3 := by kernel_rfl
theorem oc_op : Tryz.prog.cellsOf 32 = 5 := by kernel_rfl
set_option maxRecDepth 100000 in
theorem oDot {fuel : Nat} {cs : List Value} {x : DataW H × List MemPlace} (h : DataW.trod enc Tryz.prog w base spare held fuel 27 cs = some x) : ∃ d : Dt.Dot, Dt.okD d ∧ cs = [.int .u8 (d.1.1 : Int), .int .u32 (d.1.2 : Int), .int .u64 (d.2 : Int)] := by
 obtain ⟨ys, n, rfl, rfl, hlen, hyl, hf⟩ := DataW.trod_struct Tryz.underlying27 h
 rw [oc_dot] at hlen
 match cs, hlen with
 | [c0, c1, c2], _ =>
  have f0 : DataW.trod enc Tryz.prog w base spare held n 24 (List.take (Tryz.prog.cellsOf 24) [c0, c1, c2]) = ys[0]? := hf 0 _ rfl
  have f1 : DataW.trod enc Tryz.prog w base spare held n 25 (List.take (Tryz.prog.cellsOf 25) [c2]) = ys[1]? := hf 1 _ rfl
  rw [oc_act] at f0
  rw [oc_u64] at f1
  match ys, hyl with
  | [y0, y1], _ =>
   obtain ⟨s, hs, _, ws⟩ := DataW.trod_int (x := y1) Tryz.underlying25 f1
   obtain ⟨zs, n2, rfl, _, _, hzl, hg⟩ := DataW.trod_struct (x := y0) Tryz.underlying24 f0
   have g0 : DataW.trod enc Tryz.prog w base spare held n2 5 (List.take (Tryz.prog.cellsOf 5) [c0, c1]) = zs[0]? := hg 0 _ rfl
   have g1 : DataW.trod enc Tryz.prog w base spare held n2 22 (List.take (Tryz.prog.cellsOf 22) [c1]) = zs[1]? := hg 1 _ rfl
   rw [oc_u8] at g0
   rw [oc_u32] at g1
   match zs, hzl with
   | [z0, z1], _ =>
    obtain ⟨r, hr, _, wr⟩ := DataW.trod_int (x := z0) Tryz.underlying5 g0
    obtain ⟨i, hi, _, wi⟩ := DataW.trod_int (x := z1) Tryz.underlying22 g1
    simp only [List.take_succ_cons, List.take_zero, List.cons.injEq, and_true] at hs hr hi
    subst hs; subst hr; subst hi
    have br := bounds_u8 wr; have bi := bounds_u32 wi; have bs := bounds_u64 ws
    obtain ⟨r, rfl⟩ := Int.eq_ofNat_of_zero_le br.1
    obtain ⟨i, rfl⟩ := Int.eq_ofNat_of_zero_le bi.1
    obtain ⟨s, rfl⟩ := Int.eq_ofNat_of_zero_le bs.1
    exact ⟨((r, i), s), ⟨by simp only; omega, by simp only; omega, by simp only; omega⟩, rfl⟩
theorem oDots {fuel : Nat} {cs : List Value} {x : DataW H × List MemPlace} (h : DataW.trod enc Tryz.prog w base spare held fuel 28 cs = some x) :
  ∃ (a : Option Addr) (len cap : Nat) (l : List Dt.Dot), cs = [.slice a len cap] ∧ VRow w a cap l ∧ l.length = len := by
 rcases open_slice Tryz.underlying28 h with ⟨rfl, _⟩ | ⟨a, len, cap, m, n, D, Pl, rfl, hb, hl, hm, hmm, hx, hi⟩
 ·exact ⟨none, 0, 0, [], rfl, VRow.nil _, rfl⟩
 ·have hlm : len ≤ m := by rw [hmm]; split <;> omega
  obtain ⟨l, hll, hc⟩ := list_of (n := len) (P := fun i (d : Dt.Dot) => Dt.okD d ∧ w.cell? (a.add (i * 3)) = some (.int .u8 (d.1.1 : Int)) ∧ w.cell? (a.add (i * 3 + 1)) = some (.int .u32 (d.1.2 : Int)) ∧ w.cell? (a.add (i * 3 + 2)) = some (.int .u64 (d.2 : Int))) (by
   intro i hil
   obtain ⟨cs', hc, ht'⟩ := hi i (by omega)
   obtain ⟨d, hd, rfl⟩ := oDot ht'
   obtain ⟨_, _, hat⟩ := World.cells?_some hc
   rw [oc_dot] at hat
   refine ⟨d, hd, ?_, ?_, ?_⟩
   ·have := hat 0 (by omega); rw [Go.Deep.add_add] at this; rw [← Nat.add_zero (i * 3), this]; rfl
   ·have := hat 1 (by omega); rw [Go.Deep.add_add] at this; rw [this]; rfl
   ·have := hat 2 (by omega); rw [Go.Deep.add_add] at this; rw [this]; rfl)
  unfold maxLen at hm
  refine ⟨some a, len, cap, l, rfl, ⟨by omega, hm, fun d hd => ?_, (fun e => by cases e), fun i d hd => ⟨a, rfl, (hc i d hd).2⟩⟩, hll⟩
  obtain ⟨i, hi2⟩ := List.getElem?_of_mem hd
  exact (hc i d hi2).1
theorem oStrs {fuel : Nat} {cs : List Value} {x : DataW H × List MemPlace} (h : DataW.trod enc Tryz.prog w base spare held fuel 30 cs = some x) :
  ∃ (a : Option Addr) (len cap : Nat) (l : List ByteArray), cs = [.slice a len cap] ∧ SRow w a cap l ∧ l.length = len := by
 rcases open_slice1 Tryz.underlying30 oc_str h with ⟨rfl, _⟩ | ⟨a, len, cap, m, n, V, D, Pl, rfl, hb, hl, hm, hmm, hx, hi⟩
 ·exact ⟨none, 0, 0, [], rfl, SRow.nil _, rfl⟩
 ·have hlm : len ≤ m := by rw [hmm]; split <;> omega
  unfold maxLen at hm
  obtain ⟨l, hll, hc⟩ := list_of (n := len) (P := fun i (s : ByteArray) => s.size ≤ 9223372036854775807 ∧ w.cell? (a.add i) = some (.string s)) (by
   intro i hil
   obtain ⟨hc, ht'⟩ := hi i (by omega)
   obtain ⟨s, hs, _, hz⟩ := DataW.trod_string Tryz.underlying9 ht'
   simp only [List.cons.injEq, and_true] at hs
   unfold maxLen at hz
   exact ⟨s, hz, by rw [hc, hs]⟩)
  refine ⟨some a, len, cap, l, rfl, ⟨by omega, hm, fun d hd => ?_, (fun e => by cases e), fun i d hd => ⟨a, rfl, (hc i d hd).2⟩⟩, hll⟩
  obtain ⟨i, hi2⟩ := List.getElem?_of_mem hd
  exact (hc i d hi2).1
set_option maxRecDepth 100000 in
theorem oOp {fuel : Nat} {cs : List Value} {x : DataW H × List MemPlace} (h : DataW.trod enc Tryz.prog w base spare held fuel 32 cs = some x) :
  ∃ (k : Nat) (pa : Option Addr) (pl pc : Nat) (n : Int) (t : ByteArray) (da : Option Addr) (dl dc : Nat) (p : List ByteArray) (d : List Dt.Dot),
   cs = [.int .u8 (k : Int), .slice pa pl pc, .int .i64 n, .string t, .slice da dl dc] ∧ k < 256 ∧ (-9223372036854775808 ≤ n ∧ n ≤ 9223372036854775807) ∧ t.size ≤ 9223372036854775807 ∧ SRow w pa pc p ∧ p.length = pl ∧ VRow w da dc d ∧ d.length = dl := by
 obtain ⟨ys, m, rfl, rfl, hlen, hyl, hf⟩ := DataW.trod_struct Tryz.underlying32 h
 rw [oc_op] at hlen
 match cs, hlen with
 | [c0, c1, c2, c3, c4], _ =>
  have f0 : DataW.trod enc Tryz.prog w base spare held m 5 (List.take (Tryz.prog.cellsOf 5) [c0, c1, c2, c3, c4]) = ys[0]? := hf 0 _ rfl
  have f1 : DataW.trod enc Tryz.prog w base spare held m 30 (List.take (Tryz.prog.cellsOf 30) [c1, c2, c3, c4]) = ys[1]? := hf 1 _ rfl
  have f2 : DataW.trod enc Tryz.prog w base spare held m 2 (List.take (Tryz.prog.cellsOf 2) [c2, c3, c4]) = ys[2]? := hf 2 _ rfl
  have f3 : DataW.trod enc Tryz.prog w base spare held m 9 (List.take (Tryz.prog.cellsOf 9) [c3, c4]) = ys[3]? := hf 3 _ rfl
  have f4 : DataW.trod enc Tryz.prog w base spare held m 28 (List.take (Tryz.prog.cellsOf 28) [c4]) = ys[4]? := hf 4 _ rfl
  rw [oc_u8] at f0; rw [oc_strs] at f1; rw [oc_i64] at f2; rw [oc_str] at f3; rw [oc_dots] at f4
  match ys, hyl with
  | [y0, y1, y2, y3, y4], _ =>
   obtain ⟨k, hk, _, wk⟩ := DataW.trod_int (x := y0) Tryz.underlying5 f0
   obtain ⟨pa, pl, pc, p, hp, hpr, hpl⟩ := oStrs (x := y1) f1
   obtain ⟨n, hn, _, wn⟩ := DataW.trod_int (x := y2) Tryz.underlying2 f2
   obtain ⟨t, ht, _, wt⟩ := DataW.trod_string (x := y3) Tryz.underlying9 f3
   obtain ⟨da, dl, dc, d, hd, hdr, hdl⟩ := oDots (x := y4) f4
   simp only [List.take_succ_cons, List.take_zero, List.cons.injEq, and_true] at hk hp hn ht hd
   subst hk; subst hp; subst hn; subst ht; subst hd
   have bk := bounds_u8 wk; have bn := bounds_i64 wn
   unfold maxLen at wt
   obtain ⟨k, rfl⟩ := Int.eq_ofNat_of_zero_le bk.1
   exact ⟨k, pa, pl, pc, n, t, da, dl, dc, p, d, rfl, by omega, bn, wt, hpr, hpl, hdr, hdl⟩
end
end Go.Proofs.YtiiidmphmojlgaaGreat
namespace Go.Proofs.YtiiidmphmojlgaaGreat
open Go.RowKit Go.ChangeShapes Go.WideShapes Go.Deep
section
variable {H : Type} {enc : TypeId × Value → H} {w : World} {base : Nat} {spare : Nat → Bool} {held : Bool}
theorem oc_vec : Tryz.prog.cellsOf 29 = 1 := by kernel_rfl
theorem oc_cmt : Tryz.prog.cellsOf 34 = 11 := by kernel_rfl
theorem oVec {fuel : Nat} {cs : List Value} {x : DataW H × List MemPlace} (h : DataW.trod enc Tryz.prog w base spare held fuel 29 cs = some x) :
  ∃ (a : Option Addr) (len cap : Nat) (l : List Dt.Dot), cs = [.slice a len cap] ∧ VRow w a cap l ∧ l.length = len := by
 rcases open_slice Tryz.underlying29 h with ⟨rfl, _⟩ | ⟨a, len, cap, m, n, D, Pl, rfl, hb, hl, hm, hmm, hx, hi⟩
 ·exact ⟨none, 0, 0, [], rfl, VRow.nil _, rfl⟩
 ·have hlm : len ≤ m := by rw [hmm]; split <;> omega
  obtain ⟨l, hll, hc⟩ := list_of (n := len) (P := fun i (d : Dt.Dot) => Dt.okD d ∧ w.cell? (a.add (i * 3)) = some (.int .u8 (d.1.1 : Int)) ∧ w.cell? (a.add (i * 3 + 1)) = some (.int .u32 (d.1.2 : Int)) ∧ w.cell? (a.add (i * 3 + 2)) = some (.int .u64 (d.2 : Int))) (by
   intro i hil
   obtain ⟨cs', hc, ht'⟩ := hi i (by omega)
   obtain ⟨d, hd, rfl⟩ := oDot ht'
   obtain ⟨_, _, hat⟩ := World.cells?_some hc
   rw [oc_dot] at hat
   refine ⟨d, hd, ?_, ?_, ?_⟩
   ·have := hat 0 (by omega); rw [Go.Deep.add_add] at this; rw [← Nat.add_zero (i * 3), this]; rfl
   ·have := hat 1 (by omega); rw [Go.Deep.add_add] at this; rw [this]; rfl
   ·have := hat 2 (by omega); rw [Go.Deep.add_add] at this; rw [this]; rfl)
  unfold maxLen at hm
  refine ⟨some a, len, cap, l, rfl, ⟨by omega, hm, fun d hd => ?_, (fun e => by cases e), fun i d hd => ⟨a, rfl, (hc i d hd).2⟩⟩, hll⟩
  obtain ⟨i, hi2⟩ := List.getElem?_of_mem hd
  exact (hc i d hi2).1
set_option maxRecDepth 100000 in
theorem oCommit {fuel : Nat} {cs : List Value} {x : DataW H × List MemPlace} (h : DataW.trod enc Tryz.prog w base spare held fuel 34 cs = some x) :
  ∃ (r i s : Nat) (qa : Option Addr) (ql qc : Nat) (va : Option Addr) (vl vc : Nat) (tm k : Nat) (pa : Option Addr) (pl pc : Nat) (n : Int) (t : ByteArray) (da : Option Addr) (dl dc : Nat) (lq lv : List Dt.Dot) (p : List ByteArray) (d : List Dt.Dot),
   cs = [.int .u8 (r : Int), .int .u32 (i : Int), .int .u64 (s : Int), .slice qa ql qc, .slice va vl vc, .int .u64 (tm : Int), .int .u8 (k : Int), .slice pa pl pc, .int .i64 n, .string t, .slice da dl dc] ∧ Dt.okD ((r, i), s) ∧ VRow w qa qc lq ∧ lq.length = ql ∧ VRow w va vc lv ∧ lv.length = vl ∧ tm ≤ 18446744073709551615 ∧ k < 256 ∧ (-9223372036854775808 ≤ n ∧ n ≤ 9223372036854775807) ∧ t.size ≤ 9223372036854775807 ∧ SRow w pa pc p ∧ p.length = pl ∧ VRow w da dc d ∧ d.length = dl := by
 obtain ⟨ys, m, rfl, rfl, hlen, hyl, hf⟩ := DataW.trod_struct Tryz.underlying34 h
 rw [oc_cmt] at hlen
 match cs, hlen with
 | [a0, a1, a2, q0, v0, a3, c0, c1, c2, c3, c4], _ =>
  have f0 : DataW.trod enc Tryz.prog w base spare held m 27 (List.take (Tryz.prog.cellsOf 27) [a0, a1, a2, q0, v0, a3, c0, c1, c2, c3, c4]) = ys[0]? := hf 0 _ rfl
  have f1 : DataW.trod enc Tryz.prog w base spare held m 28 (List.take (Tryz.prog.cellsOf 28) [q0, v0, a3, c0, c1, c2, c3, c4]) = ys[1]? := hf 1 _ rfl
  have f2 : DataW.trod enc Tryz.prog w base spare held m 29 (List.take (Tryz.prog.cellsOf 29) [v0, a3, c0, c1, c2, c3, c4]) = ys[2]? := hf 2 _ rfl
  have f3 : DataW.trod enc Tryz.prog w base spare held m 25 (List.take (Tryz.prog.cellsOf 25) [a3, c0, c1, c2, c3, c4]) = ys[3]? := hf 3 _ rfl
  have f4 : DataW.trod enc Tryz.prog w base spare held m 32 (List.take (Tryz.prog.cellsOf 32) [c0, c1, c2, c3, c4]) = ys[4]? := hf 4 _ rfl
  rw [oc_dot] at f0; rw [oc_dots] at f1; rw [oc_vec] at f2; rw [oc_u64] at f3; rw [oc_op] at f4
  match ys, hyl with
  | [y0, y1, y2, y3, y4], _ =>
   obtain ⟨⟨⟨r, i⟩, s⟩, hok, hd0⟩ := oDot (x := y0) f0
   obtain ⟨qa, ql, qc, lq, hq, hqr, hql⟩ := oDots (x := y1) f1
   obtain ⟨va, vl, vc, lv, hv, hvr, hvl⟩ := oVec (x := y2) f2
   obtain ⟨tm, htm, _, wtm⟩ := DataW.trod_int (x := y3) Tryz.underlying25 f3
   obtain ⟨k, pa, pl, pc, n, t, da, dl, dc, p, d, ho, h1, h2, h3, h4, h5, h6, h7⟩ := oOp (x := y4) f4
   simp only [List.take_succ_cons, List.take_zero, List.cons.injEq, and_true] at hd0 hq hv htm ho
   obtain ⟨rfl, rfl, rfl⟩ := hd0
   subst hq; subst hv; subst htm
   obtain ⟨rfl, rfl, rfl, rfl, rfl⟩ := ho
   have b := bounds_u64 wtm
   obtain ⟨tm, rfl⟩ := Int.eq_ofNat_of_zero_le b.1
   exact ⟨r, i, s, qa, ql, qc, va, vl, vc, tm, k, pa, pl, pc, n, t, da, dl, dc, lq, lv, p, d, rfl, hok, hqr, hql, hvr, hvl, by omega, h1, h2, h3, h4, h5, h6, h7⟩
end
end Go.Proofs.YtiiidmphmojlgaaGreat
