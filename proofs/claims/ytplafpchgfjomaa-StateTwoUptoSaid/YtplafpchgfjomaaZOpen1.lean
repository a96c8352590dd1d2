import Derived.Test.YtplafpchgfjomaaZCode8
import Derived.Deep.Slices
import Derived.ChangeSame
import Derived.WalkKit
import Derived.ProofKit
import Derived.OpenShut
import Derived.ChangeOld
import Derived.Below
namespace Go.Proofs.Ytplafpchgfjomaa
open Go.RowKit Go.ChangeShapes Go.WideShapes Go.Deep
theorem list_of {α : Type} {n : Nat} {P : Nat → α → Prop} (h : ∀ i, i < n → ∃ a, P i a) : ∃ l : List α, l.length = n ∧ ∀ i d, l[i]? = some d → P i d := by
 induction n with
 | zero => exact ⟨[], rfl, fun i d h => by simp at h⟩
 | succ k ih =>
  obtain ⟨l, hl, hc⟩ := ih (fun i hi => h i (by omega))
  obtain ⟨d, hd⟩ := h k (by omega)
  refine ⟨l ++ [d], by simp [hl], fun i e he => ?_⟩
  by_cases hik : i < k
  ·rw [List.getElem?_append_left (by omega)] at he; exact hc i e he
  ·have hik2 : i = k := by have := (List.getElem?_eq_some_iff.1 he).1; simp at this; omega
   subst hik2
   rw [List.getElem?_append_right (by omega), hl, Nat.sub_self] at he
   simp at he; subst he; exact hd
section
variable {H : Type} {enc : TypeId × Value → H} {w : World} {base : Nat} {spare : Nat → Bool} {held : Bool}
theorem oc_u8 : Try.prog.cellsOf 5 = 1 := by kernel_rfl
theorem oc_u32 : Try.prog.cellsOf 36 = 1 := by kernel_rfl
theorem oc_u64 : Try.prog.cellsOf 33 = 1 := by kernel_rfl
theorem oc_i64 : Try.prog.cellsOf 2 = 1 := by kernel_rfl
theorem oc_str : Try.prog.cellsOf 9 = 1 := by kernel_rfl
theorem oc_dots : Try.prog.cellsOf 42 = 1 := by kernel_rfl
theorem oc_act : Try.prog.cellsOf 38 = 2 := by kernel_rfl
theorem oc_dot : Try.prog.cellsOf 40 = 3 := by kernel_rfl
set_option maxRecDepth 100000 in
theorem oDot {fuel : Nat} {cs : List Value} {x : DataW H × List MemPlace} (h : DataW.trod enc Try.prog w base spare held fuel 40 cs = some x) : ∃ d : Dt.Dot, Dt.okD d ∧ cs = [.int .u8 (d.1.1 : Int), .int .u32 (d.1.2 : Int), .int .u64 (d.2 : Int)] := by
 obtain ⟨ys, n, rfl, rfl, hlen, hyl, hf⟩ := DataW.trod_struct Try.underlying40 h
 rw [oc_dot] at hlen
 match cs, hlen with
 | [c0, c1, c2], _ =>
  have f0 : DataW.trod enc Try.prog w base spare held n 38 (List.take (Try.prog.cellsOf 38) [c0, c1, c2]) = ys[0]? := hf 0 _ rfl
  have f1 : DataW.trod enc Try.prog w base spare held n 33 (List.take (Try.prog.cellsOf 33) [c2]) = ys[1]? := hf 1 _ rfl
  rw [oc_act] at f0
  rw [oc_u64] at f1
  match ys, hyl with
  | [y0, y1], _ =>
   obtain ⟨s, hs, _, ws⟩ := DataW.trod_int (x := y1) Try.underlying33 f1
   obtain ⟨zs, n2, rfl, _, _, hzl, hg⟩ := DataW.trod_struct (x := y0) Try.underlying38 f0
   have g0 : DataW.trod enc Try.prog w base spare held n2 5 (List.take (Try.prog.cellsOf 5) [c0, c1]) = zs[0]? := hg 0 _ rfl
   have g1 : DataW.trod enc Try.prog w base spare held n2 36 (List.take (Try.prog.cellsOf 36) [c1]) = zs[1]? := hg 1 _ rfl
   rw [oc_u8] at g0
   rw [oc_u32] at g1
   match zs, hzl with
   | [z0, z1], _ =>
    obtain ⟨r, hr, _, wr⟩ := DataW.trod_int (x := z0) Try.underlying5 g0
    obtain ⟨i, hi, _, wi⟩ := DataW.trod_int (x := z1) Try.underlying36 g1
    simp only [List.take_succ_cons, List.take_zero, List.cons.injEq, and_true] at hs hr hi
    subst hs; subst hr; subst hi
    have br := bounds_u8 wr; have bi := bounds_u32 wi; have bs := bounds_u64 ws
    obtain ⟨r, rfl⟩ := Int.eq_ofNat_of_zero_le br.1
    obtain ⟨i, rfl⟩ := Int.eq_ofNat_of_zero_le bi.1
    obtain ⟨s, rfl⟩ := Int.eq_ofNat_of_zero_le bs.1
    exact ⟨((r, i), s), ⟨by simp only; omega, by simp only; omega, by simp only; omega⟩, rfl⟩
end
end Go.Proofs.Ytplafpchgfjomaa
