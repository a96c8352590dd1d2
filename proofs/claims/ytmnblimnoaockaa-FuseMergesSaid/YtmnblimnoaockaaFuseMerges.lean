/-
  varvelaw06.FuseMerges: the frame
-/
import Derived.Test.YtmnblimnoaockaaZFuse20
import Derived.Test.YtmnblimnoaockaaZOpen1
import Derived.WalkKit
import Derived.ProofKit
import Derived.OpenShut
import Derived.ShutString
import Derived.ChangeOld
import Derived.Below
namespace Go.Proofs.Ytmnblimnoaockaa.fuseMerges
open Go.ChangeShapes Go.WideShapes Go.ChangeAt Go.RowKit
set_option linter.unusedVariables false
theorem own : ownKnob Try.prog.godebug = none := by kernel_rfl
theorem laidOut : laidOutB Try.prog = true := by kernel_rfl
theorem walk (kd0 : Nat) (n0 : Int) (tt0 r0 i0 s0 : Nat) (x0 : ByteArray) (ia0 : Option Addr) (il0 ic0 : Nat) (da0 : Option Addr) (dl0 dc0 : Nat) (li0 : List Lm.It) (ld0 : List Dt.Dot) (kd1 : Nat) (n1 : Int) (tt1 r1 i1 s1 : Nat) (x1 : ByteArray) (ia1 : Option Addr) (il1 ic1 : Nat) (da1 : Option Addr) (dl1 dc1 : Nat) (li1 : List Lm.It) (ld1 : List Dt.Dot) (kd2 : Nat) (n2 : Int) (tt2 r2 i2 s2 : Nat) (x2 : ByteArray) (ia2 : Option Addr) (il2 ic2 : Nat) (da2 : Option Addr) (dl2 dc2 : Nat) (li2 : List Lm.It) (ld2 : List Dt.Dot) (w : World) (h0 : kd0 < 256 ∧ (-9223372036854775808 ≤ n0 ∧ n0 ≤ 9223372036854775807) ∧ tt0 ≤ 18446744073709551615 ∧ Dt.okD ((r0, i0), s0) ∧ x0.size ≤ 9223372036854775807 ∧ IRow w ia0 ic0 li0 ∧ li0.length = il0 ∧ VRow w da0 dc0 ld0 ∧ ld0.length = dl0) (h1 : kd1 < 256 ∧ (-9223372036854775808 ≤ n1 ∧ n1 ≤ 9223372036854775807) ∧ tt1 ≤ 18446744073709551615 ∧ Dt.okD ((r1, i1), s1) ∧ x1.size ≤ 9223372036854775807 ∧ IRow w ia1 ic1 li1 ∧ li1.length = il1 ∧ VRow w da1 dc1 ld1 ∧ ld1.length = dl1) (h2 : kd2 < 256 ∧ (-9223372036854775808 ≤ n2 ∧ n2 ≤ 9223372036854775807) ∧ tt2 ≤ 18446744073709551615 ∧ Dt.okD ((r2, i2), s2) ∧ x2.size ≤ 9223372036854775807 ∧ IRow w ia2 ic2 li2 ∧ li2.length = il2 ∧ VRow w da2 dc2 ld2 ∧ ld2.length = dl2) :
    Calls Try.prog 3 #[(.agg #[.int .u8 (kd0 : Int), .int .i64 n0, .int .u64 (tt0 : Int), .int .u8 (r0 : Int), .int .u32 (i0 : Int), .int .u64 (s0 : Int), .string x0, .slice ia0 il0 ic0, .slice da0 dl0 dc0]), (.agg #[.int .u8 (kd1 : Int), .int .i64 n1, .int .u64 (tt1 : Int), .int .u8 (r1 : Int), .int .u32 (i1 : Int), .int .u64 (s1 : Int), .string x1, .slice ia1 il1 ic1, .slice da1 dl1 dc1]), (.agg #[.int .u8 (kd2 : Int), .int .i64 n2, .int .u64 (tt2 : Int), .int .u8 (r2 : Int), .int .u32 (i2 : Int), .int .u64 (s2 : Int), .string x2, .slice ia2 il2 ic2, .slice da2 dl2 dc2])] w fun e w' => e = .returned (.bool true) ∧ Below w.heap.size w w' := by
  obtain ⟨a1, a2, a3, a4, a5, a6, a7, a8, a9⟩ := h0
  obtain ⟨b1, b2, b3, b4, b5, b6, b7, b8, b9⟩ := h1
  obtain ⟨c1, c2, c3, c4, c5, c6, c7, c8, c9⟩ := h2
  exact lawFuse_any kd0 n0 tt0 r0 i0 s0 x0 ia0 il0 ic0 da0 dl0 dc0 li0 ld0 kd1 n1 tt1 r1 i1 s1 x1 ia1 il1 ic1 da1 dl1 dc1 li1 ld1 kd2 n2 tt2 r2 i2 s2 x2 ia2 il2 ic2 da2 dl2 dc2 li2 ld2 w a6 a7 a8 a9 a5 b6 b7 b8 b9 b5 c6 c7 c8 c9 c5
set_option maxRecDepth 100000 in
theorem lifted (os : Os) (started : os.Started) (H : Type) (enc : TypeId × Value → H) :
    ReturnsInHanded {} Try.checked os 3 .any (Rows.fuseMergesSpec.pre6 enc Try.prog Try.f3 Rows.fuseMergesRow.domain false) (Rows.fuseMergesSpec.post enc Try.prog Try.f3 false true false false) := by
  refine returnsInHanded_of_change (C := Try.checked) own started (by kernel_rfl) Try.func3
    (ChangeSpec.witness6 (enc := enc) (C := Try.checked) false ⟨#[], #[.agg #[.int .u8 0, .int .i64 0, .int .u64 0, .int .u8 0, .int .u32 0, .int .u64 0, .string ⟨#[]⟩, .slice none 0 0, .slice none 0 0], .agg #[.int .u8 0, .int .i64 0, .int .u64 0, .int .u8 0, .int .u32 0, .int .u64 0, .string ⟨#[]⟩, .slice none 0 0, .slice none 0 0], .agg #[.int .u8 0, .int .i64 0, .int .u64 0, .int .u8 0, .int .u32 0, .int .u64 0, .string ⟨#[]⟩, .slice none 0 0, .slice none 0 0]], []⟩ 8 (by kernel_rfl) (by kernel_rfl) (by kernel_rfl) (by kernel_rfl)) ?_
  intro W base args ds gs before hval0 hW hcnd _
  have hval : ∀ (j : Nat) t v, Try.f3.params[j]? = some t → args[j]? = some v → Value.okWide Try.prog W .any base t v := hval0
  have hW' := hW
  obtain ⟨p, q, hA0, hV, rfl, hfz, hnd⟩ := hW
  have hA : DataW.TrodAll enc Try.prog W 0 (fun _ => true) true Try.f3.params.toList args.toList ds p := hA0
  rw [Try.params3] at hA hval
  obtain ⟨v0, vs0, t0, ds0, pp0, q0, hargs, rfl, rfl, kk0, rr0⟩ := trodAll_cons hA
  obtain ⟨v1, vs1, t1, ds1, pp1, q1, rfl, rfl, rfl, kk1, rr1⟩ := trodAll_cons rr0
  obtain ⟨v2, vs2, t2, ds2, pp2, q2, rfl, rfl, rfl, kk2, rr2⟩ := trodAll_cons rr1
  obtain ⟨rfl, rfl, rfl⟩ := trodAll_nil rr2
  obtain rfl : args = #[v0, v1, v2] := by cases args; simp_all
  obtain ⟨rfl, rfl⟩ := trodVars_none hV
  have lt0 : ∀ x ∈ pp0, x.block < W.heap.size := by obtain ⟨m, hm⟩ := kk0; exact DataW.trod_lt m _ _ _ hm
  obtain ⟨cs0, rfl, _⟩ := okWide_struct Try.underlying31 (hval 0 31 v0 rfl rfl)
  obtain ⟨kd0, n0, tt0, r0, i0, s0, x0, ia0, il0, ic0, da0, dl0, dc0, li0, ld0, c0, h0⟩ : ∃ (kd0 : Nat) (n0 : Int) (tt0 r0 i0 s0 : Nat) (x0 : ByteArray) (ia0 : Option Addr) (il0 ic0 : Nat) (da0 : Option Addr) (dl0 dc0 : Nat) (li0 : List Lm.It) (ld0 : List Dt.Dot), Value.agg cs0 = (.agg #[.int .u8 (kd0 : Int), .int .i64 n0, .int .u64 (tt0 : Int), .int .u8 (r0 : Int), .int .u32 (i0 : Int), .int .u64 (s0 : Int), .string x0, .slice ia0 il0 ic0, .slice da0 dl0 dc0]) ∧ kd0 < 256 ∧ (-9223372036854775808 ≤ n0 ∧ n0 ≤ 9223372036854775807) ∧ tt0 ≤ 18446744073709551615 ∧ Dt.okD ((r0, i0), s0) ∧ x0.size ≤ 9223372036854775807 ∧ IRow W ia0 ic0 li0 ∧ li0.length = il0 ∧ VRow W da0 dc0 ld0 ∧ ld0.length = dl0 := by
    obtain ⟨fuel, hf⟩ := kk0
    obtain ⟨kd0, n0, tt0, r0, i0, s0, x0, ia0, il0, ic0, da0, dl0, dc0, li0, ld0, hcs, hr⟩ := oLeaf hf
    refine ⟨kd0, n0, tt0, r0, i0, s0, x0, ia0, il0, ic0, da0, dl0, dc0, li0, ld0, ?_, hr⟩
    obtain ⟨cs⟩ := cs0
    simp only [Value.cells] at hcs
    rw [hcs]
  rw [c0] at kk0 hW' ⊢
  have lt1 : ∀ x ∈ pp1, x.block < W.heap.size := by obtain ⟨m, hm⟩ := kk1; exact DataW.trod_lt m _ _ _ hm
  obtain ⟨cs1, rfl, _⟩ := okWide_struct Try.underlying31 (hval 1 31 v1 rfl rfl)
  obtain ⟨kd1, n1, tt1, r1, i1, s1, x1, ia1, il1, ic1, da1, dl1, dc1, li1, ld1, c1, h1⟩ : ∃ (kd1 : Nat) (n1 : Int) (tt1 r1 i1 s1 : Nat) (x1 : ByteArray) (ia1 : Option Addr) (il1 ic1 : Nat) (da1 : Option Addr) (dl1 dc1 : Nat) (li1 : List Lm.It) (ld1 : List Dt.Dot), Value.agg cs1 = (.agg #[.int .u8 (kd1 : Int), .int .i64 n1, .int .u64 (tt1 : Int), .int .u8 (r1 : Int), .int .u32 (i1 : Int), .int .u64 (s1 : Int), .string x1, .slice ia1 il1 ic1, .slice da1 dl1 dc1]) ∧ kd1 < 256 ∧ (-9223372036854775808 ≤ n1 ∧ n1 ≤ 9223372036854775807) ∧ tt1 ≤ 18446744073709551615 ∧ Dt.okD ((r1, i1), s1) ∧ x1.size ≤ 9223372036854775807 ∧ IRow W ia1 ic1 li1 ∧ li1.length = il1 ∧ VRow W da1 dc1 ld1 ∧ ld1.length = dl1 := by
    obtain ⟨fuel, hf⟩ := kk1
    obtain ⟨kd1, n1, tt1, r1, i1, s1, x1, ia1, il1, ic1, da1, dl1, dc1, li1, ld1, hcs, hr⟩ := oLeaf hf
    refine ⟨kd1, n1, tt1, r1, i1, s1, x1, ia1, il1, ic1, da1, dl1, dc1, li1, ld1, ?_, hr⟩
    obtain ⟨cs⟩ := cs1
    simp only [Value.cells] at hcs
    rw [hcs]
  rw [c1] at kk1 hW' ⊢
  have lt2 : ∀ x ∈ pp2, x.block < W.heap.size := by obtain ⟨m, hm⟩ := kk2; exact DataW.trod_lt m _ _ _ hm
  obtain ⟨cs2, rfl, _⟩ := okWide_struct Try.underlying31 (hval 2 31 v2 rfl rfl)
  obtain ⟨kd2, n2, tt2, r2, i2, s2, x2, ia2, il2, ic2, da2, dl2, dc2, li2, ld2, c2, h2⟩ : ∃ (kd2 : Nat) (n2 : Int) (tt2 r2 i2 s2 : Nat) (x2 : ByteArray) (ia2 : Option Addr) (il2 ic2 : Nat) (da2 : Option Addr) (dl2 dc2 : Nat) (li2 : List Lm.It) (ld2 : List Dt.Dot), Value.agg cs2 = (.agg #[.int .u8 (kd2 : Int), .int .i64 n2, .int .u64 (tt2 : Int), .int .u8 (r2 : Int), .int .u32 (i2 : Int), .int .u64 (s2 : Int), .string x2, .slice ia2 il2 ic2, .slice da2 dl2 dc2]) ∧ kd2 < 256 ∧ (-9223372036854775808 ≤ n2 ∧ n2 ≤ 9223372036854775807) ∧ tt2 ≤ 18446744073709551615 ∧ Dt.okD ((r2, i2), s2) ∧ x2.size ≤ 9223372036854775807 ∧ IRow W ia2 ic2 li2 ∧ li2.length = il2 ∧ VRow W da2 dc2 ld2 ∧ ld2.length = dl2 := by
    obtain ⟨fuel, hf⟩ := kk2
    obtain ⟨kd2, n2, tt2, r2, i2, s2, x2, ia2, il2, ic2, da2, dl2, dc2, li2, ld2, hcs, hr⟩ := oLeaf hf
    refine ⟨kd2, n2, tt2, r2, i2, s2, x2, ia2, il2, ic2, da2, dl2, dc2, li2, ld2, ?_, hr⟩
    obtain ⟨cs⟩ := cs2
    simp only [Value.cells] at hcs
    rw [hcs]
  rw [c2] at kk2 hW' ⊢
  clear hA0 hval0
  refine (walk kd0 n0 tt0 r0 i0 s0 x0 ia0 il0 ic0 da0 dl0 dc0 li0 ld0 kd1 n1 tt1 r1 i1 s1 x1 ia1 il1 ic1 da1 dl1 dc1 li1 ld1 kd2 n2 tt2 r2 i2 s2 x2 ia2 il2 ic2 da2 dl2 dc2 li2 ld2 W h0 h1 h2).mono fun e W' ⟨he, bel⟩ => ?_
  subst he
  exact ⟨_, rfl, _, _, _, [], _, [], hW', trodAll_mk1 (shut_bool Try.underlying4 _), (trodAll_cons_mk (Below.trod laidOut (by kernel_rfl) (of_decide_eq_true (by kernel_rfl)) kk0 bel lt0) (trodAll_cons_mk (Below.trod laidOut (by kernel_rfl) (of_decide_eq_true (by kernel_rfl)) kk1 bel lt1) (trodAll_cons_mk (Below.trod laidOut (by kernel_rfl) (of_decide_eq_true (by kernel_rfl)) kk2 bel lt2) trodAll_mk0))), rfl, bel.frame _, fun h => by cases h⟩

theorem over : Rows.fuseMergesRow.holds Try.pinned (OpenSpec.ofChange Rows.fuseMergesSpec) :=
  OpenClaim.holds_of_wide 3 Try.f3 rfl rfl rfl rfl rfl rfl rfl ⟨rfl, rfl, rfl, rfl, rfl⟩ rfl rfl rfl rfl rfl (by kernel_rfl) Try.func3 (by kernel_rfl)
    (of_decide_eq_true (by kernel_rfl)) (by unfold Func.isWrapper; first | (rw [if_pos (by decide +kernel)]; kernel_rfl) | (rw [if_neg (by decide +kernel)]; exact ⟨rfl, rfl⟩))
    (fun os started H enc _ => lifted os started H enc)

/-- the statement -/
theorem proved : Rows.FuseMergesSaid := over
#print axioms proved
end Go.Proofs.Ytmnblimnoaockaa.fuseMerges
