/-
  Layer 12's GraphNone: for any commit the Go function tells true, without a panic: a graph that is not there, or was not made, refuses, and tells nothing. No condition.
-/
import Derived.Test.YtiiidmphmojlgaaGreatZGr24
import Derived.Test.YtiiidmphmojlgaaGreatZOpen1
import Derived.WalkKit
import Derived.ProofKit
import Derived.OpenShut
import Derived.ShutString
import Derived.ChangeOld
import Derived.Below
namespace Go.Proofs.YtiiidmphmojlgaaGreat.graphNone
open Go.ChangeShapes Go.WideShapes Go.ChangeAt Go.RowKit
set_option linter.unusedVariables false
theorem own : ownKnob Tryz.prog.godebug = none := by kernel_rfl
theorem laidOut : laidOutB Tryz.prog = true := by kernel_rfl
theorem walk (r0 i0 s0 : Nat) (qa0 : Option Addr) (ql0 qc0 : Nat) (va0 : Option Addr) (vl0 vc0 : Nat) (tm0 k0 : Nat) (pa0 : Option Addr) (pl0 pc0 : Nat) (n0 : Int) (t0 : ByteArray) (da0 : Option Addr) (dl0 dc0 : Nat) (lq0 lv0 : List Dt.Dot) (p0 : List ByteArray) (d0 : List Dt.Dot) (w : World) (h0 : Dt.okD ((r0, i0), s0) ∧ VRow w qa0 qc0 lq0 ∧ lq0.length = ql0 ∧ VRow w va0 vc0 lv0 ∧ lv0.length = vl0 ∧ tm0 ≤ 18446744073709551615 ∧ k0 < 256 ∧ (-9223372036854775808 ≤ n0 ∧ n0 ≤ 9223372036854775807) ∧ t0.size ≤ 9223372036854775807 ∧ SRow w pa0 pc0 p0 ∧ p0.length = pl0 ∧ VRow w da0 dc0 d0 ∧ d0.length = dl0) :
    Calls Tryz.prog 3 #[(.agg #[.int .u8 (r0 : Int), .int .u32 (i0 : Int), .int .u64 (s0 : Int), .slice qa0 ql0 qc0, .slice va0 vl0 vc0, .int .u64 (tm0 : Int), .int .u8 (k0 : Int), .slice pa0 pl0 pc0, .int .i64 n0, .string t0, .slice da0 dl0 dc0])] w fun e w' => e = .returned (.bool true) ∧ Below w.heap.size w w' := by
  obtain ⟨a1, a2, a3, a4, a5, a6, a7, ⟨a8, a9⟩, a10, a11, a12, a13, a14⟩ := h0
  exact lawNone_any r0 i0 s0 qa0 ql0 qc0 va0 vl0 vc0 tm0 k0 pa0 pl0 pc0 n0 t0 da0 dl0 dc0 w a1
set_option maxRecDepth 100000 in
theorem lifted (os : Os) (started : os.Started) (H : Type) (enc : TypeId × Value → H) :
    ReturnsInHanded {} Tryz.checked os 3 .any (Rows.graphNoneSpec.pre6 enc Tryz.prog Tryz.f3 Rows.graphNoneRow.domain false) (Rows.graphNoneSpec.post enc Tryz.prog Tryz.f3 false true false false) := by
  refine returnsInHanded_of_change (C := Tryz.checked) own started (by kernel_rfl) Tryz.func3
    (ChangeSpec.witness6 (enc := enc) (C := Tryz.checked) false ⟨#[], #[.agg #[.int .u8 0, .int .u32 0, .int .u64 0, .slice none 0 0, .slice none 0 0, .int .u64 0, .int .u8 0, .slice none 0 0, .int .i64 0, .string ⟨#[]⟩, .slice none 0 0]], []⟩ 8 (by kernel_rfl) (by kernel_rfl) (by kernel_rfl) (by kernel_rfl)) ?_
  intro W base args ds gs before hval0 hW hcnd _
  have hval : ∀ (j : Nat) t v, Tryz.f3.params[j]? = some t → args[j]? = some v → Value.okWide Tryz.prog W .any base t v := hval0
  have hW' := hW
  obtain ⟨p, q, hA0, hV, rfl, hfz, hnd⟩ := hW
  have hA : DataW.TrodAll enc Tryz.prog W 0 (fun _ => true) true Tryz.f3.params.toList args.toList ds p := hA0
  rw [Tryz.params3] at hA hval
  obtain ⟨v0, vs0, t0, ds0, pp0, q0, hargs, rfl, rfl, kk0, rr0⟩ := trodAll_cons hA
  obtain ⟨rfl, rfl, rfl⟩ := trodAll_nil rr0
  obtain rfl : args = #[v0] := by cases args; simp_all
  obtain ⟨rfl, rfl⟩ := trodVars_none hV
  have lt0 : ∀ x ∈ pp0, x.block < W.heap.size := by obtain ⟨m, hm⟩ := kk0; exact DataW.trod_lt m _ _ _ hm
  obtain ⟨cs0, rfl, _⟩ := okWide_struct Tryz.underlying34 (hval 0 34 v0 rfl rfl)
  obtain ⟨r0, i0, s0, qa0, ql0, qc0, va0, vl0, vc0, tm0, k0, pa0, pl0, pc0, n0, t0, da0, dl0, dc0, lq0, lv0, p0, d0, c0, h0⟩ : ∃ (r0 i0 s0 : Nat) (qa0 : Option Addr) (ql0 qc0 : Nat) (va0 : Option Addr) (vl0 vc0 : Nat) (tm0 k0 : Nat) (pa0 : Option Addr) (pl0 pc0 : Nat) (n0 : Int) (t0 : ByteArray) (da0 : Option Addr) (dl0 dc0 : Nat) (lq0 lv0 : List Dt.Dot) (p0 : List ByteArray) (d0 : List Dt.Dot), Value.agg cs0 = (.agg #[.int .u8 (r0 : Int), .int .u32 (i0 : Int), .int .u64 (s0 : Int), .slice qa0 ql0 qc0, .slice va0 vl0 vc0, .int .u64 (tm0 : Int), .int .u8 (k0 : Int), .slice pa0 pl0 pc0, .int .i64 n0, .string t0, .slice da0 dl0 dc0]) ∧ Dt.okD ((r0, i0), s0) ∧ VRow W qa0 qc0 lq0 ∧ lq0.length = ql0 ∧ VRow W va0 vc0 lv0 ∧ lv0.length = vl0 ∧ tm0 ≤ 18446744073709551615 ∧ k0 < 256 ∧ (-9223372036854775808 ≤ n0 ∧ n0 ≤ 9223372036854775807) ∧ t0.size ≤ 9223372036854775807 ∧ SRow W pa0 pc0 p0 ∧ p0.length = pl0 ∧ VRow W da0 dc0 d0 ∧ d0.length = dl0 := by
    obtain ⟨fuel, hf⟩ := kk0
    obtain ⟨r0, i0, s0, qa0, ql0, qc0, va0, vl0, vc0, tm0, k0, pa0, pl0, pc0, n0, t0, da0, dl0, dc0, lq0, lv0, p0, d0, hcs, hr⟩ := oCommit hf
    refine ⟨r0, i0, s0, qa0, ql0, qc0, va0, vl0, vc0, tm0, k0, pa0, pl0, pc0, n0, t0, da0, dl0, dc0, lq0, lv0, p0, d0, ?_, hr⟩
    obtain ⟨cs⟩ := cs0
    simp only [Value.cells] at hcs
    rw [hcs]
  rw [c0] at kk0 hW' ⊢
  clear hA0 hval0
  refine (walk r0 i0 s0 qa0 ql0 qc0 va0 vl0 vc0 tm0 k0 pa0 pl0 pc0 n0 t0 da0 dl0 dc0 lq0 lv0 p0 d0 W h0).mono fun e W' ⟨he, bel⟩ => ?_
  subst he
  exact ⟨_, rfl, _, _, _, [], _, [], hW', trodAll_mk1 (shut_bool Tryz.underlying4 _), (trodAll_cons_mk (Below.trod laidOut (by kernel_rfl) (of_decide_eq_true (by kernel_rfl)) kk0 bel lt0) trodAll_mk0), rfl, bel.frame _, fun h => by cases h⟩

theorem over : Rows.graphNoneRow.holds Tryz.pinned (OpenSpec.ofChange Rows.graphNoneSpec) :=
  OpenClaim.holds_of_wide 3 Tryz.f3 rfl rfl rfl rfl rfl rfl rfl ⟨rfl, rfl, rfl, rfl, rfl⟩ rfl rfl rfl rfl rfl (by kernel_rfl) Tryz.func3 (by kernel_rfl)
    (of_decide_eq_true (by kernel_rfl)) (by unfold Func.isWrapper; first | (rw [if_pos (by decide +kernel)]; kernel_rfl) | (rw [if_neg (by decide +kernel)]; exact ⟨rfl, rfl⟩))
    (fun os started H enc _ => lifted os started H enc)

/-- the statement -/
theorem proved : Rows.GraphNoneSaid := over
#print axioms proved
end Go.Proofs.YtiiidmphmojlgaaGreat.graphNone
