/-
  Layer 11's CommitTwo: for any two commits, any cut and any byte the Go function tells true, without a panic: two commits that may be have the same bytes just if they are the same; of bytes that are cut anywhere, or have a byte behind, there is no such commit. No condition.
-/
import Derived.Test.YthbkieghkfpbhaaGreatZCmt12
import Derived.Test.YthbkieghkfpbhaaGreatZOpen1
import Derived.WalkKit
import Derived.ProofKit
import Derived.OpenShut
import Derived.ShutString
import Derived.ChangeOld
import Derived.Below
namespace Go.Proofs.YthbkieghkfpbhaaGreat.commitTwo
open Go.ChangeShapes Go.WideShapes Go.ChangeAt Go.RowKit
set_option linter.unusedVariables false
theorem own : ownKnob Tryz.prog.godebug = none := by kernel_rfl
theorem laidOut : laidOutB Tryz.prog = true := by kernel_rfl
theorem walk (r0 i0 s0 : Nat) (qa0 : Option Addr) (ql0 qc0 : Nat) (va0 : Option Addr) (vl0 vc0 : Nat) (tm0 k0 : Nat) (pa0 : Option Addr) (pl0 pc0 : Nat) (n0 : Int) (t0 : ByteArray) (da0 : Option Addr) (dl0 dc0 : Nat) (lq0 lv0 : List Dt.Dot) (p0 : List ByteArray) (d0 : List Dt.Dot) (r1 i1 s1 : Nat) (qa1 : Option Addr) (ql1 qc1 : Nat) (va1 : Option Addr) (vl1 vc1 : Nat) (tm1 k1 : Nat) (pa1 : Option Addr) (pl1 pc1 : Nat) (n1 : Int) (t1 : ByteArray) (da1 : Option Addr) (dl1 dc1 : Nat) (lq1 lv1 : List Dt.Dot) (p1 : List ByteArray) (d1 : List Dt.Dot) (x2 : Int) (x3 : Int) (w : World) (h0 : Dt.okD ((r0, i0), s0) ∧ VRow w qa0 qc0 lq0 ∧ lq0.length = ql0 ∧ VRow w va0 vc0 lv0 ∧ lv0.length = vl0 ∧ tm0 ≤ 18446744073709551615 ∧ k0 < 256 ∧ (-9223372036854775808 ≤ n0 ∧ n0 ≤ 9223372036854775807) ∧ t0.size ≤ 9223372036854775807 ∧ SRow w pa0 pc0 p0 ∧ p0.length = pl0 ∧ VRow w da0 dc0 d0 ∧ d0.length = dl0) (h1 : Dt.okD ((r1, i1), s1) ∧ VRow w qa1 qc1 lq1 ∧ lq1.length = ql1 ∧ VRow w va1 vc1 lv1 ∧ lv1.length = vl1 ∧ tm1 ≤ 18446744073709551615 ∧ k1 < 256 ∧ (-9223372036854775808 ≤ n1 ∧ n1 ≤ 9223372036854775807) ∧ t1.size ≤ 9223372036854775807 ∧ SRow w pa1 pc1 p1 ∧ p1.length = pl1 ∧ VRow w da1 dc1 d1 ∧ d1.length = dl1) (h2 : -9223372036854775808 ≤ x2 ∧ x2 ≤ 9223372036854775807) (h3 : 0 ≤ x3 ∧ x3 ≤ 255) :
    Calls Tryz.prog 3 #[(.agg #[.int .u8 (r0 : Int), .int .u32 (i0 : Int), .int .u64 (s0 : Int), .slice qa0 ql0 qc0, .slice va0 vl0 vc0, .int .u64 (tm0 : Int), .int .u8 (k0 : Int), .slice pa0 pl0 pc0, .int .i64 n0, .string t0, .slice da0 dl0 dc0]), (.agg #[.int .u8 (r1 : Int), .int .u32 (i1 : Int), .int .u64 (s1 : Int), .slice qa1 ql1 qc1, .slice va1 vl1 vc1, .int .u64 (tm1 : Int), .int .u8 (k1 : Int), .slice pa1 pl1 pc1, .int .i64 n1, .string t1, .slice da1 dl1 dc1]), (.int .i64 x2), (.int .u8 x3)] w fun e w' => e = .returned (.bool true) ∧ Below w.heap.size w w' := by
  obtain ⟨a1, a2, a3, a4, a5, a6, a7, ⟨a8, a9⟩, a10, a11, a12, a13, a14⟩ := h0
  obtain ⟨b1, b2, b3, b4, b5, b6, b7, ⟨b8, b9⟩, b10, b11, b12, b13, b14⟩ := h1
  obtain ⟨mo, rfl⟩ := Int.eq_ofNat_of_zero_le h3.1
  exact lawTwo_any r0 i0 s0 qa0 ql0 qc0 va0 vl0 vc0 tm0 k0 pa0 pl0 pc0 n0 t0 da0 dl0 dc0 lq0 lv0 p0 d0 r1 i1 s1 qa1 ql1 qc1 va1 vl1 vc1 tm1 k1 pa1 pl1 pc1 n1 t1 da1 dl1 dc1 lq1 lv1 p1 d1 x2 mo w a2 a3 a4 a5 a11 a12 a13 a14 b2 b3 b4 b5 b11 b12 b13 b14 a1 (by omega) a7 a8 a9 b1 (by omega) b7 b8 b9 h2.1 h2.2 (by omega)
set_option maxRecDepth 100000 in
theorem lifted (os : Os) (started : os.Started) (H : Type) (enc : TypeId × Value → H) :
    ReturnsInHanded {} Tryz.checked os 3 .any (Rows.commitTwoSpec.pre6 enc Tryz.prog Tryz.f3 Rows.commitTwoRow.domain false) (Rows.commitTwoSpec.post enc Tryz.prog Tryz.f3 false true false false) := by
  refine returnsInHanded_of_change (C := Tryz.checked) own started (by kernel_rfl) Tryz.func3
    (ChangeSpec.witness6 (enc := enc) (C := Tryz.checked) false ⟨#[], #[.agg #[.int .u8 0, .int .u32 0, .int .u64 0, .slice none 0 0, .slice none 0 0, .int .u64 0, .int .u8 0, .slice none 0 0, .int .i64 0, .string ⟨#[]⟩, .slice none 0 0], .agg #[.int .u8 0, .int .u32 0, .int .u64 0, .slice none 0 0, .slice none 0 0, .int .u64 0, .int .u8 0, .slice none 0 0, .int .i64 0, .string ⟨#[]⟩, .slice none 0 0], .int .i64 0, .int .u8 0], []⟩ 8 (by kernel_rfl) (by kernel_rfl) (by kernel_rfl) (by kernel_rfl)) ?_
  intro W base args ds gs before hval0 hW hcnd _
  have hval : ∀ (j : Nat) t v, Tryz.f3.params[j]? = some t → args[j]? = some v → Value.okWide Tryz.prog W .any base t v := hval0
  have hW' := hW
  obtain ⟨p, q, hA0, hV, rfl, hfz, hnd⟩ := hW
  have hA : DataW.TrodAll enc Tryz.prog W 0 (fun _ => true) true Tryz.f3.params.toList args.toList ds p := hA0
  rw [Tryz.params3] at hA hval
  obtain ⟨v0, vs0, t0, ds0, pp0, q0, hargs, rfl, rfl, kk0, rr0⟩ := trodAll_cons hA
  obtain ⟨v1, vs1, t1, ds1, pp1, q1, rfl, rfl, rfl, kk1, rr1⟩ := trodAll_cons rr0
  obtain ⟨v2, vs2, t2, ds2, pp2, q2, rfl, rfl, rfl, kk2, rr2⟩ := trodAll_cons rr1
  obtain ⟨v3, vs3, t3, ds3, pp3, q3, rfl, rfl, rfl, kk3, rr3⟩ := trodAll_cons rr2
  obtain ⟨rfl, rfl, rfl⟩ := trodAll_nil rr3
  obtain rfl : args = #[v0, v1, v2, v3] := by cases args; simp_all
  obtain ⟨rfl, rfl⟩ := trodVars_none hV
  have lt0 : ∀ x ∈ pp0, x.block < W.heap.size := by obtain ⟨m, hm⟩ := kk0; exact DataW.trod_lt m _ _ _ hm
  obtain ⟨cs0, rfl, _⟩ := okWide_struct Tryz.underlying34 (hval 0 34 v0 rfl rfl)
  obtain ⟨r0, i0, s0, qa0, ql0, qc0, va0, vl0, vc0, tm0, k0, pa0, pl0, pc0, n0, t0, da0, dl0, dc0, lq0, lv0, p0, d0, c0, h0⟩ : ∃ (r0 i0 s0 : Nat) (qa0 : Option Addr) (ql0 qc0 : Nat) (va0 : Option Addr) (vl0 vc0 : Nat) (tm0 k0 : Nat) (pa0 : Option Addr) (pl0 pc0 : Nat) (n0 : Int) (t0 : ByteArray) (da0 : Option Addr) (dl0 dc0 : Nat) (lq0 lv0 : List Dt.Dot) (p0 : List ByteArray) (d0 : List Dt.Dot), Value.agg cs0 = (.agg #[.int .u8 (r0 : Int), .int .u32 (i0 : Int), .int .u64 (s0 : Int), .slice qa0 ql0 qc0, .slice va0 vl0 vc0, .int .u64 (tm0 : Int), .int .u8 (k0 : Int), .slice pa0 pl0 pc0, .int .i64 n0, .string t0, .slice da0 dl0 dc0]) ∧ Dt.okD ((r0, i0), s0) ∧ VRow W qa0 qc0 lq0 ∧ lq0.length = ql0 ∧ VRow W va0 vc0 lv0 ∧ lv0.length = vl0 ∧ tm0 ≤ 18446744073709551615 ∧ k0 < 256 ∧ (-9223372036854775808 ≤ n0 ∧ n0 ≤ 9223372036854775807) ∧ t0.size ≤ 9223372036854775807 ∧ SRow W pa0 pc0 p0 ∧ p0.length = pl0 ∧ VRow W da0 dc0 d0 ∧ d0.length = dl0 := by
    obtain ⟨fuel, hf⟩ := kk0
    obtain ⟨r0, i0, s0, qa0, ql0, qc0, va0, vl0, vc0, tm0, k0, pa0, pl0, pc0, n0, t0, da0, dl0, dc0, lq0, lv0, p0, d0, hcs, hr⟩ := oCommit hf
    refine ⟨r0, i0, s0, qa0, ql0, qc0, va0, vl0, vc0, tm0, k0, pa0, pl0, pc0, n0, t0, da0, dl0, dc0, lq0, lv0, p0, d0, ?_, hr⟩
    obtain ⟨cs⟩ := cs0
    simp only [Value.cells] at hcs
    rw [hcs]
  rw [c0] at kk0 hW' ⊢
  have lt1 : ∀ x ∈ pp1, x.block < W.heap.size := by obtain ⟨m, hm⟩ := kk1; exact DataW.trod_lt m _ _ _ hm
  obtain ⟨cs1, rfl, _⟩ := okWide_struct Tryz.underlying34 (hval 1 34 v1 rfl rfl)
  obtain ⟨r1, i1, s1, qa1, ql1, qc1, va1, vl1, vc1, tm1, k1, pa1, pl1, pc1, n1, t1, da1, dl1, dc1, lq1, lv1, p1, d1, c1, h1⟩ : ∃ (r1 i1 s1 : Nat) (qa1 : Option Addr) (ql1 qc1 : Nat) (va1 : Option Addr) (vl1 vc1 : Nat) (tm1 k1 : Nat) (pa1 : Option Addr) (pl1 pc1 : Nat) (n1 : Int) (t1 : ByteArray) (da1 : Option Addr) (dl1 dc1 : Nat) (lq1 lv1 : List Dt.Dot) (p1 : List ByteArray) (d1 : List Dt.Dot), Value.agg cs1 = (.agg #[.int .u8 (r1 : Int), .int .u32 (i1 : Int), .int .u64 (s1 : Int), .slice qa1 ql1 qc1, .slice va1 vl1 vc1, .int .u64 (tm1 : Int), .int .u8 (k1 : Int), .slice pa1 pl1 pc1, .int .i64 n1, .string t1, .slice da1 dl1 dc1]) ∧ Dt.okD ((r1, i1), s1) ∧ VRow W qa1 qc1 lq1 ∧ lq1.length = ql1 ∧ VRow W va1 vc1 lv1 ∧ lv1.length = vl1 ∧ tm1 ≤ 18446744073709551615 ∧ k1 < 256 ∧ (-9223372036854775808 ≤ n1 ∧ n1 ≤ 9223372036854775807) ∧ t1.size ≤ 9223372036854775807 ∧ SRow W pa1 pc1 p1 ∧ p1.length = pl1 ∧ VRow W da1 dc1 d1 ∧ d1.length = dl1 := by
    obtain ⟨fuel, hf⟩ := kk1
    obtain ⟨r1, i1, s1, qa1, ql1, qc1, va1, vl1, vc1, tm1, k1, pa1, pl1, pc1, n1, t1, da1, dl1, dc1, lq1, lv1, p1, d1, hcs, hr⟩ := oCommit hf
    refine ⟨r1, i1, s1, qa1, ql1, qc1, va1, vl1, vc1, tm1, k1, pa1, pl1, pc1, n1, t1, da1, dl1, dc1, lq1, lv1, p1, d1, ?_, hr⟩
    obtain ⟨cs⟩ := cs1
    simp only [Value.cells] at hcs
    rw [hcs]
  rw [c1] at kk1 hW' ⊢
  have lt2 : ∀ x ∈ pp2, x.block < W.heap.size := by obtain ⟨m, hm⟩ := kk2; exact DataW.trod_lt m _ _ _ hm
  obtain ⟨x2, rfl⟩ := okWide_int Tryz.underlying3 (hval 2 3 v2 rfl rfl)
  have h2 : -9223372036854775808 ≤ x2 ∧ x2 ≤ 9223372036854775807 := by
    obtain ⟨fuel, hf⟩ := kk2
    obtain ⟨s, hs, _, hz⟩ := DataW.trod_int Tryz.underlying3 hf
    simp [Value.cells] at hs
    subst hs
    exact bounds_i64 hz
  have lt3 : ∀ x ∈ pp3, x.block < W.heap.size := by obtain ⟨m, hm⟩ := kk3; exact DataW.trod_lt m _ _ _ hm
  obtain ⟨x3, rfl⟩ := okWide_int Tryz.underlying5 (hval 3 5 v3 rfl rfl)
  have h3 : 0 ≤ x3 ∧ x3 ≤ 255 := by
    obtain ⟨fuel, hf⟩ := kk3
    obtain ⟨s, hs, _, hz⟩ := DataW.trod_int Tryz.underlying5 hf
    simp [Value.cells] at hs
    subst hs
    exact bounds_u8 hz
  clear hA0 hval0
  refine (walk r0 i0 s0 qa0 ql0 qc0 va0 vl0 vc0 tm0 k0 pa0 pl0 pc0 n0 t0 da0 dl0 dc0 lq0 lv0 p0 d0 r1 i1 s1 qa1 ql1 qc1 va1 vl1 vc1 tm1 k1 pa1 pl1 pc1 n1 t1 da1 dl1 dc1 lq1 lv1 p1 d1 x2 x3 W h0 h1 h2 h3).mono fun e W' ⟨he, bel⟩ => ?_
  subst he
  exact ⟨_, rfl, _, _, _, [], _, [], hW', trodAll_mk1 (shut_bool Tryz.underlying4 _), (trodAll_cons_mk (Below.trod laidOut (by kernel_rfl) (of_decide_eq_true (by kernel_rfl)) kk0 bel lt0) (trodAll_cons_mk (Below.trod laidOut (by kernel_rfl) (of_decide_eq_true (by kernel_rfl)) kk1 bel lt1) (trodAll_cons_mk (Below.trod laidOut (by kernel_rfl) (of_decide_eq_true (by kernel_rfl)) kk2 bel lt2) (trodAll_cons_mk (Below.trod laidOut (by kernel_rfl) (of_decide_eq_true (by kernel_rfl)) kk3 bel lt3) trodAll_mk0)))), rfl, bel.frame _, fun h => by cases h⟩

theorem over : Rows.commitTwoRow.holds Tryz.pinned (OpenSpec.ofChange Rows.commitTwoSpec) :=
  OpenClaim.holds_of_wide 3 Tryz.f3 rfl rfl rfl rfl rfl rfl rfl ⟨rfl, rfl, rfl, rfl, rfl⟩ rfl rfl rfl rfl rfl (by kernel_rfl) Tryz.func3 (by kernel_rfl)
    (of_decide_eq_true (by kernel_rfl)) (by unfold Func.isWrapper; first | (rw [if_pos (by decide +kernel)]; kernel_rfl) | (rw [if_neg (by decide +kernel)]; exact ⟨rfl, rfl⟩))
    (fun os started H enc _ => lifted os started H enc)

/-- the statement -/
theorem proved : Rows.CommitTwoSaid := over
#print axioms proved
end Go.Proofs.YthbkieghkfpbhaaGreat.commitTwo
