/-
  OpMay, for any event, operation and text: which names, paths, operations and events may be, types of kinds, and which operations are the same, are the document's answers. Conditions: none beside those the statement's own function asks (what is greater than it looks at answers its known examples).
-/
import Derived.Test.YtpkfjgoimaomfaaOp12
import Derived.Test.YtpkfjgoimaomfaaOpen1
import Derived.WalkKit
import Derived.ProofKit
import Derived.OpenShut
import Derived.ShutString
import Derived.ChangeOld
import Derived.Below
namespace Go.Proofs.Ytpkfjgoimaomfaa.opMay
open Go.ChangeShapes Go.WideShapes Go.ChangeAt Go.RowKit
set_option linter.unusedVariables false
theorem own : ownKnob Try.prog.godebug = none := by kernel_rfl
theorem laidOut : laidOutB Try.prog = true := by kernel_rfl
theorem walk (r0 i0 s0 tm0 : Nat) (k0 : Nat) (pa0 : Option Addr) (pl0 pc0 : Nat) (n0 : Int) (t0 : ByteArray) (da0 : Option Addr) (dl0 dc0 : Nat) (p0 : List ByteArray) (d0 : List Dt.Dot) (k1 : Nat) (pa1 : Option Addr) (pl1 pc1 : Nat) (n1 : Int) (t1 : ByteArray) (da1 : Option Addr) (dl1 dc1 : Nat) (p1 : List ByteArray) (d1 : List Dt.Dot) (s2 : ByteArray) (w : World) (h0 : Dt.okD ((r0, i0), s0) ∧ tm0 ≤ 18446744073709551615 ∧ k0 < 256 ∧ (-9223372036854775808 ≤ n0 ∧ n0 ≤ 9223372036854775807) ∧ t0.size ≤ 9223372036854775807 ∧ SRow w pa0 pc0 p0 ∧ p0.length = pl0 ∧ VRow w da0 dc0 d0 ∧ d0.length = dl0) (h1 : k1 < 256 ∧ (-9223372036854775808 ≤ n1 ∧ n1 ≤ 9223372036854775807) ∧ t1.size ≤ 9223372036854775807 ∧ SRow w pa1 pc1 p1 ∧ p1.length = pl1 ∧ VRow w da1 dc1 d1 ∧ d1.length = dl1) (h2 : s2.size ≤ 9223372036854775807) :
    Calls Try.prog 3 #[(.agg #[.int .u8 (r0 : Int), .int .u32 (i0 : Int), .int .u64 (s0 : Int), .int .u64 (tm0 : Int), .int .u8 (k0 : Int), .slice pa0 pl0 pc0, .int .i64 n0, .string t0, .slice da0 dl0 dc0]), (.agg #[.int .u8 (k1 : Int), .slice pa1 pl1 pc1, .int .i64 n1, .string t1, .slice da1 dl1 dc1]), (.string s2)] w fun e w' => e = .returned (.bool true) ∧ Below w.heap.size w w' := by
  obtain ⟨hk0, _, ht0, hp0, hpl0, hd0, hdl0⟩ := h0.2.2
  obtain ⟨hk1, _, ht1, hp1, hpl1, hd1, hdl1⟩ := h1
  exact lawMay_any r0 i0 s0 tm0 k0 hk0 pa0 pl0 pc0 n0 t0 da0 dl0 dc0 p0 d0 k1 hk1 pa1 pl1 pc1 n1 t1 da1 dl1 dc1 p1 d1 s2 h2 w hp0 hpl0 hd0 hdl0 hp1 hpl1 hd1 hdl1
set_option maxRecDepth 100000 in
theorem lifted (os : Os) (started : os.Started) (H : Type) (enc : TypeId × Value → H) :
    ReturnsInHanded {} Try.checked os 3 .any (Rows.opMaySpec.pre6 enc Try.prog Try.f3 Rows.opMayRow.domain false) (Rows.opMaySpec.post enc Try.prog Try.f3 false true false false) := by
  refine returnsInHanded_of_change (C := Try.checked) own started (by kernel_rfl) Try.func3
    (ChangeSpec.witness6 (enc := enc) (C := Try.checked) false ⟨#[], #[.agg #[.int .u8 0, .int .u32 0, .int .u64 0, .int .u64 0, .int .u8 0, .slice none 0 0, .int .i64 0, .string ⟨#[]⟩, .slice none 0 0], .agg #[.int .u8 0, .slice none 0 0, .int .i64 0, .string ⟨#[]⟩, .slice none 0 0], .string ⟨#[]⟩], []⟩ 8 (by kernel_rfl) (by kernel_rfl) (by kernel_rfl) (by kernel_rfl)) ?_
  intro W base args ds gs before hval0 hW hcnd _
  have hval : ∀ (j : Nat) t v, Try.f3.params[j]? = some t → args[j]? = some v → Value.okWide Try.prog W .any base t v := hval0
  have hW' := hW
  obtain ⟨p, q, hA0, hV, rfl, hfz, hnd⟩ := hW
  have hA : DataW.TrodAll enc Try.prog W 0 (fun _ => true) true Try.f3.params.toList args.toList ds p := hA0
  rw [Try.params3] at hA hval
  obtain ⟨v0, vs0, t0, ds0, pp0, q0, hargs, rfl, rfl, kk0, rr0⟩ := trodAll_cons hA
  obtain ⟨v1, vs1, t1, ds1, pp1, q1, rfl, rfl, rfl, kk1, rr1⟩ := trodAll_cons rr0
  obtain ⟨v2, vs2, t2, ds2, pp2, q2, rfl, rfl, rfl, kk2, rr2⟩ := trodAll_cons rr1
  obtain ⟨rfl, rfl, rfl⟩ := trodAll_nil rr2
  obtain rfl : args = #[v0, v1, v2] := by cases args; simp_all
  obtain ⟨rfl, rfl⟩ := trodVars_none hV
  have lt0 : ∀ x ∈ pp0, x.block < W.heap.size := by obtain ⟨m, hm⟩ := kk0; exact DataW.trod_lt m _ _ _ hm
  obtain ⟨cs0, rfl, _⟩ := okWide_struct Try.underlying33 (hval 0 33 v0 rfl rfl)
  obtain ⟨r0, i0, s0, tm0, k0, pa0, pl0, pc0, n0, t0, da0, dl0, dc0, p0, d0, c0, h0⟩ : ∃ (r0 i0 s0 tm0 : Nat) (k0 : Nat) (pa0 : Option Addr) (pl0 pc0 : Nat) (n0 : Int) (t0 : ByteArray) (da0 : Option Addr) (dl0 dc0 : Nat) (p0 : List ByteArray) (d0 : List Dt.Dot), Value.agg cs0 = (.agg #[.int .u8 (r0 : Int), .int .u32 (i0 : Int), .int .u64 (s0 : Int), .int .u64 (tm0 : Int), .int .u8 (k0 : Int), .slice pa0 pl0 pc0, .int .i64 n0, .string t0, .slice da0 dl0 dc0]) ∧ Dt.okD ((r0, i0), s0) ∧ tm0 ≤ 18446744073709551615 ∧ k0 < 256 ∧ (-9223372036854775808 ≤ n0 ∧ n0 ≤ 9223372036854775807) ∧ t0.size ≤ 9223372036854775807 ∧ SRow W pa0 pc0 p0 ∧ p0.length = pl0 ∧ VRow W da0 dc0 d0 ∧ d0.length = dl0 := by
    obtain ⟨fuel, hf⟩ := kk0
    obtain ⟨r0, i0, s0, tm0, k0, pa0, pl0, pc0, n0, t0, da0, dl0, dc0, p0, d0, hcs, hr⟩ := oEvent hf
    refine ⟨r0, i0, s0, tm0, k0, pa0, pl0, pc0, n0, t0, da0, dl0, dc0, p0, d0, ?_, hr⟩
    obtain ⟨cs⟩ := cs0
    simp only [Value.cells] at hcs
    rw [hcs]
  rw [c0] at kk0 hW' ⊢
  have lt1 : ∀ x ∈ pp1, x.block < W.heap.size := by obtain ⟨m, hm⟩ := kk1; exact DataW.trod_lt m _ _ _ hm
  obtain ⟨cs1, rfl, _⟩ := okWide_struct Try.underlying31 (hval 1 31 v1 rfl rfl)
  obtain ⟨k1, pa1, pl1, pc1, n1, t1, da1, dl1, dc1, p1, d1, c1, h1⟩ : ∃ (k1 : Nat) (pa1 : Option Addr) (pl1 pc1 : Nat) (n1 : Int) (t1 : ByteArray) (da1 : Option Addr) (dl1 dc1 : Nat) (p1 : List ByteArray) (d1 : List Dt.Dot), Value.agg cs1 = (.agg #[.int .u8 (k1 : Int), .slice pa1 pl1 pc1, .int .i64 n1, .string t1, .slice da1 dl1 dc1]) ∧ k1 < 256 ∧ (-9223372036854775808 ≤ n1 ∧ n1 ≤ 9223372036854775807) ∧ t1.size ≤ 9223372036854775807 ∧ SRow W pa1 pc1 p1 ∧ p1.length = pl1 ∧ VRow W da1 dc1 d1 ∧ d1.length = dl1 := by
    obtain ⟨fuel, hf⟩ := kk1
    obtain ⟨k1, pa1, pl1, pc1, n1, t1, da1, dl1, dc1, p1, d1, hcs, hr⟩ := oOp hf
    refine ⟨k1, pa1, pl1, pc1, n1, t1, da1, dl1, dc1, p1, d1, ?_, hr⟩
    obtain ⟨cs⟩ := cs1
    simp only [Value.cells] at hcs
    rw [hcs]
  rw [c1] at kk1 hW' ⊢
  have lt2 : ∀ x ∈ pp2, x.block < W.heap.size := by obtain ⟨m, hm⟩ := kk2; exact DataW.trod_lt m _ _ _ hm
  obtain ⟨s2, rfl⟩ := okWide_string Try.underlying9 (hval 2 9 v2 rfl rfl)
  have h2 : s2.size ≤ 9223372036854775807 := by
    obtain ⟨fuel, hf⟩ := kk2
    obtain ⟨s, hs, _, hz⟩ := DataW.trod_string Try.underlying9 hf
    simp [Value.cells] at hs
    subst hs
    unfold maxLen at hz
    exact hz
  clear hA0 hval0
  refine (walk r0 i0 s0 tm0 k0 pa0 pl0 pc0 n0 t0 da0 dl0 dc0 p0 d0 k1 pa1 pl1 pc1 n1 t1 da1 dl1 dc1 p1 d1 s2 W h0 h1 h2).mono fun e W' ⟨he, bel⟩ => ?_
  subst he
  exact ⟨_, rfl, _, _, _, [], _, [], hW', trodAll_mk1 (shut_bool Try.underlying4 _), (trodAll_cons_mk (Below.trod laidOut (by kernel_rfl) (of_decide_eq_true (by kernel_rfl)) kk0 bel lt0) (trodAll_cons_mk (Below.trod laidOut (by kernel_rfl) (of_decide_eq_true (by kernel_rfl)) kk1 bel lt1) (trodAll_cons_mk (Below.trod laidOut (by kernel_rfl) (of_decide_eq_true (by kernel_rfl)) kk2 bel lt2) trodAll_mk0))), rfl, bel.frame _, fun h => by cases h⟩

theorem over : Rows.opMayRow.holds Try.pinned (OpenSpec.ofChange Rows.opMaySpec) :=
  OpenClaim.holds_of_wide 3 Try.f3 rfl rfl rfl rfl rfl rfl rfl ⟨rfl, rfl, rfl, rfl, rfl⟩ rfl rfl rfl rfl rfl (by kernel_rfl) Try.func3 (by kernel_rfl)
    (of_decide_eq_true (by kernel_rfl)) (by unfold Func.isWrapper; first | (rw [if_pos (by decide +kernel)]; kernel_rfl) | (rw [if_neg (by decide +kernel)]; exact ⟨rfl, rfl⟩))
    (fun os started H enc _ => lifted os started H enc)

/-- the statement -/
theorem proved : Rows.OpMaySaid := over
#print axioms proved
end Go.Proofs.Ytpkfjgoimaomfaa.opMay
