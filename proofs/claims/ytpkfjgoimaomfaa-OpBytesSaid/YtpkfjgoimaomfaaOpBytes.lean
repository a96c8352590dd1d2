/-
  OpBytes, for any event and any bytes: the event's bytes, or that it may not be, are the document's, and are read as the event; its operation's bytes behind any others likewise. Conditions: none beside those the statement's own function asks (what is greater than it looks at answers its known examples).
-/
import Derived.Test.YtpkfjgoimaomfaaOpZ
import Derived.Test.YtpkfjgoimaomfaaOpen1
import Derived.WalkKit
import Derived.ProofKit
import Derived.OpenShut
import Derived.ShutString
import Derived.ChangeOld
import Derived.Below
namespace Go.Proofs.Ytpkfjgoimaomfaa.opBytes
open Go.ChangeShapes Go.WideShapes Go.ChangeAt Go.RowKit
set_option linter.unusedVariables false
theorem own : ownKnob Try.prog.godebug = none := by kernel_rfl
theorem laidOut : laidOutB Try.prog = true := by kernel_rfl
theorem walk (r0 i0 s0 tm0 : Nat) (k0 : Nat) (pa0 : Option Addr) (pl0 pc0 : Nat) (n0 : Int) (t0 : ByteArray) (da0 : Option Addr) (dl0 dc0 : Nat) (p0 : List ByteArray) (d0 : List Dt.Dot) (a1 : Option Addr) (len1 cap1 : Nat) (l1 : List Nat) (w : World) (h0 : Dt.okD ((r0, i0), s0) ∧ tm0 ≤ 18446744073709551615 ∧ k0 < 256 ∧ (-9223372036854775808 ≤ n0 ∧ n0 ≤ 9223372036854775807) ∧ t0.size ≤ 9223372036854775807 ∧ SRow w pa0 pc0 p0 ∧ p0.length = pl0 ∧ VRow w da0 dc0 d0 ∧ d0.length = dl0) (h1 : Row w a1 cap1 l1 ∧ l1.length = len1) :
    Calls Try.prog 4 #[(.agg #[.int .u8 (r0 : Int), .int .u32 (i0 : Int), .int .u64 (s0 : Int), .int .u64 (tm0 : Int), .int .u8 (k0 : Int), .slice pa0 pl0 pc0, .int .i64 n0, .string t0, .slice da0 dl0 dc0]), (.slice a1 len1 cap1)] w fun e w' => e = .returned (.bool true) ∧ Below w.heap.size w w' := by
  obtain ⟨hd0, htm0, hk0, hn0, ht0, hp0, hpl0, hr0, hdl0⟩ := h0
  exact lawBytes_any r0 i0 s0 tm0 k0 hd0 htm0 hk0 pa0 pl0 pc0 n0 hn0.1 hn0.2 t0 da0 dl0 dc0 p0 d0 a1 len1 cap1 l1 w hp0 hpl0 hr0 hdl0 h1.1 h1.2 (by have := h1.1.cap; have := h1.1.le; rw [h1.2] at this; omega)
set_option maxRecDepth 100000 in
theorem lifted (os : Os) (started : os.Started) (H : Type) (enc : TypeId × Value → H) :
    ReturnsInHanded {} Try.checked os 4 .any (Rows.opBytesSpec.pre6 enc Try.prog Try.f4 Rows.opBytesRow.domain false) (Rows.opBytesSpec.post enc Try.prog Try.f4 false true false false) := by
  refine returnsInHanded_of_change (C := Try.checked) own started (by kernel_rfl) Try.func4
    (ChangeSpec.witness6 (enc := enc) (C := Try.checked) false ⟨#[], #[.agg #[.int .u8 0, .int .u32 0, .int .u64 0, .int .u64 0, .int .u8 0, .slice none 0 0, .int .i64 0, .string ⟨#[]⟩, .slice none 0 0], .slice none 0 0], []⟩ 8 (by kernel_rfl) (by kernel_rfl) (by kernel_rfl) (by kernel_rfl)) ?_
  intro W base args ds gs before hval0 hW hcnd _
  have hval : ∀ (j : Nat) t v, Try.f4.params[j]? = some t → args[j]? = some v → Value.okWide Try.prog W .any base t v := hval0
  have hW' := hW
  obtain ⟨p, q, hA0, hV, rfl, hfz, hnd⟩ := hW
  have hA : DataW.TrodAll enc Try.prog W 0 (fun _ => true) true Try.f4.params.toList args.toList ds p := hA0
  rw [Try.params4] at hA hval
  obtain ⟨v0, vs0, t0, ds0, pp0, q0, hargs, rfl, rfl, kk0, rr0⟩ := trodAll_cons hA
  obtain ⟨v1, vs1, t1, ds1, pp1, q1, rfl, rfl, rfl, kk1, rr1⟩ := trodAll_cons rr0
  obtain ⟨rfl, rfl, rfl⟩ := trodAll_nil rr1
  obtain rfl : args = #[v0, v1] := by cases args; simp_all
  obtain ⟨rfl, rfl⟩ := trodVars_none hV
  have lt0 : ∀ x ∈ pp0, x.block < W.heap.size := by obtain ⟨m, hm⟩ := kk0; exact DataW.trod_lt m _ _ _ hm
  obtain ⟨cs0, rfl, _⟩ := okWide_struct Try.underlying33 (hval 0 33 v0 rfl rfl)
  obtain ⟨r0, i0, s0, tm0, k0, pa0, pl0, pc0, n0, t0, da0, dl0, dc0, p0, d0, c0, h0⟩ : ∃ (r0 i0 s0 tm0 : Nat) (k0 : Nat) (pa0 : Option Addr) (pl0 pc0 : Nat) (n0 : Int) (t0 : ByteArray) (da0 : Option Addr) (dl0 dc0 : Nat) (p0 : List ByteArray) (d0 : List Dt.Dot), Value.agg cs0 = (.agg #[.int .u8 (r0 : Int), .int .u32 (i0 : Int), .int .u64 (s0 : Int), .int .u64 (tm0 : Int), .int .u8 (k0 : Int), .slice pa0 pl0 pc0, .int .i64 n0, .string t0, .slice da0 dl0 dc0]) ∧ Dt.okD ((r0, i0), s0) ∧ tm0 ≤ 18446744073709551615 ∧ k0 < 256 ∧ (-9223372036854775808 ≤ n0 ∧ n0 ≤ 9223372036854775807) ∧ t0.size ≤ 9223372036854775807 ∧ SRow W pa0 pc0 p0 ∧ p0.length = pl0 ∧ VRow W da0 dc0 d0 ∧ d0.length = dl0 := by
    obtain ⟨fuel, hf⟩ := kk0
    obtain ⟨r0, i0, s0, tm0, k0, pa0, pl0, pc0, n0, t0, da0, dl0, dc0, p0, d0, hcs, hr⟩ := oEvent hf
    refine ⟨r0, i0, s0, tm0, k0, pa0, pl0, pc0, n0, t0, da0, dl0, dc0, p0, d0, ?_, hr⟩
    obtain ⟨cs⟩ := cs0
    simp only [Value.cells] at hcs
    rw [hcs]
  rw [c0] at kk0 hW' ⊢
  have lt1 : ∀ x ∈ pp1, x.block < W.heap.size := by obtain ⟨m, hm⟩ := kk1; exact DataW.trod_lt m _ _ _ hm
  obtain ⟨b1, e1, f1, rfl⟩ := okWide_slice Try.underlying42 (hval 1 42 v1 rfl rfl)
  obtain ⟨a1, len1, cap1, l1, c1, h1⟩ : ∃ (a1 : Option Addr) (len1 cap1 : Nat) (l1 : List Nat), Value.slice b1 e1 f1 = (.slice a1 len1 cap1) ∧ Row W a1 cap1 l1 ∧ l1.length = len1 := by
    obtain ⟨fuel, hf⟩ := kk1
    obtain ⟨a1, len1, cap1, l1, hcs, hr⟩ := oBytes hf
    refine ⟨a1, len1, cap1, l1, ?_, hr⟩
    simpa [Value.cells] using hcs
  rw [c1] at kk1 hW' ⊢
  clear hA0 hval0
  refine (walk r0 i0 s0 tm0 k0 pa0 pl0 pc0 n0 t0 da0 dl0 dc0 p0 d0 a1 len1 cap1 l1 W h0 h1).mono fun e W' ⟨he, bel⟩ => ?_
  subst he
  exact ⟨_, rfl, _, _, _, [], _, [], hW', trodAll_mk1 (shut_bool Try.underlying4 _), (trodAll_cons_mk (Below.trod laidOut (by kernel_rfl) (of_decide_eq_true (by kernel_rfl)) kk0 bel lt0) (trodAll_cons_mk (Below.trod laidOut (by kernel_rfl) (of_decide_eq_true (by kernel_rfl)) kk1 bel lt1) trodAll_mk0)), rfl, bel.frame _, fun h => by cases h⟩

theorem over : Rows.opBytesRow.holds Try.pinned (OpenSpec.ofChange Rows.opBytesSpec) :=
  OpenClaim.holds_of_wide 4 Try.f4 rfl rfl rfl rfl rfl rfl rfl ⟨rfl, rfl, rfl, rfl, rfl⟩ rfl rfl rfl rfl rfl (by kernel_rfl) Try.func4 (by kernel_rfl)
    (of_decide_eq_true (by kernel_rfl)) (by unfold Func.isWrapper; first | (rw [if_pos (by decide +kernel)]; kernel_rfl) | (rw [if_neg (by decide +kernel)]; exact ⟨rfl, rfl⟩))
    (fun os started H enc _ => lifted os started H enc)

/-- the statement -/
theorem proved : Rows.OpBytesSaid := over
#print axioms proved
end Go.Proofs.Ytpkfjgoimaomfaa.opBytes
