/-
  Layer 9's StateTwo, for arguments of bulk at most 1048576: for any two trees, any cut and any byte the Go function tells true, without a panic: two trees that may be have the same bytes just if they are the same; of bytes that are cut anywhere, or have a byte behind, there is no such tree. The only condition: the arguments' bulk.
-/
import Derived.Test.YtplafpchgfjomaaZSt17
import Derived.Test.YtplafpchgfjomaaZOpen5
import Derived.WalkKit
import Derived.ProofKit
import Derived.OpenShut
import Derived.ShutString
import Derived.ChangeOld
import Derived.Below
import Derived.JoinedCond
namespace Go.Proofs.Ytplafpchgfjomaa.stateTwo
open Go.ChangeShapes Go.WideShapes Go.ChangeAt Go.RowKit
set_option linter.unusedVariables false
set_option linter.unusedSimpArgs false
theorem own : ownKnob Try.prog.godebug = none := by kernel_rfl
theorem laidOut : laidOutB Try.prog = true := by kernel_rfl
theorem walk (d0 : Nat) (a0 : Option Addr) (len0 cap0 : Nat) (l0 : List Tm.N) (d1 : Nat) (a1 : Option Addr) (len1 cap1 : Nat) (l1 : List Tm.N) (x2 : Int) (x3 : Int) (w : World) (h0 : TRow w d0 a0 cap0 l0 ∧ l0.length = len0 ∧ sz 10 l0 ≤ 100000000) (h1 : TRow w d1 a1 cap1 l1 ∧ l1.length = len1 ∧ sz 10 l1 ≤ 100000000) (h2 : -9223372036854775808 ≤ x2 ∧ x2 ≤ 9223372036854775807) (h3 : 0 ≤ x3 ∧ x3 ≤ 255) :
    Calls Try.prog 3 #[(.slice a0 len0 cap0), (.slice a1 len1 cap1), (.int .i64 x2), (.int .u8 x3)] w fun e w' => e = .returned (.bool true) ∧ Below w.heap.size w w' := by
  obtain ⟨b1, b2, b3⟩ := h0
  obtain ⟨c1, c2, c3⟩ := h1
  obtain ⟨mo, rfl⟩ := Int.eq_ofNat_of_zero_le h3.1
  exact lawState_any d0 a0 len0 cap0 l0 d1 a1 len1 cap1 l1 x2 mo w b1 b2 b3 c1 c2 c3 h2.1 h2.2 (by omega)
set_option maxRecDepth 100000 in
theorem lifted (os : Os) (started : os.Started) (H : Type) (enc : TypeId × Value → H) (F : Stop.Interp) :
    ReturnsInHanded {} Try.checked os 3 .any ((Rows.OpenSpec.upto Rows.stateTwoSpec).pre6 enc Try.prog Try.f3 Rows.stateTwoUptoRow.domain false) (((Rows.OpenSpec.upto Rows.stateTwoSpec).at F).post enc Try.prog Try.f3 false true false false) := by
  refine returnsInHanded_of_cond (C := Try.checked) (s := Rows.OpenSpec.upto Rows.stateTwoSpec) (k := Rows.uptoSmall) rfl own started (by kernel_rfl) Try.func3
    (OpenSpec.witness (enc := enc) (C := Try.checked) (s := Rows.OpenSpec.upto Rows.stateTwoSpec) (k := Rows.uptoSmall) rfl false ⟨#[], #[.slice none 0 0, .slice none 0 0, .int .i64 0, .int .u8 0], []⟩ 8 (by kernel_rfl) (by kernel_rfl) (by kernel_rfl)
      (x := ([.nil, .nil, .lit (.int .i64 0), .lit (.int .u8 0)], [], [])) (by kernel_rfl) rfl (by kernel_rfl)) ?_
  intro W base args ds gs before hval0 hW _ hk _
  have hval : ∀ (j : Nat) t v, Try.f3.params[j]? = some t → args[j]? = some v → Value.okWide Try.prog W .any base t v := hval0
  have hW' := hW
  obtain ⟨p, q, hA0, hV, rfl, hfz, hnd⟩ := hW
  have hA : DataW.TrodAll enc Try.prog W 0 (fun _ => true) true Try.f3.params.toList args.toList ds p := hA0
  rw [Try.params3] at hA hval
  obtain ⟨v0, vs0, t0, ds0, pp0, q0, hargs, rfl, rfl, kk0, rr0⟩ := trodAll_cons hA
  obtain ⟨v1, vs1, t1, ds1, pp1, q1, rfl, rfl, rfl, kk1, rr1⟩ := trodAll_cons rr0
  obtain ⟨v2, vs2, t2, ds2, pp2, q2, rfl, rfl, rfl, kk2, rr2⟩ := trodAll_cons rr1
  obtain ⟨v3, vs3, t3, ds3, pp3, q3, rfl, rfl, rfl, kk3, rr3⟩ := trodAll_cons rr2
  obtain ⟨rfl, rfl, rfl⟩ := trodAll_nil rr3
  obtain rfl : args = #[v0, v1, v2, v3] := by cases args; simp_all
  obtain ⟨rfl, rfl⟩ := trodVars_none hV
  have hbk : Rows.uptoBulkAll _ ≤ 1048576 := of_decide_eq_true hk
  simp only [List.cons_append, List.nil_append, List.append_nil, Rows.uptoBulkAll] at hbk
  have hbk0 : Rows.uptoBulk t0 ≤ 1048576 := by omega
  have hbk1 : Rows.uptoBulk t1 ≤ 1048576 := by omega
  have hbk2 : Rows.uptoBulk t2 ≤ 1048576 := by omega
  have hbk3 : Rows.uptoBulk t3 ≤ 1048576 := by omega
  have lt0 : ∀ x ∈ pp0, x.block < W.heap.size := by obtain ⟨m, hm⟩ := kk0; exact DataW.trod_lt m _ _ _ hm
  obtain ⟨b0, e0, f0, rfl⟩ := okWide_slice Try.underlying23 (hval 0 23 v0 rfl rfl)
  obtain ⟨d0, a0, len0, cap0, l0, c0, h0⟩ : ∃ (d0 : Nat) (a0 : Option Addr) (len0 cap0 : Nat) (l0 : List Tm.N), Value.slice b0 e0 f0 = (.slice a0 len0 cap0) ∧ TRow W d0 a0 cap0 l0 ∧ l0.length = len0 ∧ sz 10 l0 ≤ 100000000 := by
    obtain ⟨fuel, hf⟩ := kk0
    obtain ⟨a, len, cap, l, hcs, h1, h2, _, h3⟩ := bTree fuel hf hbk0
    refine ⟨fuel, a, len, cap, l, ?_, h1, h2, Nat.le_trans (h3 10) (Nat.le_trans hbk0 (by decide))⟩
    simpa [Value.cells] using hcs
  rw [c0] at kk0 hW' ⊢
  have lt1 : ∀ x ∈ pp1, x.block < W.heap.size := by obtain ⟨m, hm⟩ := kk1; exact DataW.trod_lt m _ _ _ hm
  obtain ⟨b1, e1, f1, rfl⟩ := okWide_slice Try.underlying23 (hval 1 23 v1 rfl rfl)
  obtain ⟨d1, a1, len1, cap1, l1, c1, h1⟩ : ∃ (d1 : Nat) (a1 : Option Addr) (len1 cap1 : Nat) (l1 : List Tm.N), Value.slice b1 e1 f1 = (.slice a1 len1 cap1) ∧ TRow W d1 a1 cap1 l1 ∧ l1.length = len1 ∧ sz 10 l1 ≤ 100000000 := by
    obtain ⟨fuel, hf⟩ := kk1
    obtain ⟨a, len, cap, l, hcs, h1, h2, _, h3⟩ := bTree fuel hf hbk1
    refine ⟨fuel, a, len, cap, l, ?_, h1, h2, Nat.le_trans (h3 10) (Nat.le_trans hbk1 (by decide))⟩
    simpa [Value.cells] using hcs
  rw [c1] at kk1 hW' ⊢
  have lt2 : ∀ x ∈ pp2, x.block < W.heap.size := by obtain ⟨m, hm⟩ := kk2; exact DataW.trod_lt m _ _ _ hm
  obtain ⟨x2, rfl⟩ := okWide_int Try.underlying3 (hval 2 3 v2 rfl rfl)
  have h2 : -9223372036854775808 ≤ x2 ∧ x2 ≤ 9223372036854775807 := by
    obtain ⟨fuel, hf⟩ := kk2
    obtain ⟨s, hs, _, hz⟩ := DataW.trod_int Try.underlying3 hf
    simp [Value.cells] at hs
    subst hs
    exact bounds_i64 hz
  have lt3 : ∀ x ∈ pp3, x.block < W.heap.size := by obtain ⟨m, hm⟩ := kk3; exact DataW.trod_lt m _ _ _ hm
  obtain ⟨x3, rfl⟩ := okWide_int Try.underlying5 (hval 3 5 v3 rfl rfl)
  have h3 : 0 ≤ x3 ∧ x3 ≤ 255 := by
    obtain ⟨fuel, hf⟩ := kk3
    obtain ⟨s, hs, _, hz⟩ := DataW.trod_int Try.underlying5 hf
    simp [Value.cells] at hs
    subst hs
    exact bounds_u8 hz
  clear hA0 hval0
  refine (walk d0 a0 len0 cap0 l0 d1 a1 len1 cap1 l1 x2 x3 W h0 h1 h2 h3).mono fun e W' ⟨he, bel⟩ => ?_
  subst he
  exact ⟨_, rfl, _, _, _, [], _, [], hW', trodAll_mk1 (shut_bool Try.underlying4 _), (trodAll_cons_mk (Below.trod laidOut (by kernel_rfl) (of_decide_eq_true (by kernel_rfl)) kk0 bel lt0) (trodAll_cons_mk (Below.trod laidOut (by kernel_rfl) (of_decide_eq_true (by kernel_rfl)) kk1 bel lt1) (trodAll_cons_mk (Below.trod laidOut (by kernel_rfl) (of_decide_eq_true (by kernel_rfl)) kk2 bel lt2) (trodAll_cons_mk (Below.trod laidOut (by kernel_rfl) (of_decide_eq_true (by kernel_rfl)) kk3 bel lt3) trodAll_mk0)))), rfl, bel.frame _, fun h => by cases h⟩

/-- the statement -/
theorem proved : Rows.StateTwoUptoSaid :=
  OpenClaim.holds_of_cond 3 Try.f3 rfl rfl rfl rfl rfl rfl rfl ⟨rfl, rfl, rfl, rfl, rfl⟩ rfl rfl rfl rfl rfl (by kernel_rfl) Try.func3 (by kernel_rfl)
    (of_decide_eq_true (by kernel_rfl)) (by unfold Func.isWrapper; first | (rw [if_pos (by decide +kernel)]; kernel_rfl) | (rw [if_neg (by decide +kernel)]; exact ⟨rfl, rfl⟩))
    (fun os started H enc _ F => lifted os started H enc F)
#print axioms proved
end Go.Proofs.Ytplafpchgfjomaa.stateTwo
