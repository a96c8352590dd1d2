/-
  Layer 6's FuseThree: for any type and any three lists of events the Go function tells true, without a panic: the merge of what is behind some events and some more, and behind them and others, over what is behind them, is what is behind all of them, either way round. No condition.
-/
import Derived.Test.YtbciopieciglmaaZThree4
import Derived.Test.YtbciopieciglmaaZOpen1
import Derived.WalkKit
import Derived.ProofKit
import Derived.OpenShut
import Derived.ShutString
import Derived.ChangeOld
import Derived.Below
namespace Go.Proofs.Ytbciopieciglmaa.fuseThree
open Go.ChangeShapes Go.WideShapes Go.ChangeAt Go.RowKit
set_option linter.unusedVariables false
theorem own : ownKnob Try.prog.godebug = none := by kernel_rfl
theorem laidOut : laidOutB Try.prog = true := by kernel_rfl
theorem walk (x0 : Int) (a1 : Option Addr) (len1 cap1 : Nat) (l1 : List ER) (a2 : Option Addr) (len2 cap2 : Nat) (l2 : List ER) (a3 : Option Addr) (len3 cap3 : Nat) (l3 : List ER) (w : World) (h0 : 0 ≤ x0 ∧ x0 ≤ 255) (h1 : ERow w a1 cap1 l1 ∧ l1.length = len1) (h2 : ERow w a2 cap2 l2 ∧ l2.length = len2) (h3 : ERow w a3 cap3 l3 ∧ l3.length = len3) :
    Calls Try.prog 3 #[(.int .u8 x0), (.slice a1 len1 cap1), (.slice a2 len2 cap2), (.slice a3 len3 cap3)] w fun e w' => e = .returned (.bool true) ∧ Below w.heap.size w w' := by
  obtain ⟨kk, rfl⟩ := Int.eq_ofNat_of_zero_le h0.1
  exact lawThree_any kk a1 len1 cap1 l1 a2 len2 cap2 l2 a3 len3 cap3 l3 w (by omega) h1.1 h1.2 h2.1 h2.2 h3.1 h3.2
set_option maxRecDepth 100000 in
theorem lifted (os : Os) (started : os.Started) (H : Type) (enc : TypeId × Value → H) :
    ReturnsInHanded {} Try.checked os 3 .any (Rows.fuseThreeSpec.pre6 enc Try.prog Try.f3 Rows.fuseThreeRow.domain false) (Rows.fuseThreeSpec.post enc Try.prog Try.f3 false true false false) := by
  refine returnsInHanded_of_change (C := Try.checked) own started (by kernel_rfl) Try.func3
    (ChangeSpec.witness6 (enc := enc) (C := Try.checked) false ⟨#[], #[.int .u8 0, .slice none 0 0, .slice none 0 0, .slice none 0 0], []⟩ 8 (by kernel_rfl) (by kernel_rfl) (by kernel_rfl) (by kernel_rfl)) ?_
  intro W base args ds gs before hval0 hW hcnd _
  have hval : ∀ (j : Nat) t v, Try.f3.params[j]? = some t → args[j]? = some v → Value.okWide Try.prog W .any base t v := hval0
  have hW' := hW
  obtain ⟨p, q, hA0, hV, rfl, hfz, hnd⟩ := hW
  have hA : DataW.TrodAll enc Try.prog W 0 (fun _ => true) true Try.f3.params.toList args.toList ds p := hA0
  rw [Try.params3] at hA hval
  obtain ⟨v0, vs0, t0, ds0, pp0, q0, hargs, rfl, rfl, kk0, rr0⟩ := trodAll_cons hA
  obtain ⟨v1, vs1, t1, ds1, pp1, q1, rfl, rfl, rfl, kk1, rr1⟩ := trodAll_cons rr0
  obtain ⟨v2, vs2, t2, ds2, pp2, q2, rfl, rfl, rfl, kk2, rr2⟩ := trodAll_cons rr1
  obtain ⟨v3, vs3, t3, ds3, pp3, q3, rfl, rfl, rfl, kk3, rr3⟩ := trodAll_cons rr2
  obtain ⟨rfl, rfl, rfl⟩ := trodAll_nil rr3
  obtain rfl : args = #[v0, v1, v2, v3] := by cases args; simp_all
  obtain ⟨rfl, rfl⟩ := trodVars_none hV
  have lt0 : ∀ x ∈ pp0, x.block < W.heap.size := by obtain ⟨m, hm⟩ := kk0; exact DataW.trod_lt m _ _ _ hm
  obtain ⟨x0, rfl⟩ := okWide_int Try.underlying5 (hval 0 5 v0 rfl rfl)
  have h0 : 0 ≤ x0 ∧ x0 ≤ 255 := by
    obtain ⟨fuel, hf⟩ := kk0
    obtain ⟨s, hs, _, hz⟩ := DataW.trod_int Try.underlying5 hf
    simp [Value.cells] at hs
    subst hs
    exact bounds_u8 hz
  have lt1 : ∀ x ∈ pp1, x.block < W.heap.size := by obtain ⟨m, hm⟩ := kk1; exact DataW.trod_lt m _ _ _ hm
  obtain ⟨b1, e1, f1, rfl⟩ := okWide_slice Try.underlying22 (hval 1 22 v1 rfl rfl)
  obtain ⟨a1, len1, cap1, l1, c1, h1⟩ : ∃ (a1 : Option Addr) (len1 cap1 : Nat) (l1 : List ER), Value.slice b1 e1 f1 = (.slice a1 len1 cap1) ∧ ERow W a1 cap1 l1 ∧ l1.length = len1 := by
    obtain ⟨fuel, hf⟩ := kk1
    obtain ⟨a1, len1, cap1, l1, hcs, hr⟩ := oEvents hf
    refine ⟨a1, len1, cap1, l1, ?_, hr⟩
    simpa [Value.cells] using hcs
  rw [c1] at kk1 hW' ⊢
  have lt2 : ∀ x ∈ pp2, x.block < W.heap.size := by obtain ⟨m, hm⟩ := kk2; exact DataW.trod_lt m _ _ _ hm
  obtain ⟨b2, e2, f2, rfl⟩ := okWide_slice Try.underlying22 (hval 2 22 v2 rfl rfl)
  obtain ⟨a2, len2, cap2, l2, c2, h2⟩ : ∃ (a2 : Option Addr) (len2 cap2 : Nat) (l2 : List ER), Value.slice b2 e2 f2 = (.slice a2 len2 cap2) ∧ ERow W a2 cap2 l2 ∧ l2.length = len2 := by
    obtain ⟨fuel, hf⟩ := kk2
    obtain ⟨a2, len2, cap2, l2, hcs, hr⟩ := oEvents hf
    refine ⟨a2, len2, cap2, l2, ?_, hr⟩
    simpa [Value.cells] using hcs
  rw [c2] at kk2 hW' ⊢
  have lt3 : ∀ x ∈ pp3, x.block < W.heap.size := by obtain ⟨m, hm⟩ := kk3; exact DataW.trod_lt m _ _ _ hm
  obtain ⟨b3, e3, f3, rfl⟩ := okWide_slice Try.underlying22 (hval 3 22 v3 rfl rfl)
  obtain ⟨a3, len3, cap3, l3, c3, h3⟩ : ∃ (a3 : Option Addr) (len3 cap3 : Nat) (l3 : List ER), Value.slice b3 e3 f3 = (.slice a3 len3 cap3) ∧ ERow W a3 cap3 l3 ∧ l3.length = len3 := by
    obtain ⟨fuel, hf⟩ := kk3
    obtain ⟨a3, len3, cap3, l3, hcs, hr⟩ := oEvents hf
    refine ⟨a3, len3, cap3, l3, ?_, hr⟩
    simpa [Value.cells] using hcs
  rw [c3] at kk3 hW' ⊢
  clear hA0 hval0
  refine (walk x0 a1 len1 cap1 l1 a2 len2 cap2 l2 a3 len3 cap3 l3 W h0 h1 h2 h3).mono fun e W' ⟨he, bel⟩ => ?_
  subst he
  exact ⟨_, rfl, _, _, _, [], _, [], hW', trodAll_mk1 (shut_bool Try.underlying4 _), (trodAll_cons_mk (Below.trod laidOut (by kernel_rfl) (of_decide_eq_true (by kernel_rfl)) kk0 bel lt0) (trodAll_cons_mk (Below.trod laidOut (by kernel_rfl) (of_decide_eq_true (by kernel_rfl)) kk1 bel lt1) (trodAll_cons_mk (Below.trod laidOut (by kernel_rfl) (of_decide_eq_true (by kernel_rfl)) kk2 bel lt2) (trodAll_cons_mk (Below.trod laidOut (by kernel_rfl) (of_decide_eq_true (by kernel_rfl)) kk3 bel lt3) trodAll_mk0)))), rfl, bel.frame _, fun h => by cases h⟩

theorem over : Rows.fuseThreeRow.holds Try.pinned (OpenSpec.ofChange Rows.fuseThreeSpec) :=
  OpenClaim.holds_of_wide 3 Try.f3 rfl rfl rfl rfl rfl rfl rfl ⟨rfl, rfl, rfl, rfl, rfl⟩ rfl rfl rfl rfl rfl (by kernel_rfl) Try.func3 (by kernel_rfl)
    (of_decide_eq_true (by kernel_rfl)) (by unfold Func.isWrapper; first | (rw [if_pos (by decide +kernel)]; kernel_rfl) | (rw [if_neg (by decide +kernel)]; exact ⟨rfl, rfl⟩))
    (fun os started H enc _ => lifted os started H enc)

/-- the statement -/
theorem proved : Rows.FuseThreeSaid := over
#print axioms proved
end Go.Proofs.Ytbciopieciglmaa.fuseThree
