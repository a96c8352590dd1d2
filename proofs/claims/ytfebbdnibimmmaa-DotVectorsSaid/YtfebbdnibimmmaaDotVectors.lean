/-
  For all vectors v and w and all dots d and o, varvelaw03.DotVectors returns true and leaves its arguments as they were: which actors and dots may be, the order of dots, canonical forms, numbers, what is within what, joins, meets and next dots are the document's (with more than 100 dots in a vector it answers true at once).
-/
import Derived.Test.YtfebbdnibimmmaaDot27
import Derived.WalkKit
import Derived.ProofKit
import Derived.OpenShut
import Derived.ShutString
import Derived.ChangeOld
import Derived.Below
namespace Go.Proofs.Ytfebbdnibimmmaa.dotVectors
open Go.ChangeShapes Go.WideShapes Go.ChangeAt Go.RowKit
set_option linter.unusedVariables false
theorem own : ownKnob Try.prog.godebug = none := by kernel_rfl
theorem laidOut : laidOutB Try.prog = true := by kernel_rfl
theorem walk (a0 : Option Addr) (len0 cap0 : Nat) (l0 : List Dt.Dot) (a1 : Option Addr) (len1 cap1 : Nat) (l1 : List Dt.Dot) (d2 : Dt.Dot) (d3 : Dt.Dot) (w : World) (h0 : VRow w a0 cap0 l0) (e0 : l0.length = len0) (m0 : len0 ≤ 9223372036854775807) (h1 : VRow w a1 cap1 l1) (e1 : l1.length = len1) (m1 : len1 ≤ 9223372036854775807) (h2 : Dt.okD d2) (h3 : Dt.okD d3) :
    Calls Try.prog 3 #[.slice a0 len0 cap0, .slice a1 len1 cap1, dotV d2, dotV d3] w fun e w' => e = .returned (.bool true) ∧ Below w.heap.size w w' := by
  by_cases hbig : 100 < len0 ∨ 100 < len1
  · exact vectors_big a0 len0 cap0 a1 len1 cap1 d2 d3 w hbig m0 m1
  · exact vectors_small a0 len0 cap0 l0 a1 len1 cap1 l1 d2 d3 w h0 e0 (by omega) h1 e1 (by omega) h2 h3
set_option maxRecDepth 100000 in
theorem lifted (os : Os) (started : os.Started) (H : Type) (enc : TypeId × Value → H) :
    ReturnsInHanded {} Try.checked os 3 .any (Rows.dotVectorsSpec.pre6 enc Try.prog Try.f3 Rows.dotVectorsRow.domain false) (Rows.dotVectorsSpec.post enc Try.prog Try.f3 false true false false) := by
  refine returnsInHanded_of_change (C := Try.checked) own started (by kernel_rfl) Try.func3
    (ChangeSpec.witness6 (enc := enc) (C := Try.checked) false ⟨#[], #[.slice none 0 0, .slice none 0 0, .agg #[.int .u8 0, .int .u32 0, .int .u64 0], .agg #[.int .u8 0, .int .u32 0, .int .u64 0]], []⟩ 8 (by kernel_rfl) (by kernel_rfl) (by kernel_rfl) (by kernel_rfl)) ?_
  intro W base args ds gs before hval0 hW hcnd _
  have hval : ∀ (j : Nat) t v, Try.f3.params[j]? = some t → args[j]? = some v → Value.okWide Try.prog W .any base t v := hval0
  have hW' := hW
  obtain ⟨p, q, hA0, hV, rfl, hfz, hnd⟩ := hW
  have hA : DataW.TrodAll enc Try.prog W 0 (fun _ => true) true Try.f3.params.toList args.toList ds p := hA0
  rw [Try.params3] at hA hval
  obtain ⟨v0, vs0, t0, ds0, p0, q0, hargs, rfl, rfl, k0, r0⟩ := trodAll_cons hA
  obtain ⟨v1, vs1, t1, ds1, p1, q1, rfl, rfl, rfl, k1, r1⟩ := trodAll_cons r0
  obtain ⟨v2, vs2, t2, ds2, p2, q2, rfl, rfl, rfl, k2, r2⟩ := trodAll_cons r1
  obtain ⟨v3, vs3, t3, ds3, p3, q3, rfl, rfl, rfl, k3, r3⟩ := trodAll_cons r2
  obtain ⟨rfl, rfl, rfl⟩ := trodAll_nil r3
  obtain rfl : args = #[v0, v1, v2, v3] := by cases args; simp_all
  obtain ⟨rfl, rfl⟩ := trodVars_none hV
  have lt0 : ∀ x ∈ p0, x.block < W.heap.size := by obtain ⟨m, hm⟩ := k0; exact DataW.trod_lt m _ _ _ hm
  obtain ⟨a0, len0, cap0, rfl⟩ := okWide_slice Try.underlying23 (hval 0 23 v0 rfl rfl)
  obtain ⟨l0, w0, e0, m0⟩ : ∃ l, VRow W a0 cap0 l ∧ l.length = len0 ∧ len0 ≤ 9223372036854775807 := by
    obtain ⟨fuel, hf⟩ := k0
    obtain ⟨x, y, z, l, hcs, hr, hl, hm⟩ := open_dots hf
    simp [Value.cells] at hcs
    obtain ⟨rfl, rfl, rfl⟩ := hcs
    exact ⟨l, hr, hl, hm⟩
  have lt1 : ∀ x ∈ p1, x.block < W.heap.size := by obtain ⟨m, hm⟩ := k1; exact DataW.trod_lt m _ _ _ hm
  obtain ⟨a1, len1, cap1, rfl⟩ := okWide_slice Try.underlying23 (hval 1 23 v1 rfl rfl)
  obtain ⟨l1, w1, e1, m1⟩ : ∃ l, VRow W a1 cap1 l ∧ l.length = len1 ∧ len1 ≤ 9223372036854775807 := by
    obtain ⟨fuel, hf⟩ := k1
    obtain ⟨x, y, z, l, hcs, hr, hl, hm⟩ := open_dots hf
    simp [Value.cells] at hcs
    obtain ⟨rfl, rfl, rfl⟩ := hcs
    exact ⟨l, hr, hl, hm⟩
  have lt2 : ∀ x ∈ p2, x.block < W.heap.size := by obtain ⟨m, hm⟩ := k2; exact DataW.trod_lt m _ _ _ hm
  obtain ⟨cs2, rfl, _⟩ := okWide_struct Try.underlying29 (hval 2 29 v2 rfl rfl)
  obtain ⟨d2, w2, c2⟩ : ∃ d, Dt.okD d ∧ Value.agg cs2 = dotV d := by
    obtain ⟨fuel, hf⟩ := k2
    obtain ⟨d, hd, hcs⟩ := open_dotCells hf
    refine ⟨d, hd, ?_⟩
    obtain ⟨cs⟩ := cs2
    simp only [Value.cells] at hcs
    rw [hcs]; rfl
  rw [c2] at k2 hW' ⊢
  have lt3 : ∀ x ∈ p3, x.block < W.heap.size := by obtain ⟨m, hm⟩ := k3; exact DataW.trod_lt m _ _ _ hm
  obtain ⟨cs3, rfl, _⟩ := okWide_struct Try.underlying29 (hval 3 29 v3 rfl rfl)
  obtain ⟨d3, w3, c3⟩ : ∃ d, Dt.okD d ∧ Value.agg cs3 = dotV d := by
    obtain ⟨fuel, hf⟩ := k3
    obtain ⟨d, hd, hcs⟩ := open_dotCells hf
    refine ⟨d, hd, ?_⟩
    obtain ⟨cs⟩ := cs3
    simp only [Value.cells] at hcs
    rw [hcs]; rfl
  rw [c3] at k3 hW' ⊢
  clear hA0 hval0
  refine (walk a0 len0 cap0 l0 a1 len1 cap1 l1 d2 d3 W w0 e0 m0 w1 e1 m1 w2 w3).mono fun e W' ⟨he, bel⟩ => ?_
  subst he
  exact ⟨_, rfl, _, _, _, [], _, [], hW', trodAll_mk1 (shut_bool Try.underlying4 _), (trodAll_cons_mk (Below.trod laidOut (by kernel_rfl) (of_decide_eq_true (by kernel_rfl)) k0 bel lt0) (trodAll_cons_mk (Below.trod laidOut (by kernel_rfl) (of_decide_eq_true (by kernel_rfl)) k1 bel lt1) (trodAll_cons_mk (Below.trod laidOut (by kernel_rfl) (of_decide_eq_true (by kernel_rfl)) k2 bel lt2) (trodAll_cons_mk (Below.trod laidOut (by kernel_rfl) (of_decide_eq_true (by kernel_rfl)) k3 bel lt3) trodAll_mk0)))), rfl, bel.frame _, fun h => by cases h⟩

theorem over : Rows.dotVectorsRow.holds Try.pinned (OpenSpec.ofChange Rows.dotVectorsSpec) :=
  OpenClaim.holds_of_wide 3 Try.f3 rfl rfl rfl rfl rfl rfl rfl ⟨rfl, rfl, rfl, rfl, rfl⟩ rfl rfl rfl rfl rfl (by kernel_rfl) Try.func3 (by kernel_rfl)
    (of_decide_eq_true (by kernel_rfl)) (by unfold Func.isWrapper; first | (rw [if_pos (by decide +kernel)]; kernel_rfl) | (rw [if_neg (by decide +kernel)]; exact ⟨rfl, rfl⟩))
    (fun os started H enc _ => lifted os started H enc)

/-- the statement -/
theorem proved : Rows.DotVectorsSaid := over
#print axioms proved
end Go.Proofs.Ytfebbdnibimmmaa.dotVectors
