import Derived.ChangeMaps5
import Derived.Carry
import Derived.Test.YteakbfbacfhhoaaGreatZLeaf6
namespace Go.Proofs.YteakbfbacfhhoaaGreat
open Go.RowKit Go.Maps Go.WideElems Go.ChangeShapes Go.WideShapes Go.MapKept Go.ChangeMaps
open Go.WideMaps (KeyLaw)
set_option linter.unusedSimpArgs false
set_option linter.unusedVariables false
theorem upd8 {w : World} {b clock : Nat} {es : Array MapEntry} (hb : w.heap[b]? = some (.map es clock)) (k : Int) (v : Value) (hf : Instr.findNow (.int .u8) (.int .u8 k) es.toList 0 = some none) :
  (Instr.mapUpdate 63 (.map (some b)) (.int .u8 k) v).run Tryz.prog w = .ok () (setBlock w b (.map (es.push { key := .int .u8 k, val := v, born := clock }) (clock + 1))) := by
 have hc := MapKept.run_checkKey (w := w) Tryz.underlying5 (k := .int .u8 k) (by trivial) false 9999
 simp [Instr.mapUpdate, run_underlying Tryz.underlying63, MapKept.run_getObj_map hb, hc, Instr.findKey, run_underlying Tryz.underlying5, hf, MapKept.run_setObj_map _ hb, Result.andThen, setBlock]
theorem look8 {w : World} {b clock : Nat} {es : Array MapEntry} (hb : w.heap[b]? = some (.map es clock)) (k : Int) (v : Value) (i : Nat) (hf : Instr.findNow (.int .u8) (.int .u8 k) es.toList 0 = some (some (i, v))) :
  (Instr.lookup 63 (.map (some b)) (.int .u8 k) false).run Tryz.prog w = .ok v w := by
 have hc := fun e => MapKept.run_checkKey (w := w) Tryz.underlying5 (k := .int .u8 k) (by trivial) e 9999
 simp [Instr.lookup, run_underlying Tryz.underlying63, MapKept.run_getObj_map hb, hc, Instr.findKey, run_underlying Tryz.underlying5, hf, Result.andThen]
def ES : Array MapEntry := #[{ key := .int .u8 1, val := .func (.func 51) #[] #[], born := 0 }, { key := .int .u8 2, val := .func (.func 52) #[] #[], born := 1 }, { key := .int .u8 3, val := .func (.func 53) #[] #[], born := 2 }, { key := .int .u8 4, val := .func (.func 54) #[] #[], born := 3 }, { key := .int .u8 5, val := .func (.func 55) #[] #[], born := 4 }]
theorem steps_look {w : World} {b : Nat} (hb : w.heap[b]? = some (.map ES 5)) : (Instr.lookup 63 (.map (some b)) (.int .u8 1) false).run Tryz.prog w = .ok (.func (.func 51) #[] #[]) w ∧
  (Instr.lookup 63 (.map (some b)) (.int .u8 2) false).run Tryz.prog w = .ok (.func (.func 52) #[] #[]) w ∧
  (Instr.lookup 63 (.map (some b)) (.int .u8 3) false).run Tryz.prog w = .ok (.func (.func 53) #[] #[]) w ∧
  (Instr.lookup 63 (.map (some b)) (.int .u8 4) false).run Tryz.prog w = .ok (.func (.func 54) #[] #[]) w ∧
  (Instr.lookup 63 (.map (some b)) (.int .u8 5) false).run Tryz.prog w = .ok (.func (.func 55) #[] #[]) w :=
 ⟨look8 hb 1 _ 0 rfl, look8 hb 2 _ 1 rfl, look8 hb 3 _ 2 rfl, look8 hb 4 _ 3 rfl, look8 hb 5 _ 4 rfl⟩
set_option maxRecDepth 100000 in
set_option maxHeartbeats 2000000 in
theorem steps_any (W : World) :
  Calls Tryz.prog 31 #[] W fun e w' => e = .returned (.map (some W.heap.size)) ∧ w'.heap[W.heap.size]? = some (.map ES 5) ∧ Below W.heap.size W w' := by
 have b0 : (W.alloc (.map #[] 0)).heap[W.heap.size]? = some (.map #[] 0) := heap_alloc_new W _
 have h1 := upd8 b0 1 (.func (.func 51) #[] #[]) rfl
 have b1 := heap_setBlock_same b0 (.map (#[{ key := .int .u8 1, val := .func (.func 51) #[] #[], born := 0 }]) 1)
 have h2 := upd8 b1 2 (.func (.func 52) #[] #[]) rfl
 have b2 := heap_setBlock_same b1 (.map (#[{ key := .int .u8 1, val := .func (.func 51) #[] #[], born := 0 }, { key := .int .u8 2, val := .func (.func 52) #[] #[], born := 1 }]) 2)
 have h3 := upd8 b2 3 (.func (.func 53) #[] #[]) rfl
 have b3 := heap_setBlock_same b2 (.map (#[{ key := .int .u8 1, val := .func (.func 51) #[] #[], born := 0 }, { key := .int .u8 2, val := .func (.func 52) #[] #[], born := 1 }, { key := .int .u8 3, val := .func (.func 53) #[] #[], born := 2 }]) 3)
 have h4 := upd8 b3 4 (.func (.func 54) #[] #[]) rfl
 have b4 := heap_setBlock_same b3 (.map (#[{ key := .int .u8 1, val := .func (.func 51) #[] #[], born := 0 }, { key := .int .u8 2, val := .func (.func 52) #[] #[], born := 1 }, { key := .int .u8 3, val := .func (.func 53) #[] #[], born := 2 }, { key := .int .u8 4, val := .func (.func 54) #[] #[], born := 3 }]) 4)
 have h5 := upd8 b4 5 (.func (.func 55) #[] #[]) rfl
 have b5 := heap_setBlock_same b4 (.map (#[{ key := .int .u8 1, val := .func (.func 51) #[] #[], born := 0 }, { key := .int .u8 2, val := .func (.func 52) #[] #[], born := 1 }, { key := .int .u8 3, val := .func (.func 53) #[] #[], born := 2 }, { key := .int .u8 4, val := .func (.func 54) #[] #[], born := 3 }, { key := .int .u8 5, val := .func (.func 55) #[] #[], born := 4 }]) 5)
 have hbel : Below W.heap.size W (setBlock (setBlock (setBlock (setBlock (setBlock (W.alloc (.map #[] 0)) W.heap.size (.map #[{ key := .int .u8 1, val := .func (.func 51) #[] #[], born := 0 }] 1)) W.heap.size (.map #[{ key := .int .u8 1, val := .func (.func 51) #[] #[], born := 0 }, { key := .int .u8 2, val := .func (.func 52) #[] #[], born := 1 }] 2)) W.heap.size (.map #[{ key := .int .u8 1, val := .func (.func 51) #[] #[], born := 0 }, { key := .int .u8 2, val := .func (.func 52) #[] #[], born := 1 }, { key := .int .u8 3, val := .func (.func 53) #[] #[], born := 2 }] 3)) W.heap.size (.map #[{ key := .int .u8 1, val := .func (.func 51) #[] #[], born := 0 }, { key := .int .u8 2, val := .func (.func 52) #[] #[], born := 1 }, { key := .int .u8 3, val := .func (.func 53) #[] #[], born := 2 }, { key := .int .u8 4, val := .func (.func 54) #[] #[], born := 3 }] 4)) W.heap.size (.map #[{ key := .int .u8 1, val := .func (.func 51) #[] #[], born := 0 }, { key := .int .u8 2, val := .func (.func 52) #[] #[], born := 1 }, { key := .int .u8 3, val := .func (.func 53) #[] #[], born := 2 }, { key := .int .u8 4, val := .func (.func 54) #[] #[], born := 3 }, { key := .int .u8 5, val := .func (.func 55) #[] #[], born := 4 }] 5)) := by
  refine ⟨rfl, rfl, rfl, by simp [setBlock], fun k hk => ?_⟩
  have hne : k ≠ W.heap.size := by omega
  simp only [setBlock]
  simp [Array.getElem?_setIfInBounds_ne (Ne.symm hne)]
  exact (((Below.refl W.heap.size W).alloc (Nat.le_refl _) _).block k hk).symm ▸ rfl
 have HB := Lib.hid hbel
 clear hbel
 go_enter Tryz.func31, Tryz.ntmps31
 go_wp2_with (first | simp only [run_makeMap] | simp only [h1] | simp only [h2] | simp only [h3] | simp only [h4] | simp only [h5])
 go_ret
 exact ⟨rfl, b5, HB.out⟩
end Go.Proofs.YteakbfbacfhhoaaGreat
