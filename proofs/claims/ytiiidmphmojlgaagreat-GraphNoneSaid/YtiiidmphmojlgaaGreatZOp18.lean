import Derived.Test.YtiiidmphmojlgaaGreatZOp3
import Derived.Test.YtiiidmphmojlgaaGreatZDot4
import Derived.Maps.OwnOps
import Derived.Maps.RangeWalk
import Derived.Maps.Views
import Derived.Maps.Ext
import Derived.OpenShut
import Derived.DeepKeys5
namespace Go.Proofs.YtiiidmphmojlgaaGreat
open Go.RowKit Go.Buf Go.LB
set_option linter.unusedSimpArgs false
set_option linter.unusedVariables false
def encS (s : ByteArray) : List Value := [.string s]
def encT (d : Dt.Dot) : List Value := [.int .u8 (d.1.1 : Int), .int .u32 (d.1.2 : Int), .int .u64 (d.2 : Int)]
theorem infoStr : (Tryz.prog.info? 9).map (fun i => (i.zero, i.size, i.bytes)) = some (some (.string ⟨#[]⟩), 1, 16) := by kernel_rfl
theorem infoDot : (Tryz.prog.info? 27).map (fun i => (i.zero, i.size, i.bytes)) = some (some (.agg #[.int .u8 0, .int .u32 0, .int .u64 0]), 3, 16) := by kernel_rfl
end Go.Proofs.YtiiidmphmojlgaaGreat
namespace Go.Proofs.YtiiidmphmojlgaaGreat
open Go.RowKit Go.Maps
theorem actLaw : Keyed Tryz.prog 24 := .of_law (deep_law_gate (by kernel_rfl) (of_decide_eq_true (by kernel_rfl)) (of_decide_eq_true (by kernel_rfl)) (by kernel_rfl) (by rw [Tryz.underlying24]))
abbrev kl (a : Dt.Ac) : Lit := .string (keyBytes [.int .u8 (a.1 : Int), .int .u32 (a.2 : Int)])
def okAc (a : Dt.Ac) : Prop := a.1 < 256 ∧ a.2 < 4294967296
theorem types_size : ∃ m, Tryz.prog.types.size = m + 1 := ⟨Tryz.prog.types.size - 1, by kernel_rfl⟩
theorem keyType_act : Tryz.prog.keyType 24 = true := by kernel_rfl
theorem cells_act : Tryz.prog.cellsOf 24 = 2 := by kernel_rfl
theorem cells_u8 : Tryz.prog.cellsOf 5 = 1 := by kernel_rfl
theorem cells_u32 : Tryz.prog.cellsOf 22 = 1 := by kernel_rfl
theorem keyOf_act {a : Dt.Ac} (h : okAc a) : keyOf Tryz.prog 24 (acV a) = some (kl a) := by
 obtain ⟨m, hm⟩ := types_size
 have wa : (Lit.int .u8 (a.1 : Int)).wf = true := by have := h.1; go_wf
 have wb : (Lit.int .u32 (a.2 : Int)).wf = true := by have := h.2; go_wf
 unfold keyOf
 simp only [Tryz.underlying24]
 rw [if_pos (by simp [keyType_act, Value.formed, Tryz.underlying24, cells_act]), hm]
 unfold Program.keyLits
 simp only [Tryz.underlying24, Value.cells]
 rw [if_pos (by simp [cells_act])]
 simp [Program.keyLits, cells_u8, cells_u32, wa, wb]
theorem keyLits_int {t : TypeId} {k : IntKind} {m : Nat} {c : Value} {L : List Lit} (ht : Tryz.prog.underlying t = some (.int k)) (h : Tryz.prog.keyLits (m + 1) t [c] = some L) : ∃ n, c = .int k n ∧ (Lit.int k n).wf = true ∧ L = [.int k n] := by
 unfold Program.keyLits at h
 simp only [ht] at h
 cases c with
 | int q n =>
  simp only at h
  by_cases hq : q = k ∧ (Lit.int k n).wf = true
  ·rw [if_pos hq] at h
   obtain ⟨rfl, hw⟩ := hq
   exact ⟨n, rfl, hw, by simpa using h.symm⟩
  ·rw [if_neg hq] at h; cases h
 | _ => simp at h
set_option maxRecDepth 100000 in
theorem keyOf_act_inv {v : Value} {l : Lit} (h : keyOf Tryz.prog 24 v = some l) : ∃ a, okAc a ∧ v = acV a ∧ l = kl a := by
 obtain ⟨xs, L, rfl, hl, rfl⟩ := keyOf_top (by rw [Tryz.underlying24]) h
 obtain ⟨m, hm⟩ := types_size
 obtain ⟨m', rfl⟩ : ∃ m', m = m' + 1 := ⟨m - 1, by have h2 : 2 ≤ Tryz.prog.types.size := of_decide_eq_true (by kernel_rfl); omega⟩
 rw [hm] at hl
 unfold Program.keyLits at hl
 simp only [Tryz.underlying24] at hl
 obtain ⟨xs⟩ := xs
 simp only at hl
 split at hl
 ·rename_i hc
  rw [cells_act] at hc
  match xs, hc with
  | [c0, c1], _ =>
   simp [cells_u8, cells_u32] at hl
   cases h5 : Tryz.prog.keyLits (m' + 2) 5 [c0] with
   | none => rw [h5] at hl; cases hl
   | some L0 =>
    rw [h5] at hl
    cases h6 : Tryz.prog.keyLits (m' + 2) 22 [c1] with
    | none => rw [h6] at hl; cases hl
    | some L1 =>
     rw [h6] at hl
     obtain ⟨x, rfl, wx, rfl⟩ := keyLits_int (m := m' + 1) Tryz.underlying5 h5
     obtain ⟨y, rfl, wy, rfl⟩ := keyLits_int (m := m' + 1) Tryz.underlying22 h6
     have bx := bounds_u8 wx
     have bY := bounds_u32 wy
     obtain ⟨x, rfl⟩ := Int.eq_ofNat_of_zero_le bx.1
     obtain ⟨y, rfl⟩ := Int.eq_ofNat_of_zero_le bY.1
     simp at hl
     subst hl
     exact ⟨(x, y), ⟨by simp only; omega, by simp only; omega⟩, rfl, rfl⟩
 ·cases hl
theorem kl_inj {a c : Dt.Ac} (ha : okAc a) (hc : okAc c) (h : kl a = kl c) : a = c := by
 have h1 := keyOf_act ha
 rw [h] at h1
 have h2 := actLaw.inj h1 (keyOf_act hc)
 simp only [Value.agg.injEq, Array.mk.injEq, List.cons.injEq, Value.int.injEq, true_and, and_true] at h2
 obtain ⟨a1, a2⟩ := a; obtain ⟨c1, c2⟩ := c
 simp only at h2
 simp only [Prod.mk.injEq]; omega
def Nums (w : World) (b n : Nat) (D : DataW Unit) (f : Dt.Ac → Nat) : Prop :=
 w.ownsMap Tryz.prog 24 (plainElem Tryz.prog 25) b n D ∧ ∀ a, okAc a → D.atKey (kl a) (.lit (.int .u64 0)) = .lit (.int .u64 (f a : Nat))
theorem zeroU64 (w : World) : (zeroValue 25).run Tryz.prog w = .ok (.int .u64 0) w := by kernel_rfl
theorem Nums.made (w : World) : Nums (w.alloc (.map #[] 0)) w.heap.size 0 (.map []) (fun _ => 0) := ⟨World.ownsMap_made _ _ _ _, fun _ _ => rfl⟩
theorem Nums.kept {w w' : World} {b n : Nat} {D : DataW Unit} {f : Dt.Ac → Nat} {row : Option Nat} (h : Nums w b n D f) (hg : w.grownBy w' row) (hne : some b ≠ row) : Nums w' b n D f := ⟨h.1.kept hg hne, h.2⟩
theorem Nums.below {w w' : World} {b n : Nat} {D : DataW Unit} {f : Dt.Ac → Nat} (h : Nums w b n D f) (hb : Below w.heap.size w w') : Nums w' b n D f := h.kept (row := none) ⟨hb.os, hb.tape, hb.output, hb.size, fun k hk _ => hb.block k hk⟩ (by simp)
theorem Nums.lt {w : World} {b n : Nat} {D : DataW Unit} {f : Dt.Ac → Nat} (h : Nums w b n D f) : b < w.heap.size := h.1.lt
theorem Nums.lookup {w : World} {b n : Nat} {D : DataW Unit} {f : Dt.Ac → Nat} (h : Nums w b n D f) {a : Dt.Ac} (ha : okAc a) :
  (Instr.lookup 96 (.map (some b)) (acV a) false).run Tryz.prog w = .ok (.int .u64 (f a : Nat)) w := by
 obtain ⟨c, hrun, hat, _⟩ := h.1.lookup_int actLaw Tryz.underlying96 Tryz.underlying25 (zeroU64 w) (keyOf_act ha)
 rw [h.2 a ha] at hat
 simp only [DataW.lit.injEq, Lit.int.injEq, true_and] at hat
 rw [hrun, hat]
theorem Nums.bound {w : World} {b n : Nat} {D : DataW Unit} {f : Dt.Ac → Nat} (h : Nums w b n D f) {a : Dt.Ac} (ha : okAc a) : f a < 18446744073709551616 := by
 obtain ⟨c, hrun, hat, hwf⟩ := h.1.lookup_int actLaw Tryz.underlying96 Tryz.underlying25 (zeroU64 w) (keyOf_act ha)
 rw [h.2 a ha] at hat
 simp only [DataW.lit.injEq, Lit.int.injEq, true_and] at hat
 subst hat
 have := bounds_u64 hwf
 omega
def upd (f : Dt.Ac → Nat) (a : Dt.Ac) (x : Nat) : Dt.Ac → Nat := fun c => if c = a then x else f c
theorem Nums.update {w : World} {b n : Nat} {D : DataW Unit} {f : Dt.Ac → Nat} (h : Nums w b n D f) {a : Dt.Ac} (ha : okAc a) {x : Nat} (hx : x < 18446744073709551616) (hn : n < maxLen) :
  ∃ w', (Instr.mapUpdate 96 (.map (some b)) (acV a) (.int .u64 (x : Nat))).run Tryz.prog w = .ok () w' ∧ Nums w' b (n + 1) (D.put (kl a) (.lit (.int .u64 (x : Nat)))) (upd f a x) ∧ w.grownBy w' (some b) := by
 have hwf : (Lit.int .u64 (x : Int)).wf = true := by go_wf
 obtain ⟨w', h1, h2, h3⟩ := h.1.update actLaw Tryz.underlying96 hn (keyOf_act ha) (plainElem_int Tryz.underlying25 hwf)
 refine ⟨w', h1, ⟨h2, fun c hc => ?_⟩, h3⟩
 have hm : IsMap D := by obtain ⟨es, e, _⟩ := h.1.canon actLaw; exact ⟨es, e⟩
 unfold upd
 by_cases e : c = a
 ·subst e
  rw [if_pos rfl, atKey_put_same hm (actLaw.key (keyOf_act hc))]
 ·rw [if_neg e, atKey_put_other (fun g => e (kl_inj hc ha g)), h.2 c hc]
end Go.Proofs.YtiiidmphmojlgaaGreat
