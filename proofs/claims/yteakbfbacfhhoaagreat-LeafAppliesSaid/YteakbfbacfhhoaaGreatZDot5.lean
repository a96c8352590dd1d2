import Derived.Test.YteakbfbacfhhoaaGreatZDot2
import Derived.Maps.OwnOps
import Derived.Maps.RangeWalk
import Derived.Maps.Views
import Derived.Maps.Ext
import Derived.OpenShut
import Derived.DeepKeys5
namespace Go.Proofs.YteakbfbacfhhoaaGreat
open Go.RowKit Go.Maps
abbrev kl (a : Dt.Ac) : Lit := .string (keyBytes [.int .u8 (a.1 : Int), .int .u32 (a.2 : Int)])
def okAc (a : Dt.Ac) : Prop := a.1 < 256 ∧ a.2 < 4294967296
theorem types_size : ∃ m, Tryz.prog.types.size = m + 1 := ⟨Tryz.prog.types.size - 1, by kernel_rfl⟩
theorem cells_act : Tryz.prog.cellsOf 25 = 2 := by kernel_rfl
theorem cells_u8 : Tryz.prog.cellsOf 5 = 1 := by kernel_rfl
theorem cells_u32 : Tryz.prog.cellsOf 23 = 1 := by kernel_rfl
def Nums (w : World) (b n : Nat) (D : DataW Unit) (f : Dt.Ac → Nat) : Prop :=
 w.ownsMap Tryz.prog 25 (plainElem Tryz.prog 22) b n D ∧ ∀ a, okAc a → D.atKey (kl a) (.lit (.int .u64 0)) = .lit (.int .u64 (f a : Nat))
theorem Nums.kept {w w' : World} {b n : Nat} {D : DataW Unit} {f : Dt.Ac → Nat} {row : Option Nat} (h : Nums w b n D f) (hg : w.grownBy w' row) (hne : some b ≠ row) : Nums w' b n D f := ⟨h.1.kept hg hne, h.2⟩
theorem Nums.below {w w' : World} {b n : Nat} {D : DataW Unit} {f : Dt.Ac → Nat} (h : Nums w b n D f) (hb : Below w.heap.size w w') : Nums w' b n D f := h.kept (row := none) ⟨hb.os, hb.tape, hb.output, hb.size, fun k hk _ => hb.block k hk⟩ (by simp)
theorem Nums.lt {w : World} {b n : Nat} {D : DataW Unit} {f : Dt.Ac → Nat} (h : Nums w b n D f) : b < w.heap.size := h.1.lt
def upd (f : Dt.Ac → Nat) (a : Dt.Ac) (x : Nat) : Dt.Ac → Nat := fun c => if c = a then x else f c
end Go.Proofs.YteakbfbacfhhoaaGreat
