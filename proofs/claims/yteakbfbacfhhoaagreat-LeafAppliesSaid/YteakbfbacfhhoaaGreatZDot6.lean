import Derived.Test.YteakbfbacfhhoaaGreatZDot5
import Derived.StillTailTactics
import Derived.Test.YteakbfbacfhhoaaGreatZCode1
namespace Go.Proofs.YteakbfbacfhhoaaGreat
open Go.RowKit Go.Maps Go.Buf
def NumX (w : World) (b n : Nat) (f : Dt.Ac → Nat) : Prop := ∃ D, Nums w b n D f
def RetNum (W : World) (b n : Nat) (f : Dt.Ac → Nat) (e : Ending) (w' : World) : Prop := e = .returned (.map (some b)) ∧ NumX w' b n f ∧ W.grownBy w' (some b)
theorem NumX.kept {w w' : World} {b n : Nat} {f : Dt.Ac → Nat} {row : Option Nat} (h : NumX w b n f) (hg : w.grownBy w' row) (hne : some b ≠ row) : NumX w' b n f := by obtain ⟨D, h⟩ := h; exact ⟨D, h.kept hg hne⟩
theorem NumX.below {w w' : World} {b n : Nat} {f : Dt.Ac → Nat} (h : NumX w b n f) (hb : Below w.heap.size w w') : NumX w' b n f := by obtain ⟨D, h⟩ := h; exact ⟨D, h.below hb⟩
theorem NumX.lt {w : World} {b n : Nat} {f : Dt.Ac → Nat} (h : NumX w b n f) : b < w.heap.size := by obtain ⟨D, h⟩ := h; exact h.lt
theorem NumX.congr {w : World} {b n : Nat} {f g : Dt.Ac → Nat} (h : NumX w b n f) (e : f = g) : NumX w b n g := e ▸ h
theorem NumX.mono {w : World} {b n n' : Nat} {f : Dt.Ac → Nat} (h : NumX w b n f) (hn : n ≤ n') : NumX w b n' f := by obtain ⟨D, h⟩ := h; exact ⟨D, h.1.mono hn, h.2⟩
def standF (f : Dt.Ac → Nat) (d : Dt.Dot) : Dt.Ac → Nat := upd f d.1 (max (f d.1) d.2)
end Go.Proofs.YteakbfbacfhhoaaGreat
namespace Go.Proofs.YteakbfbacfhhoaaGreat
open Go.RowKit Go.Maps Go.Buf
theorem VRow.lt {w : World} {a : Option Addr} {cap : Nat} {l : List Dt.Dot} (h : VRow w a cap l) (hl : 0 < l.length) : ∀ p, a = some p → p.block < w.heap.size := by
 intro p hp
 obtain ⟨b, off, rfl, hb, _⟩ := h.at hl
 obtain rfl := Option.some.inj hp
 exact hb
def RetMap (W : World) (n : Nat) (f : Dt.Ac → Nat) (e : Ending) (w' : World) : Prop := ∃ b, e = .returned (.map (some b)) ∧ NumX w' b n f ∧ W.heap.size ≤ b ∧ Below W.heap.size W w'
end Go.Proofs.YteakbfbacfhhoaaGreat
