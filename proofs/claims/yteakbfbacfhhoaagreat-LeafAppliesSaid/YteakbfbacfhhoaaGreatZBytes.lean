import Derived.Test.YteakbfbacfhhoaaGreatRows
import Derived.WalkKit
import Derived.WalkSpells
import Derived.WalkLawsBesides
import Derived.Deep.MidRow
import Derived.Laws.CopyOwn
import Derived.Deep.WholeRow
import Derived.Lib.Hide
import Derived.Deep.QuietTactic
import Derived.BigQuiet
import Derived.Deep.RegionLaw
import Derived.Deep.RegionHeld3
import Derived.Deep.RegionLawGrows
import Derived.Deep.RegionWith
import Derived.Lib.SlBytesConst
import Derived.Laws.AppendOwnNone
import Derived.Laws.BytesArg
import Derived.Test.YteakbfbacfhhoaaGreatZReg
namespace Go.Proofs.YteakbfbacfhhoaaGreat
open Go.RowKit
theorem ret_int {k : IntKind} {a b : Int} (h : a = b) : Ending.returned (.int k a) = .returned (.int k b) := by rw [h]
def Row (w : World) (a : Option Addr) (cap : Nat) (l : List Nat) : Prop :=
 l.length ≤ cap ∧ cap ≤ 9223372036854775807 ∧ (∀ x ∈ l, x < 256) ∧ (a = none → cap = 0) ∧ ∀ i x, l[i]? = some x → ∃ p, a = some p ∧ w.cell? (p.add i) = some (.int .u8 (x : Nat))
theorem Row.le {w : World} {a : Option Addr} {cap : Nat} {l : List Nat} (h : Row w a cap l) : l.length ≤ cap := h.1
theorem Row.cap {w : World} {a : Option Addr} {cap : Nat} {l : List Nat} (h : Row w a cap l) : cap ≤ 9223372036854775807 := h.2.1
theorem Row.byte {w : World} {a : Option Addr} {cap : Nat} {l : List Nat} (h : Row w a cap l) : ∀ x ∈ l, x < 256 := h.2.2.1
theorem Row.below {w w' : World} {a : Option Addr} {cap : Nat} {l : List Nat} (h : Row w a cap l) (hb : Below w.heap.size w w') : Row w' a cap l := by
 obtain ⟨h1, h2, h3, h4, h5⟩ := h
 refine ⟨h1, h2, h3, h4, fun i x hx => ?_⟩
 obtain ⟨p, hp, hc⟩ := h5 i x hx
 exact ⟨p, hp, (hb.cell (World.block_lt_of_cell? w _ hc)).trans hc⟩
def bytesV (l : List Nat) : List Value := l.map fun x => .int .u8 (x : Nat)
theorem Row.holds {w : World} {a : Option Addr} {cap : Nat} {l : List Nat} (h : Row w a cap l) : ∀ b, a = some b → ∀ j u, (bytesV l)[j]? = some u → w.cell? (b.add j) = some u := by
 intro b hb j u hu
 simp [bytesV] at hu
 obtain ⟨x, hx, rfl⟩ := hu
 obtain ⟨p, hp, hc⟩ := h.2.2.2.2 j x hx
 rw [hb] at hp; obtain rfl := Option.some.inj hp
 exact hc
theorem Row.drew {w : World} {a : Option Addr} {cap : Nat} {l : List Nat} (h : Row w a cap l) : Row w.drew a cap l := by
 obtain ⟨h1, h2, h3, h4, h5⟩ := h
 exact ⟨h1, h2, h3, h4, fun i x hx => by obtain ⟨p, hp, hc⟩ := h5 i x hx; exact ⟨p, hp, by simpa using hc⟩⟩
def RetOwn (B : Nat) (w : World) (l : List Nat) (e : Ending) (w' : World) : Prop := ∃ v, e = .returned v ∧ w'.ownsRow B 5 1 v l.length (bytesV l) ∧ Below B w w'
theorem Row.take {w : World} {a : Option Addr} {cap : Nat} {l : List Nat} (h : Row w a cap l) (k c : Nat) (hk : k ≤ c) (hc : c ≤ cap) (ha : a = none → c = 0) : Row w a c (l.take k) := by
 obtain ⟨h1, h2, h3, h4, h5⟩ := h
 refine ⟨by simp; omega, by omega, fun x hx => h3 x (List.mem_of_mem_take hx), ha, fun i x hx => ?_⟩
 rw [List.getElem?_take] at hx
 split at hx
 ·exact h5 i x hx
 ·cases hx
def RetBool (B : Nat) (w : World) (r : Bool) (e : Ending) (w' : World) : Prop := e = .returned (.bool r) ∧ Below B w w'
def strB (l : List Nat) : ByteArray := ⟨(l.map fun x => UInt8.ofNat x).toArray⟩
end Go.Proofs.YteakbfbacfhhoaaGreat
