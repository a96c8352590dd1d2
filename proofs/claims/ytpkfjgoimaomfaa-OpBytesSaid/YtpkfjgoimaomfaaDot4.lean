import Derived.Test.YtpkfjgoimaomfaaDot3
namespace Go.Proofs.Ytpkfjgoimaomfaa
open Go.RowKit
/-- A slice of dots that reads as l. -/
def VRow (w : World) (a : Option Addr) (cap : Nat) (l : List Dt.Dot) : Prop :=
  l.length ≤ cap ∧ cap ≤ 9223372036854775807 ∧ (∀ d ∈ l, Dt.okD d) ∧ (a = none → cap = 0) ∧
  ∀ i d, l[i]? = some d → ∃ p, a = some p ∧ w.cell? (p.add (i * 3)) = some (.int .u8 (d.1.1 : Int)) ∧ w.cell? (p.add (i * 3 + 1)) = some (.int .u32 (d.1.2 : Int)) ∧ w.cell? (p.add (i * 3 + 2)) = some (.int .u64 (d.2 : Int))
theorem VRow.le {w : World} {a : Option Addr} {cap : Nat} {l : List Dt.Dot} (h : VRow w a cap l) : l.length ≤ cap := h.1
theorem VRow.cap {w : World} {a : Option Addr} {cap : Nat} {l : List Dt.Dot} (h : VRow w a cap l) : cap ≤ 9223372036854775807 := h.2.1
theorem VRow.ok {w : World} {a : Option Addr} {cap : Nat} {l : List Dt.Dot} (h : VRow w a cap l) : ∀ d ∈ l, Dt.okD d := h.2.2.1
theorem VRow.below {w w' : World} {a : Option Addr} {cap : Nat} {l : List Dt.Dot} (h : VRow w a cap l) (hb : Below w.heap.size w w') : VRow w' a cap l := by
  refine ⟨h.1, h.2.1, h.2.2.1, h.2.2.2.1, fun i d hd => ?_⟩
  obtain ⟨p, hp, h1, h2, h3⟩ := h.2.2.2.2 i d hd
  refine ⟨p, hp, ?_, ?_, ?_⟩
  · exact (hb.cell (World.block_lt_of_cell? _ _ h1)).trans h1
  · exact (hb.cell (World.block_lt_of_cell? _ _ h2)).trans h2
  · exact (hb.cell (World.block_lt_of_cell? _ _ h3)).trans h3
theorem VRow.nil (w : World) : VRow w none 0 [] := ⟨by simp, by omega, by simp, by simp, by simp⟩
theorem VRow.at {w : World} {a : Option Addr} {cap : Nat} {l : List Dt.Dot} (h : VRow w a cap l) (hl : 0 < l.length) :
    ∃ b off, a = some ⟨b, off, none⟩ ∧ b < w.heap.size ∧ ∀ i d, l[i]? = some d → w.cell? ⟨b, off + i * 3, none⟩ = some (.int .u8 (d.1.1 : Int)) ∧ w.cell? ⟨b, off + i * 3 + 1, none⟩ = some (.int .u32 (d.1.2 : Int)) ∧ w.cell? ⟨b, off + i * 3 + 2, none⟩ = some (.int .u64 (d.2 : Int)) := by
  obtain ⟨p, hp, hc, _⟩ := h.2.2.2.2 0 l[0] (by simp [hl])
  have hs := World.cell?_spot hc
  obtain ⟨b, off, spot⟩ := p
  have hspot : spot = none := by simpa [Addr.add] using hs
  subst hspot
  refine ⟨b, off, hp, by simpa [Addr.add] using World.block_lt_of_cell? w _ hc, fun i d hd => ?_⟩
  obtain ⟨q, hq, h1, h2, h3⟩ := h.2.2.2.2 i d hd
  rw [hp] at hq
  obtain rfl := Option.some.inj hq
  rw [Addr.add_mid] at h1 h2 h3
  exact ⟨h1, by rw [← h2]; rfl, by rw [← h3]; rfl⟩
theorem getD_some {l : List Dt.Dot} {i : Nat} (hi : i < l.length) : ∃ d, l[i]? = some d := ⟨l[i], List.getElem?_eq_getElem hi⟩
def getF (a : Dt.Ac) (l : List Dt.Dot) (k : Nat) : Nat := Dt.get (l.take k) a
theorem getF_succ {a : Dt.Ac} {l : List Dt.Dot} {k : Nat} {d : Dt.Dot} (hd : l[k]? = some d) : getF a l (k + 1) = Dt.getStep a (getF a l k) d := by
  unfold getF
  obtain ⟨hk, rfl⟩ := List.getElem?_eq_some_iff.1 hd
  rw [List.take_succ_eq_append_getElem hk, Dt.get_snoc]
theorem getStep_not {a : Dt.Ac} {n : Nat} {d : Dt.Dot} (h : Dt.may d = false) : Dt.getStep a n d = n := by simp [Dt.getStep, h]
end Go.Proofs.Ytpkfjgoimaomfaa
