import Derived.Test.YtpkfjgoimaomfaaCode4
namespace Go.Proofs.Ytpkfjgoimaomfaa
open Go.RowKit Go.Buf
theorem Row.dropMid {w : World} {b off cap : Nat} {l : List Nat} (h : Row w (some ⟨b, off, none⟩) cap l) (k : Nat) (hk : k ≤ l.length) : Row w (some ⟨b, off + k, none⟩) (cap - k) (l.drop k) := by
  obtain ⟨h1, h2, h3, _, h5⟩ := h
  refine ⟨by simp; omega, by omega, fun x hx => h3 x (List.mem_of_mem_drop hx), fun h => (by cases h), fun i x hx => ⟨_, rfl, ?_⟩⟩
  rw [List.getElem?_drop] at hx
  obtain ⟨p, hp, hc⟩ := h5 (k + i) x hx
  obtain rfl := Option.some.inj hp
  rw [Addr.add_mid] at hc ⊢
  rw [Nat.add_assoc]; exact hc
def unfr (l : List Nat) : List Nat × Nat × Nat := Cd.unframe Crc.ends l
def RetUn (w : World) (r : List Nat × Nat × Nat) (e : Ending) (w' : World) : Prop := ∃ v row', e = .returned (.tuple #[v, .int .i64 (r.2.1 : Nat), .int .i64 (r.2.2 : Nat)]) ∧ BB w.heap.size w' v r.1 row' ∧ Below w.heap.size w w'
theorem un_none {w w' : World} {r : List Nat × Nat × Nat} {k : Nat} (h : r = ([], 0, k)) (hb : Below w.heap.size w w') {z : Int} (hz : z = k) : RetUn w r (.returned (.tuple #[.slice none 0 0, .int .i64 0, .int .i64 z])) w' := by
  subst h; subst hz
  exact ⟨_, none, rfl, BB.nil hb.size, hb⟩
end Go.Proofs.Ytpkfjgoimaomfaa
