import Derived.Test.YtpkfjgoimaomfaaBytes
import Derived.Test.YtpkfjgoimaomfaaCrcMath
namespace Go.Proofs.Ytpkfjgoimaomfaa
open Go.RowKit
/-- A block of 256 numbers of kind u32. -/
def tblVals (F : Nat → Nat) : List Value := (List.range 256).map fun i => .int .u32 (F i : Nat)
/-- what 'fill' makes of the table: block b alone -/
def OnlyBlock (b : Nat) (w w' : World) : Prop := w'.os = w.os ∧ w'.tape = w.tape ∧ w'.output = w.output ∧ w'.heap.size = w.heap.size ∧ ∀ k, k ≠ b → w'.heap[k]? = w.heap[k]?
theorem OnlyBlock.refl (b : Nat) (w : World) : OnlyBlock b w w := ⟨rfl, rfl, rfl, rfl, fun _ _ => rfl⟩
theorem OnlyBlock.set {b : Nat} {w w' : World} (h : OnlyBlock b w w') (i : Nat) (v : Value) : OnlyBlock b w (w'.setCell ⟨b, i, none⟩ v) := by
  obtain ⟨h1, h2, h3, h4, h5⟩ := h
  refine ⟨h1, h2, h3, by simpa [World.setCell] using h4, fun k hk => ?_⟩
  rw [heap_setCell_other _ _ _ _ hk]; exact h5 k hk
/-- the table when the closure at distance 'bit' has come to q -/
def FF (F : Nat → Nat) (bit reg q : Nat) : Nat → Nat := fun i => if i % (2 * bit) = bit ∧ i < q then F (i - bit) ^^^ reg else F i
theorem FF_zero (F : Nat → Nat) (bit reg : Nat) : FF F bit reg 0 = F := by funext i; simp [FF]
theorem FF_at (F : Nat → Nat) (bit reg q : Nat) (hb : 1 ≤ bit) (hq : q % (2 * bit) = 0) : FF F bit reg q q = F q := by
  unfold FF; rw [if_neg]; intro h; omega
theorem mod_step (q bit : Nat) (hdiv : 256 % (2 * bit) = 0) (hq : q % (2 * bit) = 0) (hlt : q < 256) : q + 2 * bit ≤ 256 := by
  obtain ⟨c, hc⟩ := Nat.dvd_of_mod_eq_zero hdiv
  obtain ⟨d, hd⟩ := Nat.dvd_of_mod_eq_zero hq
  have h1 : d < c := by
    have : (2 * bit) * d < (2 * bit) * c := by omega
    exact Nat.lt_of_mul_lt_mul_left this
  have h2 : (2 * bit) * (d + 1) ≤ (2 * bit) * c := Nat.mul_le_mul_left _ h1
  rw [Nat.mul_add] at h2; omega
theorem FF_step (F : Nat → Nat) (bit reg q : Nat) (hb : 1 ≤ bit) (hq : q % (2 * bit) = 0) :
    FF F bit reg (q + 2 * bit) (q + bit) = F q ^^^ reg ∧ ∀ j, j ≠ q + bit → FF F bit reg (q + 2 * bit) j = FF F bit reg q j := by
  have h1 : (q + bit) % (2 * bit) = bit := by
    rw [Nat.add_mod, hq, Nat.zero_add, Nat.mod_mod, Nat.mod_eq_of_lt (by omega)]
  refine ⟨?_, fun j hj => ?_⟩
  · unfold FF; rw [if_pos ⟨h1, by omega⟩, Nat.add_sub_cancel]
  · unfold FF
    by_cases hc : j % (2 * bit) = bit
    · have : j < q + 2 * bit ↔ j < q := by
        constructor
        · intro h
          by_cases hjq : j < q
          · exact hjq
          · exfalso
            have e : j = q + (j - q) := by omega
            rw [e, Nat.add_mod, hq, Nat.zero_add, Nat.mod_mod, Nat.mod_eq_of_lt (by omega)] at hc
            omega
        · intro h; omega
      simp [hc, this]
    · simp [hc]
/-- the table while 'table' fills it: done at all multiples of 'bit' -/
def TT (bit : Nat) : Nat → Nat := fun i => if i % bit = 0 then Crc.st8 (i % 256) else 0
theorem TT_lt (bit i : Nat) : TT bit i < 4294967296 := by
  unfold TT; split
  · exact Crc.st8_lt (by omega)
  · omega
def tbl (F : Nat → Nat) : Array Value := (tblVals F).toArray
theorem tbl_size (F : Nat → Nat) : (tbl F).size = 256 := by simp [tbl, tblVals]
theorem tbl_one (F : Nat → Nat) : (tbl F).all (·.oneCell') = true := by
  rw [Array.all_eq_true_iff_forall_mem]
  intro v hv
  simp [tbl, tblVals] at hv
  obtain ⟨i, _, rfl⟩ := hv
  rfl
theorem TT_256 (i : Nat) (h : i < 256) : TT 256 i = 0 := by
  unfold TT
  split
  · rename_i h0
    have : i = 0 := by omega
    subst this; decide
  · rfl
theorem TT_1 (i : Nat) (h : i < 256) : TT 1 i = Crc.st8 i := by unfold TT; rw [if_pos (Nat.mod_one i), Nat.mod_eq_of_lt h]
theorem TT_round : ∀ k, k < 8 → ∀ i, i < 256 → FF (TT (256 / 2 ^ k)) (128 / 2 ^ k) (Crc.stn (k + 1) 1) 256 i = TT (128 / 2 ^ k) i := by decide +kernel
theorem stn_ok : ∀ k, k < 9 → Crc.stn k 1 < 4294967296 := by decide +kernel
theorem stn_succ : ∀ k, k < 8 → Crc.st (Crc.stn k 1) = Crc.stn (k + 1) 1 := by decide +kernel
theorem bit_facts : ∀ k, k < 8 → 1 ≤ 128 / 2 ^ k ∧ 128 / 2 ^ k ≤ 128 ∧ 256 % (2 * (128 / 2 ^ k)) = 0 ∧ 128 / 2 ^ k / 2 = 128 / 2 ^ (k + 1) ∧ 256 / 2 ^ (k + 1) = 128 / 2 ^ k := by decide +kernel
end Go.Proofs.Ytpkfjgoimaomfaa
