import Derived.Test.YtijbblbaabmfjaaCrc8
import Derived.Test.YtijbblbaabmfjaaCrcMath2
namespace Go.Proofs.Ytijbblbaabmfjaa
open Go.RowKit
def boolsV (N : Nat) (F : Nat → Bool) : List Value := (List.range N).map fun i => .bool (F i)
def HasB (w : World) (g N : Nat) (F : Nat → Bool) : Prop := w.heap[g]? = some (.cells (boolsV N F).toArray 4 (0, 0))
theorem HasB.cell {w : World} {g N : Nat} {F : Nat → Bool} (h : HasB w g N F) (i : Nat) (hi : i < N) : w.cell? ⟨g, i, none⟩ = some (.bool (F i)) := by
  rw [cell_of_row w g i _ _ _ h]; simp [boolsV, hi]
theorem HasB.frozen {w : World} {g N : Nat} {F : Nat → Bool} (h : HasB w g N F) (i : Nat) : w.frozen? ⟨g, i, none⟩ = false := frozen_of_row w g i _ _ h
theorem HasB.congr {w : World} {g N : Nat} {F G : Nat → Bool} (h : HasB w g N F) (he : ∀ i, i < N → F i = G i) : HasB w g N G := by
  unfold HasB at *
  rw [h]
  congr 2
  apply Array.ext'
  simp only [boolsV]
  exact List.map_congr_left fun i hi => by rw [he i (by simpa using hi)]
theorem HasB.set {w : World} {g N : Nat} {F G : Nat → Bool} (h : HasB w g N F) (i : Nat) (x : Bool) (hx : x = G i) (hG : ∀ j, j < N → j ≠ i → G j = F j) :
    HasB (w.setCell ⟨g, i, none⟩ (.bool x)) g N G := by
  unfold HasB
  rw [heap_setCell_same w g i _ _ _ h]
  congr 2
  apply Array.ext'
  simp only [Array.toList_setIfInBounds]
  apply List.ext_getElem (by simp [boolsV])
  intro j h1 h2
  have hj : j < N := by simpa [boolsV] using h2
  by_cases e : i = j
  · subst e; simp [boolsV, hx]
  · rw [List.getElem_set_ne e]; simp [boolsV, hG j hj (fun c => e c.symm)]
theorem HasB.below {w w' : World} {g N B : Nat} {F : Nat → Bool} (h : HasB w g N F) (hb : Below B w w') (hg : g < B) : HasB w' g N F := by
  unfold HasB at *; rw [hb.block g hg]; exact h
theorem HasB.lt {w : World} {g N : Nat} {F : Nat → Bool} (h : HasB w g N F) : g < w.heap.size := (Array.getElem?_eq_some_iff.1 h).1
theorem info4 : (Try.prog.info? 4).map (fun i => (i.zero, i.size, i.bytes)) = some (some (.bool false), 1, 1) := by kernel_rfl
theorem made_bools (n : Nat) : madeCells (Value.bool false).cells n = (boolsV n fun _ => false).toArray := by
  apply Array.ext'
  apply List.ext_getElem (by simp [madeCells, boolsV])
  intro j h1 h2
  simp [madeCells, boolsV, Value.cells, Nat.mod_one]
theorem run_mk (n : Nat) (hn : n ≤ 1000000) (w : World) : Sem.run Try.prog (Instr.makeSlice 65 (.int .i64 (8 * (n : Int) + 32)) (.int .i64 (8 * (n : Int) + 32))) w =
    .ok (.slice (some ⟨w.heap.size, 0, none⟩) (8 * n + 32) (8 * n + 32)) (w.alloc (.cells (boolsV (8 * n + 32) fun _ => false).toArray 4)) := by
  obtain ⟨i0, hi, hz0, hz1, hz2⟩ := info_parts info4
  have := run_make (P := Try.prog) w 65 4 i0 (.bool false) Try.underlying65 hi hz0 .i64 .i64 (8 * (n : Int) + 32) (8 * (n : Int) + 32) (by omega) (Int.le_refl _) (by rw [hz2]; omega) (by omega)
  rw [this, show (8 * (n : Int) + 32).toNat = 8 * n + 32 from by omega, hz1, Nat.mul_one, made_bools]
theorem shr_bit (x m : Nat) (hx : x < 256) : (bits .and .u8 ((x : Int) / 2 ^ m) 1 == 1) = x.testBit m := by
  have e1 : ((x : Int) / 2 ^ m) = ((x / 2 ^ m : Nat) : Int) := by simp
  have hlt : x / 2 ^ m < 256 := Nat.lt_of_le_of_lt (Nat.div_le_self _ _) hx
  have e2 := u8_and_nat (x / 2 ^ m) 1 hlt (by omega)
  rw [nat_mask1] at e2
  rw [e1]
  have e3 : bits .and .u8 ((x / 2 ^ m : Nat) : Int) 1 = ((x / 2 ^ m % 2 : Nat) : Int) := e2
  rw [e3]
  have h1 : x.testBit m = decide (x / 2 ^ m % 2 = 1) := Nat.testBit_eq_decide_div_mod_eq
  rw [h1, Bool.eq_iff_iff]
  simp
  omega
/-- a slice of N bools at the head of a new block, that reads as F -/
def RetB (B : Nat) (w : World) (N : Nat) (F : Nat → Bool) (e : Ending) (w' : World) : Prop := ∃ g, e = .returned (.slice (some ⟨g, 0, none⟩) N N) ∧ B ≤ g ∧ HasB w' g N F ∧ Below B w w'
set_option maxRecDepth 100000 in
set_option maxHeartbeats 1600000 in
theorem row_any (a : Option Addr) (n cap : Nat) (l : List Nat) (w : World) (hr : Row w a cap l) (hn : l.length = n) (hsmall : n ≤ 1000000) :
    Calls Try.prog 41 #[.slice a n cap] w (RetB w.heap.size w (8 * n + 32) (Crc.row0 l)) := by
  have Hr := Lib.hid hr; have Hn := Lib.hid hn; clear hr hn
  have hmk := run_mk n hsmall
  go_enter Try.func41, Try.ntmps41
  go_wp2
  generalize hW : w.alloc (Obj.cells (boolsV (8 * n + 32) fun _ => false).toArray 4) = W
  have hb0 : HasB W w.heap.size (8 * n + 32) (fun _ => false) := by subst hW; exact heap_alloc_new w _
  have hbel : Below w.heap.size w W := by subst hW; exact (Below.refl _ _).alloc (Nat.le_refl _) _
  clear hmk
  have Hb0 := Lib.hid hb0; have Hbel := Lib.hid hbel; have HW := Lib.hid hW
  clear hb0 hbel hW
  go_loopw [4] (fun i wr => ∃ k : Nat, k ≤ 8 * n ∧ i = .int .i64 k ∧ HasB wr w.heap.size (8 * n + 32) (fun j => decide (j < k) && Crc.bitsOf l j) ∧ Below w.heap.size w wr) (fun i _ => 8 * n - (intOf i).toNat)
  case atStart => exact ⟨0, by omega, rfl, Hb0.out.congr (fun i _ => by simp), Hbel.out⟩
  case round =>
    obtain ⟨k, hk, rfl, hb, hbel⟩ := hrel
    have Hb := Lib.hid hb; have Hbl := Lib.hid hbel; clear hb hbel
    by_cases hlt : k < 8 * n
    · obtain ⟨b, off, rfl, hbB, hc⟩ := Hr.out.opened (by rw [Hn.out]; omega)
      obtain ⟨x, hx⟩ : ∃ x, x = l.getD (k / 8) 0 := ⟨_, rfl⟩
      have hcell : wr.cell? ⟨b, off + k / 8, none⟩ = some (.int .u8 (x : Nat)) := by rw [Hbl.out.cell (by exact hbB), hc _ (by rw [Hn.out]; omega), hx]
      have hxl : x < 256 := Hr.out.byte x (by rw [hx]; have : k / 8 < l.length := by rw [Hn.out]; omega
                                              simp [List.getD, this])
      have hcell2 := Hb.out.cell k (by omega)
      have hfr := Hb.out.frozen k
      have hbit := shr_bit x (k % 8) hxl
      have hv : x.testBit (k % 8) = Crc.bitsOf l k := by rw [hx]; rfl
      have hset := Hb.out.set (G := fun j => decide (j < k + 1) && Crc.bitsOf l j) k (x.testBit (k % 8)) (by rw [hv]; simp) (fun j _ hj => by
        have : decide (j < k + 1) = decide (j < k) := by rw [decide_eq_decide]; omega
        rw [this])
      have hbl2 := Hbl.out.setCell (p := ⟨w.heap.size, k, none⟩) (Nat.le_refl _) (.bool (x.testBit (k % 8)))
      have Hx := Lib.hid hx; have Hc := Lib.hid hc; have Hset := Lib.hid hset; have Hbl2 := Lib.hid hbl2
      clear hx hc hv hset hbl2
      go_wp2
      exact ⟨⟨k + 1, by omega, by go_num, Hset.out, Hbl2.out⟩, by simp [intOf]; omega⟩
    · obtain rfl : k = 8 * n := by omega
      have hb1 : HasB wr w.heap.size (8 * n + 32) (Crc.bitsOf l) := Hb.out.congr (fun i hi => by
        by_cases h : i < 8 * n
        · simp [h]
        · rw [Crc.bitsOf_beyond l i (by rw [Hn.out]; omega)]; simp)
      have Hb1 := Lib.hid hb1; clear hb1
      go_wp2
      go_loopw [5] (fun i wq => ∃ k : Nat, k ≤ 32 ∧ i = .int .i64 k ∧ HasB wq w.heap.size (8 * n + 32) (fun j => Crc.bitsOf l j != decide (j < k)) ∧ Below w.heap.size w wq) (fun i _ => 32 - (intOf i).toNat)
      case atStart => exact ⟨0, by omega, rfl, Hb1.out.congr (fun i _ => by simp), Hbl.out⟩
      case round =>
        obtain ⟨k, hk, rfl, hb, hbel⟩ := hrel
        have Hb := Lib.hid hb; have Hbl := Lib.hid hbel; clear hb hbel
        by_cases hlt2 : k < 32
        · obtain ⟨x, hx⟩ : ∃ x, x = Crc.bitsOf l k := ⟨_, rfl⟩
          have hcell := Hb.out.cell k (by omega)
          have hc0 : (Crc.bitsOf l k != decide (k < k)) = x := by rw [hx]; simp
          rw [hc0] at hcell
          have hfr := Hb.out.frozen k
          have hset := Hb.out.set (G := fun j => Crc.bitsOf l j != decide (j < k + 1)) k (!x) (by rw [hx]; simp) (fun j _ hj => by
            have : decide (j < k + 1) = decide (j < k) := by rw [decide_eq_decide]; omega
            rw [this])
          have hbl2 := Hbl.out.setCell (p := ⟨w.heap.size, k, none⟩) (Nat.le_refl _) (.bool (!x))
          have Hx := Lib.hid hx; have Hset := Lib.hid hset; have Hbl2 := Lib.hid hbl2
          clear hx hc0 hset hbl2
          go_wp2
          exact ⟨⟨k + 1, by omega, by go_num, Hset.out, Hbl2.out⟩, by simp [intOf]; omega⟩
        · obtain rfl : k = 32 := by omega
          have hf : RetB w.heap.size w (8 * n + 32) (Crc.row0 l) (.returned (.slice (some ⟨w.heap.size, 0, none⟩) (8 * n + 32) (8 * n + 32))) wr := ⟨_, rfl, Nat.le_refl _, Hb.out, Hbl.out⟩
          have HF := Lib.hid hf; clear hf
          go_wp2
          go_ret
          exact HF.out
end Go.Proofs.Ytijbblbaabmfjaa
