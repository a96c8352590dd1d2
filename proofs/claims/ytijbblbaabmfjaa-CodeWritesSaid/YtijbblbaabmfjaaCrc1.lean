import Derived.Test.YtijbblbaabmfjaaBytes
import Derived.Test.YtijbblbaabmfjaaCrcMath
namespace Go.Proofs.Ytijbblbaabmfjaa
open Go.RowKit
set_option maxHeartbeats 400000 in
theorem step_any (a : Nat) (w : World) (h1 : a < 4294967296) :
    Calls Try.prog 46 #[.int .u32 a] w fun e w' => e = .returned (.int .u32 (Crc.st a : Nat)) ∧ w' = w := by
  have e1 : bits .and .u32 (a : Int) 1 = ((a % 2 : Nat) : Int) := by
    have := u32_and_nat a 1 h1 (by omega)
    rw [nat_mask1] at this; exact this
  have e2 : bits .xor .u32 ((a : Int) / 2) 3988292384 = ((a / 2 ^^^ 3988292384 : Nat) : Int) := by
    have := u32_xor_nat (a / 2) 3988292384 (by omega) (by omega)
    simpa using this
  by_cases hm : a % 2 = 1
  · have ht : (bits .and .u32 (a : Int) 1 == 1) = true := by rw [e1, hm]; rfl
    have hs : Crc.st a = a / 2 ^^^ 3988292384 := by unfold Crc.st; rw [if_pos hm]
    have HS := Lib.hid hs; have H2 := Lib.hid e2; clear hs e2 e1 hm
    go_enter Try.func46, Try.ntmps46
    go_wp2
    go_ret
    exact ⟨ret_int (by rw [H2.out, HS.out]), rfl⟩
  · have ht : (bits .and .u32 (a : Int) 1 == 1) = false := by rw [e1, show a % 2 = 0 by omega]; rfl
    have hs : Crc.st a = a / 2 := by unfold Crc.st; rw [if_neg hm]
    have HS := Lib.hid hs; clear hs e2 e1 hm
    go_enter Try.func46, Try.ntmps46
    go_wp2
    go_ret
    exact ⟨ret_int (by rw [HS.out]; simp), rfl⟩
/-- A block of 256 numbers of kind u32. -/
def tblVals (F : Nat → Nat) : List Value := (List.range 256).map fun i => .int .u32 (F i : Nat)
def HasTbl (w : World) (b : Nat) (F : Nat → Nat) : Prop := w.heap[b]? = some (.cells (tblVals F).toArray 69 (0, 0))
theorem HasTbl.cell {w : World} {b : Nat} {F : Nat → Nat} (h : HasTbl w b F) (i : Nat) (hi : i < 256) : w.cell? ⟨b, i, none⟩ = some (.int .u32 (F i : Nat)) := by
  rw [cell_of_row w b i _ _ _ h]
  simp [tblVals, hi]
theorem HasTbl.frozen {w : World} {b : Nat} {F : Nat → Nat} (h : HasTbl w b F) (i : Nat) : w.frozen? ⟨b, i, none⟩ = false := frozen_of_row w b i _ _ h
theorem HasTbl.set {w : World} {b : Nat} {F G : Nat → Nat} (h : HasTbl w b F) (i : Nat) (x : Int) (hx : x = (G i : Nat)) (hG : ∀ j, j < 256 → j ≠ i → G j = F j) :
    HasTbl (w.setCell ⟨b, i, none⟩ (.int .u32 x)) b G := by
  unfold HasTbl
  rw [heap_setCell_same w b i _ _ _ h]
  congr 2
  apply Array.ext'
  simp only [Array.toList_setIfInBounds]
  apply List.ext_getElem (by simp [tblVals])
  intro j h1 h2
  have hj : j < 256 := by simpa [tblVals] using h2
  by_cases e : i = j
  · subst e; simp [tblVals, hx]
  · rw [List.getElem_set_ne e]; simp [tblVals, hG j hj (fun c => e c.symm)]
/-- what 'fill' makes of the table: block b alone -/
def OnlyBlock (b : Nat) (w w' : World) : Prop := w'.os = w.os ∧ w'.tape = w.tape ∧ w'.output = w.output ∧ w'.heap.size = w.heap.size ∧ ∀ k, k ≠ b → w'.heap[k]? = w.heap[k]?
theorem OnlyBlock.refl (b : Nat) (w : World) : OnlyBlock b w w := ⟨rfl, rfl, rfl, rfl, fun _ _ => rfl⟩
theorem OnlyBlock.set {b : Nat} {w w' : World} (h : OnlyBlock b w w') (i : Nat) (v : Value) : OnlyBlock b w (w'.setCell ⟨b, i, none⟩ v) := by
  obtain ⟨h1, h2, h3, h4, h5⟩ := h
  refine ⟨h1, h2, h3, by simpa [World.setCell] using h4, fun k hk => ?_⟩
  rw [heap_setCell_other _ _ _ _ hk]; exact h5 k hk
/-- the table when the closure at distance 'bit' has come to q -/
def FF (F : Nat → Nat) (bit reg q : Nat) : Nat → Nat := fun i => if i % (2 * bit) = bit ∧ i < q then F (i - bit) ^^^ reg else F i
theorem FF_zero (F : Nat → Nat) (bit reg : Nat) : FF F bit reg 0 = F := by funext i; simp [FF]
theorem FF_at (F : Nat → Nat) (bit reg q : Nat) (hb : 1 ≤ bit) (hq : q % (2 * bit) = 0) : FF F bit reg q q = F q := by
  unfold FF; rw [if_neg]; intro h; omega
theorem mod_step (q bit : Nat) (hdiv : 256 % (2 * bit) = 0) (hq : q % (2 * bit) = 0) (hlt : q < 256) : q + 2 * bit ≤ 256 := by
  obtain ⟨c, hc⟩ := Nat.dvd_of_mod_eq_zero hdiv
  obtain ⟨d, hd⟩ := Nat.dvd_of_mod_eq_zero hq
  have h1 : d < c := by
    have : (2 * bit) * d < (2 * bit) * c := by omega
    exact Nat.lt_of_mul_lt_mul_left this
  have h2 : (2 * bit) * (d + 1) ≤ (2 * bit) * c := Nat.mul_le_mul_left _ h1
  rw [Nat.mul_add] at h2; omega
theorem FF_step (F : Nat → Nat) (bit reg q : Nat) (hb : 1 ≤ bit) (hq : q % (2 * bit) = 0) :
    FF F bit reg (q + 2 * bit) (q + bit) = F q ^^^ reg ∧ ∀ j, j ≠ q + bit → FF F bit reg (q + 2 * bit) j = FF F bit reg q j := by
  have h1 : (q + bit) % (2 * bit) = bit := by
    rw [Nat.add_mod, hq, Nat.zero_add, Nat.mod_mod, Nat.mod_eq_of_lt (by omega)]
  refine ⟨?_, fun j hj => ?_⟩
  · unfold FF; rw [if_pos ⟨h1, by omega⟩, Nat.add_sub_cancel]
  · unfold FF
    by_cases hc : j % (2 * bit) = bit
    · have : j < q + 2 * bit ↔ j < q := by
        constructor
        · intro h
          by_cases hjq : j < q
          · exact hjq
          · exfalso
            have e : j = q + (j - q) := by omega
            rw [e, Nat.add_mod, hq, Nat.zero_add, Nat.mod_mod, Nat.mod_eq_of_lt (by omega)] at hc
            omega
        · intro h; omega
      simp [hc, this]
    · simp [hc]
set_option maxRecDepth 100000 in
set_option maxHeartbeats 800000 in
theorem fill_any (w : World) (b : Nat) (F : Nat → Nat) (bit reg : Nat) (hb1 : 1 ≤ bit) (hb2 : bit ≤ 128) (hdiv : 256 % (2 * bit) = 0) (hreg : reg < 4294967296) (hF : ∀ i, F i < 4294967296)
    (ht : HasTbl w b F) :
    Calls Try.prog 45 #[.int .i64 bit, .int .u32 reg, .pointer (some ⟨b, 0, none⟩)] w fun e w' => e = .returned (.tuple #[]) ∧ HasTbl w' b (FF F bit reg 256) ∧ OnlyBlock b w w' := by
  have HF := Lib.hid hF; clear hF
  have Hd := Lib.hid hdiv; clear hdiv
  go_enter Try.func45, Try.ntmps45
  go_wp2
  go_loopw [5] (fun i wr => ∃ q : Nat, q ≤ 256 ∧ q % (2 * bit) = 0 ∧ i = .int .i64 q ∧ HasTbl wr b (FF F bit reg q) ∧ OnlyBlock b w wr) (fun i _ => 256 - (intOf i).toNat)
  case atStart => exact ⟨0, by omega, by simp, rfl, by rw [FF_zero]; exact ht, OnlyBlock.refl _ _⟩
  case round =>
    obtain ⟨q, hq, hq2, rfl, htb, honly⟩ := hrel
    by_cases hlt : q < 256
    · have hst := mod_step q bit Hd.out hq2 hlt
      have hfl : F q < 4294967296 := HF.out q
      have hcell : wr.cell? ⟨b, q, none⟩ = some (.int .u32 (F q : Nat)) := by rw [htb.cell q hlt, FF_at F bit reg q hb1 hq2]
      have hcell2 := htb.cell (q + bit) (by omega)
      have hfr := htb.frozen (q + bit)
      have hx : bits .xor .u32 (F q : Int) (reg : Int) = ((F q ^^^ reg : Nat) : Int) := u32_xor_nat _ _ hfl hreg
      have hS := FF_step F bit reg q hb1 hq2
      have htb' := htb.set (G := FF F bit reg (q + 2 * bit)) (q + bit) (bits .xor .u32 (F q : Int) (reg : Int)) (by rw [hx, hS.1]) (fun j _ hj => hS.2 j hj)
      have honly' := honly.set (q + bit) (.int .u32 (bits .xor .u32 (F q : Int) (reg : Int)))
      have H1 := Lib.hid htb'; have H2 := Lib.hid honly'; have H3 := Lib.hid hq2
      clear hx hS htb' honly' htb honly hq2 ht
      go_wp2
      refine ⟨⟨q + 2 * bit, hst, ?_, ?_, H1.out, H2.out⟩, ?_⟩
      · rw [Nat.add_mod, H3.out]; simp
      · simp
      · simp [intOf]; omega
    · obtain rfl : q = 256 := by omega
      have H1 := Lib.hid htb; have H2 := Lib.hid honly
      clear htb honly hq2 ht
      go_wp2
      go_end0
      exact ⟨rfl, H1.out, H2.out⟩
/-- the table while 'table' fills it: done at all multiples of 'bit' -/
def TT (bit : Nat) : Nat → Nat := fun i => if i % bit = 0 then Crc.st8 (i % 256) else 0
theorem TT_lt (bit i : Nat) : TT bit i < 4294967296 := by
  unfold TT; split
  · exact Crc.st8_lt (by omega)
  · omega
def tbl (F : Nat → Nat) : Array Value := (tblVals F).toArray
theorem info38 : (Try.prog.info? 69).map (fun i => (i.zero, i.size)) = some (some (.agg (tbl fun _ => 0)), 256) := by kernel_rfl
theorem size38 (F : Nat → Nat) : (Try.prog.info? 69).map (·.size) = some (tbl F).size := by
  rw [(zero_of_info info38).2]; simp [tbl, tblVals]
theorem tbl_size (F : Nat → Nat) : (tbl F).size = 256 := by simp [tbl, tblVals]
theorem tbl_one (F : Nat → Nat) : (tbl F).all (·.oneCell') = true := by
  rw [Array.all_eq_true_iff_forall_mem]
  intro v hv
  simp [tbl, tblVals] at hv
  obtain ⟨i, _, rfl⟩ := hv
  rfl
theorem HasTbl.congr {w : World} {b : Nat} {F G : Nat → Nat} (h : HasTbl w b F) (he : ∀ i, i < 256 → F i = G i) : HasTbl w b G := by
  unfold HasTbl at *
  rw [h]
  congr 2
  apply Array.ext'
  simp only [tblVals]
  exact List.map_congr_left fun i hi => by rw [he i (by simpa using hi)]
theorem TT_256 (i : Nat) (h : i < 256) : TT 256 i = 0 := by
  unfold TT
  split
  · rename_i h0
    have : i = 0 := by omega
    subst this; decide
  · rfl
theorem TT_1 (i : Nat) (h : i < 256) : TT 1 i = Crc.st8 i := by unfold TT; rw [if_pos (Nat.mod_one i), Nat.mod_eq_of_lt h]
theorem TT_round : ∀ k, k < 8 → ∀ i, i < 256 → FF (TT (256 / 2 ^ k)) (128 / 2 ^ k) (Crc.stn (k + 1) 1) 256 i = TT (128 / 2 ^ k) i := by decide +kernel
theorem stn_ok : ∀ k, k < 9 → Crc.stn k 1 < 4294967296 := by decide +kernel
theorem stn_succ : ∀ k, k < 8 → Crc.st (Crc.stn k 1) = Crc.stn (k + 1) 1 := by decide +kernel
theorem bit_facts : ∀ k, k < 8 → 1 ≤ 128 / 2 ^ k ∧ 128 / 2 ^ k ≤ 128 ∧ 256 % (2 * (128 / 2 ^ k)) = 0 ∧ 128 / 2 ^ k / 2 = 128 / 2 ^ (k + 1) ∧ 256 / 2 ^ (k + 1) = 128 / 2 ^ k := by decide +kernel
set_option maxRecDepth 100000 in
set_option maxHeartbeats 800000 in
theorem table_any (w : World) :
    Calls Try.prog 44 #[] w fun e w' => e = .returned (.agg (tbl Crc.st8)) ∧ Below w.heap.size w w' := by
  have hz := (zero_of_info info38).1
  go_enter Try.func44, Try.ntmps44
  go_wp2
  go_loopw [3, 4] (fun r i wr => ∃ k bit reg : Nat, k ≤ 8 ∧ bit = 128 / 2 ^ k ∧ reg = Crc.stn k 1 ∧ r = .int .u32 reg ∧ i = .int .i64 bit ∧ HasTbl wr (w.heap.size + 1) (TT (256 / 2 ^ k)) ∧ HasTbl wr w.heap.size (fun _ => 0) ∧ Below w.heap.size w wr) (fun _ i _ => (intOf i).toNat)
  case atStart =>
    refine ⟨0, 128, 1, by omega, rfl, rfl, rfl, rfl, ?_, heap_alloc2_old _ _ _, ((Below.refl _ _).alloc (Nat.le_refl _) _).alloc (by simp) _⟩
    exact HasTbl.congr (F := fun _ => 0) (heap_alloc2_new _ _ _) (fun i hi => (TT_256 i hi).symm)
  case round =>
    obtain ⟨k, bit, reg, hk, hbit, hreg, rfl, rfl, htb, ht0, hbel⟩ := hrel
    by_cases hlt : k < 8
    · have hf := bit_facts k hlt
      rw [← hbit] at hf
      obtain ⟨b1, b2, b3, b4, b5⟩ := hf
      have hrl : reg < 4294967296 := by rw [hreg]; exact stn_ok k (by omega)
      have Hreg := Lib.hid hreg; have Hbit := Lib.hid hbit; have Htb := Lib.hid htb; have Ht0 := Lib.hid ht0; have Hb4 := Lib.hid b4; have Hb5 := Lib.hid b5; have Hb3 := Lib.hid b3
      clear hreg hbit htb ht0 b4 b5 b3
      go_wp2_with fail
      refine (step_any reg _ hrl).mono ?_
      rintro e w' ⟨rfl, rfl⟩
      go_wp2_with fail
      refine (fill_any w' (w.heap.size + 1) (TT (256 / 2 ^ k)) bit (Crc.st reg) b1 b2 Hb3.out (Crc.st_lt hrl) (TT_lt _) Htb.out).mono ?_
      rintro e w1 ⟨rfl, h1, h2⟩
      have H1 := Lib.hid h1; have H2 := Lib.hid h2
      clear h1 h2
      go_wp2_with fail
      have hreg' : Crc.st reg = Crc.stn (k + 1) 1 := by rw [Hreg.out]; exact stn_succ k hlt
      refine ⟨⟨k + 1, bit / 2, Crc.st reg, by omega, by rw [Hbit.out]; exact (bit_facts k hlt).2.2.2.1, hreg', rfl, by simp, ?_, ?_, ?_⟩, ?_⟩
      · refine HasTbl.congr H1.out (fun i hi => ?_)
        have := TT_round k hlt i hi
        rw [hreg', Hbit.out, this, (bit_facts k hlt).2.2.2.2]
      · unfold HasTbl; rw [H2.out.2.2.2.2 _ (by omega)]; exact Ht0.out
      · exact hbel.trans ⟨H2.out.1, H2.out.2.1, H2.out.2.2.1, by rw [H2.out.2.2.2.1]; exact Nat.le_refl _, fun i hi => H2.out.2.2.2.2 i (by omega)⟩
      · simp [intOf]; omega
    · obtain rfl : k = 8 := by omega
      have hb0 : bit = 0 := hbit.trans (by decide)
      subst hb0
      have HB := Lib.hid hbel
      have htf : HasTbl wr (w.heap.size + 1) Crc.st8 := HasTbl.congr htb (fun i hi => TT_1 i hi)
      unfold HasTbl at htf ht0
      have Htf := Lib.hid htf; have Ht0 := Lib.hid ht0
      clear hbit hreg htb htf ht0 hbel
      go_wp2_with (first
        | (refine wpList_load_row rfl 69 (.tmp 1) rfl _ rfl _ (tbl Crc.st8) _ _ Htf.out Try.underlying69 rfl (size38 _) ?_)
        | (refine wpList_store_row rfl 69 (.tmp 0) (.tmp 16) rfl _ _ rfl rfl _ (tbl fun _ => 0) Ht0.out (size38 _) (by rw [tbl_size, tbl_size]) (tbl_one _) ?_))
      have hres : (wr.setRow w.heap.size (tbl Crc.st8)).heap[w.heap.size]? = some (.cells (tbl Crc.st8) 69 (0, 0)) := setRow_heap wr _ _ _ _ _ Ht0.out
      refine bodyPost_ret (results_cell_row Try.results44 _ _ w.heap.size 69 (tbl Crc.st8) (0, 0) _ rfl hres Try.underlying69 rfl (size38 _)) rfl ⟨rfl, ?_⟩
      exact below_setRow HB.out (Nat.le_refl _) _
end Go.Proofs.Ytijbblbaabmfjaa
