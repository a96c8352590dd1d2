import Derived.Test.YtijbblbaabmfjaaCrc9
namespace Go.Proofs.Ytijbblbaabmfjaa
open Go.RowKit
set_option maxRecDepth 100000 in
set_option maxHeartbeats 1600000 in
theorem refsum_any (a : Option Addr) (n cap : Nat) (l : List Nat) (w : World) (hr : Row w a cap l) (hn : l.length = n) (hsmall : n ≤ 1000000) :
    Calls Try.prog 36 #[.slice a n cap] w fun e w' => e = .returned (.int .u32 (Crc.sum l : Nat)) ∧ Below w.heap.size w w' := by
  have Hr := Lib.hid hr; have Hn := Lib.hid hn; clear hr hn
  go_enter Try.func36, Try.ntmps36
  go_wp2_with fail
  refine (row_any a n cap l w Hr.out Hn.out hsmall).mono ?_
  rintro e w1 ⟨g, rfl, hg, hb, hbel⟩
  have Hb := Lib.hid hb; have Hbel := Lib.hid hbel; clear hb hbel
  go_wp2_with fail
  go_loopw [4] (fun i wr => ∃ (k : Nat) (F : Nat → Bool), k ≤ 8 * n ∧ i = .int .i64 k ∧ HasB wr g (8 * n + 32) F ∧ (∀ j, k ≤ j → F j = Crc.rowAt l k j) ∧ Below w.heap.size w wr) (fun i _ => 8 * n - (intOf i).toNat)
  case atStart => exact ⟨0, _, by omega, rfl, Hb.out, fun j _ => (Crc.rowAt_zero l j).symm, Hbel.out⟩
  case round =>
    obtain ⟨k, F, hk, rfl, hb, hF, hbel⟩ := hrel
    have Hb := Lib.hid hb; have Hbl := Lib.hid hbel; have HF := Lib.hid hF; clear hb hF hbel
    by_cases hlt : k < 8 * n
    · have hdk : decide ((k : Int) < 8 * (n : Int)) = true := by simp; omega
      have hcell := Hb.out.cell k (by omega)
      obtain ⟨x, hx⟩ : ∃ x, x = F k := ⟨_, rfl⟩
      rw [← hx] at hcell
      have hxr : x = Crc.rowAt l k k := by rw [hx]; exact HF.out k (Nat.le_refl _)
      have Hx := Lib.hid hx; have Hxr := Lib.hid hxr; clear hx hxr
      cases x with
      | false =>
        have hF2 : ∀ j, k + 1 ≤ j → F j = Crc.rowAt l (k + 1) j := fun j hj => by
          rw [Crc.rowAt_step l k j (by omega), ← Hxr.out, HF.out j (by omega)]; simp
        have HF2 := Lib.hid hF2; clear hF2
        go_wp2_with fail
        exact ⟨⟨k + 1, F, by omega, by go_num, Hb.out, HF2.out, Hbl.out⟩, by simp [intOf]; omega⟩
      | true =>
        go_wp2_with fail
        go_loopw [5] (fun i wq => ∃ (m : Nat) (G : Nat → Bool), 1 ≤ m ∧ m ≤ 33 ∧ i = .int .i64 m ∧ HasB wq g (8 * n + 32) G ∧ (∀ j, k < j → G j = (Crc.rowAt l k j != (decide (j < k + m) && Crc.div32 (32 - (j - k))))) ∧ Below w.heap.size w wq) (fun i _ => 33 - (intOf i).toNat)
        case atStart =>
          refine ⟨1, F, by omega, by omega, rfl, Hb.out, fun j hj => ?_, Hbl.out⟩
          have : decide (j < k + 1) = false := by simp; omega
          rw [this, HF.out j (by omega)]; simp
        case round =>
          obtain ⟨m, G, hm1, hm2, rfl, hb, hG, hbel⟩ := hrel
          have Hbq := Lib.hid hb; have Hbw := Lib.hid hbel; have HG := Lib.hid hG; clear hb hG hbel
          by_cases hlt2 : m ≤ 32
          · obtain ⟨y, hy⟩ : ∃ y, y = G (k + m) := ⟨_, rfl⟩
            have hcell2 := Hbq.out.cell (k + m) (by omega)
            rw [← hy] at hcell2
            have hfr := Hbq.out.frozen (k + m)
            have hgl := Hbq.out.lt
            obtain ⟨d, hd⟩ : ∃ d, d = divB (32 - m) := ⟨_, rfl⟩
            have hdc : ∀ w', Calls Try.prog 42 #[.int .i64 (32 - (m : Int))] w' fun e w1 => e = .returned (.bool d) ∧ Below w'.heap.size w' w1 := fun w' => by
              have := divisor_any (32 - m) w'
              rw [show ((32 - m : Nat) : Int) = 32 - (m : Int) from by omega, ← hd] at this
              exact this
            have s1 : IntKind.i64.wrap ((k : Int) + (m : Int)) = (k : Int) + (m : Int) := IntWalk.i64_in _ (by omega)
            have s2 : IntKind.i64.wrap (32 - (m : Int)) = 32 - (m : Int) := IntWalk.i64_in _ (by omega)
            have s3 : (0 : Int) ≤ (k : Int) + (m : Int) := by omega
            have s4 : (k : Int) + (m : Int) < 8 * (n : Int) + 32 := by omega
            have s5 : ((k : Int) + (m : Int)).toNat = k + m := by omega
            have hb0 := Below.refl wr.heap.size wr
            have Hdc := Lib.hid hdc; have Hd := Lib.hid hd; have Hy := Lib.hid hy
            clear hdc hd hy
            go_wp2_with fail
            go_region_law (first | (go_simp; go_at_call 42; refine (Hdc.out _).mono ?_; rintro e w1 ⟨rfl, hbw⟩; have hbw2 : Below wr.heap.size wr w1 := hb0.drew.trans hbw; have hc1 : w1.cell? ⟨g, k + m, none⟩ = some (.bool y) := (Below.cell hbw2 (by exact hgl)).trans hcell2; have hf1 : w1.frozen? ⟨g, k + m, none⟩ = false := (Below.frozen hbw2 (by exact hgl)).trans hfr))
            all_goals
              have hbx : Below wr.heap.size wr w1 := by assumption
              have hset := (Hbq.out.below hbx hgl).set (G := fun j => if j = k + m then (!y == d) else G j) (k + m) (!y == d) (by simp) (fun j _ hj => by simp [hj])
              have hbl2 := (Hbw.out.trans (hbx.mono Hbw.out.size)).setCell (p := ⟨g, k + m, none⟩) hg (.bool (!y == d))
              have hG2 : ∀ j, k < j → (if j = k + m then (!y == d) else G j) = (Crc.rowAt l k j != (decide (j < k + (m + 1)) && Crc.div32 (32 - (j - k)))) := by
                intro j hj
                by_cases hjm : j = k + m
                · rw [if_pos hjm, Hy.out, HG.out (k + m) (by omega), Hd.out, hjm]
                  have e1 : decide (k + m < k + m) = false := by simp
                  have e2 : decide (k + m < k + (m + 1)) = true := by simp
                  have e3 : Crc.div32 (32 - (k + m - k)) = divB (32 - m) := by rw [show k + m - k = m from by omega]; rfl
                  rw [e1, e2, e3]
                  cases Crc.rowAt l k (k + m) <;> cases divB (32 - m) <;> rfl
                · rw [if_neg hjm, HG.out j hj]
                  have : decide (j < k + (m + 1)) = decide (j < k + m) := by rw [decide_eq_decide]; omega
                  rw [this]
              have Hset := Lib.hid hset; have Hbl2 := Lib.hid hbl2; have HG2 := Lib.hid hG2
              clear hset hbl2 hG2
              go_wp2_with fail
              exact ⟨⟨m + 1, _, by omega, by omega, by go_num, Hset.out, HG2.out, Hbl2.out⟩, by simp [intOf]; omega⟩
          · obtain rfl : m = 33 := by omega
            have hF2 : ∀ j, k + 1 ≤ j → G j = Crc.rowAt l (k + 1) j := fun j hj => by
              rw [Crc.rowAt_step l k j (by omega), ← Hxr.out, HG.out j (by omega)]
              have : decide (j < k + 33) = decide (j ≤ k + 32) := by rw [decide_eq_decide]; omega
              rw [this]; simp
            have HF2 := Lib.hid hF2; clear hF2
            go_wp2_with fail
            exact ⟨⟨k + 1, G, by omega, by go_num, Hbq.out, HF2.out, Hbw.out⟩, by simp [intOf]; omega⟩
    · obtain rfl : k = 8 * n := by omega
      obtain ⟨r, hr⟩ : ∃ r, r = Crc.rg l (8 * n) := ⟨_, rfl⟩
      have hrl : r < 4294967296 := by rw [hr]; exact Crc.rg_lt l _
      have hcells : ∀ j, j < 32 → F (8 * n + j) = r.testBit j := fun j hj => by
        rw [HF.out _ (by omega), hr, ← Hn.out]; exact Crc.rowAt_end l j hj
      have hfin : 4294967295 - r = Crc.sum l := by rw [hr, ← Hn.out]; exact Crc.sum_rg l Hr.out.byte
      have HR := Lib.hid hr; have Hcells := Lib.hid hcells; have Hfin := Lib.hid hfin
      clear hr hcells hfin
      go_wp2_with fail
      go_loop [6, 7] (fun s i => ∃ (m q : Nat), m ≤ 32 ∧ i = .int .i64 ((m : Int) - 1) ∧ s = .int .u32 (q : Nat) ∧ q = (4294967295 - r) / 2 ^ m) (fun _ i => (intOf i + 1).toNat)
      case atStart =>
        refine ⟨32, 0, by omega, rfl, rfl, ?_⟩
        rw [Nat.div_eq_of_lt (by omega)]
      case round =>
        obtain ⟨m, q, hm, rfl, rfl, hq⟩ := hrel
        have Hq := Lib.hid hq; clear hq
        by_cases h0 : 1 ≤ m
        · obtain ⟨y, hy⟩ : ∃ y, y = r.testBit (m - 1) := ⟨_, rfl⟩
          have hcell := Hb.out.cell (8 * n + (m - 1)) (by omega)
          rw [Hcells.out (m - 1) (by omega), ← hy] at hcell
          have hq31 : q < 2147483648 := by
            have h1 : 2 ^ 1 ≤ 2 ^ m := Nat.pow_le_pow_right (by decide) h0
            have h2 : (4294967295 - r) / 2 ^ m ≤ (4294967295 - r) / 2 ^ 1 := Nat.div_le_div_left h1 (by decide)
            rw [Hq.out]; omega
          have hstep : (4294967295 - r) / 2 ^ (m - 1) = 2 * q + (if y then 0 else 1) := by
            have e1 : (4294967295 - r) / 2 ^ m = (4294967295 - r) / 2 ^ (m - 1) / 2 := by
              rw [Nat.div_div_eq_div_mul, ← Nat.pow_succ]; congr 2; omega
            have e2 : (4294967295 - r).testBit (m - 1) = !y := by
              have := @Nat.testBit_two_pow_sub_succ r 32 (by simpa using hrl) (m - 1)
              rw [show 2 ^ 32 - (r + 1) = 4294967295 - r from by omega] at this
              rw [this, ← hy]; simp; omega
            have e3 : (4294967295 - r).testBit (m - 1) = decide ((4294967295 - r) / 2 ^ (m - 1) % 2 = 1) := Nat.testBit_eq_decide_div_mod_eq
            rw [e3] at e2
            rw [Hq.out, e1]
            cases y
            · simp at e2; simp; omega
            · simp at e2; simp; omega
          have Hy := Lib.hid hy; have Hstep := Lib.hid hstep
          clear hy hstep
          cases y with
          | true =>
            go_wp2_with fail
            refine ⟨⟨m - 1, 2 * q, by omega, ?_, ?_, ?_⟩, ?_⟩
            · congr 1; omega
            · congr 1; omega
            · have := Hstep.out; simp at this; omega
            · simp [intOf]; omega
          | false =>
            go_wp2_with fail
            refine ⟨⟨m - 1, 2 * q + 1, by omega, ?_, ?_, ?_⟩, ?_⟩
            · congr 1; omega
            · congr 1; omega
            · have := Hstep.out; simp at this; omega
            · simp [intOf]; omega
        · obtain rfl : m = 0 := by omega
          have hq2 : q = Crc.sum l := by rw [Hq.out, ← Hfin.out]; simp
          have Hq2 := Lib.hid hq2; clear hq2
          go_wp2_with fail
          go_ret
          exact ⟨ret_int (by rw [Hq2.out]), Hbl.out⟩
end Go.Proofs.Ytijbblbaabmfjaa
