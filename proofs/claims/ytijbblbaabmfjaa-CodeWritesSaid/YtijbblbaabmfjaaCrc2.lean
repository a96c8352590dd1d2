import Derived.Test.YtijbblbaabmfjaaCrc1
namespace Go.Proofs.Ytijbblbaabmfjaa
open Go.RowKit
theorem xor8 {r x : Nat} (hx : x < 256) : (r % 256) ^^^ x < 256 := Nat.xor_lt_two_pow (n := 8) (by omega) (by omega)
theorem max_xor (s : Nat) (hs : s < 4294967296) : (4294967295 : Nat) ^^^ s = 4294967295 - s := by
  apply Nat.eq_of_testBit_eq
  intro i
  rw [Nat.testBit_xor]
  have h1 : (4294967295 : Nat).testBit i = decide (i < 32) := by
    have := Nat.testBit_two_pow_sub_one 32 i
    simpa using this
  have h2 : (4294967295 - s).testBit i = (decide (i < 32) && !s.testBit i) := by
    have := @Nat.testBit_two_pow_sub_succ s 32 (by simpa using hs) i
    have e : 2 ^ 32 - (s + 1) = 4294967295 - s := by omega
    rw [e] at this; exact this
  rw [h1, h2]
  by_cases hi : i < 32
  · simp [hi]
  · have : s.testBit i = false := Nat.testBit_lt_two_pow (Nat.lt_of_lt_of_le hs (by
      have := Nat.pow_le_pow_right (n := 2) (by decide) (Nat.le_of_not_lt hi); simpa using this))
    simp [hi, this]
set_option maxRecDepth 100000 in
set_option maxHeartbeats 800000 in
theorem more_any (s : Nat) (hs : s < 4294967296) (a : Option Addr) (n cap : Nat) (l : List Nat) (w : World) (hr : Row w a cap l) (hn : l.length = n) :
    Calls Try.prog 43 #[.int .u32 s, .slice a n cap] w fun e w' => e = .returned (.int .u32 (Crc.more s l : Nat)) ∧ Below w.heap.size w w' := by
  have hz := (zero_of_info info38).1
  have hcap := hr.cap
  have hle : n ≤ cap := by rw [← hn]; exact hr.le
  by_cases h0 : n = 0
  · subst h0
    have hl : l = [] := List.eq_nil_of_length_eq_zero hn
    subst hl
    have H := Lib.hid (Crc.more_nil s hs)
    clear hr hn
    go_enter Try.func43, Try.ntmps43
    go_wp2
    go_ret
    exact ⟨ret_int (by rw [H.out]), Below.refl _ _⟩
  · obtain ⟨b, off, rfl, hb, hc⟩ := hr.opened (by omega)
    have hne : ((n : Int) == 0) = false := by simp; omega
    have hbyte := hr.byte
    obtain ⟨r0, hr0d⟩ : ∃ r0 : Nat, r0 = 4294967295 - s := ⟨_, rfl⟩
    have hr0 : r0 < 4294967296 := by omega
    have hxs : bits .xor .u32 IntKind.u32.max (s : Int) = (r0 : Int) := by
      have h1 := u32_xor_nat 4294967295 s (by omega) hs
      have h2 : (4294967295 : Nat) ^^^ s = r0 := by rw [hr0d]; exact max_xor s hs
      rw [h2] at h1; exact h1
    have Hr0 := Lib.hid hr0d; clear hr0d
    have Hn := Lib.hid hn; have Hc := Lib.hid hc; have Hb := Lib.hid hbyte
    clear hr hn hc hbyte
    go_enter Try.func43, Try.ntmps43
    go_wp2_with fail
    refine (table_any _).mono ?_
    rintro e w1 ⟨rfl, hb1⟩
    have Hb1 := Lib.hid hb1
    clear hb1
    go_wp2_with (refine wpList_store_row rfl 69 (.tmp 5) (.tmp 13) rfl _ _ rfl rfl _ (tbl fun _ => 0) (heap_alloc_new _ _) (size38 _) (by rw [tbl_size, tbl_size]) (tbl_one _) ?_)
    generalize hW : (w1.alloc (Obj.cells (tbl fun _ => 0) 69)).setRow w1.heap.size (tbl Crc.st8) = W
    have htb : HasTbl W w1.heap.size Crc.st8 := by subst hW; exact setRow_heap _ _ _ _ _ _ (heap_alloc_new _ _)
    have hbel : Below w.heap.size w W := by subst hW; exact below_setRow (Hb1.out.alloc Hb1.out.size _) Hb1.out.size _
    have Htb := Lib.hid htb; have Hbel := Lib.hid hbel; have HW := Lib.hid hW
    clear htb hbel hW
    go_loop [6, 18] (fun r i => ∃ k reg : Nat, k ≤ n ∧ i = .int .i64 k ∧ r = .int .u32 reg ∧ reg < 4294967296 ∧ reg = Crc.run r0 (l.take k)) (fun _ i => n - (intOf i).toNat)
    case atStart => exact ⟨0, r0, by omega, rfl, rfl, hr0, rfl⟩
    case round =>
      obtain ⟨k, reg, hk, rfl, rfl, hreg, hrun⟩ := hrel
      have Hrun := Lib.hid hrun; clear hrun
      by_cases hlt : k < n
      · obtain ⟨x, hx⟩ : ∃ x, x = l.getD k 0 := ⟨_, rfl⟩
        have hcell : W.cell? ⟨b, off + k, none⟩ = some (.int .u8 (x : Nat)) := by rw [Hbel.out.cell (by exact hb), Hc.out k (by rw [Hn.out]; exact hlt), hx]
        have hxl : x < 256 := Hb.out x (by rw [hx]; simp [List.getD, show k < l.length from by rw [Hn.out]; exact hlt])
        obtain ⟨j, hjd⟩ : ∃ j, j = (reg % 256) ^^^ x := ⟨_, rfl⟩
        have hj : j < 256 := by rw [hjd]; exact xor8 hxl
        have e1 : bits .xor .u8 ((reg : Int) % 256) (x : Int) = (j : Int) := by
          have := u8_xor_nat (reg % 256) x (by omega) hxl
          rw [hjd]; simpa using this
        obtain ⟨t, htd⟩ : ∃ t, t = Crc.st8 j := ⟨_, rfl⟩
        have hcell2 : W.cell? ⟨w1.heap.size, j, none⟩ = some (.int .u32 (t : Nat)) := by rw [htd]; exact Htb.out.cell j hj
        have htl : t < 4294967296 := by rw [htd]; exact Crc.st8_lt (by omega)
        obtain ⟨y, hyd⟩ : ∃ y, y = t ^^^ (reg / 256) := ⟨_, rfl⟩
        have e2 : bits .xor .u32 (t : Int) ((reg : Int) / 256) = (y : Int) := by
          have := u32_xor_nat t (reg / 256) htl (by omega)
          rw [hyd]; simpa using this
        have Hx := Lib.hid hx; have Hj := Lib.hid hjd; have Ht := Lib.hid htd; have Hy := Lib.hid hyd; clear hx hjd htd hyd
        go_wp2
        have hy2 : y = Crc.byteStep reg x := by rw [Hy.out, Ht.out, Hj.out]; rfl
        refine ⟨⟨k + 1, y, by omega, by go_num, rfl, ?_, ?_⟩, ?_⟩
        · rw [hy2]; exact Crc.byteStep_lt hreg hxl
        · have : l.take (k + 1) = l.take k ++ [x] := by
            rw [List.take_succ_eq_append_getElem (by rw [Hn.out]; exact hlt), Hx.out]
            simp [List.getD, show k < l.length from by rw [Hn.out]; exact hlt]
          rw [hy2, this, Crc.run_snoc, ← Hrun.out]
        · simp [intOf]; omega
      · obtain rfl : k = n := by omega
        have e3 : bits .xor .u32 IntKind.u32.max (reg : Int) = ((4294967295 - reg : Nat) : Int) := by
          have h1 := u32_xor_nat 4294967295 reg (by omega) hreg
          rw [max_xor reg hreg] at h1; exact h1
        have hfin : (4294967295 - reg : Nat) = Crc.more s l := by
          unfold Crc.more
          rw [Hrun.out, Hr0.out, List.take_of_length_le (by rw [Hn.out]; exact Nat.le_refl _)]
        rw [hfin] at e3
        have Hfin := Lib.hid hfin; clear hfin
        go_wp2
        go_ret
        exact ⟨rfl, Hbel.out⟩
end Go.Proofs.Ytijbblbaabmfjaa
