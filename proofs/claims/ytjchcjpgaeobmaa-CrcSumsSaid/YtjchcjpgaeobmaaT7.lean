import Derived.Test.YtjchcjpgaeobmaaT6
namespace Go.Proofs.Ytjchcjpgaeobmaa
open Go.RowKit
theorem own_open {w : World} {B n : Nat} {v : Value} {l : List Nat} (h : w.ownsRow B 5 1 v n (bytesV l)) (hn : 0 < n) :
    ∃ g cap cur, v = .slice (some ⟨g, 0, none⟩) n cap ∧ B ≤ g ∧ w.heap[g]? = some (.cells cur 5 (0, 0)) ∧ n ≤ cap ∧ cap ≤ 9223372036854775807 ∧ cur.size = cap ∧ cur.toList.take n = bytesV l := by
  obtain ⟨h1, h2⟩ := h
  rcases h2 with ⟨_, h0⟩ | ⟨g, cap, cur, hv, hg, hh, hc, hm, hs, ht⟩
  · omega
  · exact ⟨g, cap, cur, hv, hg, hh, hc, by unfold maxLen at hm; omega, by simpa using hs, by simpa using ht⟩
theorem own_row {w : World} {g n cap : Nat} {l : List Nat} {cur : Array Value} (hh : w.heap[g]? = some (.cells cur 5 (0, 0))) (hl : l.length = n) (hb : ∀ x ∈ l, x < 256) (hc : n ≤ cap) (hm : cap ≤ 9223372036854775807) (ht : cur.toList.take n = bytesV l) :
    Row w (some ⟨g, 0, none⟩) cap l := by
  refine row_of_block hh hb 0 cap hm (by omega) (fun i x hx => ?_)
  have hi : i < n := by have := (List.getElem?_eq_some_iff.1 hx).1; omega
  have : (cur.toList.take n)[i]? = some (.int .u8 (x : Nat)) := by rw [ht]; simp [bytesV, hx]
  rw [List.getElem?_take, if_pos hi] at this
  simpa using this
theorem own_set {w : World} {g n cap : Nat} {l : List Nat} {cur : Array Value} (hh : w.heap[g]? = some (.cells cur 5 (0, 0))) (hl : l.length = n) (hb : ∀ x ∈ l, x < 256) (hc : n ≤ cap) (hm : cap ≤ 9223372036854775807) (ht : cur.toList.take n = bytesV l)
    (i x : Nat) (hx : x < 256) : Row (w.setCell ⟨g, i, none⟩ (.int .u8 (x : Nat))) (some ⟨g, 0, none⟩) cap (l.set i x) := by
  have hh' := heap_setCell_same w g i cur 5 (.int .u8 (x : Nat)) hh
  refine own_row (n := n) hh' (by simp [hl]) (fun y hy => ?_) hc hm ?_
  · rcases List.mem_or_eq_of_mem_set hy with h1 | h1
    · exact hb y h1
    · omega
  · rw [Array.toList_setIfInBounds, List.take_set, ht]
    simp [bytesV, List.map_set]
theorem Crc.four_byte (s : Nat) : ∀ x ∈ Crc.four s, x < 256 := by
  intro x hx; simp [Crc.four] at hx; omega
set_option maxRecDepth 100000 in
set_option maxHeartbeats 1600000 in
theorem one_big (a : Option Addr) (n cap : Nat) (at_ x : Int) (w : World) (hbig : 2000 < n) (hn : n ≤ 9223372036854775807) :
    Calls Try.prog 4 #[.slice a n cap, .int .i64 at_, .int .u8 x] w (RetBool w.heap.size w true) := by
  go_enter Try.func4, Try.ntmps4
  go_wp2_with fail
  refine (known_any _).mono ?_
  rintro e w1 ⟨rfl, hb⟩
  have Hb := Lib.hid hb; clear hb
  go_wp2_with fail
  go_ret
  exact ⟨rfl, Hb.out⟩
theorem u64_wrap_bounds (n : Int) : 0 ≤ IntKind.u64.wrap n ∧ IntKind.u64.wrap n < 18446744073709551616 := by
  simp [IntKind.wrap, IntKind.bits, IntKind.signed]
  omega
set_option maxRecDepth 100000 in
set_option maxHeartbeats 1600000 in
theorem one_small (a : Option Addr) (n cap : Nat) (at_ : Int) (x : Nat) (l : List Nat) (w : World) (hsm : n ≤ 2000) (hr : Row w a cap l) (hn : l.length = n) (hx : x < 256) :
    Calls Try.prog 4 #[.slice a n cap, .int .i64 at_, .int .u8 x] w (RetBool w.heap.size w true) := by
  have Hr := Lib.hid hr; have Hn := Lib.hid hn; clear hr hn
  go_enter Try.func4, Try.ntmps4
  go_wp2_with fail
  refine (append_any a n cap l w Hr.out Hn.out (by omega)).mono ?_
  rintro e w1 ⟨v, rfl, hown, hbel⟩
  have hlen : (l ++ Crc.four (Crc.sum l)).length = n + 4 := by rw [List.length_append, Hn.out]; rfl
  rw [hlen] at hown
  obtain ⟨g, cap', cur, rfl, hg, hblk, hc1, hc2, hcs, htake⟩ := own_open hown (by omega)
  obtain ⟨L, hL⟩ : ∃ L, L = l ++ Crc.four (Crc.sum l) := ⟨_, rfl⟩
  rw [← hL] at hlen htake
  have hLb : ∀ y ∈ L, y < 256 := by
    intro y hy; rw [hL, List.mem_append] at hy
    rcases hy with h | h
    · exact Hr.out.byte y h
    · exact Crc.four_byte _ y h
  have hrow := own_row hblk hlen hLb hc1 hc2 htake
  have HL := Lib.hid hL; have Hlen := Lib.hid hlen; have Hblk := Lib.hid hblk; have Htake := Lib.hid htake; have HLb := Lib.hid hLb; have Hrow := Lib.hid hrow; have Hbel := Lib.hid hbel; have Hcs := Lib.hid hcs
  clear hL hlen hblk htake hLb hrow hbel hown hcs
  go_wp2_with fail
  refine (ends_any _ (n + 4) cap' L _ Hrow.out Hlen.out).mono ?_
  have he : Crc.ends L = true := by rw [HL.out]; exact Crc.ends_append l
  rw [he]
  rintro e w2 ⟨rfl, hb2⟩
  have Hb2 := Lib.hid hb2; clear hb2 he
  obtain ⟨i, hi1, hi2⟩ : ∃ i : Nat, (IntKind.u64.wrap at_).tmod ((n : Int) + 4) = (i : Int) ∧ i < n + 4 := by
    have h1 := u64_wrap_bounds at_
    have h2 := Int.emod_nonneg (IntKind.u64.wrap at_) (b := (n : Int) + 4) (by omega)
    have h3 := Int.emod_lt_of_pos (IntKind.u64.wrap at_) (b := (n : Int) + 4) (by omega)
    refine ⟨((IntKind.u64.wrap at_) % ((n : Int) + 4)).toNat, ?_, by omega⟩
    rw [Int.tmod_eq_emod_of_nonneg h1.1]; omega
  have hblk2 : w2.heap[g]? = some (.cells cur 5 (0, 0)) := (Hb2.out.block g (by have := (Array.getElem?_eq_some_iff.1 Hblk.out).1; exact this)).trans Hblk.out
  obtain ⟨y, hy⟩ : ∃ y, y = L.getD i 0 := ⟨_, rfl⟩
  have hrow2 := own_row hblk2 Hlen.out HLb.out hc1 hc2 Htake.out
  have hcell : w2.cell? ⟨g, i, none⟩ = some (.int .u8 (y : Nat)) := by
    obtain ⟨p, hp, hc⟩ := hrow2.2.2.2.2 i y (by rw [hy]; simp [List.getD, Hlen.out, hi2])
    obtain rfl := Option.some.inj hp
    simpa [Addr.add_mid] using hc
  have hfr : w2.frozen? ⟨g, i, none⟩ = false := frozen_of_row w2 g i cur 5 hblk2
  have hrow3 := own_set hblk2 Hlen.out HLb.out hc1 hc2 Htake.out i x hx
  have hlen3 : (L.set i x).length = n + 4 := by rw [List.length_set]; exact Hlen.out
  obtain ⟨r, hr⟩ : ∃ r, r = (x == y) := ⟨_, rfl⟩
  have hcmp : ((x : Int) == (y : Int)) = r := by rw [hr, Bool.eq_iff_iff]; simp; omega
  have he3 : Crc.ends (L.set i x) = r := by
    rw [hr, hy, HL.out]
    exact Crc.ends_set l i x Hr.out.byte hx (by rw [Hn.out]; exact hi2)
  have hbel2 : Below w.heap.size w (w2.setCell ⟨g, i, none⟩ (.int .u8 (x : Nat))) := (Hbel.out.trans (Hb2.out.mono Hbel.out.size)).setCell hg _
  have Hrow3 := Lib.hid hrow3; have Hlen3 := Lib.hid hlen3; have He3 := Lib.hid he3; have Hbel2 := Lib.hid hbel2; have Hy := Lib.hid hy; have HR := Lib.hid hr
  clear hblk2 hrow2 hrow3 hlen3 he3 hbel2 hy hr
  go_wp2_with fail
  refine (ends_any _ (n + 4) cap' (L.set i x) _ Hrow3.out Hlen3.out).mono ?_
  rw [He3.out]
  rintro e w3 ⟨rfl, hb3⟩
  have Hb3 := Lib.hid hb3; clear hb3
  go_wp2_with fail
  refine (known_any _).mono ?_
  rintro e w4 ⟨rfl, hb4⟩
  have Hb4 := Lib.hid hb4; clear hb4
  go_wp2_with fail
  go_ret
  have h3 := Hbel2.out.trans (Hb3.out.mono Hbel2.out.size)
  exact ⟨rfl, h3.trans (Hb4.out.mono h3.size)⟩
end Go.Proofs.Ytjchcjpgaeobmaa
