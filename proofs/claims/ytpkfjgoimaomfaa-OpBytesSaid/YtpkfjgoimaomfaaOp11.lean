import Derived.Test.YtpkfjgoimaomfaaOp7
namespace Go.Proofs.Ytpkfjgoimaomfaa
open Go.RowKit Go.Buf Go.Maps
set_option linter.unusedSimpArgs false
set_option linter.unusedVariables false
theorem litS1 (w : World) (s : ByteArray) (hs : s.size ≤ 100) : SRow (w.alloc (.cells #[.string s] 9)) (some ⟨w.heap.size, 0, none⟩) 1 [s] := by
  refine ⟨by simp, by omega, by simp; omega, (fun e => by cases e), fun i e he => ⟨_, rfl, ?_⟩⟩
  have hi : i < 1 := by have := (List.getElem?_eq_some_iff.1 he).1; simpa using this
  obtain rfl : i = 0 := by omega
  simp at he; subst he
  simp [Addr.add]
theorem litS2 (w : World) (s t : ByteArray) (hs : s.size ≤ 100) (ht : t.size ≤ 100) : SRow (w.alloc (.cells #[.string s, .string t] 9)) (some ⟨w.heap.size, 0, none⟩) 2 [s, t] := by
  refine ⟨by simp, by omega, by simp; omega, (fun e => by cases e), fun i e he => ⟨_, rfl, ?_⟩⟩
  have hi : i < 2 := by have := (List.getElem?_eq_some_iff.1 he).1; simpa using this
  obtain rfl | rfl : i = 0 ∨ i = 1 := by omega
  all_goals
    simp at he; subst he
    simp [Addr.add]
theorem litD2 (w : World) (d e : Dt.Dot) (hd : Dt.okD d) (he : Dt.okD e) (x y z x' y' z' : Int) (hx : x = d.1.1) (hy : y = d.1.2) (hz : z = d.2) (hx' : x' = e.1.1) (hy' : y' = e.1.2) (hz' : z' = e.2) :
    VRow (w.alloc (.cells #[.int .u8 x, .int .u32 y, .int .u64 z, .int .u8 x', .int .u32 y', .int .u64 z'] 27)) (some ⟨w.heap.size, 0, none⟩) 2 [d, e] := by
  subst hx; subst hy; subst hz; subst hx'; subst hy'; subst hz'
  refine ⟨by simp, by omega, (fun q hq => by simp at hq; rcases hq with rfl | rfl <;> assumption), (fun e => by cases e), fun i q hq => ⟨_, rfl, ?_⟩⟩
  have hi : i < 2 := by have := (List.getElem?_eq_some_iff.1 hq).1; simpa using this
  obtain rfl | rfl : i = 0 ∨ i = 1 := by omega
  all_goals
    simp at hq; subst hq
    simp [Addr.add]
def Om.small (o : Om.O) : Prop := (∀ s ∈ o.path, s.size ≤ 100) ∧ o.path.length ≤ 20 ∧ o.text.size ≤ 200 ∧ o.dots.length ≤ 100
/-- what great tells -/
def GreatR (o : Om.O) (e : Ending) : Prop := ∃ b : Bool, e = .returned (.bool b) ∧ (b = false → Om.small o)
set_option maxRecDepth 100000 in
set_option maxHeartbeats 1600000 in
theorem great_any (k : Nat) (pa : Option Addr) (pl pc : Nat) (n : Int) (t : ByteArray) (da : Option Addr) (dl dc : Nat) (p : List ByteArray) (d : List Dt.Dot) (W : World) (hp : SRow W pa pc p) (hpl : p.length = pl) (hr : VRow W da dc d) (hdl : d.length = dl) :
    Calls Try.prog 5 #[opV k pa pl pc n t da dl dc] W fun e w' => GreatR ⟨k, p, n, t, d⟩ e ∧ Below W.heap.size W w' := by
  have hle := hp.le
  have hcap := hp.cap
  rw [hpl] at hle
  have HP := Lib.hid hp; have HPl := Lib.hid hpl; have HR := Lib.hid hr; have HDl := Lib.hid hdl
  have HBox := Lib.hid (below_box W #[.int .u8 (k : Int), .slice pa pl pc, .int .i64 n, .string t, .slice da dl dc] 31)
  clear hp hpl hr hdl
  go_enter Try.func5, Try.ntmps5
  go_wp2_with fail
  go_loopw [4, 8] (fun _ i wr => ∃ j : Nat, j ≤ pl ∧ i = .int .i64 j ∧ (∀ s ∈ p.take j, s.size ≤ 100) ∧ Below (W.alloc (.cells #[.int .u8 (k : Int), .slice pa pl pc, .int .i64 n, .string t, .slice da dl dc] 31)).heap.size (W.alloc (.cells #[.int .u8 (k : Int), .slice pa pl pc, .int .i64 n, .string t, .slice da dl dc] 31)) wr) (fun _ i _ => pl - (intOf i).toNat)
  case atStart => exact ⟨0, Nat.zero_le _, rfl, by simp, Below.refl _ _⟩
  case round =>
    obtain ⟨j, hj, rfl, hu, hbel⟩ := hrel
    obtain ⟨hc0, hc1, hc2, hc3, hc4⟩ := opcells hbel
    have HU := Lib.hid hu; have HBel := Lib.hid hbel; clear hu hbel
    by_cases hlt : j < pl
    · obtain ⟨s, hs⟩ := gets_some (l := p) (i := j) (by rw [HPl.out]; exact hlt)
      have hr1 := HP.out.below HBox.out
      obtain ⟨b, off, rfl, hb, hc⟩ := hr1.at (by rw [HPl.out]; omega)
      clear hr1
      have q := (HBel.out.cell (p := ⟨b, off + j, none⟩) hb).trans (hc j s hs)
      have HS := Lib.hid hs
      clear hc hs
      have i0 : (0 : Int) ≤ (j : Int) := by omega
      have i1 : (j : Int) < (pl : Int) := by omega
      by_cases h100 : s.size ≤ 100
      · go_wp2_with fail
        go_roundw
        case rel =>
          refine ⟨j + 1, by omega, by go_num, ?_, HBel.out⟩
          obtain ⟨h1, e⟩ := List.getElem?_eq_some_iff.1 HS.out
          rw [List.take_succ_eq_append_getElem h1]
          intro x hx
          rcases List.mem_append.1 hx with hx | hx
          · exact HU.out x hx
          · simp at hx; subst hx; rw [e]; exact h100
        case measure => simp [intOf]; omega
      · go_wp2_with fail
        go_ret
        exact ⟨⟨true, ret_bool rfl, fun h => by cases h⟩, HBox.out.trans (HBel.out.mono HBox.out.size)⟩
    · have hu := HU.out
      rw [List.take_of_length_le (by rw [HPl.out]; omega)] at hu
      have HU2 := Lib.hid hu; clear hu HU
      go_wp2_with fail
      all_goals
        go_ret
        refine ⟨⟨_, ret_bool rfl, fun h => ⟨HU2.out, ?_⟩⟩, HBox.out.trans (HBel.out.mono HBox.out.size)⟩
        have h1 := HPl.out; have h2 := HDl.out
        simp at *
        try omega
set_option maxRecDepth 100000 in
set_option maxHeartbeats 1600000 in
theorem known04_any (W : World) : Calls Try.prog 6 #[] W fun e w' => e = .returned (.bool true) ∧ Below W.heap.size W w' := by
  go_enter Try.func6, Try.ntmps6
  go_wp2_with fail
  have hsz : ((W.alloc (.cells #[.int .u8 0, .int .u32 1, .int .u64 2] 27)).alloc (.cells #[.int .u8 0, .int .u32 1, .int .u64 1] 27)).heap.size = W.heap.size + 1 + 1 := by simp
  have hb0 := (below_box W #[.int .u8 0, .int .u32 1, .int .u64 2] 27).alloc (below_box W #[.int .u8 0, .int .u32 1, .int .u64 2] 27).size (.cells #[.int .u8 0, .int .u32 1, .int .u64 1] 27)
  have k0 : ((W.alloc (.cells #[.int .u8 0, .int .u32 1, .int .u64 2] 27)).alloc (.cells #[.int .u8 0, .int .u32 1, .int .u64 1] 27)).cell? ⟨W.heap.size, 0, none⟩ = some (.int .u8 0) := by simp
  have k1 : ((W.alloc (.cells #[.int .u8 0, .int .u32 1, .int .u64 2] 27)).alloc (.cells #[.int .u8 0, .int .u32 1, .int .u64 1] 27)).cell? ⟨W.heap.size, 1, none⟩ = some (.int .u32 1) := by simp
  have k2 : ((W.alloc (.cells #[.int .u8 0, .int .u32 1, .int .u64 2] 27)).alloc (.cells #[.int .u8 0, .int .u32 1, .int .u64 1] 27)).cell? ⟨W.heap.size, 2, none⟩ = some (.int .u64 2) := by simp
  have k3 : ((W.alloc (.cells #[.int .u8 0, .int .u32 1, .int .u64 2] 27)).alloc (.cells #[.int .u8 0, .int .u32 1, .int .u64 1] 27)).cell? ⟨W.heap.size + 1, 0, none⟩ = some (.int .u8 0) := by simp
  have k4 : ((W.alloc (.cells #[.int .u8 0, .int .u32 1, .int .u64 2] 27)).alloc (.cells #[.int .u8 0, .int .u32 1, .int .u64 1] 27)).cell? ⟨W.heap.size + 1, 1, none⟩ = some (.int .u32 1) := by simp
  have k5 : ((W.alloc (.cells #[.int .u8 0, .int .u32 1, .int .u64 2] 27)).alloc (.cells #[.int .u8 0, .int .u32 1, .int .u64 1] 27)).cell? ⟨W.heap.size + 1, 2, none⟩ = some (.int .u64 1) := by simp
  generalize (W.alloc (.cells #[.int .u8 0, .int .u32 1, .int .u64 2] 27)).alloc (.cells #[.int .u8 0, .int .u32 1, .int .u64 1] 27) = X at *
  have HW := Lib.hid hb0; clear hb0
  have hs := litS1 X ⟨#[97]⟩ (by decide)
  rw [hsz] at hs
  have h1 := opmay_any 1 (by omega) (some ⟨W.heap.size + 1 + 1, 0, none⟩) 1 1 5 ⟨#[]⟩ none 0 0 [⟨#[97]⟩] [] _ hs rfl (VRow.nil _) rfl
  rw [show Om.may ⟨1, [⟨#[97]⟩], 5, ⟨#[]⟩, []⟩ = true from by decide +kernel] at h1
  refine h1.mono ?_
  clear h1 hs
  rintro e w1 ⟨rfl, hb⟩
  have hb1 := (below_box X #[.string ⟨#[97]⟩] 9).trans (hb.mono (by simp))
  clear hb
  replace k0 := (hb1.cell (World.block_lt_of_cell? _ _ k0)).trans k0
  replace k1 := (hb1.cell (World.block_lt_of_cell? _ _ k1)).trans k1
  replace k2 := (hb1.cell (World.block_lt_of_cell? _ _ k2)).trans k2
  replace k3 := (hb1.cell (World.block_lt_of_cell? _ _ k3)).trans k3
  replace k4 := (hb1.cell (World.block_lt_of_cell? _ _ k4)).trans k4
  replace k5 := (hb1.cell (World.block_lt_of_cell? _ _ k5)).trans k5
  have HW1 := Lib.hid (HW.out.trans (hb1.mono HW.out.size)); clear hb1 HW hsz
  go_wp2_with fail
  have h1 := opmay_any 1 (by omega) (some ⟨w1.heap.size, 0, none⟩) 1 1 5 ⟨#[120]⟩ none 0 0 [⟨#[97]⟩] [] _ (litS1 w1 ⟨#[97]⟩ (by decide)) rfl (VRow.nil _) rfl
  rw [show Om.may ⟨1, [⟨#[97]⟩], 5, ⟨#[120]⟩, []⟩ = false from by decide +kernel] at h1
  refine h1.mono ?_
  clear h1
  rintro e w2 ⟨rfl, hb⟩
  have hb1 := (below_box w1 #[.string ⟨#[97]⟩] 9).trans (hb.mono (by simp))
  clear hb
  replace k0 := (hb1.cell (World.block_lt_of_cell? _ _ k0)).trans k0
  replace k1 := (hb1.cell (World.block_lt_of_cell? _ _ k1)).trans k1
  replace k2 := (hb1.cell (World.block_lt_of_cell? _ _ k2)).trans k2
  replace k3 := (hb1.cell (World.block_lt_of_cell? _ _ k3)).trans k3
  replace k4 := (hb1.cell (World.block_lt_of_cell? _ _ k4)).trans k4
  replace k5 := (hb1.cell (World.block_lt_of_cell? _ _ k5)).trans k5
  have HW2 := Lib.hid (HW1.out.trans (hb1.mono HW1.out.size)); clear hb1 HW1
  have hb3 := below_box w2 #[.string ⟨#[97]⟩, .string ⟨#[98]⟩] 9
  replace k0 := (hb3.cell (World.block_lt_of_cell? _ _ k0)).trans k0
  replace k1 := (hb3.cell (World.block_lt_of_cell? _ _ k1)).trans k1
  replace k2 := (hb3.cell (World.block_lt_of_cell? _ _ k2)).trans k2
  replace k3 := (hb3.cell (World.block_lt_of_cell? _ _ k3)).trans k3
  replace k4 := (hb3.cell (World.block_lt_of_cell? _ _ k4)).trans k4
  replace k5 := (hb3.cell (World.block_lt_of_cell? _ _ k5)).trans k5
  have HB3 := Lib.hid hb3; clear hb3
  go_wp2_with fail
  have hv := litD2 (w2.alloc (.cells #[.string ⟨#[97]⟩, .string ⟨#[98]⟩] 9)) ((0, 1), 2) ((0, 1), 1) ⟨by decide, by decide, by decide⟩ ⟨by decide, by decide, by decide⟩ 0 1 2 0 1 1 rfl rfl rfl rfl rfl rfl
  have hsz : (w2.alloc (.cells #[.string ⟨#[97]⟩, .string ⟨#[98]⟩] 9)).heap.size = w2.heap.size + 1 := by simp
  rw [hsz] at hv
  have hb4 := below_box (w2.alloc (.cells #[.string ⟨#[97]⟩, .string ⟨#[98]⟩] 9)) #[.int .u8 0, .int .u32 1, .int .u64 2, .int .u8 0, .int .u32 1, .int .u64 1] 27
  have h1 := opmay_any 4 (by omega) (some ⟨w2.heap.size, 0, none⟩) 2 2 0 ⟨#[120]⟩ (some ⟨w2.heap.size + 1, 0, none⟩) 2 2 [⟨#[97]⟩, ⟨#[98]⟩] [((0, 1), 2), ((0, 1), 1)] _ ((litS2 w2 ⟨#[97]⟩ ⟨#[98]⟩ (by decide) (by decide)).below hb4) rfl hv rfl
  rw [show Om.may ⟨4, [⟨#[97]⟩, ⟨#[98]⟩], 0, ⟨#[120]⟩, [((0, 1), 2), ((0, 1), 1)]⟩ = false from by decide +kernel] at h1
  refine h1.mono ?_
  clear h1 hv hsz
  rintro e w3 ⟨rfl, hb⟩
  have HB := Lib.hid (HB3.out.trans ((hb4.trans (hb.mono (by simp))).mono (by simp)))
  clear hb hb4
  go_wp2_with fail
  go_ret
  exact ⟨rfl, HW2.out.trans (HB.out.mono HW2.out.size)⟩
end Go.Proofs.Ytpkfjgoimaomfaa
