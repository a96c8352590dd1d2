import Derived.Test.YtijbblbaabmfjaaCode8
namespace Go.Proofs.Ytijbblbaabmfjaa
open Go.RowKit Go.Buf
/-- a slice literal of bytes -/
theorem row_lits {w : World} (l : List Nat) (vs : Array Value) (h : vs = (bytesV l).toArray) (hb : ∀ x ∈ l, x < 256) (hl : l.length ≤ 9223372036854775807) : Row (w.alloc (.cells vs 5)) (some ⟨w.heap.size, 0, none⟩) l.length l := by
  subst h
  refine row_of_block (heap_alloc_new w _) hb 0 l.length hl (Nat.le_refl _) (fun i x hx => ?_)
  simp [bytesV, hx]
/-- what a call for a new buffer's text makes -/
theorem text_of_new {w : World} {l : List Nat} {e : Ending} {w' : World} (h : RetBB w.heap.size w none l e w') (n : Nat) (hn : l.length = n) (s : ByteArray) (hs : strB l = s) : ∃ a c, e = .returned (.slice a n c) ∧ Below w.heap.size w w' ∧ Sem.run Try.prog (convert 22 9 (.slice a n c)) w' = .ok (.string s) w' := by
  obtain ⟨v, row', rfl, h1, h2⟩ := h.below
  obtain ⟨a, c, rfl, hr⟩ := h1.row
  subst hn; subst hs
  exact ⟨a, c, rfl, h2, conv_row hr rfl⟩
set_option maxRecDepth 100000 in
set_option maxHeartbeats 1600000 in
theorem known_any (w : World) : Calls Try.prog 6 #[] w (RetBool w.heap.size w true) := by
  go_enter Try.func6, Try.ntmps6
  go_wp2_with fail
  refine (unframe_any _ 2 2 [128, 0] _ (row_lits [128, 0] _ rfl (by decide) (by decide)) rfl).mono ?_
  rw [show unfr [128, 0] = ([], 0, 4) from by decide]
  rintro e w1 ⟨v1, row1, rfl, h1, h2⟩
  have hb1 : Below w.heap.size w w1 := ((Below.refl _ _).alloc (Nat.le_refl _) _).trans (h2.mono (by simp))
  have HB1 := Lib.hid hb1
  clear h1 h2 hb1
  go_wp2_with fail
  refine (NewReader_any _ 3 3 [172, 2, 1] _ (row_lits [172, 2, 1] _ rfl (by decide) (by decide)) rfl (by decide)).mono ?_
  rintro e w2 ⟨p, rfl, h1, h2, h3⟩
  have hb2 : Below w.heap.size w w2 := (HB1.out.alloc HB1.out.size _).trans (h2.mono (by simp; have := HB1.out.size; omega))
  have HB2 := Lib.hid hb2; have HR := Lib.hid h1
  have hp : w.heap.size ≤ p := by have := HB1.out.size; simp at h3; omega
  have HP := Lib.hid hp
  clear h1 h2 h3 hb2 hp
  go_wp2_with fail
  refine (Num_at HR.out (v := 300) (l2 := [1]) (er2 := 0) (by decide)).mono ?_
  rintro e w3 ⟨rfl, h1, h2⟩
  have hb3 : Below w.heap.size w w3 := HB2.out.trans (below_of_grown h2 HB2.out.size (fun k hk => by cases hk; exact HP.out))
  have HB3 := Lib.hid hb3; have HR3 := Lib.hid h1
  clear h1 h2 hb3
  go_wp2_with fail
  refine (Int_at HR3.out (v := -1) (l2 := []) (er2 := 0) (by decide)).mono ?_
  rintro e w4 ⟨rfl, h1, h2⟩
  have hb4 : Below w.heap.size w w4 := HB3.out.trans (below_of_grown h2 HB3.out.size (fun k hk => by cases hk; exact HP.out))
  have HB4 := Lib.hid hb4; have HR4 := Lib.hid h1
  clear h1 h2 hb4
  go_wp2_with fail
  have hn := num_any w4.heap.size (.slice none 0 0) [] none 300 w4 (BB.nil (Nat.le_refl _)) (by decide) (by decide)
  rw [show [] ++ Cd.num 300 = [172, 2] from by decide] at hn
  refine hn.mono ?_
  rintro e w5 hret
  obtain ⟨a5, c5, rfl, hb, hcv⟩ := text_of_new hret 2 rfl ⟨#[172, 2]⟩ (by decide)
  have HB5 := Lib.hid (HB4.out.trans (hb.mono HB4.out.size)); have HR5 := Lib.hid (HR4.out.below hb)
  clear hn hb hret
  go_wp2_with fail
  clear hcv
  have hn := int_any w5.heap.size (.slice none 0 0) [] none (-1) w5 (BB.nil (Nat.le_refl _)) (by decide) (by decide) (by decide)
  rw [show [] ++ Cd.num (Cd.uns (-1)) = [1] from by decide] at hn
  refine hn.mono ?_
  rintro e w6 hret
  obtain ⟨a6, c6, rfl, hb, hcv⟩ := text_of_new hret 1 rfl ⟨#[1]⟩ (by decide)
  have HB6 := Lib.hid (HB5.out.trans (hb.mono HB5.out.size)); have HR6 := Lib.hid (HR5.out.below hb)
  clear hn hb hret
  go_wp2_with fail
  clear hcv
  have hn := int_any w6.heap.size (.slice none 0 0) [] none 1 w6 (BB.nil (Nat.le_refl _)) (by decide) (by decide) (by decide)
  rw [show [] ++ Cd.num (Cd.uns 1) = [2] from by decide] at hn
  refine hn.mono ?_
  rintro e w7 hret
  obtain ⟨a7, c7, rfl, hb, hcv⟩ := text_of_new hret 1 rfl ⟨#[2]⟩ (by decide)
  have HB7 := Lib.hid (HB6.out.trans (hb.mono HB6.out.size)); have HR7 := Lib.hid (HR6.out.below hb)
  clear hn hb hret
  go_wp2_with fail
  clear hcv
  have hn := text_any w7.heap.size (.slice none 0 0) [] none ⟨#[97, 98]⟩ w7 (BB.nil (Nat.le_refl _)) (by decide) (by decide)
  rw [show [] ++ (Cd.num (ByteArray.mk #[97, 98]).size ++ strL ⟨#[97, 98]⟩) = [2, 97, 98] from by decide] at hn
  refine hn.mono ?_
  rintro e w8 hret
  obtain ⟨a8, c8, rfl, hb, hcv⟩ := text_of_new hret 3 rfl ⟨#[2, 97, 98]⟩ (by decide)
  have HB8 := Lib.hid (HB7.out.trans (hb.mono HB7.out.size)); have HR8 := Lib.hid (HR7.out.below hb)
  clear hn hb hret
  go_wp2_with fail
  clear hcv
  refine (Err_at HR8.out).mono ?_
  rintro e w' ⟨rfl, rfl⟩
  go_wp2_with fail
  refine (Left_at HR8.out).mono ?_
  rintro e w' ⟨rfl, rfl⟩
  go_wp2_with fail
  go_ret
  exact ⟨rfl, HB8.out⟩
end Go.Proofs.Ytijbblbaabmfjaa
