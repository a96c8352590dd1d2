import Derived.Test.YtijbblbaabmfjaaCrc10
namespace Go.Proofs.Ytijbblbaabmfjaa
open Go.RowKit
theorem row_one (w : World) (q : Nat) : Row (w.alloc (.cells #[.int .u8 ((q : Int) % 256)] 5)) (some ⟨w.heap.size, 0, none⟩) 1 [q % 256] := by
  refine row_of_block (heap_alloc_new w _) (fun x hx => by simp at hx; omega) 0 1 (by omega) (by simp) (fun i x hx => ?_)
  have hi : i < 1 := by have := (List.getElem?_eq_some_iff.1 hx).1; simpa using this
  obtain rfl : i = 0 := by omega
  simp at hx; subst hx; simp
theorem four_eq (s : Nat) : Crc.four s = [s % 256, s / 256 % 256, s / 65536 % 256, s / 16777216 % 256] := rfl
set_option maxRecDepth 100000 in
set_option maxHeartbeats 1600000 in
theorem refappend_any (a : Option Addr) (n cap : Nat) (l : List Nat) (w : World) (hr : Row w a cap l) (hn : l.length = n) (hsmall : n ≤ 1000000) :
    Calls Try.prog 25 #[.slice a n cap] w (RetOwn w.heap.size w (l ++ Crc.four (Crc.sum l))) := by
  obtain ⟨s, hs⟩ : ∃ s, s = Crc.sum l := ⟨_, rfl⟩
  have hsl : s < 4294967296 := by rw [hs]; exact Crc.more_lt 0 l
  rw [← hs]
  have Hs := Lib.hid hs; have Hr := Lib.hid hr; have Hn := Lib.hid hn; clear hr hn hs
  go_enter Try.func25, Try.ntmps25
  go_wp2_with fail
  refine (refsum_any a n cap l _ Hr.out Hn.out hsmall).mono ?_
  rw [← Hs.out]
  rintro e w1 ⟨rfl, hb⟩
  have Hb := Lib.hid hb; clear hb
  go_wp2_with (refine wpList_append_row rfl (.tmp 8) (.tmp 9) rfl w.heap.size _ 0 [] rfl (World.ownsRow_made w1 #[] 0 Hb.out.size (by unfold maxLen; omega) rfl) a n cap l rfl ((Hr.out.below Hb.out).below ((Below.refl _ _).alloc (Nat.le_refl _) _)) Hn.out (by omega) (by have := Hb.out.size; simp; omega) ?_; intro v w2 hown hgrow)
  have Hown := Lib.hid hown; have Hb2 := Lib.hid ((Hb.out.alloc Hb.out.size _).grown hgrow (by have := Hb.out.size; simp; omega) (fun k hk => by cases hk; exact Hb.out.size))
  clear hown hgrow
  go_loopw [3, 4, 5] (fun c v i wr => ∃ k q : Nat, k ≤ 4 ∧ i = .int .i64 k ∧ c = .int .u32 q ∧ q < 4294967296 ∧ q = s / 256 ^ k ∧ wr.ownsRow w.heap.size 5 1 v (n + k) (bytesV (l ++ (Crc.four s).take k)) ∧ Below w.heap.size w wr) (fun _ _ i _ => 4 - (intOf i).toNat)
  case atStart => exact ⟨0, s, by omega, rfl, rfl, hsl, by simp, by simpa using Hown.out, Hb2.out⟩
  case round =>
    obtain ⟨k, q, hk, rfl, rfl, hq, hqs, hown, hbel⟩ := hrel
    have Hqs := Lib.hid hqs; have Hown2 := Lib.hid hown; have Hbel := Lib.hid hbel
    clear hqs hown hbel
    by_cases hlt : k < 4
    · go_wp2_with (refine wpList_append_row rfl (.tmp 15) (.tmp 19) rfl w.heap.size _ (n + k) (l ++ (Crc.four s).take k) rfl (Hown2.out.alloc _) (some ⟨wr.heap.size, 0, none⟩) 1 1 [q % 256] rfl (row_one wr q) rfl (by omega) (by have := Hbel.out.size; simp; omega) ?_; intro v' w3 hown3 hgrow3)
      have h3 : Below w.heap.size w w3 := (Hbel.out.alloc Hbel.out.size _).grown hgrow3 (by have := Hbel.out.size; simp; omega) (fun j hj => (Hown2.out.lt j hj).1)
      have h4 : w3.ownsRow w.heap.size 5 1 v' (n + (k + 1)) (bytesV (l ++ (Crc.four s).take (k + 1))) := by
        have e : l ++ (Crc.four s).take k ++ [q % 256] = l ++ (Crc.four s).take (k + 1) := by
          rw [List.append_assoc, Hqs.out, four_eq]
          match k, hlt with
          | 0, _ => simp
          | 1, _ => simp
          | 2, _ => simp
          | 3, _ => simp
        rw [e] at hown3; exact hown3
      have H3 := Lib.hid h3; have H4 := Lib.hid h4
      clear h3 h4 hown3 hgrow3
      go_wp2_with fail
      refine ⟨⟨k + 1, q / 256, by omega, by go_num, by simp, by omega, ?_, H4.out, H3.out⟩, by simp [intOf]; omega⟩
      rw [Hqs.out, Nat.div_div_eq_div_mul, ← Nat.pow_succ]
    · obtain rfl : k = 4 := by omega
      have e : (Crc.four s).take 4 = Crc.four s := rfl
      have h1 := Hown2.out
      rw [e] at h1
      have hlen : (l ++ Crc.four s).length = n + 4 := by rw [List.length_append, Hn.out]; rfl
      have HF : Hid (RetOwn w.heap.size w (l ++ Crc.four s) (.returned u4) wr) := ⟨_, rfl, by rw [hlen]; exact h1, Hbel.out⟩
      clear h1 hlen e
      go_wp2_with fail
      go_ret
      exact HF.out
end Go.Proofs.Ytijbblbaabmfjaa
