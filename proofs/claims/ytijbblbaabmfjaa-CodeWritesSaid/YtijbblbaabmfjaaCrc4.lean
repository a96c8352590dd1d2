import Derived.Test.YtijbblbaabmfjaaCrc3
namespace Go.Proofs.Ytijbblbaabmfjaa
open Go.RowKit
set_option maxHeartbeats 800000 in
theorem append_any (a : Option Addr) (n cap : Nat) (l : List Nat) (w : World) (hr : Row w a cap l) (hn : l.length = n) (hsmall : n ≤ 1000000000) :
    Calls Try.prog 24 #[.slice a n cap] w (RetOwn w.heap.size w (l ++ Crc.four (Crc.sum l))) := by
  obtain ⟨i0, hi, hz0, hz1, hz2⟩ := info_parts info5
  have hz32 := (zero_of_info (t := 57) (P := Try.prog) (v := .agg zero4) (n := 4) (by kernel_rfl)).1
  have hcap := hr.cap
  have hle : n ≤ cap := by rw [← hn]; exact hr.le
  obtain ⟨s, hs⟩ : ∃ s, s = Crc.sum l := ⟨_, rfl⟩
  rw [← hs]
  have Hs := Lib.hid hs; have Hr := Lib.hid hr; have Hn := Lib.hid hn; clear hr hn hs
  go_enter Try.func24, Try.ntmps24
  go_wp2_with fail
  refine (ending_any a n cap l _ Hr.out Hn.out).mono ?_
  rw [← Hs.out]
  rintro e w1 ⟨rfl, hb⟩
  have Hb := Lib.hid hb; clear hb
  go_wp2_with (refine wpList_store_row rfl 57 (.tmp 4) (.tmp 8) rfl _ _ rfl rfl _ zero4 (heap_alloc_new _ _) size32 rfl (by simp [Value.oneCell', fourV, Crc.four]) ?_)
  try dsimp only [Act.put]
  generalize hW : (w1.alloc (Obj.cells zero4 57)).setRow w1.heap.size (fourV s).toArray = W
  have h4 : W.heap[w1.heap.size]? = some (.cells (fourV s).toArray 57 (0, 0)) := by subst hW; exact setRow_heap _ _ _ _ _ _ (heap_alloc_new _ _)
  have hbel : Below w.heap.size w W := by subst hW; exact below_setRow (Hb.out.alloc Hb.out.size _) Hb.out.size _
  have hrow : Row W.drew a cap l := (Hr.out.below hbel).drew
  have hnil : a = none → n = 0 ∧ n = 0 := fun h => by have := Hr.out.2.2.2.1 h; omega
  have hnews : ∀ j u, (fourV s)[j]? = some u → W.drew.cell? ((⟨w1.heap.size, 0, none⟩ : Addr).add j) = some u := fun j u hu => by
    rw [Addr.add_mid, World.cell?_drew, cell_of_row _ _ _ _ _ _ h4]; simpa using hu
  have H4 := Lib.hid h4; have Hbel := Lib.hid hbel; have Hrow := Lib.hid hrow; have Hnil := Lib.hid hnil; have Hnews := Lib.hid hnews; have HW := Lib.hid hW
  clear h4 hbel hrow hnil hnews hW
  go_region_law (refine step_append_grows rfl (.tmp 12) (.tmp 13) 22 rfl 5 i0 (.int .u8 0) 1 1 Try.underlying22 hi hz0 hz1 hz2 rfl (by decide) a n n (bytesV l) rfl Hnil.out (by rw [bytesV_length, Hn.out, Nat.mul_one]) Hrow.out.holds ⟨w1.heap.size, 0, none⟩ 4 4 (fourV s) rfl rfl Hnews.out (by simp [Value.oneCell', fourV, Crc.four]) (by omega) (by unfold maxLen; omega) (by omega) ?_; intro v' w' hown hgrow)
  have hlen : (bytesV l ++ fourV s).length = n + 4 := by simp [bytesV_length, Hn.out, fourV, Crc.four]
  have e1 : bytesV l ++ fourV s = bytesV (l ++ Crc.four s) := by rw [bytesV_append]; rfl
  have hf : RetOwn w.heap.size w (l ++ Crc.four s) (.returned v') w' := by
    refine ⟨v', rfl, ?_, ?_⟩
    · rw [e1] at hown
      have : (l ++ Crc.four s).length = n + 4 := by simp [Hn.out, Crc.four]
      rw [this]
      exact ownsRow_base hown Hbel.out.size
    · exact Hbel.out.drew.grown hgrow Hbel.out.size (fun k hk => by cases hk)
  have HF := Lib.hid hf
  clear hf e1 hlen hown hgrow
  go_wp2
  go_ret
  exact HF.out
end Go.Proofs.Ytijbblbaabmfjaa
