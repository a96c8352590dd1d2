import Derived.Test.YtijbblbaabmfjaaCrc2
namespace Go.Proofs.Ytijbblbaabmfjaa
open Go.RowKit
set_option maxHeartbeats 800000 in
theorem sum_any (a : Option Addr) (n cap : Nat) (l : List Nat) (w : World) (hr : Row w a cap l) (hn : l.length = n) :
    Calls Try.prog 40 #[.slice a n cap] w fun e w' => e = .returned (.int .u32 (Crc.sum l : Nat)) ∧ Below w.heap.size w w' := by
  have Hr := Lib.hid hr; have Hn := Lib.hid hn; clear hr hn
  go_enter Try.func40, Try.ntmps40
  go_wp2_with fail
  refine (more_any 0 (by omega) a n cap l _ Hr.out Hn.out).mono ?_
  rintro e w' ⟨rfl, hb⟩
  have Hb := Lib.hid hb; clear hb
  go_wp2_with fail
  go_ret
  exact ⟨rfl, Hb.out⟩
def fourV (s : Nat) : List Value := (Crc.four s).map fun x => .int .u8 (x : Nat)
def zero4 : Array Value := #[.int .u8 0, .int .u8 0, .int .u8 0, .int .u8 0]
theorem size32 {a b c d : Value} : (Try.prog.info? 57).map (·.size) = some (#[a, b, c, d] : Array Value).size := by
  have : (Try.prog.info? 57).map (·.size) = some 4 := by kernel_rfl
  rw [this]; rfl
set_option maxHeartbeats 800000 in
theorem ending_any (a : Option Addr) (n cap : Nat) (l : List Nat) (w : World) (hr : Row w a cap l) (hn : l.length = n) :
    Calls Try.prog 35 #[.slice a n cap] w fun e w' => e = .returned (.agg (fourV (Crc.sum l)).toArray) ∧ Below w.heap.size w w' := by
  have Hr := Lib.hid hr; have Hn := Lib.hid hn; clear hr hn
  go_enter Try.func35, Try.ntmps35
  go_wp2_with fail
  refine (sum_any a n cap l _ (Hr.out.below ((Below.refl _ _).alloc (Nat.le_refl _) _)) Hn.out).mono ?_
  rintro e w' ⟨rfl, hb⟩
  have hB : w'.heap[w.heap.size]? = some (.cells zero4 57 (0, 0)) := by rw [hb.block _ (by simp)]; exact heap_alloc_new w _
  have Hb := Lib.hid hb; have HB := Lib.hid hB; clear hb hB
  obtain ⟨s, hs⟩ : ∃ s, s = Crc.sum l := ⟨_, rfl⟩
  rw [← hs]
  have Hs := Lib.hid hs; clear hs
  go_wp2_with (refine wpList_store_row rfl 57 (.tmp 2) (.tmp 17) rfl _ _ rfl rfl _ zero4 HB.out size32 rfl (by simp [Value.oneCell']) ?_)


  have hres := setRow_heap w' w.heap.size zero4 (#[Value.int .u8 ((s : Int) % 256), .int .u8 ((s : Int) / 256 % 256), .int .u8 ((s : Int) / 65536 % 256), .int .u8 ((s : Int) / 16777216 % 256)]) 57 (0, 0) HB.out
  refine bodyPost_ret (results_cell_row Try.results35 _ _ w.heap.size 57 _ (0, 0) _ rfl hres Try.underlying57 rfl size32) rfl ⟨?_, ?_⟩
  · rw [← Hs.out]; simp [fourV, Crc.four]
  · exact below_setRow (((Below.refl _ _).alloc (Nat.le_refl _) _).trans (Hb.out.mono (by simp))) (Nat.le_refl _) _
end Go.Proofs.Ytijbblbaabmfjaa
