import Derived.Test.YtjchcjpgaeobmaaT5
import Derived.Lib.SlBytesConst
import Derived.Deep.RegionWith
namespace Go.Proofs.Ytjchcjpgaeobmaa
open Go.RowKit
def L9 : List Nat := [49, 50, 51, 52, 53, 54, 55, 56, 57]
def c4 : Nat := Crc.sum [49, 50, 51, 52]
theorem row_of_block {w : World} {b : Nat} {l : List Nat} {cs : Array Value} {t : TypeId} {fr : Nat × Nat} (h : w.heap[b]? = some (.cells cs t fr)) (hb : ∀ x ∈ l, x < 256) (o cap : Nat) (hcap : cap ≤ 9223372036854775807)
    (hl : l.length ≤ cap) (hc : ∀ i x, l[i]? = some x → cs[o + i]? = some (.int .u8 (x : Nat))) : Row w (some ⟨b, o, none⟩) cap l := by
  refine ⟨hl, hcap, hb, fun h => (by cases h), fun i x hx => ⟨_, rfl, ?_⟩⟩
  rw [Addr.add_mid, cell_of_row w b _ cs t fr h]
  exact hc i x hx
theorem L9_get : ∀ i x, L9[i]? = some x → (bytesV L9).toArray[0 + i]? = some (.int .u8 (x : Nat)) := by
  intro i x h; simp [bytesV, h]
theorem known_calls (W : World) (B : Nat) (hsz : W.heap.size = B + 1) (hblk : W.heap[B]? = some (.cells (bytesV L9).toArray 5 (9, 10))) :
    (∀ w', Below (B + 1) W w' → Calls Try.prog 7 #[.slice none 0 0] w' fun e w1 => e = .returned (.int .u32 0) ∧ Below (B + 1) W w1) ∧
    (∀ w', Below (B + 1) W w' → Calls Try.prog 7 #[.slice (some ⟨B, 0, none⟩) 9 9] w' fun e w1 => e = .returned (.int .u32 3421780262) ∧ Below (B + 1) W w1) ∧
    (∀ w', Below (B + 1) W w' → Calls Try.prog 7 #[.slice (some ⟨B, 0, none⟩) 4 9] w' fun e w1 => e = .returned (.int .u32 (c4 : Nat)) ∧ Below (B + 1) W w1) ∧
    (∀ w', Below (B + 1) W w' → Calls Try.prog 9 #[.int .u32 (c4 : Nat), .slice (some ⟨B, 4, none⟩) 5 5] w' fun e w1 => e = .returned (.int .u32 3421780262) ∧ Below (B + 1) W w1) ∧
    (∀ w' k, Below (B + 1) W w' → w'.heap[k]? = some (.cells #[.int .u8 0, .int .u8 0, .int .u8 0, .int .u8 0] 5) → Calls Try.prog 11 #[.slice (some ⟨k, 0, none⟩) 4 4] w' fun e w1 => e = .returned (.bool true) ∧ Below (B + 1) W w1) := by
  have hlt : ∀ w', Below (B + 1) W w' → B + 1 ≤ w'.heap.size := fun w' h => by have := h.size; omega
  have blk : ∀ w', Below (B + 1) W w' → w'.heap[B]? = some (.cells (bytesV L9).toArray 5 (9, 10)) := fun w' h => (h.block B (by omega)).trans hblk
  refine ⟨fun w' h => ?_, fun w' h => ?_, fun w' h => ?_, fun w' h => ?_, fun w' k h hk => ?_⟩
  · refine (sum_any none 0 0 [] w' ⟨by simp, by simp, by simp, by simp, by simp⟩ rfl).mono ?_
    rintro e w1 ⟨rfl, hb⟩
    exact ⟨by rw [Crc.known2]; rfl, h.trans (hb.mono (hlt w' h))⟩
  · refine (sum_any _ 9 9 L9 w' (row_of_block (blk w' h) (by decide) 0 9 (by omega) (by decide) L9_get) rfl).mono ?_
    rintro e w1 ⟨rfl, hb⟩
    exact ⟨by rw [show Crc.sum L9 = 3421780262 from Crc.known1]; rfl, h.trans (hb.mono (hlt w' h))⟩
  · refine (sum_any _ 4 9 (L9.take 4) w' ((row_of_block (l := L9) (blk w' h) (by decide) 0 9 (by omega) (by decide) L9_get).take 4 9 (by omega) (by omega) (fun h => by cases h)) rfl).mono ?_
    rintro e w1 ⟨rfl, hb⟩
    exact ⟨rfl, h.trans (hb.mono (hlt w' h))⟩
  · refine (more_any c4 (Crc.more_lt 0 _) _ 5 5 (L9.drop 4) w' (row_of_block (blk w' h) (by decide) 4 5 (by omega) (by decide) (fun i x hx => ?_)) rfl).mono ?_
    · rw [List.getElem?_drop] at hx; have := L9_get (4 + i) x hx; simpa using this
    · rintro e w1 ⟨rfl, hb⟩
      exact ⟨by rw [show Crc.more c4 (L9.drop 4) = 3421780262 from Crc.known3]; rfl, h.trans (hb.mono (hlt w' h))⟩
  · refine (ends_any _ 4 4 [0, 0, 0, 0] _ (row_of_block hk (by decide) 0 4 (by omega) (by decide) (fun i x hx => ?_)) rfl).mono ?_
    · have hi : i < 4 := by have := (List.getElem?_eq_some_iff.1 hx).1; simpa using this
      match i, hi with
      | 0, _ => simp at hx; subst hx; rfl
      | 1, _ => simp at hx; subst hx; rfl
      | 2, _ => simp at hx; subst hx; rfl
      | 3, _ => simp at hx; subst hx; rfl
    · rintro e w1 ⟨rfl, hb⟩
      exact ⟨by rw [Crc.known4], h.trans (hb.mono (hlt w' h))⟩
set_option maxRecDepth 100000 in
set_option maxHeartbeats 1600000 in
theorem known_any (w : World) : Calls Try.prog 5 #[] w (RetBool w.heap.size w true) := by
  have kc := fun (w : World) (C : Array Value) (n c : Nat) => Lib.run_convert_bytes_const (P := Try.prog) w 22 5 C n c Try.underlying22 Try.underlying5
  go_enter Try.func5, Try.ntmps5
  go_wp2_with fail
  generalize hW : w.alloc (Obj.cells #[Value.int IntKind.u8 49, Value.int IntKind.u8 50, Value.int IntKind.u8 51, Value.int IntKind.u8 52, Value.int IntKind.u8 53, Value.int IntKind.u8 54, Value.int IntKind.u8 55, Value.int IntKind.u8 56, Value.int IntKind.u8 57] 5 (9, 10)) = W
  have hsz : W.heap.size = w.heap.size + 1 := by subst hW; simp
  have hblk : W.heap[w.heap.size]? = some (.cells (bytesV L9).toArray 5 (9, 10)) := by subst hW; exact heap_alloc_new w _
  have hbel : Below w.heap.size w W := by subst hW; exact (Below.refl _ _).alloc (Nat.le_refl _) _
  have hB := known_calls W w.heap.size hsz hblk
  obtain ⟨H1, H2, H3, H4, H5⟩ := hB
  have HS := Lib.hid hsz; have Hblk := Lib.hid hblk; have HW := Lib.hid hW; have Hbel := Lib.hid hbel
  obtain ⟨B, hB⟩ : ∃ B, B = w.heap.size := ⟨_, rfl⟩
  rw [← hB] at H1 H2 H3 H4 H5 ⊢
  have G1 := Lib.hid H1; have G2 := Lib.hid H2; have G3 := Lib.hid H3; have G4 := Lib.hid H4; have G5 := Lib.hid H5; have GB := Lib.hid hB
  clear hsz hblk hW hbel H1 H2 H3 H4 H5 hB
  have hb0 := (Below.refl (B + 1) W)
  have hle : ∀ w', Below (B + 1) W w' → B + 1 ≤ w'.heap.size := fun w' h => by have h1 := h.size; have h2 := HS.out; have h3 := GB.out; omega
  go_region_held3 (fun w' : World => Below (B + 1) W w') (first | assumption | exact hb0.drew | exact Below.alloc (by assumption) (hle _ (by assumption)) _) (first | (go_at_call 7; with_reducible refine (G1.out _ (by assumption)).mono ?_; rintro e w1 ⟨rfl, hbw⟩) | (go_at_call 7; with_reducible refine (G2.out _ (by assumption)).mono ?_; rintro e w1 ⟨rfl, hbw⟩) | (go_at_call 7; with_reducible refine (G3.out _ (by assumption)).mono ?_; rintro e w1 ⟨rfl, hbw⟩) | (go_at_call 9; with_reducible refine (G4.out _ (by assumption)).mono ?_; rintro e w1 ⟨rfl, hbw⟩) | (go_at_call 11; with_reducible refine (G5.out _ _ (by assumption) (heap_alloc_new _ _)).mono ?_; rintro e w1 ⟨rfl, hbw⟩))
  all_goals
    have hfin := (by assumption : Below (B + 1) W _)
    have HF := Lib.hid hfin
    clear hfin hle hb0
    go_wp2
    go_ret
    exact ⟨rfl, Hbel.out.trans (HF.out.mono (by have := GB.out; omega))⟩
end Go.Proofs.Ytjchcjpgaeobmaa
