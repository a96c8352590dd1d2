import Derived.Test.YtjchcjpgaeobmaaT3
import Derived.Deep.RegionLawGrows
namespace Go.Proofs.Ytjchcjpgaeobmaa
open Go.RowKit
theorem info5 : (Try.prog.info? 5).map (fun i => (i.zero, i.size, i.bytes)) = some (some (.int .u8 0), 1, 1) := by kernel_rfl
def bytesV (l : List Nat) : List Value := l.map fun x => .int .u8 (x : Nat)
theorem bytesV_length (l : List Nat) : (bytesV l).length = l.length := by simp [bytesV]
theorem bytesV_append (l m : List Nat) : bytesV (l ++ m) = bytesV l ++ bytesV m := by simp [bytesV]
theorem bytesV_one (l : List Nat) : ∀ u ∈ bytesV l, u.oneCell' = true := by
  intro u hu; simp [bytesV] at hu; obtain ⟨x, _, rfl⟩ := hu; rfl
theorem Row.holds {w : World} {a : Option Addr} {cap : Nat} {l : List Nat} (h : Row w a cap l) : ∀ b, a = some b → ∀ j u, (bytesV l)[j]? = some u → w.cell? (b.add j) = some u := by
  intro b hb j u hu
  simp [bytesV] at hu
  obtain ⟨x, hx, rfl⟩ := hu
  obtain ⟨p, hp, hc⟩ := h.2.2.2.2 j x hx
  rw [hb] at hp; obtain rfl := Option.some.inj hp
  exact hc
theorem Row.drew {w : World} {a : Option Addr} {cap : Nat} {l : List Nat} (h : Row w a cap l) : Row w.drew a cap l := by
  obtain ⟨h1, h2, h3, h4, h5⟩ := h
  exact ⟨h1, h2, h3, h4, fun i x hx => by obtain ⟨p, hp, hc⟩ := h5 i x hx; exact ⟨p, hp, by simpa using hc⟩⟩
theorem ownsRow_base {w : World} {B B' : Nat} {e : TypeId} {k : Nat} {v : Value} {n : Nat} {xs : List Value} (h : w.ownsRow B e k v n xs) (hB : B' ≤ B) : w.ownsRow B' e k v n xs := by
  obtain ⟨h1, h2⟩ := h
  refine ⟨h1, ?_⟩
  rcases h2 with h2 | ⟨g, cap, cur, hv, hg, r⟩
  · exact Or.inl h2
  · exact Or.inr ⟨g, cap, cur, hv, Nat.le_trans hB hg, r⟩
/-- It returns a slice of its own, from block B on, that reads as l. -/
def RetOwn (B : Nat) (w : World) (l : List Nat) (e : Ending) (w' : World) : Prop := ∃ v, e = .returned v ∧ w'.ownsRow B 5 1 v l.length (bytesV l) ∧ Below B w w'
set_option maxHeartbeats 800000 in
theorem append_any (a : Option Addr) (n cap : Nat) (l : List Nat) (w : World) (hr : Row w a cap l) (hn : l.length = n) (hsmall : n ≤ 1000000000) :
    Calls Try.prog 6 #[.slice a n cap] w (RetOwn w.heap.size w (l ++ Crc.four (Crc.sum l))) := by
  obtain ⟨i0, hi, hz0, hz1, hz2⟩ := info_parts info5
  have hz32 := (zero_of_info (t := 32) (P := Try.prog) (v := .agg zero4) (n := 4) (by kernel_rfl)).1
  have hcap := hr.cap
  have hle : n ≤ cap := by rw [← hn]; exact hr.le
  obtain ⟨s, hs⟩ : ∃ s, s = Crc.sum l := ⟨_, rfl⟩
  rw [← hs]
  have Hs := Lib.hid hs; have Hr := Lib.hid hr; have Hn := Lib.hid hn; clear hr hn hs
  go_enter Try.func6, Try.ntmps6
  go_wp2_with fail
  refine (ending_any a n cap l _ Hr.out Hn.out).mono ?_
  rw [← Hs.out]
  rintro e w1 ⟨rfl, hb⟩
  have Hb := Lib.hid hb; clear hb
  go_wp2_with (refine wpList_store_row rfl 32 (.tmp 4) (.tmp 8) rfl _ _ rfl rfl _ zero4 (heap_alloc_new _ _) size32 rfl (by simp [Value.oneCell', fourV, Crc.four]) ?_)
  try dsimp only [Act.put]
  generalize hW : (w1.alloc (Obj.cells zero4 32)).setRow w1.heap.size (fourV s).toArray = W
  have h4 : W.heap[w1.heap.size]? = some (.cells (fourV s).toArray 32 (0, 0)) := by subst hW; exact setRow_heap _ _ _ _ _ _ (heap_alloc_new _ _)
  have hbel : Below w.heap.size w W := by subst hW; exact below_setRow (Hb.out.alloc Hb.out.size _) Hb.out.size _
  have hrow : Row W.drew a cap l := (Hr.out.below hbel).drew
  have hnil : a = none → n = 0 ∧ n = 0 := fun h => by have := Hr.out.2.2.2.1 h; omega
  have hnews : ∀ j u, (fourV s)[j]? = some u → W.drew.cell? ((⟨w1.heap.size, 0, none⟩ : Addr).add j) = some u := fun j u hu => by
    rw [Addr.add_mid, World.cell?_drew, cell_of_row _ _ _ _ _ _ h4]; simpa using hu
  have H4 := Lib.hid h4; have Hbel := Lib.hid hbel; have Hrow := Lib.hid hrow; have Hnil := Lib.hid hnil; have Hnews := Lib.hid hnews; have HW := Lib.hid hW
  clear h4 hbel hrow hnil hnews hW
  go_region_law (refine step_append_grows rfl (.tmp 12) (.tmp 13) 22 rfl 5 i0 (.int .u8 0) 1 1 Try.underlying22 hi hz0 hz1 hz2 rfl (by decide) a n n (bytesV l) rfl Hnil.out (by rw [bytesV_length, Hn.out, Nat.mul_one]) Hrow.out.holds ⟨w1.heap.size, 0, none⟩ 4 4 (fourV s) rfl rfl Hnews.out (by simp [Value.oneCell', fourV, Crc.four]) (by omega) (by unfold maxLen; omega) (by omega) ?_; intro v' w' hown hgrow)
  have hlen : (bytesV l ++ fourV s).length = n + 4 := by simp [bytesV_length, Hn.out, fourV, Crc.four]
  have e1 : bytesV l ++ fourV s = bytesV (l ++ Crc.four s) := by rw [bytesV_append]; rfl
  have hf : RetOwn w.heap.size w (l ++ Crc.four s) (.returned v') w' := by
    refine ⟨v', rfl, ?_, ?_⟩
    · rw [e1] at hown
      have : (l ++ Crc.four s).length = n + 4 := by simp [Hn.out, Crc.four]
      rw [this]
      exact ownsRow_base hown Hbel.out.size
    · exact Hbel.out.drew.grown hgrow Hbel.out.size (fun k hk => by cases hk)
  have HF := Lib.hid hf
  clear hf e1 hlen hown hgrow
  go_wp2
  go_ret
  exact HF.out
end Go.Proofs.Ytjchcjpgaeobmaa
