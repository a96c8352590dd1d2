import Derived.Test.YtjchcjpgaeobmaaT11
import Derived.Laws.BytesArg
import Derived.Test.YtjchcjpgaeobmaaReg
namespace Go.Proofs.Ytjchcjpgaeobmaa
open Go.RowKit
/-- the string of these bytes -/
def strB (l : List Nat) : ByteArray := ⟨(l.map fun x => UInt8.ofNat x).toArray⟩
theorem strB_eq {l m : List Nat} (hl : ∀ x ∈ l, x < 256) (hm : ∀ x ∈ m, x < 256) : ((strB l).toList == (strB m).toList) = (l == m) := by
  rw [Bool.eq_iff_iff]
  simp only [beq_iff_eq]
  constructor
  · intro h
    have h2 : (strB l).data.toList = (strB m).data.toList := by
      have e : ∀ s : ByteArray, s.toList = s.data.toList := fun s => ByteArray.toList_eq s
      rw [e, e] at h; exact h
    simp only [strB] at h2
    have inj : ∀ (l m : List Nat), (∀ x ∈ l, x < 256) → (∀ x ∈ m, x < 256) → l.map (fun x => UInt8.ofNat x) = m.map (fun x => UInt8.ofNat x) → l = m := by
      intro l
      induction l with
      | nil => intro m _ _ h; cases m with
        | nil => rfl
        | cons y m => simp at h
      | cons x l ih => intro m hl hm h; cases m with
        | nil => simp at h
        | cons y m =>
          simp only [List.map_cons, List.cons.injEq] at h
          have hx := hl x (by simp); have hy := hm y (by simp)
          have h1 := congrArg UInt8.toNat h.1
          simp only [UInt8.toNat_ofNat'] at h1
          rw [ih m (fun z hz => hl z (by simp [hz])) (fun z hz => hm z (by simp [hz])) h.2]
          have : x = y := by omega
          rw [this]
    exact inj l m hl hm h2
  · intro h; rw [h]
theorem conv_row {w : World} {a : Option Addr} {n cap : Nat} {l : List Nat} (hr : Row w a cap l) (hn : l.length = n) :
    Sem.run Try.prog (convert 22 9 (.slice a n cap)) w = .ok (.string (strB l)) w := by
  cases a with
  | none =>
    have hc := hr.2.2.2.1 rfl
    have hle := hr.le
    have hl : l = [] := List.eq_nil_of_length_eq_zero (by omega)
    subst hl
    exact run_convert_bytes_nil w 22 5 Try.underlying22 Try.underlying5 n cap 9 Try.underlying9
  | some p =>
    rw [run_convert_bytes_string w 22 9 5 (some p) n cap Try.underlying22 Try.underlying5 Try.underlying9]
    have hl := run_loadCells_list (P := Try.prog) w p (bytesV l) (hr.holds p rfl)
    have e : bytesV l = (l.map Int.ofNat).map (Value.int .u8) := by simp [bytesV]
    rw [bytesV_length, hn, e] at hl
    rw [run_bytesToString w p n cap (l.map Int.ofNat) hl, foldl_push_bytes]
    congr 2
    simp [strB]
theorem run_ends (L : List Nat) (hL : 4 ≤ L.length) : Crc.ends L = (L.take (L.length - 4) ++ Crc.four (Crc.sum (L.take (L.length - 4))) == L) := by
  unfold Crc.ends
  have h1 : decide (4 ≤ L.length) = true := by simp [hL]
  rw [h1, Bool.true_and, Bool.eq_iff_iff]
  simp only [beq_iff_eq]
  constructor
  · intro h
    conv => rhs; rw [← List.take_append_drop (L.length - 4) L]
    rw [h]
  · intro h
    have h2 := congrArg (List.drop (L.length - 4)) h
    rw [List.drop_left' (by simp)] at h2
    exact h2.symm
set_option maxRecDepth 100000 in
set_option maxHeartbeats 1600000 in
theorem refends_any (a : Option Addr) (n cap : Nat) (l : List Nat) (w : World) (hr : Row w a cap l) (hn : l.length = n) (hsmall : n ≤ 1000000) :
    Calls Try.prog 12 #[.slice a n cap] w (RetBool w.heap.size w (Crc.ends l)) := by
  have hle : n ≤ cap := by rw [← hn]; exact hr.le
  have hcap := hr.cap
  have hb0 := Below.refl w.heap.size w
  by_cases h4 : n < 4
  · have hf : Crc.ends l = false := by simp [Crc.ends, hn]; omega
    have hg : decide ((4 : Int) ≤ (n : Int)) = false := by simp; omega
    rw [hf]
    clear hr hn hf
    go_enter Try.func12, Try.ntmps12
    go_wp2_with fail
    go_quiet (fail)
    go_wp2_with fail
    go_ret
    exact ⟨rfl, below_drewN hb0 _⟩
  · obtain ⟨m, rfl⟩ : ∃ m, n = m + 4 := ⟨n - 4, by omega⟩
    obtain ⟨b, off, rfl, hbB, _⟩ := hr.opened (by omega)
    have hg : decide ((4 : Int) ≤ (m : Int) + 4) = true := by simp; omega
    have hg2 : decide ((0 : Int) ≤ (m : Int)) = true := by simp
    have htl : (l.take m).length = m := by simp [hn]
    have hconv : ∀ w', Below w.heap.size w w' → Sem.run Try.prog (convert 22 9 (.slice (some ⟨b, off, none⟩) (m + 4) cap)) w' = .ok (.string (strB l)) w' := fun w' h => conv_row (hr.below h) hn
    obtain ⟨M, hM⟩ : ∃ M, M = l.take m ++ Crc.four (Crc.sum (l.take m)) := ⟨_, rfl⟩
    obtain ⟨r, hrr⟩ : ∃ r, r = Crc.ends l := ⟨_, rfl⟩
    have hMb : ∀ x ∈ M, x < 256 := fun x hx => by
      rw [hM, List.mem_append] at hx
      rcases hx with h | h
      · exact hr.byte x (List.mem_of_mem_take h)
      · exact Crc.four_byte _ x h
    have hMlen : M.length = m + 4 := by rw [hM, List.length_append, htl]; rfl
    have heq : ((strB M).toList == (strB l).toList) = r := by
      rw [strB_eq hMb hr.byte, hrr, run_ends l (by omega), hM, hn, Nat.add_sub_cancel]
    have hcall2 : ∀ w', Below w.heap.size w w' → Calls Try.prog 10 #[.slice (some ⟨b, off, none⟩) m cap] w' fun e w1 => ∃ g c, e = .returned (.slice (some ⟨g, 0, none⟩) (m + 4) c) ∧ Row w1 (some ⟨g, 0, none⟩) c M ∧ Below w'.heap.size w' w1 := fun w' h => by
      refine (refappend_any (some ⟨b, off, none⟩) m cap (l.take m) w' ((hr.below h).take m cap (by omega) (Nat.le_refl _) (hr.2.2.2.1)) htl (by omega)).mono ?_
      rintro e w1 ⟨v, rfl, hown, hb⟩
      rw [← hM, hMlen] at hown
      obtain ⟨g, c, cur, rfl, h1, h2, h3, h5, h6, h7⟩ := own_open hown (by omega)
      exact ⟨g, c, rfl, own_row h2 hMlen hMb h3 h5 h7, hb⟩
    rw [← hrr]
    have Hcall := Lib.hid hcall2; have HMlen := Lib.hid hMlen
    have s1 : IntKind.i64.wrap ((m : Int) + 4 - 4) = (m : Int) := by rw [IntWalk.i64_in _ (by omega)]; omega
    have s2 : IntKind.i64.wrap (m : Int) = (m : Int) := IntWalk.i64_in _ (by omega)
    have i0 : (0 : Int) ≤ (m : Int) := by omega
    have i1 : (m : Int) ≤ (cap : Int) := by omega
    clear hr hn hM hrr hMlen hMb htl hcall2
    go_enter Try.func12, Try.ntmps12
    go_wp2_with fail
    refine Reg.region_list (by kernel_rfl) [fun v _ => v = .slice (some ⟨b, off, none⟩) (m + 4) cap, fun v _ => v = .int .i64 ((m + 4 : Nat) : Int), fun v _ => v = .bool true, fun v _ => v = .bool true, fun v _ => v = .slice (some ⟨b, off, none⟩) (m + 4) cap, fun v _ => v = .slice (some ⟨b, off, none⟩) (m + 4) cap, fun v _ => v = .int .i64 ((m + 4 : Nat) : Int), fun v _ => v = .int .i64 (m : Int), fun v _ => v = .slice (some ⟨b, off, none⟩) m cap, fun v w => ∃ g c, v = .slice (some ⟨g, 0, none⟩) (m + 4) c ∧ Row w (some ⟨g, 0, none⟩) c M, fun v _ => v = .string (strB M), fun v _ => v = .slice (some ⟨b, off, none⟩) (m + 4) cap, fun v _ => v = .string (strB l), fun v _ => v = .bool r, fun v _ => v = .bool r, fun v _ => v = .bool r] (by kernel_rfl) ?_ ?_ ?_
    · refine ⟨(fun _ _ _ _ h => h), (fun _ _ _ _ h => h), (fun _ _ _ _ h => h), (fun _ _ _ _ h => h), (fun _ _ _ _ h => h), (fun _ _ _ _ h => h), (fun _ _ _ _ h => h), (fun _ _ _ _ h => h), (fun _ _ _ _ h => h), (fun v wa wb hb h => by obtain ⟨g, c, h1, h2⟩ := h; exact ⟨g, c, h1, h2.below hb⟩), (fun _ _ _ _ h => h), (fun _ _ _ _ h => h), (fun _ _ _ _ h => h), (fun _ _ _ _ h => h), (fun _ _ _ _ h => h), (fun _ _ _ _ h => h), trivial⟩
    · refine ⟨?_, ?_, ?_, ?_, ?_, ?_, ?_, ?_, ?_, ?_, ?_, ?_, ?_, ?_, ?_, ?_, trivial⟩
      · intro ev w hc hf hg hfix hdep hbel
        have e0 : ev (.tmp 0) = .slice (some ⟨b, off, none⟩) (m + 4) cap := hfix 0 (by decide)
        exact Or.inl ⟨trivial, Or.inl ⟨.slice (some ⟨b, off, none⟩) (m + 4) cap, w, by go_simp, rfl, Below.refl _ _⟩⟩
      · intro ev w hc hf hg hfix hdep hbel
        have e3 : ev (.tmp 3) = .slice (some ⟨b, off, none⟩) (m + 4) cap := hdep 0 (by decide)
        exact Or.inl ⟨trivial, Or.inl ⟨.int .i64 ((m + 4 : Nat) : Int), w, by go_simp, rfl, Below.refl _ _⟩⟩
      · intro ev w hc hf hg hfix hdep hbel
        have e4 : ev (.tmp 4) = .int .i64 ((m + 4 : Nat) : Int) := hdep 1 (by decide)
        exact Or.inl ⟨trivial, Or.inl ⟨.bool true, w, by go_simp, rfl, Below.refl _ _⟩⟩
      · intro ev w hc hf hg hfix hdep hbel
        have e5 : ev (.tmp 5) = .bool true := hdep 2 (by decide)
        exact Or.inl ⟨trivial, Or.inl ⟨.bool true, w, by go_simp, rfl, Below.refl _ _⟩⟩
      · intro ev w hc hf hg hfix hdep hbel
        have fg : ev (.tmp 6) = .bool true := hdep 3 (by decide)
        have e0 : ev (.tmp 0) = .slice (some ⟨b, off, none⟩) (m + 4) cap := hfix 0 (by decide)
        exact Or.inl ⟨fg, Or.inl ⟨.slice (some ⟨b, off, none⟩) (m + 4) cap, w, by go_simp, rfl, Below.refl _ _⟩⟩
      · intro ev w hc hf hg hfix hdep hbel
        have fg : ev (.tmp 6) = .bool true := hdep 3 (by decide)
        have e0 : ev (.tmp 0) = .slice (some ⟨b, off, none⟩) (m + 4) cap := hfix 0 (by decide)
        exact Or.inl ⟨fg, Or.inl ⟨.slice (some ⟨b, off, none⟩) (m + 4) cap, w, by go_simp, rfl, Below.refl _ _⟩⟩
      · intro ev w hc hf hg hfix hdep hbel
        have fg : ev (.tmp 6) = .bool true := hdep 3 (by decide)
        have e8 : ev (.tmp 8) = .slice (some ⟨b, off, none⟩) (m + 4) cap := hdep 5 (by decide)
        exact Or.inl ⟨fg, Or.inl ⟨.int .i64 ((m + 4 : Nat) : Int), w, by go_simp, rfl, Below.refl _ _⟩⟩
      · intro ev w hc hf hg hfix hdep hbel
        have fg : ev (.tmp 6) = .bool true := hdep 3 (by decide)
        have e9 : ev (.tmp 9) = .int .i64 ((m + 4 : Nat) : Int) := hdep 6 (by decide)
        exact Or.inl ⟨fg, Or.inl ⟨.int .i64 (m : Int), w, by go_simp, rfl, Below.refl _ _⟩⟩
      · intro ev w hc hf hg hfix hdep hbel
        have fg : ev (.tmp 6) = .bool true := hdep 3 (by decide)
        have e7 : ev (.tmp 7) = .slice (some ⟨b, off, none⟩) (m + 4) cap := hdep 4 (by decide)
        have e10 : ev (.tmp 10) = .int .i64 (m : Int) := hdep 7 (by decide)
        exact Or.inl ⟨fg, Or.inl ⟨.slice (some ⟨b, off, none⟩) m cap, w, by go_simp, rfl, Below.refl _ _⟩⟩
      · intro ev w hc hf hg hfix hdep hbel
        have fg : ev (.tmp 6) = .bool true := hdep 3 (by decide)
        have e11 : ev (.tmp 11) = .slice (some ⟨b, off, none⟩) m cap := hdep 8 (by decide)
        refine Or.inl ⟨fg, Or.inr ⟨10, #[.slice (some ⟨b, off, none⟩) m cap], w, by go_simp, ?_⟩⟩
        refine (Hcall.out w (hb0.drew.trans hbel)).mono ?_
        rintro e w1 ⟨g, c, rfl, hrow, hb1⟩
        exact ⟨_, rfl, ⟨g, c, rfl, hrow⟩, hb1⟩
      · intro ev w hc hf hg hfix hdep hbel
        have fg : ev (.tmp 6) = .bool true := hdep 3 (by decide)
        have e12 := hdep 9 (by decide)
        obtain ⟨g, c, he, hrow⟩ := e12
        have he' : ev (.tmp 12) = .slice (some ⟨g, 0, none⟩) (m + 4) c := he
        have hcv := conv_row hrow HMlen.out
        exact Or.inl ⟨fg, Or.inl ⟨.string (strB M), w, by go_simp, rfl, Below.refl _ _⟩⟩
      · intro ev w hc hf hg hfix hdep hbel
        have fg : ev (.tmp 6) = .bool true := hdep 3 (by decide)
        have e0 : ev (.tmp 0) = .slice (some ⟨b, off, none⟩) (m + 4) cap := hfix 0 (by decide)
        exact Or.inl ⟨fg, Or.inl ⟨.slice (some ⟨b, off, none⟩) (m + 4) cap, w, by go_simp, rfl, Below.refl _ _⟩⟩
      · intro ev w hc hf hg hfix hdep hbel
        have fg : ev (.tmp 6) = .bool true := hdep 3 (by decide)
        have e14 : ev (.tmp 14) = .slice (some ⟨b, off, none⟩) (m + 4) cap := hdep 11 (by decide)
        have hcv := hconv w (hb0.drew.trans hbel)
        exact Or.inl ⟨fg, Or.inl ⟨.string (strB l), w, by go_simp, rfl, Below.refl _ _⟩⟩
      · intro ev w hc hf hg hfix hdep hbel
        have fg : ev (.tmp 6) = .bool true := hdep 3 (by decide)
        have e13 : ev (.tmp 13) = .string (strB M) := hdep 10 (by decide)
        have e15 : ev (.tmp 15) = .string (strB l) := hdep 12 (by decide)
        exact Or.inl ⟨fg, Or.inl ⟨.bool r, w, by go_simp, rfl, Below.refl _ _⟩⟩
      · intro ev w hc hf hg hfix hdep hbel
        have e6 : ev (.tmp 6) = .bool true := hdep 3 (by decide)
        have e16 : ev (.tmp 16) = .bool r := hdep 13 (by decide)
        exact Or.inl ⟨trivial, Or.inl ⟨.bool r, w, by go_simp, rfl, Below.refl _ _⟩⟩
      · intro ev w hc hf hg hfix hdep hbel
        have e17 : ev (.tmp 17) = .bool r := hdep 14 (by decide)
        exact Or.inl ⟨trivial, Or.inl ⟨.bool r, w, by go_simp, rfl, Below.refl _ _⟩⟩
    · intro v w2 hv hb2
      have r0 : v 0 = .slice (some ⟨b, off, none⟩) (m + 4) cap := hv 0 (by decide)
      have r1 : v 1 = .int .i64 ((m + 4 : Nat) : Int) := hv 1 (by decide)
      have r2 : v 2 = .bool true := hv 2 (by decide)
      have r3 : v 3 = .bool true := hv 3 (by decide)
      have r4 : v 4 = .slice (some ⟨b, off, none⟩) (m + 4) cap := hv 4 (by decide)
      have r5 : v 5 = .slice (some ⟨b, off, none⟩) (m + 4) cap := hv 5 (by decide)
      have r6 : v 6 = .int .i64 ((m + 4 : Nat) : Int) := hv 6 (by decide)
      have r7 : v 7 = .int .i64 (m : Int) := hv 7 (by decide)
      have r8 : v 8 = .slice (some ⟨b, off, none⟩) m cap := hv 8 (by decide)
      have r9 := hv 9 (by decide)
      have r10 : v 10 = .string (strB M) := hv 10 (by decide)
      have r11 : v 11 = .slice (some ⟨b, off, none⟩) (m + 4) cap := hv 11 (by decide)
      have r12 : v 12 = .string (strB l) := hv 12 (by decide)
      have r13 : v 13 = .bool r := hv 13 (by decide)
      have r14 : v 14 = .bool r := hv 14 (by decide)
      have r15 : v 15 = .bool r := hv 15 (by decide)
      simp only [Reg.putAll, Act.put, List.setIfInBounds_toArray, List.set_cons_zero, List.set_cons_succ, r0, r1, r2, r3, r4, r5, r6, r7, r8, r10, r11, r12, r13, r14, r15]
      clear r0 r1 r2 r3 r4 r5 r6 r7 r8 r10 r11 r12 r13 r14 r15 hv
      go_wp2_with fail
      go_ret
      exact ⟨rfl, hb2⟩
end Go.Proofs.Ytjchcjpgaeobmaa
