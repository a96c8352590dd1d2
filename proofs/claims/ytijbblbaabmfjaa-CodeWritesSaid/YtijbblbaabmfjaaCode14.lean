import Derived.Test.YtijbblbaabmfjaaCode13
import Derived.OwnWalk
import Derived.Laws.MakeOwn
namespace Go.Proofs.Ytijbblbaabmfjaa
open Go.RowKit Go.Buf
theorem made_size (n : Nat) : (madeCells (Value.int .u8 0).cells n).size = n := by simp [madeCells]
theorem run_make0 (n : Nat) (hn : n ≤ 1000000) (w : World) : Sem.run Try.prog (Instr.makeSlice 22 (.int .i64 0) (.int .i64 (n : Int))) w =
    .ok (.slice (some ⟨w.heap.size, 0, none⟩) 0 n) (w.alloc (.cells (madeCells (Value.int .u8 0).cells n) 5)) := by
  obtain ⟨i0, hi, hz0, hz1, hz2⟩ := info_parts info5
  have := run_make (P := Try.prog) w 22 5 i0 (.int .u8 0) Try.underlying22 hi hz0 .i64 .i64 0 (n : Int) (by omega) (by omega) (by rw [hz2]; omega) (by omega)
  rw [this, hz1, Nat.mul_one]; simp
def RetTx (w : World) (L : List Nat) (e : Ending) (w1 : World) : Prop := ∃ b c, e = .returned (.slice b L.length c) ∧ Row w1 b c L ∧ Below w.heap.size w w1
theorem retTx {w : World} {l : List Nat} {e : Ending} {w' : World} (h : RetBB w.heap.size w none l e w') : RetTx w l e w' := by
  obtain ⟨v, row', rfl, h1, h2⟩ := h.below
  obtain ⟨a, c, rfl, hr⟩ := h1.row
  exact ⟨a, c, rfl, hr, h2⟩
set_option maxRecDepth 100000 in
set_option maxHeartbeats 1600000 in
theorem writes_big (a : Option Addr) (n cap : Nat) (nn m : Int) (s : ByteArray) (w : World) (hbig : 1000 < n ∨ 1000 < s.size) (hn : n ≤ 9223372036854775807) (hs : s.size ≤ 9223372036854775807) :
    Calls Try.prog 3 #[.slice a n cap, .int .u64 nn, .int .i64 m, .string s] w (RetBool w.heap.size w true) := by
  by_cases h1 : 1000 < n
  · go_enter Try.func3, Try.ntmps3
    go_wp2_with fail
    refine (known_any _).mono ?_
    rintro e w1 ⟨rfl, hb⟩
    have Hb := Lib.hid hb; clear hb
    go_wp2_with fail
    go_ret
    exact ⟨rfl, Hb.out⟩
  · have h2 : 1000 < s.size := by omega
    clear hbig
    go_enter Try.func3, Try.ntmps3
    go_wp2_with fail
    refine (known_any _).mono ?_
    rintro e w1 ⟨rfl, hb⟩
    have Hb := Lib.hid hb; clear hb
    go_wp2_with fail
    go_ret
    exact ⟨rfl, Hb.out⟩
set_option maxRecDepth 100000 in
set_option maxHeartbeats 6400000 in
theorem writes_small (a : Option Addr) (n cap : Nat) (l : List Nat) (nn : Nat) (m : Int) (s : ByteArray) (W : World) (hr : Row W a cap l) (hl : l.length = n) (hn : n ≤ 1000) (hs : s.size ≤ 1000) (hnn : nn < 18446744073709551616) (hm1 : -9223372036854775808 ≤ m) (hm2 : m ≤ 9223372036854775807) :
    Calls Try.prog 3 #[.slice a n cap, .int .u64 nn, .int .i64 m, .string s] W (RetBool W.heap.size W true) := by
  have HR := Lib.hid hr; have HL := Lib.hid hl; have HN := Lib.hid hnn
  have hmk := run_make0 n (by omega) W
  have hsrc := (src_row (hr.alloc (.cells (madeCells (Value.int .u8 0).cells n) 5)) hl)
  have hown0 := World.ownsRow_made (e := 5) (size := 1) W (madeCells (Value.int .u8 0).cells n) n (Nat.le_refl _) (by unfold maxLen; omega) (by rw [made_size, Nat.mul_one])
  have hrow0 := hr.alloc (.cells (madeCells (Value.int .u8 0).cells n) 5)
  have hnil : a = none → n = 0 ∧ cap = 0 := fun h => by
    have h1 := hr.2.2.2.1 h
    have h2 := hr.le
    omega
  obtain ⟨i0, hi, hz0, hz1, hz2⟩ := info_parts info5
  have Hown0 := Lib.hid hown0; have Hrow0 := Lib.hid hrow0; have Hnil := Lib.hid hnil
  have hlb : (bytesV l).length = n * 1 := by rw [bytesV_length, hl, Nat.mul_one]
  have Hlb := Lib.hid hlb
  clear hr hl hnn hsrc hown0 hrow0 hnil hlb
  go_enter Try.func3, Try.ntmps3
  go_wp2_with (refine wpList_append_fits_any _ rfl (.tmp 21) (.tmp 22) 22 rfl W.heap.size 5 i0 1 Try.underlying22 hi hz1 W.heap.size 0 n [] rfl Hown0.out a n cap (bytesV l) rfl Hlb.out Hnil.out Hrow0.out.holds (bytesV_one l) (by omega) ?_; intro w3 hown hgrow)
  have hb3 : Below W.heap.size W w3 := ((Below.refl _ _).alloc (Nat.le_refl _) _).trans (below_of_grown hgrow (by simp) (fun k hk => by cases hk; exact Nat.le_refl _))
  simp only [Nat.zero_add, List.nil_append] at hown ⊢
  have hbb : BB W.heap.size w3 (.slice (some ⟨W.heap.size, 0, none⟩) n n) l (some W.heap.size) := by
    refine ⟨HR.out.byte, ?_⟩
    rw [HL.out]
    exact Buf.own hown hb3.size
  obtain ⟨a', c', he, hrow⟩ := hbb.row
  rw [HL.out] at he
  obtain ⟨rfl, rfl⟩ : some ⟨W.heap.size, 0, none⟩ = a' ∧ n = c' := by simpa using he
  obtain ⟨g, hg⟩ : ∃ g, g = W.heap.size := ⟨_, rfl⟩
  obtain ⟨w, hw⟩ : ∃ w, w = w3 := ⟨_, rfl⟩
  rw [← hw] at hrow hb3 ⊢
  obtain ⟨L1, hL1⟩ : ∃ L, L = l ++ Cd.num nn := ⟨_, rfl⟩
  obtain ⟨L2, hL2⟩ : ∃ L, L = l ++ Cd.num (Cd.uns m) := ⟨_, rfl⟩
  obtain ⟨L3, hL3⟩ : ∃ L, L = l ++ (Cd.num s.size ++ strL s) := ⟨_, rfl⟩
  obtain ⟨L4, hL4⟩ : ∃ L, L = frameL l := ⟨_, rfl⟩
  have C1 : Hid (∀ w', Below w.heap.size w w' → Calls Try.prog 7 #[.slice (some ⟨W.heap.size, 0, none⟩) n n, .int .u64 nn] w' (RetTx w' L1)) := fun w' h => by
    rw [hL1]; exact (num_any w'.heap.size _ l none nn w' (BB.of_row (hrow.below h) HL.out (Nat.le_refl _)) HN.out (by rw [HL.out]; omega)).mono (fun _ _ h => retTx h)
  have D1 : Hid (∀ w', Below w.heap.size w w' → Calls Try.prog 8 #[.slice a n cap, .int .u64 nn] w' (RetTx w' L1)) := fun w' h => by
    rw [hL1]; exact (refnum_any a n cap l nn w' ((HR.out.below hb3).below h) HL.out HN.out (by omega)).mono (fun _ _ h => retTx h)
  have C2 : Hid (∀ w', Below w.heap.size w w' → Calls Try.prog 9 #[.slice (some ⟨W.heap.size, 0, none⟩) n n, .int .i64 m] w' (RetTx w' L2)) := fun w' h => by
    rw [hL2]; exact (int_any w'.heap.size _ l none m w' (BB.of_row (hrow.below h) HL.out (Nat.le_refl _)) hm1 hm2 (by rw [HL.out]; omega)).mono (fun _ _ h => retTx h)
  have D2 : Hid (∀ w', Below w.heap.size w w' → Calls Try.prog 10 #[.slice a n cap, .int .i64 m] w' (RetTx w' L2)) := fun w' h => by
    rw [hL2]; exact (refint_any a n cap l m w' ((HR.out.below hb3).below h) HL.out hm1 hm2 (by omega)).mono (fun _ _ h => retTx h)
  have C3 : Hid (∀ w', Below w.heap.size w w' → Calls Try.prog 11 #[.slice (some ⟨W.heap.size, 0, none⟩) n n, .string s] w' (RetTx w' L3)) := fun w' h => by
    rw [hL3]; exact (text_any w'.heap.size _ l none s w' (BB.of_row (hrow.below h) HL.out (Nat.le_refl _)) (by omega) (by rw [HL.out]; omega)).mono (fun _ _ h => retTx h)
  have D3 : Hid (∀ w', Below w.heap.size w w' → Calls Try.prog 12 #[.slice a n cap, .string s] w' (RetTx w' L3)) := fun w' h => by
    rw [hL3]; exact (reftext_any a n cap l s w' ((HR.out.below hb3).below h) HL.out (by omega) (by omega)).mono (fun _ _ h => retTx h)
  have C4 : Hid (∀ w', Below w.heap.size w w' → Calls Try.prog 13 #[.slice (some ⟨W.heap.size, 0, none⟩) n n] w' (RetTx w' L4)) := fun w' h => by
    rw [hL4]; exact (frame_any _ n n l w' (hrow.below h) HL.out (by omega)).mono (fun _ _ h => retTx h)
  have D4 : Hid (∀ w', Below w.heap.size w w' → Calls Try.prog 14 #[.slice a n cap] w' (RetTx w' L4)) := fun w' h => by
    rw [hL4]; exact (refframe_any a n cap l w' ((HR.out.below hb3).below h) HL.out (by omega)).mono (fun _ _ h => retTx h)
  have hb0 := Below.refl w.heap.size w
  have Hrow := Lib.hid hrow; have HB3 := Lib.hid hb3
  rw [← hg] at C1 C2 C3 C4 Hrow ⊢
  have HG := Lib.hid hg
  clear hg hw hL1 hL2 hL3 hL4 hrow hb3 hbb he hown hgrow hmk
  refine Reg.region_list (by kernel_rfl) [fun v _ => v = .slice (some ⟨g, 0, none⟩) n n, fun v _ => v = .int .u64 (nn : Int), fun v w => ∃ b c, v = .slice b (L1).length c ∧ Row w b c L1, fun v _ => v = .string (strB L1), fun v _ => v = .slice a n cap, fun v _ => v = .int .u64 (nn : Int), fun v w => ∃ b c, v = .slice b (L1).length c ∧ Row w b c L1, fun v _ => v = .string (strB L1), fun v _ => v = .bool false, fun v _ => v = .bool false, fun v _ => v = .slice (some ⟨g, 0, none⟩) n n, fun v _ => v = .int .i64 m, fun v w => ∃ b c, v = .slice b (L2).length c ∧ Row w b c L2, fun v _ => v = .string (strB L2), fun v _ => v = .slice a n cap, fun v _ => v = .int .i64 m, fun v w => ∃ b c, v = .slice b (L2).length c ∧ Row w b c L2, fun v _ => v = .string (strB L2), fun v _ => v = .bool false, fun v _ => v = .bool false, fun v _ => v = .bool false, fun v _ => v = .slice (some ⟨g, 0, none⟩) n n, fun v _ => v = .string s, fun v w => ∃ b c, v = .slice b (L3).length c ∧ Row w b c L3, fun v _ => v = .string (strB L3), fun v _ => v = .slice a n cap, fun v _ => v = .string s, fun v w => ∃ b c, v = .slice b (L3).length c ∧ Row w b c L3, fun v _ => v = .string (strB L3), fun v _ => v = .bool false, fun v _ => v = .bool false, fun v _ => v = .bool false, fun v _ => v = .slice (some ⟨g, 0, none⟩) n n, fun v w => ∃ b c, v = .slice b (L4).length c ∧ Row w b c L4, fun v _ => v = .string (strB L4), fun v _ => v = .slice a n cap, fun v w => ∃ b c, v = .slice b (L4).length c ∧ Row w b c L4, fun v _ => v = .string (strB L4), fun v _ => v = .bool false, fun v _ => v = .bool false] (by kernel_rfl) ?_ ?_ ?_
  · refine ⟨(fun _ _ _ _ h => h), (fun _ _ _ _ h => h), (fun v wa wb hb h => by obtain ⟨b, c, h1, h2⟩ := h; exact ⟨b, c, h1, h2.below hb⟩), (fun _ _ _ _ h => h), (fun _ _ _ _ h => h), (fun _ _ _ _ h => h), (fun v wa wb hb h => by obtain ⟨b, c, h1, h2⟩ := h; exact ⟨b, c, h1, h2.below hb⟩), (fun _ _ _ _ h => h), (fun _ _ _ _ h => h), (fun _ _ _ _ h => h), (fun _ _ _ _ h => h), (fun _ _ _ _ h => h), (fun v wa wb hb h => by obtain ⟨b, c, h1, h2⟩ := h; exact ⟨b, c, h1, h2.below hb⟩), (fun _ _ _ _ h => h), (fun _ _ _ _ h => h), (fun _ _ _ _ h => h), (fun v wa wb hb h => by obtain ⟨b, c, h1, h2⟩ := h; exact ⟨b, c, h1, h2.below hb⟩), (fun _ _ _ _ h => h), (fun _ _ _ _ h => h), (fun _ _ _ _ h => h), (fun _ _ _ _ h => h), (fun _ _ _ _ h => h), (fun _ _ _ _ h => h), (fun v wa wb hb h => by obtain ⟨b, c, h1, h2⟩ := h; exact ⟨b, c, h1, h2.below hb⟩), (fun _ _ _ _ h => h), (fun _ _ _ _ h => h), (fun _ _ _ _ h => h), (fun v wa wb hb h => by obtain ⟨b, c, h1, h2⟩ := h; exact ⟨b, c, h1, h2.below hb⟩), (fun _ _ _ _ h => h), (fun _ _ _ _ h => h), (fun _ _ _ _ h => h), (fun _ _ _ _ h => h), (fun _ _ _ _ h => h), (fun v wa wb hb h => by obtain ⟨b, c, h1, h2⟩ := h; exact ⟨b, c, h1, h2.below hb⟩), (fun _ _ _ _ h => h), (fun _ _ _ _ h => h), (fun v wa wb hb h => by obtain ⟨b, c, h1, h2⟩ := h; exact ⟨b, c, h1, h2.below hb⟩), (fun _ _ _ _ h => h), (fun _ _ _ _ h => h), (fun _ _ _ _ h => h), trivial⟩
  · refine ⟨?_, ?_, ?_, ?_, ?_, ?_, ?_, ?_, ?_, ?_, ?_, ?_, ?_, ?_, ?_, ?_, ?_, ?_, ?_, ?_, ?_, ?_, ?_, ?_, ?_, ?_, ?_, ?_, ?_, ?_, ?_, ?_, ?_, ?_, ?_, ?_, ?_, ?_, ?_, ?_, trivial⟩
    · intro ev w hc hf hg hfix hdep hbel
      have e9 : ev (.tmp 9) = .slice (some ⟨g, 0, none⟩) n n := hfix 9 (by decide)
      exact Or.inl ⟨trivial, Or.inl ⟨.slice (some ⟨g, 0, none⟩) n n, w, by go_simp, rfl, Below.refl _ _⟩⟩
    · intro ev w hc hf hg hfix hdep hbel
      have e1 : ev (.tmp 1) = .int .u64 (nn : Int) := hfix 1 (by decide)
      exact Or.inl ⟨trivial, Or.inl ⟨.int .u64 (nn : Int), w, by go_simp, rfl, Below.refl _ _⟩⟩
    · intro ev w hc hf hg hfix hdep hbel
      have e24 : ev (.tmp 24) = .slice (some ⟨g, 0, none⟩) n n := hdep 0 (by decide)
      have e25 : ev (.tmp 25) = .int .u64 (nn : Int) := hdep 1 (by decide)
      refine Or.inl ⟨trivial, Or.inr ⟨7, #[.slice (some ⟨g, 0, none⟩) n n, .int .u64 (nn : Int)], w, by go_simp, ?_⟩⟩
      refine (C1.out w (hb0.drew.trans hbel)).mono ?_
      rintro e w1 ⟨b, c, rfl, hrow, hb1⟩
      exact ⟨_, rfl, ⟨b, c, rfl, hrow⟩, hb1⟩
    · intro ev w hc hf hg hfix hdep hbel
      have e26 := hdep 2 (by decide)
      obtain ⟨b, c, he, hrow⟩ := e26
      have he' : ev (.tmp 26) = .slice b (L1).length c := he
      have hcv := conv_row hrow rfl
      exact Or.inl ⟨trivial, Or.inl ⟨.string (strB L1), w, by go_simp, rfl, Below.refl _ _⟩⟩
    · intro ev w hc hf hg hfix hdep hbel
      have e0 : ev (.tmp 0) = .slice a n cap := hfix 0 (by decide)
      exact Or.inl ⟨trivial, Or.inl ⟨.slice a n cap, w, by go_simp, rfl, Below.refl _ _⟩⟩
    · intro ev w hc hf hg hfix hdep hbel
      have e1 : ev (.tmp 1) = .int .u64 (nn : Int) := hfix 1 (by decide)
      exact Or.inl ⟨trivial, Or.inl ⟨.int .u64 (nn : Int), w, by go_simp, rfl, Below.refl _ _⟩⟩
    · intro ev w hc hf hg hfix hdep hbel
      have e28 : ev (.tmp 28) = .slice a n cap := hdep 4 (by decide)
      have e29 : ev (.tmp 29) = .int .u64 (nn : Int) := hdep 5 (by decide)
      refine Or.inl ⟨trivial, Or.inr ⟨8, #[.slice a n cap, .int .u64 (nn : Int)], w, by go_simp, ?_⟩⟩
      refine (D1.out w (hb0.drew.trans hbel)).mono ?_
      rintro e w1 ⟨b, c, rfl, hrow, hb1⟩
      exact ⟨_, rfl, ⟨b, c, rfl, hrow⟩, hb1⟩
    · intro ev w hc hf hg hfix hdep hbel
      have e30 := hdep 6 (by decide)
      obtain ⟨b, c, he, hrow⟩ := e30
      have he' : ev (.tmp 30) = .slice b (L1).length c := he
      have hcv := conv_row hrow rfl
      exact Or.inl ⟨trivial, Or.inl ⟨.string (strB L1), w, by go_simp, rfl, Below.refl _ _⟩⟩
    · intro ev w hc hf hg hfix hdep hbel
      have e27 : ev (.tmp 27) = .string (strB L1) := hdep 3 (by decide)
      have e31 : ev (.tmp 31) = .string (strB L1) := hdep 7 (by decide)
      exact Or.inl ⟨trivial, Or.inl ⟨.bool false, w, by go_simp, rfl, Below.refl _ _⟩⟩
    · intro ev w hc hf hg hfix hdep hbel
      have e32 : ev (.tmp 32) = .bool false := hdep 8 (by decide)
      exact Or.inl ⟨trivial, Or.inl ⟨.bool false, w, by go_simp, rfl, Below.refl _ _⟩⟩
    · intro ev w hc hf hg hfix hdep hbel
      have fg : ev (.tmp 33) = .bool false := hdep 9 (by decide)
      have e9 : ev (.tmp 9) = .slice (some ⟨g, 0, none⟩) n n := hfix 9 (by decide)
      exact Or.inl ⟨fg, Or.inl ⟨.slice (some ⟨g, 0, none⟩) n n, w, by go_simp, rfl, Below.refl _ _⟩⟩
    · intro ev w hc hf hg hfix hdep hbel
      have fg : ev (.tmp 33) = .bool false := hdep 9 (by decide)
      have e2 : ev (.tmp 2) = .int .i64 m := hfix 2 (by decide)
      exact Or.inl ⟨fg, Or.inl ⟨.int .i64 m, w, by go_simp, rfl, Below.refl _ _⟩⟩
    · intro ev w hc hf hg hfix hdep hbel
      have fg : ev (.tmp 33) = .bool false := hdep 9 (by decide)
      have e34 : ev (.tmp 34) = .slice (some ⟨g, 0, none⟩) n n := hdep 10 (by decide)
      have e35 : ev (.tmp 35) = .int .i64 m := hdep 11 (by decide)
      refine Or.inl ⟨fg, Or.inr ⟨9, #[.slice (some ⟨g, 0, none⟩) n n, .int .i64 m], w, by go_simp, ?_⟩⟩
      refine (C2.out w (hb0.drew.trans hbel)).mono ?_
      rintro e w1 ⟨b, c, rfl, hrow, hb1⟩
      exact ⟨_, rfl, ⟨b, c, rfl, hrow⟩, hb1⟩
    · intro ev w hc hf hg hfix hdep hbel
      have fg : ev (.tmp 33) = .bool false := hdep 9 (by decide)
      have e36 := hdep 12 (by decide)
      obtain ⟨b, c, he, hrow⟩ := e36
      have he' : ev (.tmp 36) = .slice b (L2).length c := he
      have hcv := conv_row hrow rfl
      exact Or.inl ⟨fg, Or.inl ⟨.string (strB L2), w, by go_simp, rfl, Below.refl _ _⟩⟩
    · intro ev w hc hf hg hfix hdep hbel
      have fg : ev (.tmp 33) = .bool false := hdep 9 (by decide)
      have e0 : ev (.tmp 0) = .slice a n cap := hfix 0 (by decide)
      exact Or.inl ⟨fg, Or.inl ⟨.slice a n cap, w, by go_simp, rfl, Below.refl _ _⟩⟩
    · intro ev w hc hf hg hfix hdep hbel
      have fg : ev (.tmp 33) = .bool false := hdep 9 (by decide)
      have e2 : ev (.tmp 2) = .int .i64 m := hfix 2 (by decide)
      exact Or.inl ⟨fg, Or.inl ⟨.int .i64 m, w, by go_simp, rfl, Below.refl _ _⟩⟩
    · intro ev w hc hf hg hfix hdep hbel
      have fg : ev (.tmp 33) = .bool false := hdep 9 (by decide)
      have e38 : ev (.tmp 38) = .slice a n cap := hdep 14 (by decide)
      have e39 : ev (.tmp 39) = .int .i64 m := hdep 15 (by decide)
      refine Or.inl ⟨fg, Or.inr ⟨10, #[.slice a n cap, .int .i64 m], w, by go_simp, ?_⟩⟩
      refine (D2.out w (hb0.drew.trans hbel)).mono ?_
      rintro e w1 ⟨b, c, rfl, hrow, hb1⟩
      exact ⟨_, rfl, ⟨b, c, rfl, hrow⟩, hb1⟩
    · intro ev w hc hf hg hfix hdep hbel
      have fg : ev (.tmp 33) = .bool false := hdep 9 (by decide)
      have e40 := hdep 16 (by decide)
      obtain ⟨b, c, he, hrow⟩ := e40
      have he' : ev (.tmp 40) = .slice b (L2).length c := he
      have hcv := conv_row hrow rfl
      exact Or.inl ⟨fg, Or.inl ⟨.string (strB L2), w, by go_simp, rfl, Below.refl _ _⟩⟩
    · intro ev w hc hf hg hfix hdep hbel
      have fg : ev (.tmp 33) = .bool false := hdep 9 (by decide)
      have e37 : ev (.tmp 37) = .string (strB L2) := hdep 13 (by decide)
      have e41 : ev (.tmp 41) = .string (strB L2) := hdep 17 (by decide)
      exact Or.inl ⟨fg, Or.inl ⟨.bool false, w, by go_simp, rfl, Below.refl _ _⟩⟩
    · intro ev w hc hf hg hfix hdep hbel
      have e33 : ev (.tmp 33) = .bool false := hdep 9 (by decide)
      have e42 : ev (.tmp 42) = .bool false := hdep 18 (by decide)
      exact Or.inl ⟨trivial, Or.inl ⟨.bool false, w, by go_simp, rfl, Below.refl _ _⟩⟩
    · intro ev w hc hf hg hfix hdep hbel
      have e43 : ev (.tmp 43) = .bool false := hdep 19 (by decide)
      exact Or.inl ⟨trivial, Or.inl ⟨.bool false, w, by go_simp, rfl, Below.refl _ _⟩⟩
    · intro ev w hc hf hg hfix hdep hbel
      have fg : ev (.tmp 44) = .bool false := hdep 20 (by decide)
      have e9 : ev (.tmp 9) = .slice (some ⟨g, 0, none⟩) n n := hfix 9 (by decide)
      exact Or.inl ⟨fg, Or.inl ⟨.slice (some ⟨g, 0, none⟩) n n, w, by go_simp, rfl, Below.refl _ _⟩⟩
    · intro ev w hc hf hg hfix hdep hbel
      have fg : ev (.tmp 44) = .bool false := hdep 20 (by decide)
      have e3 : ev (.tmp 3) = .string s := hfix 3 (by decide)
      exact Or.inl ⟨fg, Or.inl ⟨.string s, w, by go_simp, rfl, Below.refl _ _⟩⟩
    · intro ev w hc hf hg hfix hdep hbel
      have fg : ev (.tmp 44) = .bool false := hdep 20 (by decide)
      have e45 : ev (.tmp 45) = .slice (some ⟨g, 0, none⟩) n n := hdep 21 (by decide)
      have e46 : ev (.tmp 46) = .string s := hdep 22 (by decide)
      refine Or.inl ⟨fg, Or.inr ⟨11, #[.slice (some ⟨g, 0, none⟩) n n, .string s], w, by go_simp, ?_⟩⟩
      refine (C3.out w (hb0.drew.trans hbel)).mono ?_
      rintro e w1 ⟨b, c, rfl, hrow, hb1⟩
      exact ⟨_, rfl, ⟨b, c, rfl, hrow⟩, hb1⟩
    · intro ev w hc hf hg hfix hdep hbel
      have fg : ev (.tmp 44) = .bool false := hdep 20 (by decide)
      have e47 := hdep 23 (by decide)
      obtain ⟨b, c, he, hrow⟩ := e47
      have he' : ev (.tmp 47) = .slice b (L3).length c := he
      have hcv := conv_row hrow rfl
      exact Or.inl ⟨fg, Or.inl ⟨.string (strB L3), w, by go_simp, rfl, Below.refl _ _⟩⟩
    · intro ev w hc hf hg hfix hdep hbel
      have fg : ev (.tmp 44) = .bool false := hdep 20 (by decide)
      have e0 : ev (.tmp 0) = .slice a n cap := hfix 0 (by decide)
      exact Or.inl ⟨fg, Or.inl ⟨.slice a n cap, w, by go_simp, rfl, Below.refl _ _⟩⟩
    · intro ev w hc hf hg hfix hdep hbel
      have fg : ev (.tmp 44) = .bool false := hdep 20 (by decide)
      have e3 : ev (.tmp 3) = .string s := hfix 3 (by decide)
      exact Or.inl ⟨fg, Or.inl ⟨.string s, w, by go_simp, rfl, Below.refl _ _⟩⟩
    · intro ev w hc hf hg hfix hdep hbel
      have fg : ev (.tmp 44) = .bool false := hdep 20 (by decide)
      have e49 : ev (.tmp 49) = .slice a n cap := hdep 25 (by decide)
      have e50 : ev (.tmp 50) = .string s := hdep 26 (by decide)
      refine Or.inl ⟨fg, Or.inr ⟨12, #[.slice a n cap, .string s], w, by go_simp, ?_⟩⟩
      refine (D3.out w (hb0.drew.trans hbel)).mono ?_
      rintro e w1 ⟨b, c, rfl, hrow, hb1⟩
      exact ⟨_, rfl, ⟨b, c, rfl, hrow⟩, hb1⟩
    · intro ev w hc hf hg hfix hdep hbel
      have fg : ev (.tmp 44) = .bool false := hdep 20 (by decide)
      have e51 := hdep 27 (by decide)
      obtain ⟨b, c, he, hrow⟩ := e51
      have he' : ev (.tmp 51) = .slice b (L3).length c := he
      have hcv := conv_row hrow rfl
      exact Or.inl ⟨fg, Or.inl ⟨.string (strB L3), w, by go_simp, rfl, Below.refl _ _⟩⟩
    · intro ev w hc hf hg hfix hdep hbel
      have fg : ev (.tmp 44) = .bool false := hdep 20 (by decide)
      have e48 : ev (.tmp 48) = .string (strB L3) := hdep 24 (by decide)
      have e52 : ev (.tmp 52) = .string (strB L3) := hdep 28 (by decide)
      exact Or.inl ⟨fg, Or.inl ⟨.bool false, w, by go_simp, rfl, Below.refl _ _⟩⟩
    · intro ev w hc hf hg hfix hdep hbel
      have e44 : ev (.tmp 44) = .bool false := hdep 20 (by decide)
      have e53 : ev (.tmp 53) = .bool false := hdep 29 (by decide)
      exact Or.inl ⟨trivial, Or.inl ⟨.bool false, w, by go_simp, rfl, Below.refl _ _⟩⟩
    · intro ev w hc hf hg hfix hdep hbel
      have e54 : ev (.tmp 54) = .bool false := hdep 30 (by decide)
      exact Or.inl ⟨trivial, Or.inl ⟨.bool false, w, by go_simp, rfl, Below.refl _ _⟩⟩
    · intro ev w hc hf hg hfix hdep hbel
      have fg : ev (.tmp 55) = .bool false := hdep 31 (by decide)
      have e9 : ev (.tmp 9) = .slice (some ⟨g, 0, none⟩) n n := hfix 9 (by decide)
      exact Or.inl ⟨fg, Or.inl ⟨.slice (some ⟨g, 0, none⟩) n n, w, by go_simp, rfl, Below.refl _ _⟩⟩
    · intro ev w hc hf hg hfix hdep hbel
      have fg : ev (.tmp 55) = .bool false := hdep 31 (by decide)
      have e56 : ev (.tmp 56) = .slice (some ⟨g, 0, none⟩) n n := hdep 32 (by decide)
      refine Or.inl ⟨fg, Or.inr ⟨13, #[.slice (some ⟨g, 0, none⟩) n n], w, by go_simp, ?_⟩⟩
      refine (C4.out w (hb0.drew.trans hbel)).mono ?_
      rintro e w1 ⟨b, c, rfl, hrow, hb1⟩
      exact ⟨_, rfl, ⟨b, c, rfl, hrow⟩, hb1⟩
    · intro ev w hc hf hg hfix hdep hbel
      have fg : ev (.tmp 55) = .bool false := hdep 31 (by decide)
      have e57 := hdep 33 (by decide)
      obtain ⟨b, c, he, hrow⟩ := e57
      have he' : ev (.tmp 57) = .slice b (L4).length c := he
      have hcv := conv_row hrow rfl
      exact Or.inl ⟨fg, Or.inl ⟨.string (strB L4), w, by go_simp, rfl, Below.refl _ _⟩⟩
    · intro ev w hc hf hg hfix hdep hbel
      have fg : ev (.tmp 55) = .bool false := hdep 31 (by decide)
      have e0 : ev (.tmp 0) = .slice a n cap := hfix 0 (by decide)
      exact Or.inl ⟨fg, Or.inl ⟨.slice a n cap, w, by go_simp, rfl, Below.refl _ _⟩⟩
    · intro ev w hc hf hg hfix hdep hbel
      have fg : ev (.tmp 55) = .bool false := hdep 31 (by decide)
      have e59 : ev (.tmp 59) = .slice a n cap := hdep 35 (by decide)
      refine Or.inl ⟨fg, Or.inr ⟨14, #[.slice a n cap], w, by go_simp, ?_⟩⟩
      refine (D4.out w (hb0.drew.trans hbel)).mono ?_
      rintro e w1 ⟨b, c, rfl, hrow, hb1⟩
      exact ⟨_, rfl, ⟨b, c, rfl, hrow⟩, hb1⟩
    · intro ev w hc hf hg hfix hdep hbel
      have fg : ev (.tmp 55) = .bool false := hdep 31 (by decide)
      have e60 := hdep 36 (by decide)
      obtain ⟨b, c, he, hrow⟩ := e60
      have he' : ev (.tmp 60) = .slice b (L4).length c := he
      have hcv := conv_row hrow rfl
      exact Or.inl ⟨fg, Or.inl ⟨.string (strB L4), w, by go_simp, rfl, Below.refl _ _⟩⟩
    · intro ev w hc hf hg hfix hdep hbel
      have fg : ev (.tmp 55) = .bool false := hdep 31 (by decide)
      have e58 : ev (.tmp 58) = .string (strB L4) := hdep 34 (by decide)
      have e61 : ev (.tmp 61) = .string (strB L4) := hdep 37 (by decide)
      exact Or.inl ⟨fg, Or.inl ⟨.bool false, w, by go_simp, rfl, Below.refl _ _⟩⟩
    · intro ev w hc hf hg hfix hdep hbel
      have e55 : ev (.tmp 55) = .bool false := hdep 31 (by decide)
      have e62 : ev (.tmp 62) = .bool false := hdep 38 (by decide)
      exact Or.inl ⟨trivial, Or.inl ⟨.bool false, w, by go_simp, rfl, Below.refl _ _⟩⟩
  · intro v w2 hv hb2
    have r0 : v 0 = .slice (some ⟨g, 0, none⟩) n n := hv 0 (by decide)
    have r1 : v 1 = .int .u64 (nn : Int) := hv 1 (by decide)
    have r2 := hv 2 (by decide)
    have r3 : v 3 = .string (strB L1) := hv 3 (by decide)
    have r4 : v 4 = .slice a n cap := hv 4 (by decide)
    have r5 : v 5 = .int .u64 (nn : Int) := hv 5 (by decide)
    have r6 := hv 6 (by decide)
    have r7 : v 7 = .string (strB L1) := hv 7 (by decide)
    have r8 : v 8 = .bool false := hv 8 (by decide)
    have r9 : v 9 = .bool false := hv 9 (by decide)
    have r10 : v 10 = .slice (some ⟨g, 0, none⟩) n n := hv 10 (by decide)
    have r11 : v 11 = .int .i64 m := hv 11 (by decide)
    have r12 := hv 12 (by decide)
    have r13 : v 13 = .string (strB L2) := hv 13 (by decide)
    have r14 : v 14 = .slice a n cap := hv 14 (by decide)
    have r15 : v 15 = .int .i64 m := hv 15 (by decide)
    have r16 := hv 16 (by decide)
    have r17 : v 17 = .string (strB L2) := hv 17 (by decide)
    have r18 : v 18 = .bool false := hv 18 (by decide)
    have r19 : v 19 = .bool false := hv 19 (by decide)
    have r20 : v 20 = .bool false := hv 20 (by decide)
    have r21 : v 21 = .slice (some ⟨g, 0, none⟩) n n := hv 21 (by decide)
    have r22 : v 22 = .string s := hv 22 (by decide)
    have r23 := hv 23 (by decide)
    have r24 : v 24 = .string (strB L3) := hv 24 (by decide)
    have r25 : v 25 = .slice a n cap := hv 25 (by decide)
    have r26 : v 26 = .string s := hv 26 (by decide)
    have r27 := hv 27 (by decide)
    have r28 : v 28 = .string (strB L3) := hv 28 (by decide)
    have r29 : v 29 = .bool false := hv 29 (by decide)
    have r30 : v 30 = .bool false := hv 30 (by decide)
    have r31 : v 31 = .bool false := hv 31 (by decide)
    have r32 : v 32 = .slice (some ⟨g, 0, none⟩) n n := hv 32 (by decide)
    have r33 := hv 33 (by decide)
    have r34 : v 34 = .string (strB L4) := hv 34 (by decide)
    have r35 : v 35 = .slice a n cap := hv 35 (by decide)
    have r36 := hv 36 (by decide)
    have r37 : v 37 = .string (strB L4) := hv 37 (by decide)
    have r38 : v 38 = .bool false := hv 38 (by decide)
    have r39 : v 39 = .bool false := hv 39 (by decide)
    simp only [Reg.putAll, Act.put, List.setIfInBounds_toArray, List.set_cons_zero, List.set_cons_succ, r0, r1, r3, r4, r5, r7, r8, r9, r10, r11, r13, r14, r15, r17, r18, r19, r20, r21, r22, r24, r25, r26, r28, r29, r30, r31, r32, r34, r35, r37, r38, r39]
    clear r0 r1 r3 r4 r5 r7 r8 r9 r10 r11 r13 r14 r15 r17 r18 r19 r20 r21 r22 r24 r25 r26 r28 r29 r30 r31 r32 r34 r35 r37 r38 r39 hv
    have hcv1 := conv_row (Hrow.out.below hb2) HL.out
    have hcv2 := conv_row ((HR.out.below HB3.out).below hb2) HL.out
    have HB4 := Lib.hid (HB3.out.trans (hb2.mono HB3.out.size))
    clear hb2
    go_wp2_with fail
    refine (known_any _).mono ?_
    rintro e w5 ⟨rfl, hk⟩
    have HK := Lib.hid hk; clear hk
    go_wp2_with fail
    go_ret
    exact ⟨rfl, HB4.out.trans (HK.out.mono HB4.out.size)⟩
end Go.Proofs.Ytijbblbaabmfjaa
