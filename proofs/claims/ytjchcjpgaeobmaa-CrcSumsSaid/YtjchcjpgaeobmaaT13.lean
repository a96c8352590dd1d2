import Derived.Test.YtjchcjpgaeobmaaT12
namespace Go.Proofs.Ytjchcjpgaeobmaa
open Go.RowKit
theorem own_slice {w : World} {B n : Nat} {v : Value} {l : List Nat} (h : w.ownsRow B 5 1 v n (bytesV l)) (hl : l.length = n) (hb : ∀ x ∈ l, x < 256) : ∃ a c, v = .slice a n c ∧ Row w a c l := by
  obtain ⟨h1, h2⟩ := h
  rcases h2 with ⟨rfl, h0⟩ | ⟨g, cap, cur, hv, hg, hh, hc, hm, hs, ht⟩
  · subst h0
    have : l = [] := List.eq_nil_of_length_eq_zero hl
    subst this
    exact ⟨none, 0, rfl, by simp, by simp, by simp, by simp, by simp⟩
  · exact ⟨_, cap, hv, own_row hh hl hb hc (by unfold maxLen at hm; omega) (by simpa using ht)⟩
/-- 'b[lo:]' -/
def tailAt (a : Option Addr) (lo c : Nat) : Option Addr := if c = lo then a else a.map (·.add lo)
/-- a block whose first N cells are bytes -/
def CurU8 (w : World) (g N : Nat) : Prop := ∃ cur : Array Value, w.heap[g]? = some (.cells cur 5 (0, 0)) ∧ ∀ j, j < N → ∃ x : Nat, x < 256 ∧ cur[j]? = some (.int .u8 (x : Nat))
theorem Addr.add_add (p : Addr) (i j : Nat) : (p.add i).add j = p.add (i + j) := by
  unfold Addr.add
  by_cases hi : i = 0
  · subst hi; simp
  · by_cases hj : j = 0
    · subst hj; simp
    · simp [hi, hj, Nat.add_assoc]
theorem Row.drop {w : World} {a : Option Addr} {cap : Nat} {l : List Nat} (h : Row w a cap l) (k : Nat) (hk : k ≤ l.length) : Row w (tailAt a k cap) (cap - k) (l.drop k) := by
  have hle := h.le
  obtain ⟨h1, h2, h3, h4, h5⟩ := h
  refine ⟨by simp; omega, by omega, fun x hx => h3 x (List.mem_of_mem_drop hx), fun hn => ?_, fun i x hx => ?_⟩
  · unfold tailAt at hn
    split at hn
    · omega
    · cases a with
      | none => have := h4 rfl; omega
      | some p => simp at hn
  · rw [List.getElem?_drop] at hx
    obtain ⟨p, hp, hc⟩ := h5 (k + i) x hx
    have hlt : k + i < l.length := (List.getElem?_eq_some_iff.1 hx).1
    refine ⟨p.add k, ?_, by rw [Addr.add_add]; exact hc⟩
    unfold tailAt
    rw [if_neg (by omega), hp]; rfl
theorem run_slice_to (a : Option Addr) (n c i : Nat) (h : i ≤ c) (w : World) : Sem.run Try.prog (Instr.slice 22 (.slice a n c) none (some (.int .i64 (i : Int))) none) w = .ok (.slice a i c) w := by
  have hu := Try.underlying22
  have h0 : (0 : Int) ≤ (i : Int) := by omega
  have h1 : (i : Int) ≤ (c : Int) := by omega
  go_simp
theorem run_slice_from (a : Option Addr) (n c i : Nat) (h : i ≤ n) (w : World) : Sem.run Try.prog (Instr.slice 22 (.slice a n c) (some (.int .i64 (i : Int))) none none) w = .ok (.slice (tailAt a i c) (n - i) (c - i)) w := by
  have hu := Try.underlying22
  have h0 : (0 : Int) ≤ (i : Int) := by omega
  have h1 : (i : Int) ≤ (n : Int) := by omega
  go_simp
  simp [tailAt]
set_option maxRecDepth 100000 in
set_option maxHeartbeats 1600000 in
theorem sums_big (a : Option Addr) (n cap : Nat) (at_ : Int) (w : World) (hbig : 2000 < n) (hn : n ≤ 9223372036854775807) :
    Calls Try.prog 3 #[.slice a n cap, .int .i64 at_] w (RetBool w.heap.size w true) := by
  go_enter Try.func3, Try.ntmps3
  go_wp2_with fail
  refine (known_any _).mono ?_
  rintro e w1 ⟨rfl, hb⟩
  have Hb := Lib.hid hb; clear hb
  go_wp2_with fail
  go_ret
  exact ⟨rfl, Hb.out⟩
set_option maxRecDepth 100000 in
set_option maxHeartbeats 3200000 in
theorem sums_small (a : Option Addr) (n cap : Nat) (at_ : Int) (l : List Nat) (w : World) (hsm : n ≤ 2000) (hr : Row w a cap l) (hn : l.length = n) :
    Calls Try.prog 3 #[.slice a n cap, .int .i64 at_] w (RetBool w.heap.size w true) := by
  have hle : n ≤ cap := by rw [← hn]; exact hr.le
  have hcap := hr.cap
  obtain ⟨i, hi1, hi2⟩ : ∃ i : Nat, (IntKind.u64.wrap at_).tmod ((n : Int) + 1) = (i : Int) ∧ i ≤ n := by
    have h1 := u64_wrap_bounds at_
    have h2 := Int.emod_nonneg (IntKind.u64.wrap at_) (b := (n : Int) + 1) (by omega)
    have h3 := Int.emod_lt_of_pos (IntKind.u64.wrap at_) (b := (n : Int) + 1) (by omega)
    refine ⟨((IntKind.u64.wrap at_) % ((n : Int) + 1)).toNat, ?_, by omega⟩
    rw [Int.tmod_eq_emod_of_nonneg h1.1]; omega
  have Hr := Lib.hid hr; have Hn := Lib.hid hn; clear hr hn
  go_enter Try.func3, Try.ntmps3
  go_wp2_with (refine wpList_append_row rfl (.tmp 12) (.tmp 13) rfl w.heap.size _ 0 [] rfl (World.ownsRow_made w #[] 0 (Nat.le_refl _) (by unfold maxLen; omega) rfl) a n cap l rfl (Hr.out.below ((Below.refl _ _).alloc (Nat.le_refl _) _)) Hn.out (by omega) (by simp) ?_; intro v5 W2 hown hgrow)
  have hb2 : Below w.heap.size w W2 := ((Below.refl _ _).alloc (Nat.le_refl _) _).grown hgrow (by simp) (fun k hk => by cases hk; exact Nat.le_refl _)
  obtain ⟨a5, c5, rfl, hr5⟩ := own_slice (by simpa using hown) Hn.out Hr.out.byte
  have hle5 : n ≤ c5 := by rw [← Hn.out]; exact hr5.le
  have hcap5 := hr5.cap
  have Hb2 := Lib.hid hb2; have Hr5 := Lib.hid hr5
  clear hown hgrow hb2 hr5
  go_wp2_with fail
  refine (append_any a5 n c5 l W2 Hr5.out Hn.out (by omega)).mono ?_
  rintro e w3 ⟨v6, rfl, hown6, hb3⟩
  obtain ⟨L, hL⟩ : ∃ L, L = l ++ Crc.four (Crc.sum l) := ⟨_, rfl⟩
  have hlen : (l ++ Crc.four (Crc.sum l)).length = n + 4 := by rw [List.length_append, Hn.out]; rfl
  rw [hlen, ← hL] at hown6
  rw [← hL] at hlen
  obtain ⟨g6, c6, cur, rfl, hg6, hblk, hc61, hc62, hcs, htake⟩ := own_open hown6 (by omega)
  have hLb : ∀ y ∈ L, y < 256 := by
    intro y hy; rw [hL, List.mem_append] at hy
    rcases hy with h | h
    · exact Hr.out.byte y h
    · exact Crc.four_byte _ y h
  have hr6 := own_row hblk hlen hLb hc61 hc62 htake
  have HL := Lib.hid hL; have Hlen := Lib.hid hlen; have HLb := Lib.hid hLb; have Hr6 := Lib.hid hr6; have Hb3 := Lib.hid hb3; have Hblk := Lib.hid hblk; have Hcs := Lib.hid hcs; have Htake := Lib.hid htake
  have h30 : Below w.heap.size w w3 := Hb2.out.trans (Hb3.out.mono Hb2.out.size)
  have rows5 : ∀ w', Below w3.heap.size w3 w' → Row w' a5 c5 l := fun w' h => (Hr5.out.below Hb3.out).below h
  have rows0 : ∀ w', Below w3.heap.size w3 w' → Row w' a cap l := fun w' h => (Hr.out.below h30).below h
  have rows6 : ∀ w', Below w3.heap.size w3 w' → Row w' (some ⟨g6, 0, none⟩) c6 L := fun w' h => hr6.below h
  have hmore : Crc.more (Crc.sum (l.take i)) (l.drop i) = Crc.sum l := by
    have := Crc.more_append 0 (l.take i) (l.drop i) (by omega) (fun x hx => Hr.out.byte x (List.mem_of_mem_take hx))
    rw [List.take_append_drop] at this; exact this
  have Rows5 := @rows5; have Rows0 := @rows0; have Rows6 := @rows6
  have H30 := Lib.hid h30; have Hmore := Lib.hid hmore
  clear hL hlen hLb hr6 hb3 hblk hcs htake hown6 h30 hmore rows5 rows0 rows6
  go_wp2_with fail
  refine Reg.region_list (by kernel_rfl) [fun v _ => v = .slice a5 n c5, fun v _ => v = .int .u32 ((Crc.sum l : Nat) : Int), fun v _ => v = .slice a n cap, fun v _ => v = .int .u32 ((Crc.sum l : Nat) : Int), fun v _ => v = .bool false, fun v _ => v = .bool false, fun v _ => v = .slice a5 n c5, fun v _ => v = .int .i64 (i : Int), fun v _ => v = .slice a5 i c5, fun v _ => v = .int .u32 ((Crc.sum (l.take i) : Nat) : Int), fun v _ => v = .slice a5 n c5, fun v _ => v = .int .i64 (i : Int), fun v _ => v = .slice (tailAt a5 i c5) (n - i) (c5 - i), fun v _ => v = .int .u32 ((Crc.sum l : Nat) : Int), fun v _ => v = .slice a n cap, fun v _ => v = .int .u32 ((Crc.sum l : Nat) : Int), fun v _ => v = .bool false, fun v _ => v = .bool false, fun v _ => v = .bool false, fun v _ => v = .slice (some ⟨g6, 0, none⟩) (n + 4) c6, fun v _ => v = .string (strB L), fun v _ => v = .slice a n cap, fun v w => ∃ g c, v = .slice (some ⟨g, 0, none⟩) (n + 4) c ∧ Row w (some ⟨g, 0, none⟩) c L, fun v _ => v = .string (strB L), fun v _ => v = .bool false, fun v _ => v = .bool false, fun v _ => v = .bool false, fun v _ => v = .slice a5 n c5, fun v _ => v = .bool (Crc.ends l), fun v _ => v = .slice a n cap, fun v _ => v = .bool (Crc.ends l), fun v _ => v = .bool false, fun v _ => v = .bool false] (by kernel_rfl) ?_ ?_ ?_
  · refine ⟨(fun _ _ _ _ h => h), (fun _ _ _ _ h => h), (fun _ _ _ _ h => h), (fun _ _ _ _ h => h), (fun _ _ _ _ h => h), (fun _ _ _ _ h => h), (fun _ _ _ _ h => h), (fun _ _ _ _ h => h), (fun _ _ _ _ h => h), (fun _ _ _ _ h => h), (fun _ _ _ _ h => h), (fun _ _ _ _ h => h), (fun _ _ _ _ h => h), (fun _ _ _ _ h => h), (fun _ _ _ _ h => h), (fun _ _ _ _ h => h), (fun _ _ _ _ h => h), (fun _ _ _ _ h => h), (fun _ _ _ _ h => h), (fun _ _ _ _ h => h), (fun _ _ _ _ h => h), (fun _ _ _ _ h => h), (fun v wa wb hb h => by obtain ⟨g, c, h1, h2⟩ := h; exact ⟨g, c, h1, h2.below hb⟩), (fun _ _ _ _ h => h), (fun _ _ _ _ h => h), (fun _ _ _ _ h => h), (fun _ _ _ _ h => h), (fun _ _ _ _ h => h), (fun _ _ _ _ h => h), (fun _ _ _ _ h => h), (fun _ _ _ _ h => h), (fun _ _ _ _ h => h), (fun _ _ _ _ h => h), trivial⟩
  · refine ⟨?_, ?_, ?_, ?_, ?_, ?_, ?_, ?_, ?_, ?_, ?_, ?_, ?_, ?_, ?_, ?_, ?_, ?_, ?_, ?_, ?_, ?_, ?_, ?_, ?_, ?_, ?_, ?_, ?_, ?_, ?_, ?_, ?_, trivial⟩
    · intro ev w hc hf hg hfix hdep hbel
      have e5 : ev (.tmp 5) = .slice a5 n c5 := hfix 5 (by decide)
      exact Or.inl ⟨trivial, Or.inl ⟨.slice a5 n c5, w, by go_simp, rfl, Below.refl _ _⟩⟩
    · intro ev w hc hf hg hfix hdep hbel
      have e25 : ev (.tmp 25) = .slice a5 n c5 := hdep 0 (by decide)
      refine Or.inl ⟨trivial, Or.inr ⟨7, #[.slice a5 n c5], w, by go_simp, ?_⟩⟩
      refine (sum_any a5 n c5 l w (Rows5 w ((Below.refl w3.heap.size w3).drew.trans hbel)) Hn.out).mono ?_
      rintro e w1 ⟨rfl, hb⟩
      exact ⟨_, rfl, rfl, hb⟩
    · intro ev w hc hf hg hfix hdep hbel
      have e0 : ev (.tmp 0) = .slice a n cap := hfix 0 (by decide)
      exact Or.inl ⟨trivial, Or.inl ⟨.slice a n cap, w, by go_simp, rfl, Below.refl _ _⟩⟩
    · intro ev w hc hf hg hfix hdep hbel
      have e27 : ev (.tmp 27) = .slice a n cap := hdep 2 (by decide)
      refine Or.inl ⟨trivial, Or.inr ⟨8, #[.slice a n cap], w, by go_simp, ?_⟩⟩
      refine (refsum_any a n cap l w (Rows0 w ((Below.refl w3.heap.size w3).drew.trans hbel)) Hn.out (by omega)).mono ?_
      rintro e w1 ⟨rfl, hb⟩
      exact ⟨_, rfl, rfl, hb⟩
    · intro ev w hc hf hg hfix hdep hbel
      have e26 : ev (.tmp 26) = .int .u32 ((Crc.sum l : Nat) : Int) := hdep 1 (by decide)
      have e28 : ev (.tmp 28) = .int .u32 ((Crc.sum l : Nat) : Int) := hdep 3 (by decide)
      exact Or.inl ⟨trivial, Or.inl ⟨.bool false, w, by go_simp, rfl, Below.refl _ _⟩⟩
    · intro ev w hc hf hg hfix hdep hbel
      have e29 : ev (.tmp 29) = .bool false := hdep 4 (by decide)
      exact Or.inl ⟨trivial, Or.inl ⟨.bool false, w, by go_simp, rfl, Below.refl _ _⟩⟩
    · intro ev w hc hf hg hfix hdep hbel
      have fg : ev (.tmp 30) = .bool false := hdep 5 (by decide)
      have e5 : ev (.tmp 5) = .slice a5 n c5 := hfix 5 (by decide)
      exact Or.inl ⟨fg, Or.inl ⟨.slice a5 n c5, w, by go_simp, rfl, Below.refl _ _⟩⟩
    · intro ev w hc hf hg hfix hdep hbel
      have fg : ev (.tmp 30) = .bool false := hdep 5 (by decide)
      have e1 : ev (.tmp 1) = .int .i64 (i : Int) := hfix 1 (by decide)
      exact Or.inl ⟨fg, Or.inl ⟨.int .i64 (i : Int), w, by go_simp, rfl, Below.refl _ _⟩⟩
    · intro ev w hc hf hg hfix hdep hbel
      have fg : ev (.tmp 30) = .bool false := hdep 5 (by decide)
      have e31 : ev (.tmp 31) = .slice a5 n c5 := hdep 6 (by decide)
      have e32 : ev (.tmp 32) = .int .i64 (i : Int) := hdep 7 (by decide)
      have hsl := run_slice_to a5 n c5 i (by omega) w
      exact Or.inl ⟨fg, Or.inl ⟨.slice a5 i c5, w, by go_simp, rfl, Below.refl _ _⟩⟩
    · intro ev w hc hf hg hfix hdep hbel
      have fg : ev (.tmp 30) = .bool false := hdep 5 (by decide)
      have e33 : ev (.tmp 33) = .slice a5 i c5 := hdep 8 (by decide)
      refine Or.inl ⟨fg, Or.inr ⟨7, #[.slice a5 i c5], w, by go_simp, ?_⟩⟩
      refine (sum_any a5 i c5 (l.take i) w ((Rows5 w ((Below.refl w3.heap.size w3).drew.trans hbel)).take i c5 (by omega) (Nat.le_refl _) ((Rows5 w ((Below.refl w3.heap.size w3).drew.trans hbel)).2.2.2.1)) (by rw [List.length_take, Hn.out]; omega)).mono ?_
      rintro e w1 ⟨rfl, hb⟩
      exact ⟨_, rfl, rfl, hb⟩
    · intro ev w hc hf hg hfix hdep hbel
      have fg : ev (.tmp 30) = .bool false := hdep 5 (by decide)
      have e5 : ev (.tmp 5) = .slice a5 n c5 := hfix 5 (by decide)
      exact Or.inl ⟨fg, Or.inl ⟨.slice a5 n c5, w, by go_simp, rfl, Below.refl _ _⟩⟩
    · intro ev w hc hf hg hfix hdep hbel
      have fg : ev (.tmp 30) = .bool false := hdep 5 (by decide)
      have e1 : ev (.tmp 1) = .int .i64 (i : Int) := hfix 1 (by decide)
      exact Or.inl ⟨fg, Or.inl ⟨.int .i64 (i : Int), w, by go_simp, rfl, Below.refl _ _⟩⟩
    · intro ev w hc hf hg hfix hdep hbel
      have fg : ev (.tmp 30) = .bool false := hdep 5 (by decide)
      have e35 : ev (.tmp 35) = .slice a5 n c5 := hdep 10 (by decide)
      have e36 : ev (.tmp 36) = .int .i64 (i : Int) := hdep 11 (by decide)
      have hsl := run_slice_from a5 n c5 i (by omega) w
      exact Or.inl ⟨fg, Or.inl ⟨.slice (tailAt a5 i c5) (n - i) (c5 - i), w, by go_simp, rfl, Below.refl _ _⟩⟩
    · intro ev w hc hf hg hfix hdep hbel
      have fg : ev (.tmp 30) = .bool false := hdep 5 (by decide)
      have e34 : ev (.tmp 34) = .int .u32 ((Crc.sum (l.take i) : Nat) : Int) := hdep 9 (by decide)
      have e37 : ev (.tmp 37) = .slice (tailAt a5 i c5) (n - i) (c5 - i) := hdep 12 (by decide)
      refine Or.inl ⟨fg, Or.inr ⟨9, #[.int .u32 ((Crc.sum (l.take i) : Nat) : Int), .slice (tailAt a5 i c5) (n - i) (c5 - i)], w, by go_simp, ?_⟩⟩
      refine (more_any (Crc.sum (l.take i)) (Crc.more_lt 0 _) (tailAt a5 i c5) (n - i) (c5 - i) (l.drop i) w ((Rows5 w ((Below.refl w3.heap.size w3).drew.trans hbel)).drop i (by rw [Hn.out]; omega)) (by rw [List.length_drop, Hn.out])).mono ?_
      rintro e w1 ⟨rfl, hb⟩
      exact ⟨_, rfl, by rw [Hmore.out], hb⟩
    · intro ev w hc hf hg hfix hdep hbel
      have fg : ev (.tmp 30) = .bool false := hdep 5 (by decide)
      have e0 : ev (.tmp 0) = .slice a n cap := hfix 0 (by decide)
      exact Or.inl ⟨fg, Or.inl ⟨.slice a n cap, w, by go_simp, rfl, Below.refl _ _⟩⟩
    · intro ev w hc hf hg hfix hdep hbel
      have fg : ev (.tmp 30) = .bool false := hdep 5 (by decide)
      have e39 : ev (.tmp 39) = .slice a n cap := hdep 14 (by decide)
      refine Or.inl ⟨fg, Or.inr ⟨8, #[.slice a n cap], w, by go_simp, ?_⟩⟩
      refine (refsum_any a n cap l w (Rows0 w ((Below.refl w3.heap.size w3).drew.trans hbel)) Hn.out (by omega)).mono ?_
      rintro e w1 ⟨rfl, hb⟩
      exact ⟨_, rfl, rfl, hb⟩
    · intro ev w hc hf hg hfix hdep hbel
      have fg : ev (.tmp 30) = .bool false := hdep 5 (by decide)
      have e38 : ev (.tmp 38) = .int .u32 ((Crc.sum l : Nat) : Int) := hdep 13 (by decide)
      have e40 : ev (.tmp 40) = .int .u32 ((Crc.sum l : Nat) : Int) := hdep 15 (by decide)
      exact Or.inl ⟨fg, Or.inl ⟨.bool false, w, by go_simp, rfl, Below.refl _ _⟩⟩
    · intro ev w hc hf hg hfix hdep hbel
      have e30 : ev (.tmp 30) = .bool false := hdep 5 (by decide)
      have e41 : ev (.tmp 41) = .bool false := hdep 16 (by decide)
      exact Or.inl ⟨trivial, Or.inl ⟨.bool false, w, by go_simp, rfl, Below.refl _ _⟩⟩
    · intro ev w hc hf hg hfix hdep hbel
      have e42 : ev (.tmp 42) = .bool false := hdep 17 (by decide)
      exact Or.inl ⟨trivial, Or.inl ⟨.bool false, w, by go_simp, rfl, Below.refl _ _⟩⟩
    · intro ev w hc hf hg hfix hdep hbel
      have fg : ev (.tmp 43) = .bool false := hdep 18 (by decide)
      have e6 : ev (.tmp 6) = .slice (some ⟨g6, 0, none⟩) (n + 4) c6 := hfix 6 (by decide)
      exact Or.inl ⟨fg, Or.inl ⟨.slice (some ⟨g6, 0, none⟩) (n + 4) c6, w, by go_simp, rfl, Below.refl _ _⟩⟩
    · intro ev w hc hf hg hfix hdep hbel
      have fg : ev (.tmp 43) = .bool false := hdep 18 (by decide)
      have e44 : ev (.tmp 44) = .slice (some ⟨g6, 0, none⟩) (n + 4) c6 := hdep 19 (by decide)
      have hcv := conv_row (Rows6 w ((Below.refl w3.heap.size w3).drew.trans hbel)) Hlen.out
      exact Or.inl ⟨fg, Or.inl ⟨.string (strB L), w, by go_simp, rfl, Below.refl _ _⟩⟩
    · intro ev w hc hf hg hfix hdep hbel
      have fg : ev (.tmp 43) = .bool false := hdep 18 (by decide)
      have e0 : ev (.tmp 0) = .slice a n cap := hfix 0 (by decide)
      exact Or.inl ⟨fg, Or.inl ⟨.slice a n cap, w, by go_simp, rfl, Below.refl _ _⟩⟩
    · intro ev w hc hf hg hfix hdep hbel
      have fg : ev (.tmp 43) = .bool false := hdep 18 (by decide)
      have e46 : ev (.tmp 46) = .slice a n cap := hdep 21 (by decide)
      refine Or.inl ⟨fg, Or.inr ⟨10, #[.slice a n cap], w, by go_simp, ?_⟩⟩
      refine (refappend_any a n cap l w (Rows0 w ((Below.refl w3.heap.size w3).drew.trans hbel)) Hn.out (by omega)).mono ?_
      rintro e w1 ⟨v, rfl, hown, hb⟩
      rw [← HL.out, Hlen.out] at hown
      obtain ⟨g, c, cur, rfl, q1, q2, q3, q5, q6, q7⟩ := own_open hown (by omega)
      exact ⟨_, rfl, ⟨g, c, rfl, own_row q2 Hlen.out HLb.out q3 q5 q7⟩, hb⟩
    · intro ev w hc hf hg hfix hdep hbel
      have fg : ev (.tmp 43) = .bool false := hdep 18 (by decide)
      have e47 := hdep 22 (by decide)
      obtain ⟨g, c, he, hrow⟩ := e47
      have he' : ev (.tmp 47) = .slice (some ⟨g, 0, none⟩) (n + 4) c := he
      have hcv := conv_row hrow Hlen.out
      exact Or.inl ⟨fg, Or.inl ⟨.string (strB L), w, by go_simp, rfl, Below.refl _ _⟩⟩
    · intro ev w hc hf hg hfix hdep hbel
      have fg : ev (.tmp 43) = .bool false := hdep 18 (by decide)
      have e45 : ev (.tmp 45) = .string (strB L) := hdep 20 (by decide)
      have e48 : ev (.tmp 48) = .string (strB L) := hdep 23 (by decide)
      exact Or.inl ⟨fg, Or.inl ⟨.bool false, w, by go_simp, rfl, Below.refl _ _⟩⟩
    · intro ev w hc hf hg hfix hdep hbel
      have e43 : ev (.tmp 43) = .bool false := hdep 18 (by decide)
      have e49 : ev (.tmp 49) = .bool false := hdep 24 (by decide)
      exact Or.inl ⟨trivial, Or.inl ⟨.bool false, w, by go_simp, rfl, Below.refl _ _⟩⟩
    · intro ev w hc hf hg hfix hdep hbel
      have e50 : ev (.tmp 50) = .bool false := hdep 25 (by decide)
      exact Or.inl ⟨trivial, Or.inl ⟨.bool false, w, by go_simp, rfl, Below.refl _ _⟩⟩
    · intro ev w hc hf hg hfix hdep hbel
      have fg : ev (.tmp 51) = .bool false := hdep 26 (by decide)
      have e5 : ev (.tmp 5) = .slice a5 n c5 := hfix 5 (by decide)
      exact Or.inl ⟨fg, Or.inl ⟨.slice a5 n c5, w, by go_simp, rfl, Below.refl _ _⟩⟩
    · intro ev w hc hf hg hfix hdep hbel
      have fg : ev (.tmp 51) = .bool false := hdep 26 (by decide)
      have e52 : ev (.tmp 52) = .slice a5 n c5 := hdep 27 (by decide)
      refine Or.inl ⟨fg, Or.inr ⟨11, #[.slice a5 n c5], w, by go_simp, ?_⟩⟩
      refine (ends_any a5 n c5 l w (Rows5 w ((Below.refl w3.heap.size w3).drew.trans hbel)) Hn.out).mono ?_
      rintro e w1 ⟨rfl, hb⟩
      exact ⟨_, rfl, rfl, hb⟩
    · intro ev w hc hf hg hfix hdep hbel
      have fg : ev (.tmp 51) = .bool false := hdep 26 (by decide)
      have e0 : ev (.tmp 0) = .slice a n cap := hfix 0 (by decide)
      exact Or.inl ⟨fg, Or.inl ⟨.slice a n cap, w, by go_simp, rfl, Below.refl _ _⟩⟩
    · intro ev w hc hf hg hfix hdep hbel
      have fg : ev (.tmp 51) = .bool false := hdep 26 (by decide)
      have e54 : ev (.tmp 54) = .slice a n cap := hdep 29 (by decide)
      refine Or.inl ⟨fg, Or.inr ⟨12, #[.slice a n cap], w, by go_simp, ?_⟩⟩
      refine (refends_any a n cap l w (Rows0 w ((Below.refl w3.heap.size w3).drew.trans hbel)) Hn.out (by omega)).mono ?_
      rintro e w1 ⟨rfl, hb⟩
      exact ⟨_, rfl, rfl, hb⟩
    · intro ev w hc hf hg hfix hdep hbel
      have fg : ev (.tmp 51) = .bool false := hdep 26 (by decide)
      have e53 : ev (.tmp 53) = .bool (Crc.ends l) := hdep 28 (by decide)
      have e55 : ev (.tmp 55) = .bool (Crc.ends l) := hdep 30 (by decide)
      exact Or.inl ⟨fg, Or.inl ⟨.bool false, w, by go_simp, rfl, Below.refl _ _⟩⟩
    · intro ev w hc hf hg hfix hdep hbel
      have e51 : ev (.tmp 51) = .bool false := hdep 26 (by decide)
      have e56 : ev (.tmp 56) = .bool false := hdep 31 (by decide)
      exact Or.inl ⟨trivial, Or.inl ⟨.bool false, w, by go_simp, rfl, Below.refl _ _⟩⟩
  · intro v w2 hv hb2
    have r0 : v 0 = .slice a5 n c5 := hv 0 (by decide)
    have r1 : v 1 = .int .u32 ((Crc.sum l : Nat) : Int) := hv 1 (by decide)
    have r2 : v 2 = .slice a n cap := hv 2 (by decide)
    have r3 : v 3 = .int .u32 ((Crc.sum l : Nat) : Int) := hv 3 (by decide)
    have r4 : v 4 = .bool false := hv 4 (by decide)
    have r5 : v 5 = .bool false := hv 5 (by decide)
    have r6 : v 6 = .slice a5 n c5 := hv 6 (by decide)
    have r7 : v 7 = .int .i64 (i : Int) := hv 7 (by decide)
    have r8 : v 8 = .slice a5 i c5 := hv 8 (by decide)
    have r9 : v 9 = .int .u32 ((Crc.sum (l.take i) : Nat) : Int) := hv 9 (by decide)
    have r10 : v 10 = .slice a5 n c5 := hv 10 (by decide)
    have r11 : v 11 = .int .i64 (i : Int) := hv 11 (by decide)
    have r12 : v 12 = .slice (tailAt a5 i c5) (n - i) (c5 - i) := hv 12 (by decide)
    have r13 : v 13 = .int .u32 ((Crc.sum l : Nat) : Int) := hv 13 (by decide)
    have r14 : v 14 = .slice a n cap := hv 14 (by decide)
    have r15 : v 15 = .int .u32 ((Crc.sum l : Nat) : Int) := hv 15 (by decide)
    have r16 : v 16 = .bool false := hv 16 (by decide)
    have r17 : v 17 = .bool false := hv 17 (by decide)
    have r18 : v 18 = .bool false := hv 18 (by decide)
    have r19 : v 19 = .slice (some ⟨g6, 0, none⟩) (n + 4) c6 := hv 19 (by decide)
    have r20 : v 20 = .string (strB L) := hv 20 (by decide)
    have r21 : v 21 = .slice a n cap := hv 21 (by decide)
    have r22 := hv 22 (by decide)
    have r23 : v 23 = .string (strB L) := hv 23 (by decide)
    have r24 : v 24 = .bool false := hv 24 (by decide)
    have r25 : v 25 = .bool false := hv 25 (by decide)
    have r26 : v 26 = .bool false := hv 26 (by decide)
    have r27 : v 27 = .slice a5 n c5 := hv 27 (by decide)
    have r28 : v 28 = .bool (Crc.ends l) := hv 28 (by decide)
    have r29 : v 29 = .slice a n cap := hv 29 (by decide)
    have r30 : v 30 = .bool (Crc.ends l) := hv 30 (by decide)
    have r31 : v 31 = .bool false := hv 31 (by decide)
    have r32 : v 32 = .bool false := hv 32 (by decide)
    simp only [Reg.putAll, Act.put, List.setIfInBounds_toArray, List.set_cons_zero, List.set_cons_succ, r0, r1, r2, r3, r4, r5, r6, r7, r8, r9, r10, r11, r12, r13, r14, r15, r16, r17, r18, r19, r20, r21, r23, r24, r25, r26, r27, r28, r29, r30, r31, r32]
    clear r0 r1 r2 r3 r4 r5 r6 r7 r8 r9 r10 r11 r12 r13 r14 r15 r16 r17 r18 r19 r20 r21 r23 r24 r25 r26 r27 r28 r29 r30 r31 r32 hv
    have Hb4 := Lib.hid hb2; clear hb2 r22
    generalize v 22 = x22
    go_wp2_with fail
    have hcur0 : CurU8 w2 g6 (n + 4) := by
      refine ⟨cur, (Hb4.out.block g6 (Array.getElem?_eq_some_iff.1 Hblk.out).1).trans Hblk.out, fun j hj => ?_⟩
      have hjl : j < L.length := by rw [Hlen.out]; exact hj
      refine ⟨L[j], HLb.out _ (List.getElem_mem _), ?_⟩
      have h1 : (cur.toList.take (n + 4))[j]? = some (.int .u8 (L[j] : Nat)) := by rw [Htake.out]; simp [bytesV, hjl]
      rw [List.getElem?_take, if_pos hj] at h1
      simpa using h1
    have hbw : Below W2.heap.size W2 w2 := Hb3.out.trans (Hb4.out.mono Hb3.out.size)
    have Hcur0 := Lib.hid hcur0; have Hbw := Lib.hid hbw
    clear hcur0 hbw Rows5 Rows0 Rows6
    go_loopw [7, 60] (fun _ j wr => ∃ k : Nat, k ≤ n + 4 ∧ j = .int .i64 k ∧ CurU8 wr g6 (n + 4) ∧ Below W2.heap.size W2 wr) (fun _ j _ => n + 4 - (intOf j).toNat)
    case atStart => exact ⟨0, by omega, rfl, Hcur0.out, Hbw.out⟩
    case round =>
      obtain ⟨k, hk, rfl, hcu, hbe⟩ := hrel
      by_cases hlt : k < n + 4
      · obtain ⟨cu, hcu1, hcu2⟩ := hcu
        obtain ⟨x, hx, hxc⟩ := hcu2 k hlt
        have hcell : wr.cell? ⟨g6, k, none⟩ = some (.int .u8 (x : Nat)) := by rw [cell_of_row _ _ _ _ _ _ hcu1]; exact hxc
        have hfr : wr.frozen? ⟨g6, k, none⟩ = false := frozen_of_row _ _ _ _ _ hcu1
        have hset : CurU8 (wr.setCell ⟨g6, k, none⟩ (.int .u8 (((x : Int) + 1) % 256))) g6 (n + 4) := by
          refine ⟨_, heap_setCell_same wr g6 k cu 5 _ hcu1, fun j hj => ?_⟩
          by_cases hjk : k = j
          · subst hjk
            refine ⟨(x + 1) % 256, Nat.mod_lt _ (by decide), ?_⟩
            have hkl : k < cu.size := (Array.getElem?_eq_some_iff.1 hxc).1
            simp [hkl]
          · rw [Array.getElem?_setIfInBounds_ne hjk]; exact hcu2 j hj
        have hbe2 := hbe.setCell (p := ⟨g6, k, none⟩) hg6 (.int .u8 (((x : Int) + 1) % 256))
        have Hset := Lib.hid hset; have Hbe2 := Lib.hid hbe2
        clear hset hbe2 hcu1 hcu2 hxc hbe
        go_wp2_with fail
        exact ⟨⟨k + 1, by omega, by go_num, Hset.out, Hbe2.out⟩, by simp [intOf]; omega⟩
      · obtain rfl : k = n + 4 := by omega
        have c5v := conv_row (Hr5.out.below hbe) Hn.out
        have c0v := conv_row ((Hr.out.below Hb2.out).below hbe) Hn.out
        have hfin : Below w.heap.size w wr := Hb2.out.trans (hbe.mono Hb2.out.size)
        have Hfin := Lib.hid hfin
        clear hcu hbe hfin
        go_wp2_with fail
        refine (known_any _).mono ?_
        rintro e w7 ⟨rfl, hb7⟩
        have Hb7 := Lib.hid hb7; clear hb7
        go_wp2_with fail
        go_ret
        exact ⟨rfl, Hfin.out.trans (Hb7.out.mono Hfin.out.size)⟩
end Go.Proofs.Ytjchcjpgaeobmaa
