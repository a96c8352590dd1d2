import Derived.Test.YtpkfjgoimaomfaaBytes
import Derived.Test.YtpkfjgoimaomfaaBuf
import Derived.Test.YtpkfjgoimaomfaaCodeMath
namespace Go.Proofs.Ytpkfjgoimaomfaa
open Go.RowKit Go.Buf
/-- a buffer of bytes that reads as l -/
def BB (B : Nat) (w : World) (v : Value) (l : List Nat) (row : Option Nat) : Prop := (∀ x ∈ l, x < 256) ∧ Buf 5 1 B w v l.length (bytesV l) row
def RetBB (B : Nat) (w : World) (row : Option Nat) (l : List Nat) (e : Ending) (w' : World) : Prop := ∃ v row', e = .returned v ∧ BB B w' v l row' ∧ w.grownBy w' row ∧ New w row row'
theorem BB.nil {B : Nat} {w : World} (hB : B ≤ w.heap.size) : BB B w (.slice none 0 0) [] none := ⟨by simp, Buf.nil hB⟩
theorem src_row {w : World} {a : Option Addr} {n cap : Nat} {l : List Nat} (h : Row w a cap l) (hn : l.length = n) : Src Try.prog 1 42 (.slice a n cap) n (bytesV l) w := by
  cases a with
  | none =>
    have hc := h.2.2.2.1 rfl
    have hle := h.le
    have hl : l = [] := List.eq_nil_of_length_eq_zero (by omega)
    subst hl
    subst hn
    exact Src.ofNil w Try.underlying42 cap
  | some p => exact Src.ofSlice w Try.underlying42 p n cap (bytesV l) (by rw [bytesV_length, hn, Nat.mul_one]) (h.holds p rfl) (bytesV_one l)
def strL (s : ByteArray) : List Nat := s.data.toList.map UInt8.toNat
theorem strL_length (s : ByteArray) : (strL s).length = s.size := by simp [strL]
theorem strL_byte (s : ByteArray) : ∀ x ∈ strL s, x < 256 := by intro x hx; simp [strL] at hx; obtain ⟨a, _, rfl⟩ := hx; exact a.toNat_lt
theorem strB_strL (s : ByteArray) : strB (strL s) = s := by
  unfold strB strL
  cases s with
  | mk d =>
    congr 1
    apply Array.ext'
    simp only [List.map_map]
    conv => rhs; rw [← List.map_id d.toList]
    exact List.map_congr_left fun x _ => by simp
theorem strL_strB {l : List Nat} (h : ∀ x ∈ l, x < 256) : strL (strB l) = l := by
  unfold strB strL
  simp only [List.map_map]
  conv => rhs; rw [← List.map_id l]
  exact List.map_congr_left fun x hx => by have := h x hx; simp; omega
theorem src_str {w : World} (s : ByteArray) : Src Try.prog 1 9 (.string s) s.size (bytesV (strL s)) w := by
  have := Src.ofString (P := Try.prog) w Try.underlying9 s
  have e : byteCells s = bytesV (strL s) := by simp [byteCells, bytesV, strL]
  rw [e] at this; exact this
theorem BB.of_row {B : Nat} {w : World} {a : Option Addr} {n : Nat} {l : List Nat} (h : Row w a n l) (hn : l.length = n) (hB : B ≤ w.heap.size) : BB B w (.slice a n n) l none := by
  refine ⟨h.byte, ?_⟩
  subst hn
  exact Buf.full hB (by simp [bytesV_length]) (by have := h.cap; unfold maxLen; omega) (fun ha => h.2.2.2.1 ha) (fun b hb => h.holds b hb)
theorem BB.row {B : Nat} {w : World} {v : Value} {l : List Nat} {row : Option Nat} (h : BB B w v l row) : ∃ a c, v = .slice a l.length c ∧ Row w a c l := by
  obtain ⟨a, c, rfl, h1, h2, h3⟩ := h.2.shape
  refine ⟨a, c, rfl, h1, by unfold maxLen at h2; omega, h.1, h3, fun i x hx => ?_⟩
  cases a with
  | none =>
    have := h3 rfl
    have hi := (List.getElem?_eq_some_iff.1 hx).1
    omega
  | some p => exact ⟨p, rfl, h.2.cells p rfl i _ (by simp [bytesV, hx])⟩
theorem BB.base {B B' : Nat} {w : World} {v : Value} {l : List Nat} {row : Option Nat} (h : BB B w v l row) (hB : B' ≤ B) : BB B' w v l row := ⟨h.1, h.2.base hB⟩
theorem BB.alloc {B : Nat} {w : World} {v : Value} {l : List Nat} {row : Option Nat} (h : BB B w v l row) (o : Obj) : BB B (w.alloc o) v l row := ⟨h.1, h.2.kept (World.grownBy_alloc w o none) (Or.inl rfl)⟩
theorem BB.below {B : Nat} {w w' : World} {v : Value} {l : List Nat} {row : Option Nat} (h : BB B w v l row) (hb : Below w.heap.size w w') : BB B w' v l row := ⟨h.1, h.2.kept (grown_of_below (row := none) hb) (Or.inl rfl)⟩
theorem grown_alloc {w w' : World} {row : Option Nat} (o : Obj) (h : (w.alloc o).grownBy w' row) : w.grownBy w' row :=
  ⟨h.os, h.tape, h.output, Nat.le_trans (by simp) h.size, fun k hk hne => (h.block k (by simp; omega) hne).trans (Below.heap_alloc w o k hk)⟩
theorem new_alloc {w : World} {row row' : Option Nat} (o : Obj) (h : New (w.alloc o) row row') : New w row row' := by
  rcases h with h | ⟨k, hk, hl⟩
  · exact Or.inl h
  · exact Or.inr ⟨k, hk, by simp at hl; omega⟩
theorem wpList_append_bb {w : World} {ops : Array Oper} {rest : List Oper} {o : Oper} {ac : Act} {Q : Exit → Act → World → Prop} (hgd : o.guard = none) (s x : Operand) (tx : TypeId)
    (ho : o.op = .call { callee := .builtin .append, args := #[s, x], argTypes := #[42, tx] }) (B : Nat) (v : Value) (l : List Nat) (row : Option Nat) (hv : ac.eval s = v) (hb : BB B w v l row)
    (y : Value) (m : Nat) (l2 : List Nat) (hx : ac.eval x = y) (hs : Src Try.prog 1 tx y m (bytesV l2) w) (hm : l2.length = m) (hl2 : ∀ x ∈ l2, x < 256) (hsm : l.length + m ≤ 140737488355328)
    (h : ∀ v' w' row', BB B w' v' (l ++ l2) row' → w.grownBy w' row → New w row row' → wpList Try.prog ops Q rest (ac.put o.dst v') w') : wpList Try.prog ops Q (o :: rest) ac w := by
  obtain ⟨i0, hi, hz0, hz1, hz2⟩ := info_parts info5
  refine wpList_append_buf hgd s x 42 tx ho B 5 i0 (.int .u8 0) 1 1 Try.underlying42 hi hz0 hz1 hz2 rfl v l.length (bytesV l) row hv hb.2 y m (bytesV l2) hx hs (by unfold maxLen; omega) (by omega) ?_
  intro v' w' row' h1 h2 h3
  refine h v' w' row' ⟨?_, ?_⟩ h2 h3
  · intro x hx
    rcases List.mem_append.1 hx with hx | hx
    · exact hb.1 x hx
    · exact hl2 x hx
  · rw [bytesV_append, List.length_append, hm]; exact h1
theorem row_litE (w : World) (x : Nat) (z : Int) (hz : z = (x : Nat)) (hx : x < 256) : Row (w.alloc (.cells #[.int .u8 z] 5)) (some ⟨w.heap.size, 0, none⟩) 1 [x] := by
  subst hz
  refine row_of_block (heap_alloc_new w _) (fun y hy => by simp at hy; omega) 0 1 (by omega) (by simp) (fun i y hy => ?_)
  have hi : i < 1 := by have := (List.getElem?_eq_some_iff.1 hy).1; simpa using this
  obtain rfl : i = 0 := by omega
  simp at hy; subst hy; simp
theorem row_lit (w : World) (x : Nat) (z : Int) (hz : z = (x : Nat)) (hx : x < 256) : Src Try.prog 1 42 (.slice (some ⟨w.heap.size, 0, none⟩) 1 1) 1 (bytesV [x]) (w.alloc (.cells #[.int .u8 z] 5)) := src_row (row_litE w x z hz hx) rfl
theorem or128 (x : Nat) (hx : x < 256) : bits .or .u8 (x : Int) 128 = ((x % 128 + 128 : Nat) : Int) := by
  have h : ∀ x : Fin 256, bits .or .u8 ((x.val : Nat) : Int) 128 = ((x.val % 128 + 128 : Nat) : Int) := by decide +kernel
  exact h ⟨x, hx⟩
set_option maxRecDepth 100000 in
set_option maxHeartbeats 800000 in
theorem num_any (B : Nat) (v : Value) (l : List Nat) (row : Option Nat) (n : Nat) (w : World) (hb : BB B w v l row) (hn : n < 18446744073709551616) (hsm : l.length + 10 ≤ 140737488355328) :
    Calls Try.prog 34 #[v, .int .u64 n] w (RetBB B w row (l ++ Cd.num n)) := by
  have Hb := Lib.hid hb; clear hb
  go_enter Try.func34, Try.ntmps34
  go_wp2
  go_loopw [0, 1] (fun u i wr => ∃ (q k : Nat) (pre : List Nat) (r1 : Option Nat), i = .int .u64 q ∧ q < 18446744073709551616 ∧ BB B wr u (l ++ pre) r1 ∧ w.grownBy wr row ∧ New w row r1 ∧ pre ++ Cd.numF k q = Cd.num n ∧ q < 2 * 128 ^ k ∧ pre.length + k = 9) (fun _ i _ => (intOf i).toNat)
  case atStart => exact ⟨n, 9, [], row, rfl, hn, by simpa using Hb.out, grown_refl w row, New.refl w row, rfl, by omega, rfl⟩
  case round =>
    obtain ⟨q, k, pre, r1, rfl, hq, hbb, hg, hnw, hpre, hqk, hpk⟩ := hrel
    have Hbb := Lib.hid hbb; have Hg := Lib.hid hg; have Hnw := Lib.hid hnw; have Hpre := Lib.hid hpre; have Hqk := Lib.hid hqk; have Hpk := Lib.hid hpk
    clear hbb hg hnw hpre hqk hpk
    by_cases hlt : 128 ≤ q
    · have hor := or128 (q % 256) (Nat.mod_lt _ (by omega))
      have e1 : q % 256 % 128 = q % 128 := by omega
      have e2 : ((q % 256 : Nat) : Int) = (q : Int) % 256 := by omega
      rw [e1, e2] at hor
      have Hor := Lib.hid hor; clear hor e1 e2
      have hlen : (l ++ pre).length + 1 ≤ 140737488355328 := by have := Hpk.out; simp; omega
      have hx8 : q % 128 + 128 < 256 := by omega
      go_wp2_with (refine wpList_append_bb rfl (.tmp 7) (.tmp 11) 42 rfl B _ (l ++ pre) r1 rfl (Hbb.out.alloc _) _ 1 [q % 128 + 128] rfl (row_lit wr _ _ Hor.out hx8) rfl (by simp; omega) hlen ?_; intro v' w3 row3 h1 h2 h3)
      have H1 := Lib.hid h1; have H2 := Lib.hid (grown_alloc _ h2); have H3 := Lib.hid (new_alloc _ h3)
      clear h1 h2 h3
      go_wp2_with fail
      have hk : k ≠ 0 := by intro e; have := Hqk.out; subst e; simp at this; omega
      obtain ⟨k', rfl⟩ := Nat.exists_eq_succ_of_ne_zero hk
      refine ⟨⟨q / 128, k', pre ++ [q % 128 + 128], row3, by simp, by omega, by rw [← List.append_assoc]; exact H1.out, grown_trans Hg.out H2.out Hnw.out, Hnw.out.trans H3.out Hg.out.size, ?_, ?_, ?_⟩, ?_⟩
      · rw [← Hpre.out]
        have : ¬ q < 128 := by omega
        simp [Cd.numF, this]
      · have := Hqk.out
        rw [Nat.pow_succ] at this; omega
      · have := Hpk.out
        simp; omega
      · simp [intOf]; omega
    · have hq8 : q < 128 := by omega
      have e1 : (q : Int) % 256 = (q : Int) := by omega
      have hfin : (l ++ pre) ++ [q] = l ++ Cd.num n := by
        rw [← Hpre.out, List.append_assoc]
        have : Cd.numF k q = [q] := by cases k <;> simp [Cd.numF, hq8]
        rw [this]
      have hlen : (l ++ pre).length + 1 ≤ 140737488355328 := by have := Hpk.out; simp; omega
      have Hfin := Lib.hid hfin; clear hfin
      have E1 := Lib.hid e1; clear e1
      go_wp2_with (refine wpList_append_bb rfl (.tmp 15) (.tmp 18) 42 rfl B _ (l ++ pre) r1 rfl (Hbb.out.alloc _) _ 1 [q] rfl (row_lit wr q _ (by omega) (by omega)) rfl (by simp; omega) hlen ?_; intro v' w3 row3 h1 h2 h3)
      rw [Hfin.out] at h1
      have H1 := Lib.hid h1; have H2 := Lib.hid (grown_alloc _ h2); have H3 := Lib.hid (new_alloc _ h3)
      clear h1 h2 h3
      go_wp2_with fail
      go_ret
      exact ⟨v', row3, rfl, H1.out, grown_trans Hg.out H2.out Hnw.out, Hnw.out.trans H3.out Hg.out.size⟩
end Go.Proofs.Ytpkfjgoimaomfaa
