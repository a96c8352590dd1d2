import Derived.Test.YtmnblimnoaockaaZLeaf11
import Derived.Test.YtmnblimnoaockaaZRegD
import Derived.Lib.AppendZeros
import Derived.Test.YtmnblimnoaockaaZLeaf6
import Derived.Test.YtmnblimnoaockaaZOwn
namespace Go.Proofs.Ytmnblimnoaockaa
open Go.RowKit Go.Buf Go.LB Go.Lib
set_option linter.unusedSimpArgs false
set_option linter.unusedVariables false
set_option maxRecDepth 100000 in
set_option maxHeartbeats 4000000 in
theorem refitem_any (a : Option Addr) (n cap : Nat) (r' i' s' : Nat) (l : List Lm.It) (W : World) (hr : IRow W a cap l) (hl : l.length = n) :
  Calls Try.prog 31 #[.slice a n cap, dotV ((r', i'), s')] W fun e w' => e = .returned (.int .i64 (Lm.idx l ((r', i'), s'))) ∧ Below W.heap.size W w' := by
 have hle := hr.le
 have hcap := hr.cap
 rw [hl] at hle
 have HR := Lib.hid hr; have HL := Lib.hid hl
 clear hr hl
 go_enter Try.func31, Try.ntmps31
 go_wp2_with fail
 go_loopw [5] (fun v wr => ∃ k : Nat, v = .int .i64 k ∧ k ≤ n ∧ Below (W.alloc (.cells #[.int .u8 (r' : Int), .int .u32 (i' : Int), .int .u64 (s' : Int)] 27)).heap.size (W.alloc (.cells #[.int .u8 (r' : Int), .int .u32 (i' : Int), .int .u64 (s' : Int)] 27)) wr ∧ ∀ (j : Nat) (y : Lm.It), j < k → l[j]? = some y → y.2.1 ≠ ((r', i'), s')) (fun v _ => n - (intOf v).toNat)
 case atStart => exact ⟨0, rfl, by omega, Below.refl _ _, fun j y h _ => by omega⟩
 case round =>
  obtain ⟨k, rfl, hkn, hbl, hno⟩ := hrel
  obtain ⟨b0, b1, b2⟩ := dotcells hbl
  have hbel := ((Below.refl W.heap.size W).alloc (Nat.le_refl _) (.cells #[.int .u8 (r' : Int), .int .u32 (i' : Int), .int .u64 (s' : Int)] 27)).trans (hbl.mono (by simp))
  have HNo := Lib.hid hno; have HB := Lib.hid hbl; have HW := Lib.hid hbel
  clear hbl hno
  by_cases hlt : k < n
  ·obtain ⟨d, hd⟩ := geti_some (l := l) (i := k) (by rw [HL.out]; exact hlt)
   obtain ⟨blk, off, rfl, hblk, hcells⟩ := HR.out.at (by rw [HL.out]; omega)
   obtain ⟨g0, g1, g2, g3, g4⟩ := hcells k d hd
   have q0 := (hbel.cell (p := ⟨blk, off + k * 5 + 1, none⟩) hblk).trans g1
   have q1 := (hbel.cell (p := ⟨blk, off + k * 5 + 2, none⟩) hblk).trans g2
   have q2 := (hbel.cell (p := ⟨blk, off + k * 5 + 3, none⟩) hblk).trans g3
   have HK := Lib.hid hd
   have hw1 : IntKind.i64.wrap ((k : Int) + 1) = (k : Int) + 1 := by simp [IntKind.wrap, IntKind.bits, IntKind.signed]; omega
   have k0 : (0 : Int) ≤ (k : Int) := by omega
   have k1 : (k : Int) < (n : Int) := by omega
   obtain ⟨t, ⟨⟨r, i⟩, s⟩, x⟩ := d
   simp only at q0 q1 q2
   clear hcells hd hbel hblk g0 g1 g2 g3 g4
   by_cases he : ((r, i), s) = ((r', i'), s')
   ·simp only [Prod.mk.injEq] at he
    obtain ⟨⟨rfl, rfl⟩, rfl⟩ := he
    go_wp2
    go_quiet (fail)
    go_wp2
    go_ret
    exact ⟨ret_int (Lm.idx_found HNo.out HK.out rfl).symm, below_drewL HW.out _⟩
   have hno2 : ∀ (j : Nat) (y : Lm.It), j < k + 1 → l[j]? = some y → y.2.1 ≠ ((r', i'), s') := fun j y hj hy => by
    by_cases e : j = k
    ·subst e
     have := HK.out
     rw [this] at hy
     cases hy
     exact he
    ·exact HNo.out j y (by omega) hy
   have HNo2 := Lib.hid hno2
   have hne := dot_neO he
   clear he hno2
   rcases hne with h1 | ⟨rfl, h1⟩ | ⟨rfl, rfl, h1⟩
   ·have d1 : ((r : Int) == (r' : Int)) = false := by simp; (try simp only at h1); omega
    clear h1
    go_wp2
    go_quiet (fail)
    go_wp2
    go_roundw
    case rel => exact ⟨k + 1, by go_num, by omega, below_drewL HB.out _, HNo2.out⟩
    case measure => simp [intOf]; omega
   ·have d1 : ((i : Int) == (i' : Int)) = false := by simp; (try simp only at h1); omega
    clear h1
    go_wp2
    go_quiet (fail)
    go_wp2
    go_roundw
    case rel => exact ⟨k + 1, by go_num, by omega, below_drewL HB.out _, HNo2.out⟩
    case measure => simp [intOf]; omega
   ·have d1 : ((s : Int) == (s' : Int)) = false := by simp; (try simp only at h1); omega
    clear h1
    go_wp2
    go_quiet (fail)
    go_wp2
    go_roundw
    case rel => exact ⟨k + 1, by go_num, by omega, below_drewL HB.out _, HNo2.out⟩
    case measure => simp [intOf]; omega
  ·obtain rfl : k = n := by omega
   clear hbel
   go_wp2
   go_ret
   exact ⟨ret_int (Lm.idx_none (fun j y hy => HNo.out j y (by have := (List.getElem?_eq_some_iff.1 hy).1; rw [HL.out] at this; exact this) hy)).symm, HW.out⟩
set_option maxRecDepth 100000 in
set_option maxHeartbeats 4000000 in
theorem reftomb_any (a : Option Addr) (n cap : Nat) (r' i' s' : Nat) (l : List Dt.Dot) (W : World) (hr : VRow W a cap l) (hl : l.length = n) :
  Calls Try.prog 32 #[.slice a n cap, dotV ((r', i'), s')] W fun e w' => e = .returned (.bool (Lm.hasD l ((r', i'), s'))) ∧ Below W.heap.size W w' := by
 have hle := hr.le
 have hcap := hr.cap
 rw [hl] at hle
 have HR := Lib.hid hr; have HL := Lib.hid hl
 clear hr hl
 go_enter Try.func32, Try.ntmps32
 go_wp2_with fail
 go_loopw [5] (fun v wr => ∃ k : Nat, v = .int .i64 k ∧ k ≤ n ∧ Below (W.alloc (.cells #[.int .u8 (r' : Int), .int .u32 (i' : Int), .int .u64 (s' : Int)] 27)).heap.size (W.alloc (.cells #[.int .u8 (r' : Int), .int .u32 (i' : Int), .int .u64 (s' : Int)] 27)) wr ∧ ∀ (j : Nat) (y : Dt.Dot), j < k → l[j]? = some y → y ≠ ((r', i'), s')) (fun v _ => n - (intOf v).toNat)
 case atStart => exact ⟨0, rfl, by omega, Below.refl _ _, fun j y h _ => by omega⟩
 case round =>
  obtain ⟨k, rfl, hkn, hbl, hno⟩ := hrel
  obtain ⟨b0, b1, b2⟩ := dotcells hbl
  have hbel := ((Below.refl W.heap.size W).alloc (Nat.le_refl _) (.cells #[.int .u8 (r' : Int), .int .u32 (i' : Int), .int .u64 (s' : Int)] 27)).trans (hbl.mono (by simp))
  have HNo := Lib.hid hno; have HB := Lib.hid hbl; have HW := Lib.hid hbel
  clear hbl hno
  by_cases hlt : k < n
  ·obtain ⟨d, hd⟩ := getD_some (l := l) (i := k) (by rw [HL.out]; exact hlt)
   obtain ⟨blk, off, rfl, hblk, hcells⟩ := HR.out.at (by rw [HL.out]; omega)
   obtain ⟨g1, g2, g3⟩ := hcells k d hd
   have q0 := (hbel.cell (p := ⟨blk, off + k * 3, none⟩) hblk).trans g1
   have q1 := (hbel.cell (p := ⟨blk, off + k * 3 + 1, none⟩) hblk).trans g2
   have q2 := (hbel.cell (p := ⟨blk, off + k * 3 + 2, none⟩) hblk).trans g3
   have HK := Lib.hid hd
   have hw1 : IntKind.i64.wrap ((k : Int) + 1) = (k : Int) + 1 := by simp [IntKind.wrap, IntKind.bits, IntKind.signed]; omega
   have k0 : (0 : Int) ≤ (k : Int) := by omega
   have k1 : (k : Int) < (n : Int) := by omega
   obtain ⟨⟨r, i⟩, s⟩ := d
   simp only at q0 q1 q2
   clear hcells hd hbel hblk g1 g2 g3
   by_cases he : ((r, i), s) = ((r', i'), s')
   ·simp only [Prod.mk.injEq] at he
    obtain ⟨⟨rfl, rfl⟩, rfl⟩ := he
    go_wp2
    go_quiet (fail)
    go_wp2
    go_ret
    exact ⟨ret_bool (Lm.hasD_iff.2 (List.mem_of_getElem? HK.out)).symm, below_drewL HW.out _⟩
   have hno2 : ∀ (j : Nat) (y : Dt.Dot), j < k + 1 → l[j]? = some y → y ≠ ((r', i'), s') := fun j y hj hy => by
    by_cases e : j = k
    ·subst e
     have := HK.out
     rw [this] at hy
     cases hy
     exact he
    ·exact HNo.out j y (by omega) hy
   have HNo2 := Lib.hid hno2
   have hne := dot_neO he
   clear he hno2
   rcases hne with h1 | ⟨rfl, h1⟩ | ⟨rfl, rfl, h1⟩
   ·have d1 : ((r : Int) == (r' : Int)) = false := by simp; (try simp only at h1); omega
    clear h1
    go_wp2
    go_quiet (fail)
    go_wp2
    go_roundw
    case rel => exact ⟨k + 1, by go_num, by omega, below_drewL HB.out _, HNo2.out⟩
    case measure => simp [intOf]; omega
   ·have d1 : ((i : Int) == (i' : Int)) = false := by simp; (try simp only at h1); omega
    clear h1
    go_wp2
    go_quiet (fail)
    go_wp2
    go_roundw
    case rel => exact ⟨k + 1, by go_num, by omega, below_drewL HB.out _, HNo2.out⟩
    case measure => simp [intOf]; omega
   ·have d1 : ((s : Int) == (s' : Int)) = false := by simp; (try simp only at h1); omega
    clear h1
    go_wp2
    go_quiet (fail)
    go_wp2
    go_roundw
    case rel => exact ⟨k + 1, by go_num, by omega, below_drewL HB.out _, HNo2.out⟩
    case measure => simp [intOf]; omega
  ·obtain rfl : k = n := by omega
   clear hbel
   go_wp2
   go_ret
   exact ⟨ret_bool (by
     cases h : Lm.hasD l ((r', i'), s')
     ·rfl
     ·obtain ⟨j, hj, he⟩ := List.getElem_of_mem (Lm.hasD_iff.1 h)
      exact absurd he (HNo.out j _ (by rw [← HL.out]; exact hj) (List.getElem?_eq_getElem hj))), HW.out⟩
end Go.Proofs.Ytmnblimnoaockaa
namespace Go.Proofs.Ytmnblimnoaockaa
open Go.RowKit Go.Buf Go.LB Go.Lib
set_option linter.unusedSimpArgs false
set_option linter.unusedVariables false
abbrev gcs (kk : Nat) (n : Int) (t r i s : Nat) (x : ByteArray) (vI vD : Value) : List Value := [.int .u8 (kk : Int), .int .i64 n, .int .u64 (t : Int), .int .u8 (r : Int), .int .u32 (i : Int), .int .u64 (s : Int), .string x, vI, vD]
theorem Own.slice {α : Type} {enc : α → List Value} {e : TypeId} {size B : Nat} {w : World} {v : Value} {l : List α} {row : Option Nat} (h : Own e size enc B w v l row) : ∃ a n c, v = .slice a n c := by
 rcases h.2 with ⟨_, _, a, rfl⟩ | ⟨g, cap, tl, _, rfl, _⟩
 ·exact ⟨a, 0, 0, rfl⟩
 ·exact ⟨_, _, _, rfl⟩
end Go.Proofs.Ytmnblimnoaockaa
namespace Go.Proofs.Ytmnblimnoaockaa
open Go.RowKit Go.Buf Go.LB Go.Lib
set_option linter.unusedSimpArgs false
set_option linter.unusedVariables false
theorem src1I (w : World) (b : Nat) (z : Lm.It) (h : Blk w b 41 (encI z)) : Src Try.prog 5 28 (.slice (some ⟨b, 0, none⟩) 1 1) [z].length ([z].flatMap encI) w := by
 have e : [z].flatMap encI = encI z := by simp
 rw [e]
 exact Src.ofSlice w Try.underlying28 ⟨b, 0, none⟩ 1 1 (encI z) rfl (fun j u hj => by rw [Addr.add_lit, Nat.zero_add, h.cell]; exact hj) (encI_one z)
theorem appsI (v : Value) (row : Option Nat) (l l2 : List Lm.It) (x : Value) (B : Nat) (w : World) (h : OwnI B w v l row) (hs : Src Try.prog 5 28 x l2.length (l2.flatMap encI) w) (hn : l.length + l2.length ≤ 100000000) (ty : TypeId) :
  ∃ v' w' row', (Builtin.append_ #[28, 28] ty #[v, x]).run Try.prog w = .ok v' w' ∧ OwnI B w' v' (l ++ l2) row' ∧ w.grownBy w' row ∧ New w row row' := by
 obtain ⟨i0, hi, hz0, hz1, hz2⟩ := info_parts info_item
 exact LB.run_append_owned (P := Try.prog) encI_len w B 28 28 ty i0 _ 40 Try.underlying28 hi hz0 hz1 hz2 rfl h x l2 hs (by simp [maxLen]; omega) (by omega)
theorem app1I (v : Value) (row : Option Nat) (l : List Lm.It) (z : Lm.It) (B : Nat) (w : World) (h : OwnI B w v l row) (hn : l.length ≤ 1000000) (ty : TypeId) :
  ∃ v' w' row', (Builtin.append_ #[28, 28] ty #[v, .slice (some ⟨w.heap.size, 0, none⟩) 1 1]).run Try.prog (w.alloc (.cells #[.int .u64 (z.1 : Int), .int .u8 (z.2.1.1.1 : Int), .int .u32 (z.2.1.1.2 : Int), .int .u64 (z.2.1.2 : Int), .string z.2.2] 41)) = .ok v' w' ∧ OwnI B w' v' (l ++ [z]) row' ∧ (w.alloc (.cells #[.int .u64 (z.1 : Int), .int .u8 (z.2.1.1.1 : Int), .int .u32 (z.2.1.1.2 : Int), .int .u64 (z.2.1.2 : Int), .string z.2.2] 41)).grownBy w' row ∧ New (w.alloc (.cells #[.int .u64 (z.1 : Int), .int .u8 (z.2.1.1.1 : Int), .int .u32 (z.2.1.1.2 : Int), .int .u64 (z.2.1.2 : Int), .string z.2.2] 41)) row row' :=
 appsI v row l [z] _ B _ (h.below ((Below.refl _ _).alloc (Nat.le_refl _) _)) (src1I _ _ z (Blk.new w _ _)) (by simp; omega) ty
theorem src1D (w : World) (b : Nat) (z : Dt.Dot) (h : Blk w b 27 (encD z)) : Src Try.prog 3 29 (.slice (some ⟨b, 0, none⟩) 1 1) [z].length ([z].flatMap encD) w := by
 have e : [z].flatMap encD = encD z := by simp
 rw [e]
 exact Src.ofSlice w Try.underlying29 ⟨b, 0, none⟩ 1 1 (encD z) rfl (fun j u hj => by rw [Addr.add_lit, Nat.zero_add, h.cell]; exact hj) (encD_one z)
theorem appsD (v : Value) (row : Option Nat) (l l2 : List Dt.Dot) (x : Value) (B : Nat) (w : World) (h : OwnD B w v l row) (hs : Src Try.prog 3 29 x l2.length (l2.flatMap encD) w) (hn : l.length + l2.length ≤ 100000000) (ty : TypeId) :
  ∃ v' w' row', (Builtin.append_ #[29, 29] ty #[v, x]).run Try.prog w = .ok v' w' ∧ OwnD B w' v' (l ++ l2) row' ∧ w.grownBy w' row ∧ New w row row' := by
 obtain ⟨i0, hi, hz0, hz1, hz2⟩ := info_parts info_dot
 exact LB.run_append_owned (P := Try.prog) encD_len w B 29 29 ty i0 _ 16 Try.underlying29 hi hz0 hz1 hz2 rfl h x l2 hs (by simp [maxLen]; omega) (by omega)
theorem app1D (v : Value) (row : Option Nat) (l : List Dt.Dot) (z : Dt.Dot) (B : Nat) (w : World) (h : OwnD B w v l row) (hn : l.length ≤ 1000000) (ty : TypeId) :
  ∃ v' w' row', (Builtin.append_ #[29, 29] ty #[v, .slice (some ⟨w.heap.size, 0, none⟩) 1 1]).run Try.prog (w.alloc (.cells #[.int .u8 (z.1.1 : Int), .int .u32 (z.1.2 : Int), .int .u64 (z.2 : Int)] 27)) = .ok v' w' ∧ OwnD B w' v' (l ++ [z]) row' ∧ (w.alloc (.cells #[.int .u8 (z.1.1 : Int), .int .u32 (z.1.2 : Int), .int .u64 (z.2 : Int)] 27)).grownBy w' row ∧ New (w.alloc (.cells #[.int .u8 (z.1.1 : Int), .int .u32 (z.1.2 : Int), .int .u64 (z.2 : Int)] 27)) row row' :=
 appsD v row l [z] _ B _ (h.below ((Below.refl _ _).alloc (Nat.le_refl _) _)) (src1D _ _ z (Blk.new w _ _)) (by simp; omega) ty
end Go.Proofs.Ytmnblimnoaockaa
namespace Go.Proofs.Ytmnblimnoaockaa
open Go.RowKit Go.Buf Go.LB Go.Lib
set_option linter.unusedSimpArgs false
set_option linter.unusedVariables false
set_option maxHeartbeats 1600000 in
theorem growD_nil (n : Nat) (hn : n ≤ 1000000) (W : World) :
  Calls Try.prog 56 #[.slice none 0 0, .int .i64 (n : Int)] W fun e w' => (∃ v row, e = .returned v ∧ OwnD W.heap.size w' v [] row) ∧ Below W.heap.size W w' := by
 by_cases h0 : n = 0
 ·subst h0
  go_enter Try.func56, Try.ntmps56
  go_wp2_with fail
  go_ret
  exact ⟨⟨_, none, rfl, Own.empty (Nat.le_refl _) none⟩, Below.refl _ _⟩
 ·obtain ⟨i0, hi0, hz0, hzs, hzb⟩ := info_parts info_dot
  have hrz : ∀ ty, (Builtin.append_ #[29, 3] ty #[.slice none 0 0, .int .i64 (n : Int)]).run Try.prog W =
    .ok (.slice (some ⟨W.heap.size, 0, none⟩) n (grownCap W n 0 27)) (W.drew.alloc (.cells (Builtin.zeroCells (Value.agg #[.int .u8 0, .int .u32 0, .int .u64 0]).cells n ++ Builtin.zeroCells (Value.agg #[.int .u8 0, .int .u32 0, .int .u64 0]).cells (grownCap W n 0 27 - n)) 27)) := fun ty =>
   Lib.run_append_nil_zeros W 29 3 ty 27 i0 _ .i64 .i64 Try.underlying29 Try.underlying3 hi0 hz0 n (by omega) (by omega) (by omega) (by rw [hzb]; omega)
  obtain ⟨G, hG⟩ : ∃ G, G = grownCap W n 0 27 := ⟨_, rfl⟩
  have hGn : n ≤ G := by rw [hG]; exact grownCap_ge W _ _ _
  have hG63 : G ≤ maxLen := by rw [hG]; exact grownCap_le_maxLen W n 0 27 (by unfold maxLen; omega)
  rw [← hG] at hrz
  obtain ⟨Z, hZ⟩ : ∃ Z, Z = Builtin.zeroCells (Value.agg #[.int .u8 0, .int .u32 0, .int .u64 0]).cells n ++ Builtin.zeroCells (Value.agg #[.int .u8 0, .int .u32 0, .int .u64 0]).cells (G - n) := ⟨_, rfl⟩
  rw [← hZ] at hrz
  have hZl : Z.toList.length = G * 3 := by rw [hZ]; simp [Builtin.zeroCells, Value.cells]; omega
  have hN : Blk (W.drew.alloc (.cells Z 27)) W.heap.size 27 Z.toList := Blk.new W.drew Z 27
  have hO : OwnD W.heap.size (W.drew.alloc (.cells Z 27)) (.slice (some ⟨W.heap.size, 0, none⟩) 0 G) [] (some W.heap.size) :=
   ⟨by simp, Or.inr ⟨W.heap.size, G, Z.toList, rfl, rfl, Nat.le_refl _, by simpa using hN, by simp, hG63, by simpa using hZl⟩⟩
  have HO := Lib.hid hO
  have HB := Lib.hid (((Below.refl W.heap.size W).drew).alloc (Nat.le_refl _) (.cells Z 27))
  clear hO hN hZl hZ hG hi0 hz0 hzs hzb
  have hG0 : (0 : Int) ≤ (G : Int) := by omega
  have hp : (0 : Int) < (n : Int) := by omega
  go_enter Try.func56, Try.ntmps56
  go_wp2_with (at_builtin; refine Lib.wpList_append_run _ rfl _ _ _ _ rfl _ _ rfl rfl _ _ (hrz _) ?_)
  go_ret
  exact ⟨⟨_, _, rfl, HO.out⟩, HB.out⟩
def cat2 (l l' : List Dt.Dot) (k : Nat) : List Dt.Dot := if k = 0 then [] else if k = 1 then l else l ++ l'
set_option maxRecDepth 100000 in
set_option maxHeartbeats 3200000 in
theorem concatD_any (b : Nat) (a : Option Addr) (n cap : Nat) (a' : Option Addr) (n' cap' : Nat) (l l' : List Dt.Dot) (W : World) (hb : Blk W b 29 [.slice a n cap, .slice a' n' cap']) (hr : VRow W a cap l) (hl : l.length = n) (hr' : VRow W a' cap' l') (hl' : l'.length = n') (hn : n ≤ 100000) (hn' : n' ≤ 100000) :
  Calls Try.prog 45 #[.slice (some ⟨b, 0, none⟩) 2 2] W fun e w' => (∃ v row, e = .returned v ∧ OwnD W.heap.size w' v (l ++ l') row) ∧ Below W.heap.size W w' := by
 have HR := Lib.hid hr; have HL := Lib.hid hl; have HR' := Lib.hid hr'; have HL' := Lib.hid hl'; have HBk := Lib.hid hb
 have q0 : W.cell? ⟨b, 0, none⟩ = some (.slice a n cap) := hb.cell 0
 have q1 : W.cell? ⟨b, 1, none⟩ = some (.slice a' n' cap') := hb.cell 1
 have hbl := hb.lt
 clear hr hl hr' hl' hb
 go_enter Try.func45, Try.ntmps45
 go_wp2_with fail
 go_loopw [3, 5, 11] (fun z x i wr => ∃ k : Nat, i = .int .i64 k ∧ k ≤ 2 ∧ W = wr ∧ z = .int .i64 ((if k = 0 then 0 else if k = 1 then n else n + n' : Nat) : Int)) (fun _ _ i _ => 2 - (intOf i).toNat)
 case atStart => exact ⟨0, rfl, by omega, rfl, rfl⟩
 case round =>
  obtain ⟨k, rfl, hk, rfl, rfl⟩ := hrel
  by_cases hlt : k < 2
  ·rcases (show k = 0 ∨ k = 1 by omega) with rfl | rfl
   ·simp only [if_true]
    go_wp2_with fail
    go_roundw
    case rel => exact ⟨1, by go_num, by omega, trivial, by simp⟩
    case measure => simp [intOf]
   ·simp only [if_true, if_neg (show ¬ (1 = 0) by omega)]
    go_wp2_with fail
    go_roundw
    case rel => exact ⟨2, by go_num, by omega, trivial, by simp⟩
    case measure => simp [intOf]
  ·obtain rfl : k = 2 := by omega
   simp only [if_neg (show ¬ (2 = 0) by omega), if_neg (show ¬ (2 = 1) by omega)]
   have HG := Lib.hid (growD_nil (n + n') (by omega))
   go_wp2_with fail
   refine (HG.out _).mono ?_
   rintro e w1 ⟨⟨v1, row1, rfl, hv1⟩, hb1⟩
   have HV1 := Lib.hid hv1; have HB1 := Lib.hid hb1
   have p0 := (hb1.cell (p := ⟨b, 0, none⟩) hbl).trans q0
   have p1 := (hb1.cell (p := ⟨b, 1, none⟩) hbl).trans q1
   clear hv1 hb1 HG
   go_wp2_with fail
   go_loopw [6, 8, 27] (fun z x i w2 => ∃ (k : Nat) (row : Option Nat), i = .int .i64 k ∧ k ≤ 2 ∧ OwnD W.heap.size w2 z (cat2 l l' k) row ∧ Below W.heap.size W w2) (fun _ _ i _ => 2 - (intOf i).toNat)
   case atStart => exact ⟨0, row1, rfl, by omega, HV1.out, HB1.out⟩
   case round =>
    obtain ⟨k, row, rfl, hk, hown, hbel⟩ := hrel
    have HO := Lib.hid hown; have HW := Lib.hid hbel
    have o0 := (hbel.cell (p := ⟨b, 0, none⟩) hbl).trans q0
    have o1 := (hbel.cell (p := ⟨b, 1, none⟩) hbl).trans q1
    clear hown hbel p0 p1
    by_cases hlt : k < 2
    ·rcases (show k = 0 ∨ k = 1 by omega) with rfl | rfl
     ·have hs := srcD (HR.out.below HW.out)
      obtain ⟨v', w2, row', h1, h2, h3, h4⟩ := appsD _ row _ l (.slice a n cap) W.heap.size wr HO.out (by rw [HL.out] at hs; rw [HL.out]; exact hs) (by rw [HL.out]; simp [cat2]; omega) 29
      have H2 := Lib.hid h2; have H3 := Lib.hid h3
      clear hs h2 h3 h4
      go_wp2_with (at_builtin; refine Lib.wpList_append_run _ rfl _ _ _ _ rfl _ _ rfl rfl _ _ h1 ?_)
      clear h1
      go_roundw
      case rel => exact ⟨1, row', by go_num, by omega, H2.out, HW.out.grown H3.out HW.out.size (fun b e => (HO.out.lt b e).1)⟩
      case measure => simp [intOf]
     ·have hs := srcD (HR'.out.below HW.out)
      obtain ⟨v', w2, row', h1, h2, h3, h4⟩ := appsD _ row _ l' (.slice a' n' cap') W.heap.size wr HO.out (by rw [HL'.out] at hs; rw [HL'.out]; exact hs) (by rw [HL'.out]; simp [cat2]; rw [HL.out]; omega) 29
      have H2 := Lib.hid h2; have H3 := Lib.hid h3
      clear hs h2 h3 h4
      go_wp2_with (at_builtin; refine Lib.wpList_append_run _ rfl _ _ _ _ rfl _ _ rfl rfl _ _ h1 ?_)
      clear h1
      go_roundw
      case rel => exact ⟨2, row', by go_num, by omega, H2.out, HW.out.grown H3.out HW.out.size (fun b e => (HO.out.lt b e).1)⟩
      case measure => simp [intOf]
    ·obtain rfl : k = 2 := by omega
     go_wp2_with fail
     go_ret
     exact ⟨⟨_, row, rfl, HO.out⟩, HW.out⟩
end Go.Proofs.Ytmnblimnoaockaa
namespace Go.Proofs.Ytmnblimnoaockaa
open Go.RowKit Go.Maps Go.WideElems Go.ChangeShapes Go.WideShapes Go.MapKept Go.ChangeMaps Go.LB
open Go.WideMaps (KeyLaw)
set_option linter.unusedSimpArgs false
set_option linter.unusedVariables false
section
variable {H : Type} {P : Program} {w : World} {t k e : TypeId} {R : Value → Option (DataW H × List MemPlace)} {b : Nat} {es : Array MapEntry} {clock : Nat}
theorem entry_look (K : KeyLaw P k) (ht : P.underlying t = some (.map k e)) {z : Value} (hz : ∀ u : World, (zeroValue e).run P u = .ok z u) (hb : w.heap[b]? = some (.map es clock)) (F : Fit P k R es clock)
  {key : Value} {kl : Lit} (hkey : keyOf P k key = some kl) {v0 : Value} {st : Nat} {w1 : World} (h1 : (Instr.mapEntry t (.map (some b)) key).run P w = .ok (.tuple #[v0, goInt st]) w1) :
  (Instr.lookup t (.map (some b)) key false).run P w = .ok v0 w := by
 rcases K.find w hkey es.toList F.keys with ⟨f1, f2⟩ | ⟨j, e0, f1, f2, f3⟩
 ·have g := h1
  simp [Instr.mapEntry, run_underlying ht, MapKept.run_getObj_map hb, K.check w false hkey, f1, hz, MapKept.run_setObj_map _ hb, Result.andThen, setBlock] at g
  obtain ⟨⟨g1, _⟩, g2⟩ := g
  subst g1
  simp [Instr.lookup, run_underlying ht, MapKept.run_getObj_map hb, K.check w es.isEmpty hkey, f1, hz, Result.andThen]
 ·have hj : es[j]? = some e0 := by simpa using f2
  have g := h1
  simp [Instr.mapEntry, run_underlying ht, MapKept.run_getObj_map hb, K.check w false hkey, f1, hj, f3, K.stays w hkey, MapKept.run_setObj_map _ hb, Result.andThen, setBlock] at g
  obtain ⟨⟨g1, _⟩, g2⟩ := g
  subst g1
  simp [Instr.lookup, run_underlying ht, MapKept.run_getObj_map hb, K.check w es.isEmpty hkey, f1, hj, Result.andThen]
end
def Numd (w : World) (b : Nat) (ds : List Dt.Dot) : Prop := ∃ D, Cnt w b ds.length D ∧ ∀ d, Dt.okD d → D.atKey (kd d) (.lit (.int .i64 0)) = .lit (.int .i64 (ds.count d : Nat))
theorem Numd.made (w : World) : Numd (w.alloc (.map #[] 0)) w.heap.size [] := ⟨_, World.ownsMap_made _ _ _ _, fun d _ => rfl⟩
theorem Numd.kept {w w' : World} {b : Nat} {ds : List Dt.Dot} {row : Option Nat} (h : Numd w b ds) (hg : w.grownBy w' row) (hne : some b ≠ row) : Numd w' b ds := by obtain ⟨D, h, g⟩ := h; exact ⟨D, cnt_kept h hg hne, g⟩
theorem Numd.below {w w' : World} {b : Nat} {ds : List Dt.Dot} (h : Numd w b ds) (hb : Below w.heap.size w w') : Numd w' b ds := by obtain ⟨D, h, g⟩ := h; exact ⟨D, cnt_below h hb, g⟩
theorem Numd.lt {w : World} {b : Nat} {ds : List Dt.Dot} (h : Numd w b ds) : b < w.heap.size := by obtain ⟨D, h, g⟩ := h; exact h.lt
theorem Numd.drew {w : World} {b : Nat} {ds : List Dt.Dot} (h : Numd w b ds) : Numd w.drew b ds := h
theorem Numd.chg {S : Nat → Prop} {w w' : World} {b : Nat} {ds : List Dt.Dot} (h : Numd w b ds) (g : Chg S w w') (hn : ¬ S b) : Numd w' b ds := by
 obtain ⟨D, ⟨es, clock, hb, F, hs, hD⟩, h2⟩ := h
 exact ⟨D, ⟨es, clock, (g.block b (Array.getElem?_eq_some_iff.1 hb).1 hn).trans hb, F, hs, hD⟩, h2⟩
theorem Numd.ne {w : World} {b c : Nat} {ds : List Dt.Dot} {t : TypeId} {cs : List Value} (h : Numd w b ds) (hc : Blk w c t cs) : b ≠ c := by
 obtain ⟨D, ⟨es, clock, hb, _⟩, _⟩ := h
 rintro rfl
 unfold Blk at hc
 rw [hb] at hc; cases hc
theorem count_le_len (ds : List Dt.Dot) (d : Dt.Dot) : ds.count d ≤ ds.length := List.count_le_length
theorem Numd.look {w : World} {b : Nat} {ds : List Dt.Dot} (h : Numd w b ds) {d : Dt.Dot} (hd : Dt.okD d) :
  (Instr.lookup 75 (.map (some b)) (dotV d) false).run Try.prog w = .ok (.int .i64 (ds.count d : Nat)) w := by
 obtain ⟨D, h, g⟩ := h
 obtain ⟨c, hl, hat, _⟩ := h.lookup_int dotLaw Try.underlying75 Try.underlying3 (zeroI64 w) (keyOf_dot hd)
 rw [g d hd] at hat
 simp only [DataW.lit.injEq, Lit.int.injEq, true_and] at hat
 rw [hl, hat]
theorem Numd.bump {w : World} {b : Nat} {ds : List Dt.Dot} (h : Numd w b ds) {d : Dt.Dot} (hd : Dt.okD d) (hn : ds.length < 1000000000) :
  ∃ (c : Nat) (st : Nat) (w1 w2 : World), c = ds.count d ∧ c < 1000000000 ∧ (Instr.lookup 75 (.map (some b)) (dotV d) false).run Try.prog w = .ok (.int .i64 (c : Int)) w ∧
   (Instr.mapEntry 75 (.map (some b)) (dotV d)).run Try.prog w = .ok (.tuple #[.int .i64 (c : Int), goInt st]) w1 ∧
   (Instr.lookup 75 (.map (some b)) (dotV d) false).run Try.prog w1 = .ok (.int .i64 (c : Int)) w1 ∧
   (Instr.entryStore 75 (.map (some b)) (goInt st) (.int .i64 ((c : Int) + 1))).run Try.prog w1 = .ok () w2 ∧ Numd w2 b (ds ++ [d]) ∧ w.grownBy w2 (some b) := by
 have hlk := h.look hd
 have hcl := count_le_len ds d
 obtain ⟨D, h, g⟩ := h
 obtain ⟨es, clock, hb, F, hs, hD⟩ := id h
 obtain ⟨v0, st, es1, clock1, h1, h2, h3, h4⟩ := entry_now dotKeyLaw Try.underlying75 zeroI64 hb F (keyOf_dot hd)
 have hv := entry_look dotKeyLaw Try.underlying75 zeroI64 hb F (keyOf_dot hd) h1
 rw [hlk] at hv
 simp only [Result.ok.injEq, and_true] at hv
 subst hv
 have wf0 : (Lit.int .i64 ((ds.count d : Nat) : Int)).wf = true := by go_wf
 have wf1 : (Lit.int .i64 ((ds.count d : Nat) + 1 : Int)).wf = true := by go_wf
 obtain ⟨w', u1, u2, u3⟩ := h.update dotLaw Try.underlying75 (by unfold maxLen; omega) (keyOf_dot hd) (plainElem_int Try.underlying3 wf0)
 have ew : w' = setBlock w b (.map es1 clock1) := by rw [h2] at u1; simpa using u1.symm
 rw [ew] at u2
 have hm : IsMap D := by obtain ⟨es, e, _⟩ := h.canon dotLaw; exact ⟨es, e⟩
 obtain ⟨c1, hl1, hat1, _⟩ := u2.lookup_int dotLaw Try.underlying75 Try.underlying3 (zeroI64 _) (keyOf_dot hd)
 rw [atKey_put_same hm (dotLaw.key (keyOf_dot hd))] at hat1
 simp only [DataW.lit.injEq, Lit.int.injEq, true_and] at hat1
 subst hat1
 obtain ⟨es', clock', g1, g2⟩ := h4 (setBlock w b (.map es1 clock1)) (.int .i64 ((ds.count d : Nat) + 1 : Int)) (heap_setBlock_same hb _)
 obtain ⟨w'', v1, v2, v3⟩ := h.update dotLaw Try.underlying75 (by unfold maxLen; omega) (keyOf_dot hd) (plainElem_int Try.underlying3 wf1)
 have ew2 : w'' = setBlock w b (.map es' clock') := by rw [g2] at v1; simpa using v1.symm
 have e3 : setBlock (setBlock w b (.map es1 clock1)) b (.map es' clock') = setBlock w b (.map es' clock') := by simp [setBlock]
 rw [e3] at g1
 rw [ew2] at v2 v3
 refine ⟨ds.count d, st, setBlock w b (.map es1 clock1), _, rfl, by omega, hlk, h1, hl1, g1, ⟨_, by rw [List.length_append]; exact v2, fun c hc => ?_⟩, v3⟩
 by_cases e : c = d
 ·subst e
  rw [atKey_put_same hm (dotLaw.key (keyOf_dot hc))]
  simp
 ·rw [atKey_put_other (fun g => e (kd_inj hc hd g)), g c hc]
  have : ¬ d = c := fun h => e h.symm
  simp [List.count_cons, this]
end Go.Proofs.Ytmnblimnoaockaa
