import Derived.Test.YtplafpchgfjomaaRows
import Derived.WalkKit
import Derived.WalkSpells
import Derived.WalkLawsBesides
import Derived.Deep.MidRow
import Derived.Laws.CopyOwn
import Derived.Deep.WholeRow
import Derived.Lib.Hide
import Derived.Deep.QuietTactic
import Derived.BigQuiet
import Derived.Deep.RegionLaw
import Derived.Deep.RegionHeld3
import Derived.Deep.RegionLawGrows
import Derived.Deep.RegionWith
import Derived.Lib.SlBytesConst
import Derived.Laws.AppendOwnNone
import Derived.Laws.BytesArg
import Derived.Test.YtplafpchgfjomaaZReg
import Derived.Test.YtplafpchgfjomaaZDotMath
import Derived.Test.YtplafpchgfjomaaZRegG
import Derived.Sort.Grow
namespace Go.Proofs.Ytplafpchgfjomaa
open Go.RowKit
theorem ret_int {k : IntKind} {a b : Int} (h : a = b) : Ending.returned (.int k a) = .returned (.int k b) := by rw [h]
def Row (w : World) (a : Option Addr) (cap : Nat) (l : List Nat) : Prop :=
 l.length ≤ cap ∧ cap ≤ 9223372036854775807 ∧ (∀ x ∈ l, x < 256) ∧ (a = none → cap = 0) ∧ ∀ i x, l[i]? = some x → ∃ p, a = some p ∧ w.cell? (p.add i) = some (.int .u8 (x : Nat))
theorem Row.le {w : World} {a : Option Addr} {cap : Nat} {l : List Nat} (h : Row w a cap l) : l.length ≤ cap := h.1
theorem Row.cap {w : World} {a : Option Addr} {cap : Nat} {l : List Nat} (h : Row w a cap l) : cap ≤ 9223372036854775807 := h.2.1
theorem Row.byte {w : World} {a : Option Addr} {cap : Nat} {l : List Nat} (h : Row w a cap l) : ∀ x ∈ l, x < 256 := h.2.2.1
theorem Row.opened {w : World} {a : Option Addr} {cap : Nat} {l : List Nat} (h : Row w a cap l) (hl : 0 < l.length) :
  ∃ b off, a = some ⟨b, off, none⟩ ∧ b < w.heap.size ∧ ∀ i, i < l.length → w.cell? ⟨b, off + i, none⟩ = some (.int .u8 (l.getD i 0 : Nat)) := by
 obtain ⟨p, hp, hc⟩ := h.2.2.2.2 0 l[0] (by simp [hl])
 have hs := World.cell?_spot hc
 obtain ⟨b, off, spot⟩ := p
 have hspot : spot = none := by simpa [Addr.add] using hs
 subst hspot
 refine ⟨b, off, hp, by simpa [Addr.add] using World.block_lt_of_cell? w _ hc, fun i hi => ?_⟩
 obtain ⟨q, hq, hc'⟩ := h.2.2.2.2 i l[i] (by simp [hi])
 rw [hp] at hq
 obtain rfl := Option.some.inj hq
 rw [Addr.add_mid] at hc'
 rw [hc']; simp [List.getD, hi]
theorem Row.below {w w' : World} {a : Option Addr} {cap : Nat} {l : List Nat} (h : Row w a cap l) (hb : Below w.heap.size w w') : Row w' a cap l := by
 obtain ⟨h1, h2, h3, h4, h5⟩ := h
 refine ⟨h1, h2, h3, h4, fun i x hx => ?_⟩
 obtain ⟨p, hp, hc⟩ := h5 i x hx
 exact ⟨p, hp, (hb.cell (World.block_lt_of_cell? w _ hc)).trans hc⟩
theorem info5 : (Try.prog.info? 5).map (fun i => (i.zero, i.size, i.bytes)) = some (some (.int .u8 0), 1, 1) := by kernel_rfl
def bytesV (l : List Nat) : List Value := l.map fun x => .int .u8 (x : Nat)
theorem bytesV_length (l : List Nat) : (bytesV l).length = l.length := by simp [bytesV]
theorem bytesV_append (l m : List Nat) : bytesV (l ++ m) = bytesV l ++ bytesV m := by simp [bytesV]
theorem bytesV_one (l : List Nat) : ∀ u ∈ bytesV l, u.oneCell' = true := by
 intro u hu; simp [bytesV] at hu; obtain ⟨x, _, rfl⟩ := hu; rfl
theorem Row.holds {w : World} {a : Option Addr} {cap : Nat} {l : List Nat} (h : Row w a cap l) : ∀ b, a = some b → ∀ j u, (bytesV l)[j]? = some u → w.cell? (b.add j) = some u := by
 intro b hb j u hu
 simp [bytesV] at hu
 obtain ⟨x, hx, rfl⟩ := hu
 obtain ⟨p, hp, hc⟩ := h.2.2.2.2 j x hx
 rw [hb] at hp; obtain rfl := Option.some.inj hp
 exact hc
theorem Row.drew {w : World} {a : Option Addr} {cap : Nat} {l : List Nat} (h : Row w a cap l) : Row w.drew a cap l := by
 obtain ⟨h1, h2, h3, h4, h5⟩ := h
 exact ⟨h1, h2, h3, h4, fun i x hx => by obtain ⟨p, hp, hc⟩ := h5 i x hx; exact ⟨p, hp, by simpa using hc⟩⟩
def RetOwn (B : Nat) (w : World) (l : List Nat) (e : Ending) (w' : World) : Prop := ∃ v, e = .returned v ∧ w'.ownsRow B 5 1 v l.length (bytesV l) ∧ Below B w w'
theorem Row.take {w : World} {a : Option Addr} {cap : Nat} {l : List Nat} (h : Row w a cap l) (k c : Nat) (hk : k ≤ c) (hc : c ≤ cap) (ha : a = none → c = 0) : Row w a c (l.take k) := by
 obtain ⟨h1, h2, h3, h4, h5⟩ := h
 refine ⟨by simp; omega, by omega, fun x hx => h3 x (List.mem_of_mem_take hx), ha, fun i x hx => ?_⟩
 rw [List.getElem?_take] at hx
 split at hx
 ·exact h5 i x hx
 ·cases hx
def RetBool (B : Nat) (w : World) (r : Bool) (e : Ending) (w' : World) : Prop := e = .returned (.bool r) ∧ Below B w w'
theorem row_of_block {w : World} {b : Nat} {l : List Nat} {cs : Array Value} {t : TypeId} {fr : Nat × Nat} (h : w.heap[b]? = some (.cells cs t fr)) (hb : ∀ x ∈ l, x < 256) (o cap : Nat) (hcap : cap ≤ 9223372036854775807)
  (hl : l.length ≤ cap) (hc : ∀ i x, l[i]? = some x → cs[o + i]? = some (.int .u8 (x : Nat))) : Row w (some ⟨b, o, none⟩) cap l := by
 refine ⟨hl, hcap, hb, fun h => (by cases h), fun i x hx => ⟨_, rfl, ?_⟩⟩
 rw [Addr.add_mid, cell_of_row w b _ cs t fr h]
 exact hc i x hx
def strB (l : List Nat) : ByteArray := ⟨(l.map fun x => UInt8.ofNat x).toArray⟩
theorem conv_row {w : World} {a : Option Addr} {n cap : Nat} {l : List Nat} (hr : Row w a cap l) (hn : l.length = n) :
  Sem.run Try.prog (convert 26 9 (.slice a n cap)) w = .ok (.string (strB l)) w := by
 cases a with
 | none =>
  have hc := hr.2.2.2.1 rfl
  have hle := hr.le
  have hl : l = [] := List.eq_nil_of_length_eq_zero (by omega)
  subst hl
  exact run_convert_bytes_nil w 26 5 Try.underlying26 Try.underlying5 n cap 9 Try.underlying9
 | some p =>
  rw [run_convert_bytes_string w 26 9 5 (some p) n cap Try.underlying26 Try.underlying5 Try.underlying9]
  have hl := run_loadCells_list (P := Try.prog) w p (bytesV l) (hr.holds p rfl)
  have e : bytesV l = (l.map Int.ofNat).map (Value.int .u8) := by simp [bytesV]
  rw [bytesV_length, hn, e] at hl
  rw [run_bytesToString w p n cap (l.map Int.ofNat) hl, foldl_push_bytes]
  congr 2
  simp [strB]
end Go.Proofs.Ytplafpchgfjomaa
namespace Go.Proofs.Ytplafpchgfjomaa
open Go.RowKit
abbrev acV (a : Dt.Ac) : Value := .agg #[.int .u8 (a.1 : Int), .int .u32 (a.2 : Int)]
abbrev dotV (d : Dt.Dot) : Value := .agg #[.int .u8 (d.1.1 : Int), .int .u32 (d.1.2 : Int), .int .u64 (d.2 : Int)]
theorem ret_bool {a b : Bool} (h : a = b) : Ending.returned (.bool a) = .returned (.bool b) := by rw [h]
theorem bcell {W w1 : World} (hb : Below W.heap.size W w1) : (∀ b o, b < W.heap.size → w1.cell? ⟨b, o, none⟩ = W.cell? ⟨b, o, none⟩) ∧ (∀ b o, b < W.heap.size → w1.frozen? ⟨b, o, none⟩ = W.frozen? ⟨b, o, none⟩) :=
 ⟨fun b o h => hb.cell (p := ⟨b, o, none⟩) h, fun b o h => hb.frozen (p := ⟨b, o, none⟩) h⟩
set_option maxHeartbeats 400000 in
theorem mayActor_any (r i : Nat) (w : World) :
  Calls Try.prog 74 #[acV (r, i)] w fun e w' => e = .returned (.bool (Dt.mayA (r, i))) ∧ Below w.heap.size w w' := by
 go_enter Try.func74, Try.ntmps74
 go_wp2
 all_goals
  go_ret
  exact ⟨ret_bool (by simp only [Dt.mayA]; rw [Bool.eq_iff_iff]; simp; try omega), (Below.refl _ _).alloc (Nat.le_refl _) _⟩
set_option maxHeartbeats 400000 in
theorem may_any (r i s : Nat) (w : World) :
  Calls Try.prog 68 #[dotV ((r, i), s)] w fun e w' => e = .returned (.bool (Dt.may ((r, i), s))) ∧ Below w.heap.size w w' := by
 cases hm : Dt.mayA (r, i)
 ·go_enter Try.func68, Try.ntmps68
  go_wp2_with fail
  refine (mayActor_any r i _).mono ?_
  rintro e w1 ⟨rfl, hb⟩
  obtain ⟨hc, hf⟩ := bcell hb
  go_wp2_with fail
  go_ret
  exact ⟨ret_bool (by simp [Dt.may, hm]), ((Below.refl _ _).alloc (Nat.le_refl _) _).trans (hb.mono (by simp))⟩
 ·go_enter Try.func68, Try.ntmps68
  go_wp2_with fail
  refine (mayActor_any r i _).mono ?_
  rintro e w1 ⟨rfl, hb⟩
  obtain ⟨hc, hf⟩ := bcell hb
  go_wp2_with fail
  all_goals
   go_ret
   exact ⟨ret_bool (by simp only [Dt.may, hm]; rw [Bool.eq_iff_iff]; simp; try omega), ((Below.refl _ _).alloc (Nat.le_refl _) _).trans (hb.mono (by simp))⟩
set_option maxHeartbeats 400000 in
theorem isNaN_u8 (x : Nat) (w : World) : Calls Try.prog 81 #[.int .u8 (x : Int)] w fun e w' => e = .returned (.bool false) ∧ w = w' := by
 go_enter Try.func81, Try.ntmps81
 go_wp2
 go_ret
 exact ⟨rfl, rfl⟩
set_option maxHeartbeats 400000 in
theorem cmp_u8 (x y : Nat) (w : World) : Calls Try.prog 78 #[.int .u8 (x : Int), .int .u8 (y : Int)] w fun e w' => e = .returned (.int .i64 (Dt.cmpN x y)) ∧ w = w' := by
 by_cases h1 : x < y
 ·go_enter Try.func78, Try.ntmps78
  go_wp2_with (first | (go_at_call 81; refine (isNaN_u8 _ _).mono ?_; rintro e w' ⟨rfl, rfl⟩))
  go_ret
  exact ⟨ret_int (by simp [Dt.cmpN, h1]), rfl⟩
 ·by_cases h2 : y < x
  ·go_enter Try.func78, Try.ntmps78
   go_wp2_with (first | (go_at_call 81; refine (isNaN_u8 _ _).mono ?_; rintro e w' ⟨rfl, rfl⟩))
   go_ret
   exact ⟨ret_int (by simp [Dt.cmpN, h1, h2]), rfl⟩
  ·go_enter Try.func78, Try.ntmps78
   go_wp2_with (first | (go_at_call 81; refine (isNaN_u8 _ _).mono ?_; rintro e w' ⟨rfl, rfl⟩))
   go_ret
   exact ⟨ret_int (by simp [Dt.cmpN, h1, h2]), rfl⟩
set_option maxHeartbeats 400000 in
theorem isNaN_u32 (x : Nat) (w : World) : Calls Try.prog 82 #[.int .u32 (x : Int)] w fun e w' => e = .returned (.bool false) ∧ w = w' := by
 go_enter Try.func82, Try.ntmps82
 go_wp2
 go_ret
 exact ⟨rfl, rfl⟩
set_option maxHeartbeats 400000 in
theorem cmp_u32 (x y : Nat) (w : World) : Calls Try.prog 79 #[.int .u32 (x : Int), .int .u32 (y : Int)] w fun e w' => e = .returned (.int .i64 (Dt.cmpN x y)) ∧ w = w' := by
 by_cases h1 : x < y
 ·go_enter Try.func79, Try.ntmps79
  go_wp2_with (first | (go_at_call 82; refine (isNaN_u32 _ _).mono ?_; rintro e w' ⟨rfl, rfl⟩))
  go_ret
  exact ⟨ret_int (by simp [Dt.cmpN, h1]), rfl⟩
 ·by_cases h2 : y < x
  ·go_enter Try.func79, Try.ntmps79
   go_wp2_with (first | (go_at_call 82; refine (isNaN_u32 _ _).mono ?_; rintro e w' ⟨rfl, rfl⟩))
   go_ret
   exact ⟨ret_int (by simp [Dt.cmpN, h1, h2]), rfl⟩
  ·go_enter Try.func79, Try.ntmps79
   go_wp2_with (first | (go_at_call 82; refine (isNaN_u32 _ _).mono ?_; rintro e w' ⟨rfl, rfl⟩))
   go_ret
   exact ⟨ret_int (by simp [Dt.cmpN, h1, h2]), rfl⟩
set_option maxHeartbeats 400000 in
theorem isNaN_u64 (x : Nat) (w : World) : Calls Try.prog 80 #[.int .u64 (x : Int)] w fun e w' => e = .returned (.bool false) ∧ w = w' := by
 go_enter Try.func80, Try.ntmps80
 go_wp2
 go_ret
 exact ⟨rfl, rfl⟩
set_option maxHeartbeats 400000 in
theorem cmp_u64 (x y : Nat) (w : World) : Calls Try.prog 77 #[.int .u64 (x : Int), .int .u64 (y : Int)] w fun e w' => e = .returned (.int .i64 (Dt.cmpN x y)) ∧ w = w' := by
 by_cases h1 : x < y
 ·go_enter Try.func77, Try.ntmps77
  go_wp2_with (first | (go_at_call 80; refine (isNaN_u64 _ _).mono ?_; rintro e w' ⟨rfl, rfl⟩))
  go_ret
  exact ⟨ret_int (by simp [Dt.cmpN, h1]), rfl⟩
 ·by_cases h2 : y < x
  ·go_enter Try.func77, Try.ntmps77
   go_wp2_with (first | (go_at_call 80; refine (isNaN_u64 _ _).mono ?_; rintro e w' ⟨rfl, rfl⟩))
   go_ret
   exact ⟨ret_int (by simp [Dt.cmpN, h1, h2]), rfl⟩
  ·go_enter Try.func77, Try.ntmps77
   go_wp2_with (first | (go_at_call 80; refine (isNaN_u64 _ _).mono ?_; rintro e w' ⟨rfl, rfl⟩))
   go_ret
   exact ⟨ret_int (by simp [Dt.cmpN, h1, h2]), rfl⟩
end Go.Proofs.Ytplafpchgfjomaa
namespace Go.Proofs.Ytplafpchgfjomaa
open Go.RowKit
open Go.RegG (Gr)
theorem or_any (x y : Int) (b cap : Nat) (w : World) (h0 : w.cell? ⟨b, 0, none⟩ = some (.int .i64 x)) (h1 : w.cell? ⟨b, 1, none⟩ = some (.int .i64 y)) :
  Calls Try.prog 75 #[.slice (some ⟨b, 0, none⟩) 2 cap] w fun e w' => e = .returned (.int .i64 (if x ≠ 0 then x else y)) ∧ w = w' := by
 by_cases hx : x = 0
 ·subst hx
  by_cases hy : y = 0
  ·subst hy
   go_enter Try.func75, Try.ntmps75
   go_wp2
   refine wp_loop_rounds 3 ?_
   rw [rounds_succ]
   go_wp2
   rw [rounds_succ]
   go_wp2
   rw [rounds_succ]
   go_wp2
   go_ret
   exact ⟨by simp, rfl⟩
  ·have d : (y == 0) = false := by simpa using hy
   have d' : (y != 0) = true := by simpa using hy
   go_enter Try.func75, Try.ntmps75
   go_wp2
   refine wp_loop_rounds 3 ?_
   rw [rounds_succ]
   go_wp2
   rw [rounds_succ]
   go_wp2
   go_ret
   exact ⟨by simp, rfl⟩
 ·have d : (x == 0) = false := by simpa using hx
  have d' : (x != 0) = true := by simpa using hx
  go_enter Try.func75, Try.ntmps75
  go_wp2
  refine wp_loop_rounds 3 ?_
  rw [rounds_succ]
  go_wp2
  go_ret
  exact ⟨by simp, rfl⟩
end Go.Proofs.Ytplafpchgfjomaa
namespace Go.Proofs.Ytplafpchgfjomaa
open Go.RowKit
open Go.RegG (Gr)
theorem cmpg_u8 (x y : Nat) (w : World) : Calls Try.prog 78 #[.int .u8 (x : Int), .int .u8 (y : Int)] w fun e w' => e = .returned (.int .i64 (Dt.cmpN x y)) ∧ Gr w.heap.size w w' :=
 (cmp_u8 x y w).mono fun _ _ ⟨h1, h2⟩ => ⟨h1, h2 ▸ Gr.refl _ _⟩
theorem cmpg_u32 (x y : Nat) (w : World) : Calls Try.prog 79 #[.int .u32 (x : Int), .int .u32 (y : Int)] w fun e w' => e = .returned (.int .i64 (Dt.cmpN x y)) ∧ Gr w.heap.size w w' :=
 (cmp_u32 x y w).mono fun _ _ ⟨h1, h2⟩ => ⟨h1, h2 ▸ Gr.refl _ _⟩
theorem cmpg_u64 (x y : Nat) (w : World) : Calls Try.prog 77 #[.int .u64 (x : Int), .int .u64 (y : Int)] w fun e w' => e = .returned (.int .i64 (Dt.cmpN x y)) ∧ Gr w.heap.size w w' :=
 (cmp_u64 x y w).mono fun _ _ ⟨h1, h2⟩ => ⟨h1, h2 ▸ Gr.refl _ _⟩
set_option maxRecDepth 100000 in
set_option maxHeartbeats 1600000 in
theorem compareActors_any (r i r' i' : Nat) (W : World) :
  Calls Try.prog 76 #[acV (r, i), acV (r', i')] W fun e w' => e = .returned (.int .i64 (Dt.cmpA (r, i) (r', i'))) ∧ Gr W.heap.size W w' := by
 have HC : Hid (∀ w2, Gr ((W.alloc (.cells #[(.int .u8 (r : Int)), (.int .u32 (i : Int))] 38)).alloc (.cells #[(.int .u8 (r' : Int)), (.int .u32 (i' : Int))] 38)).drew.heap.size ((W.alloc (.cells #[(.int .u8 (r : Int)), (.int .u32 (i : Int))] 38)).alloc (.cells #[(.int .u8 (r' : Int)), (.int .u32 (i' : Int))] 38)).drew w2 → w2.cell? ⟨W.heap.size, 0, none⟩ = some (.int .u8 (r : Int)) ∧ w2.cell? ⟨W.heap.size + 1, 0, none⟩ = some (.int .u8 (r' : Int)) ∧ w2.cell? ⟨W.heap.size, 1, none⟩ = some (.int .u32 (i : Int)) ∧ w2.cell? ⟨W.heap.size + 1, 1, none⟩ = some (.int .u32 (i' : Int)) ∧ w2.cell? ⟨W.heap.size, 0, none⟩ = some (.int .u8 (r : Int)) ∧ w2.cell? ⟨W.heap.size + 1, 0, none⟩ = some (.int .u8 (r' : Int))) := fun w2 h => ⟨(h.below.cell (p := ⟨W.heap.size, 0, none⟩) (by simp <;> omega)).trans (by simp), (h.below.cell (p := ⟨W.heap.size + 1, 0, none⟩) (by simp <;> omega)).trans (by simp), (h.below.cell (p := ⟨W.heap.size, 1, none⟩) (by simp <;> omega)).trans (by simp), (h.below.cell (p := ⟨W.heap.size + 1, 1, none⟩) (by simp <;> omega)).trans (by simp), (h.below.cell (p := ⟨W.heap.size, 0, none⟩) (by simp <;> omega)).trans (by simp), (h.below.cell (p := ⟨W.heap.size + 1, 0, none⟩) (by simp <;> omega)).trans (by simp)⟩
 have HE : Hid (Value.int .i64 (if Dt.cmpN r r' ≠ 0 then Dt.cmpN r r' else Dt.cmpN i i') = .int .i64 (Dt.cmpA (r, i) (r', i'))) := by exact congrArg (Value.int .i64) (Dt.cmpA_eq (r, i) (r', i')).symm
 go_enter Try.func76, Try.ntmps76
 go_wp2_with fail
 refine RegG.region_list (by kernel_rfl) [fun v _ => v = .pointer (some ⟨W.heap.size, 0, none⟩), fun v _ => v = .int .u8 (r : Int), fun v _ => v = .pointer (some ⟨W.heap.size + 1, 0, none⟩), fun v _ => v = .int .u8 (r' : Int), fun v _ => v = .int .i64 (Dt.cmpN r r'), fun v _ => v = .pointer (some ⟨W.heap.size, 1, none⟩), fun v _ => v = .int .u32 (i : Int), fun v _ => v = .pointer (some ⟨W.heap.size + 1, 1, none⟩), fun v _ => v = .int .u32 (i' : Int), fun v _ => v = .int .i64 (Dt.cmpN i i'), fun v w => ∃ b, v = .slice (some ⟨b, 0, none⟩) 2 2 ∧ w.cell? ⟨b, 0, none⟩ = some (.int .i64 (Dt.cmpN r r')) ∧ w.cell? ⟨b, 1, none⟩ = some (.int .i64 (Dt.cmpN i i')), fun v _ => v = .int .i64 (Dt.cmpA (r, i) (r', i')), fun v _ => v = .int .i64 (Dt.cmpA (r, i) (r', i'))] (by kernel_rfl) ?_ ?_ ?_
 ·refine ⟨k4, k4, k4, k4, k4, k4, k4, k4, k4, k4, (fun v wa wb hb h => by obtain ⟨b, h1, h2, h3⟩ := h; exact ⟨b, h1, (hb.below.cell (p := ⟨b, 0, none⟩) (World.block_lt_of_cell? _ _ h2)).trans h2, (hb.below.cell (p := ⟨b, 1, none⟩) (World.block_lt_of_cell? _ _ h3)).trans h3⟩), k4, k4, trivial⟩
 ·refine ⟨?_, ?_, ?_, ?_, ?_, ?_, ?_, ?_, ?_, ?_, ?_, ?_, ?_, trivial⟩
  ·intro ev w hc hf hg hfix hdep hbel
   have e2 : ev (.tmp 2) = _ := hfix 2 (by decide)
   exact Or.inl ⟨trivial, Or.inl ⟨_, w, by go_simp, rfl, Gr.refl _ _⟩⟩
  ·intro ev w hc hf hg hfix hdep hbel
   have e5 : ev (.tmp 5) = _ := hdep 0 (by decide)
   have hcs := HC.out w hbel
   obtain ⟨hc0, hc1, hc2, hc3, hc4, hc5⟩ := hcs
   exact Or.inl ⟨trivial, Or.inl ⟨_, w, by go_simp, rfl, Gr.refl _ _⟩⟩
  ·intro ev w hc hf hg hfix hdep hbel
   have e3 : ev (.tmp 3) = _ := hfix 3 (by decide)
   exact Or.inl ⟨trivial, Or.inl ⟨_, w, by go_simp, rfl, Gr.refl _ _⟩⟩
  ·intro ev w hc hf hg hfix hdep hbel
   have e7 : ev (.tmp 7) = _ := hdep 2 (by decide)
   have hcs := HC.out w hbel
   obtain ⟨hc0, hc1, hc2, hc3, hc4, hc5⟩ := hcs
   exact Or.inl ⟨trivial, Or.inl ⟨_, w, by go_simp, rfl, Gr.refl _ _⟩⟩
  ·intro ev w hc hf hg hfix hdep hbel
   have e6 : ev (.tmp 6) = _ := hdep 1 (by decide)
   have e8 : ev (.tmp 8) = _ := hdep 3 (by decide)
   refine Or.inl ⟨trivial, Or.inr ⟨78, #[.int .u8 (r : Int), .int .u8 (r' : Int)], w, by go_simp, ?_⟩⟩
   refine (cmpg_u8 r r' w).mono ?_
   rintro e w1 ⟨rfl, hb1⟩
   exact ⟨_, rfl, rfl, hb1⟩
  ·intro ev w hc hf hg hfix hdep hbel
   have e2 : ev (.tmp 2) = _ := hfix 2 (by decide)
   exact Or.inl ⟨trivial, Or.inl ⟨_, w, by go_simp, rfl, Gr.refl _ _⟩⟩
  ·intro ev w hc hf hg hfix hdep hbel
   have e10 : ev (.tmp 10) = _ := hdep 5 (by decide)
   have hcs := HC.out w hbel
   obtain ⟨hc0, hc1, hc2, hc3, hc4, hc5⟩ := hcs
   exact Or.inl ⟨trivial, Or.inl ⟨_, w, by go_simp, rfl, Gr.refl _ _⟩⟩
  ·intro ev w hc hf hg hfix hdep hbel
   have e3 : ev (.tmp 3) = _ := hfix 3 (by decide)
   exact Or.inl ⟨trivial, Or.inl ⟨_, w, by go_simp, rfl, Gr.refl _ _⟩⟩
  ·intro ev w hc hf hg hfix hdep hbel
   have e12 : ev (.tmp 12) = _ := hdep 7 (by decide)
   have hcs := HC.out w hbel
   obtain ⟨hc0, hc1, hc2, hc3, hc4, hc5⟩ := hcs
   exact Or.inl ⟨trivial, Or.inl ⟨_, w, by go_simp, rfl, Gr.refl _ _⟩⟩
  ·intro ev w hc hf hg hfix hdep hbel
   have e11 : ev (.tmp 11) = _ := hdep 6 (by decide)
   have e13 : ev (.tmp 13) = _ := hdep 8 (by decide)
   refine Or.inl ⟨trivial, Or.inr ⟨79, #[.int .u32 (i : Int), .int .u32 (i' : Int)], w, by go_simp, ?_⟩⟩
   refine (cmpg_u32 i i' w).mono ?_
   rintro e w1 ⟨rfl, hb1⟩
   exact ⟨_, rfl, rfl, hb1⟩
  ·intro ev w hc hf hg hfix hdep hbel
   have e9 : ev (.tmp 9) = _ := hdep 4 (by decide)
   have e14 : ev (.tmp 14) = _ := hdep 9 (by decide)
   exact Or.inl ⟨trivial, Or.inl ⟨.slice (some ⟨w.heap.size, 0, none⟩) 2 2, w.alloc (.cells #[.int .i64 (Dt.cmpN r r'), .int .i64 (Dt.cmpN i i')] 3) , by go_simp, ⟨w.heap.size, rfl, by simp, by simp⟩, (Gr.refl _ _).alloc (Nat.le_refl _) _⟩⟩
  ·intro ev w hc hf hg hfix hdep hbel
   have e15 := hdep 10 (by decide)
   obtain ⟨b, hb0, hb1, hb2⟩ := e15
   have hb9 : ev (.tmp 15) = .slice (some ⟨b, 0, none⟩) 2 2 := hb0
   refine Or.inl ⟨trivial, Or.inr ⟨75, #[.slice (some ⟨b, 0, none⟩) 2 2], w, by go_simp, ?_⟩⟩
   refine (or_any _ _ b 2 w hb1 hb2).mono ?_
   rintro e w1 ⟨rfl, rfl⟩
   exact ⟨_, rfl, HE.out, Gr.refl _ _⟩
  ·intro ev w hc hf hg hfix hdep hbel
   have e16 : ev (.tmp 16) = _ := hdep 11 (by decide)
   exact Or.inl ⟨trivial, Or.inl ⟨_, w, by go_simp, rfl, Gr.refl _ _⟩⟩
 ·intro v w2 hv hb2
  have r0 : v 0 = _ := hv 0 (by decide)
  have r1 : v 1 = _ := hv 1 (by decide)
  have r2 : v 2 = _ := hv 2 (by decide)
  have r3 : v 3 = _ := hv 3 (by decide)
  have r4 : v 4 = _ := hv 4 (by decide)
  have r5 : v 5 = _ := hv 5 (by decide)
  have r6 : v 6 = _ := hv 6 (by decide)
  have r7 : v 7 = _ := hv 7 (by decide)
  have r8 : v 8 = _ := hv 8 (by decide)
  have r9 : v 9 = _ := hv 9 (by decide)
  have r10 := hv 10 (by decide)
  have r11 : v 11 = _ := hv 11 (by decide)
  have r12 : v 12 = _ := hv 12 (by decide)
  simp only [RegG.putAll, Act.put, List.setIfInBounds_toArray, List.set_cons_zero, List.set_cons_succ, r0, r1, r2, r3, r4, r5, r6, r7, r8, r9, r11, r12]
  clear r0 r1 r2 r3 r4 r5 r6 r7 r8 r9 r11 r12 hv
  clear r10
  go_wp2_with fail
  go_ret
  exact ⟨rfl, (((Gr.refl _ _).alloc (Nat.le_refl _) _).alloc (by simp) _).trans (hb2.mono (by simp; omega))⟩
set_option maxRecDepth 100000 in
set_option maxHeartbeats 1600000 in
theorem compare_any (r i s r' i' s' : Nat) (W : World) :
  Calls Try.prog 70 #[dotV ((r, i), s), dotV ((r', i'), s')] W fun e w' => e = .returned (.int .i64 (Dt.cmp ((r, i), s) ((r', i'), s'))) ∧ Gr W.heap.size W w' := by
 have HC : Hid (∀ w2, Gr ((W.alloc (.cells #[(.int .u8 (r : Int)), (.int .u32 (i : Int)), (.int .u64 (s : Int))] 40)).alloc (.cells #[(.int .u8 (r' : Int)), (.int .u32 (i' : Int)), (.int .u64 (s' : Int))] 40)).drew.heap.size ((W.alloc (.cells #[(.int .u8 (r : Int)), (.int .u32 (i : Int)), (.int .u64 (s : Int))] 40)).alloc (.cells #[(.int .u8 (r' : Int)), (.int .u32 (i' : Int)), (.int .u64 (s' : Int))] 40)).drew w2 → w2.cell? ⟨W.heap.size, 0, none⟩ = some (.int .u8 (r : Int)) ∧ w2.cell? ⟨W.heap.size + 1, 0, none⟩ = some (.int .u8 (r' : Int)) ∧ w2.cell? ⟨W.heap.size, 1, none⟩ = some (.int .u32 (i : Int)) ∧ w2.cell? ⟨W.heap.size + 1, 1, none⟩ = some (.int .u32 (i' : Int)) ∧ w2.cell? ⟨W.heap.size, 2, none⟩ = some (.int .u64 (s : Int)) ∧ w2.cell? ⟨W.heap.size + 1, 2, none⟩ = some (.int .u64 (s' : Int))) := fun w2 h => ⟨(h.below.cell (p := ⟨W.heap.size, 0, none⟩) (by simp <;> omega)).trans (by simp), (h.below.cell (p := ⟨W.heap.size + 1, 0, none⟩) (by simp <;> omega)).trans (by simp), (h.below.cell (p := ⟨W.heap.size, 1, none⟩) (by simp <;> omega)).trans (by simp), (h.below.cell (p := ⟨W.heap.size + 1, 1, none⟩) (by simp <;> omega)).trans (by simp), (h.below.cell (p := ⟨W.heap.size, 2, none⟩) (by simp <;> omega)).trans (by simp), (h.below.cell (p := ⟨W.heap.size + 1, 2, none⟩) (by simp <;> omega)).trans (by simp)⟩
 have HE : Hid (Value.int .i64 (if Dt.cmpA (r, i) (r', i') ≠ 0 then Dt.cmpA (r, i) (r', i') else Dt.cmpN s s') = .int .i64 (Dt.cmp ((r, i), s) ((r', i'), s'))) := by exact congrArg (Value.int .i64) (Dt.cmp_eq ((r, i), s) ((r', i'), s')).symm
 go_enter Try.func70, Try.ntmps70
 go_wp2_with fail
 refine RegG.region_list (by kernel_rfl) [fun v _ => v = .pointer (some ⟨W.heap.size, 0, none⟩), fun v _ => v = acV (r, i), fun v _ => v = .pointer (some ⟨W.heap.size + 1, 0, none⟩), fun v _ => v = acV (r', i'), fun v _ => v = .int .i64 (Dt.cmpA (r, i) (r', i')), fun v _ => v = .pointer (some ⟨W.heap.size, 2, none⟩), fun v _ => v = .int .u64 (s : Int), fun v _ => v = .pointer (some ⟨W.heap.size + 1, 2, none⟩), fun v _ => v = .int .u64 (s' : Int), fun v _ => v = .int .i64 (Dt.cmpN s s'), fun v w => ∃ b, v = .slice (some ⟨b, 0, none⟩) 2 2 ∧ w.cell? ⟨b, 0, none⟩ = some (.int .i64 (Dt.cmpA (r, i) (r', i'))) ∧ w.cell? ⟨b, 1, none⟩ = some (.int .i64 (Dt.cmpN s s')), fun v _ => v = .int .i64 (Dt.cmp ((r, i), s) ((r', i'), s')), fun v _ => v = .int .i64 (Dt.cmp ((r, i), s) ((r', i'), s'))] (by kernel_rfl) ?_ ?_ ?_
 ·refine ⟨k4, k4, k4, k4, k4, k4, k4, k4, k4, k4, (fun v wa wb hb h => by obtain ⟨b, h1, h2, h3⟩ := h; exact ⟨b, h1, (hb.below.cell (p := ⟨b, 0, none⟩) (World.block_lt_of_cell? _ _ h2)).trans h2, (hb.below.cell (p := ⟨b, 1, none⟩) (World.block_lt_of_cell? _ _ h3)).trans h3⟩), k4, k4, trivial⟩
 ·refine ⟨?_, ?_, ?_, ?_, ?_, ?_, ?_, ?_, ?_, ?_, ?_, ?_, ?_, trivial⟩
  ·intro ev w hc hf hg hfix hdep hbel
   have e2 : ev (.tmp 2) = _ := hfix 2 (by decide)
   exact Or.inl ⟨trivial, Or.inl ⟨_, w, by go_simp, rfl, Gr.refl _ _⟩⟩
  ·intro ev w hc hf hg hfix hdep hbel
   have e5 : ev (.tmp 5) = _ := hdep 0 (by decide)
   have hcs := HC.out w hbel
   obtain ⟨hc0, hc1, hc2, hc3, hc4, hc5⟩ := hcs
   exact Or.inl ⟨trivial, Or.inl ⟨_, w, by go_simp, rfl, Gr.refl _ _⟩⟩
  ·intro ev w hc hf hg hfix hdep hbel
   have e3 : ev (.tmp 3) = _ := hfix 3 (by decide)
   exact Or.inl ⟨trivial, Or.inl ⟨_, w, by go_simp, rfl, Gr.refl _ _⟩⟩
  ·intro ev w hc hf hg hfix hdep hbel
   have e7 : ev (.tmp 7) = _ := hdep 2 (by decide)
   have hcs := HC.out w hbel
   obtain ⟨hc0, hc1, hc2, hc3, hc4, hc5⟩ := hcs
   exact Or.inl ⟨trivial, Or.inl ⟨_, w, by go_simp, rfl, Gr.refl _ _⟩⟩
  ·intro ev w hc hf hg hfix hdep hbel
   have e6 : ev (.tmp 6) = _ := hdep 1 (by decide)
   have e8 : ev (.tmp 8) = _ := hdep 3 (by decide)
   refine Or.inl ⟨trivial, Or.inr ⟨76, #[acV (r, i), acV (r', i')], w, by go_simp, ?_⟩⟩
   refine (compareActors_any r i r' i' w).mono ?_
   rintro e w1 ⟨rfl, hb1⟩
   exact ⟨_, rfl, rfl, hb1⟩
  ·intro ev w hc hf hg hfix hdep hbel
   have e2 : ev (.tmp 2) = _ := hfix 2 (by decide)
   exact Or.inl ⟨trivial, Or.inl ⟨_, w, by go_simp, rfl, Gr.refl _ _⟩⟩
  ·intro ev w hc hf hg hfix hdep hbel
   have e10 : ev (.tmp 10) = _ := hdep 5 (by decide)
   have hcs := HC.out w hbel
   obtain ⟨hc0, hc1, hc2, hc3, hc4, hc5⟩ := hcs
   exact Or.inl ⟨trivial, Or.inl ⟨_, w, by go_simp, rfl, Gr.refl _ _⟩⟩
  ·intro ev w hc hf hg hfix hdep hbel
   have e3 : ev (.tmp 3) = _ := hfix 3 (by decide)
   exact Or.inl ⟨trivial, Or.inl ⟨_, w, by go_simp, rfl, Gr.refl _ _⟩⟩
  ·intro ev w hc hf hg hfix hdep hbel
   have e12 : ev (.tmp 12) = _ := hdep 7 (by decide)
   have hcs := HC.out w hbel
   obtain ⟨hc0, hc1, hc2, hc3, hc4, hc5⟩ := hcs
   exact Or.inl ⟨trivial, Or.inl ⟨_, w, by go_simp, rfl, Gr.refl _ _⟩⟩
  ·intro ev w hc hf hg hfix hdep hbel
   have e11 : ev (.tmp 11) = _ := hdep 6 (by decide)
   have e13 : ev (.tmp 13) = _ := hdep 8 (by decide)
   refine Or.inl ⟨trivial, Or.inr ⟨77, #[.int .u64 (s : Int), .int .u64 (s' : Int)], w, by go_simp, ?_⟩⟩
   refine (cmpg_u64 s s' w).mono ?_
   rintro e w1 ⟨rfl, hb1⟩
   exact ⟨_, rfl, rfl, hb1⟩
  ·intro ev w hc hf hg hfix hdep hbel
   have e9 : ev (.tmp 9) = _ := hdep 4 (by decide)
   have e14 : ev (.tmp 14) = _ := hdep 9 (by decide)
   exact Or.inl ⟨trivial, Or.inl ⟨.slice (some ⟨w.heap.size, 0, none⟩) 2 2, w.alloc (.cells #[.int .i64 (Dt.cmpA (r, i) (r', i')), .int .i64 (Dt.cmpN s s')] 3) , by go_simp, ⟨w.heap.size, rfl, by simp, by simp⟩, (Gr.refl _ _).alloc (Nat.le_refl _) _⟩⟩
  ·intro ev w hc hf hg hfix hdep hbel
   have e15 := hdep 10 (by decide)
   obtain ⟨b, hb0, hb1, hb2⟩ := e15
   have hb9 : ev (.tmp 15) = .slice (some ⟨b, 0, none⟩) 2 2 := hb0
   refine Or.inl ⟨trivial, Or.inr ⟨75, #[.slice (some ⟨b, 0, none⟩) 2 2], w, by go_simp, ?_⟩⟩
   refine (or_any _ _ b 2 w hb1 hb2).mono ?_
   rintro e w1 ⟨rfl, rfl⟩
   exact ⟨_, rfl, HE.out, Gr.refl _ _⟩
  ·intro ev w hc hf hg hfix hdep hbel
   have e16 : ev (.tmp 16) = _ := hdep 11 (by decide)
   exact Or.inl ⟨trivial, Or.inl ⟨_, w, by go_simp, rfl, Gr.refl _ _⟩⟩
 ·intro v w2 hv hb2
  have r0 : v 0 = _ := hv 0 (by decide)
  have r1 : v 1 = _ := hv 1 (by decide)
  have r2 : v 2 = _ := hv 2 (by decide)
  have r3 : v 3 = _ := hv 3 (by decide)
  have r4 : v 4 = _ := hv 4 (by decide)
  have r5 : v 5 = _ := hv 5 (by decide)
  have r6 : v 6 = _ := hv 6 (by decide)
  have r7 : v 7 = _ := hv 7 (by decide)
  have r8 : v 8 = _ := hv 8 (by decide)
  have r9 : v 9 = _ := hv 9 (by decide)
  have r10 := hv 10 (by decide)
  have r11 : v 11 = _ := hv 11 (by decide)
  have r12 : v 12 = _ := hv 12 (by decide)
  simp only [RegG.putAll, Act.put, List.setIfInBounds_toArray, List.set_cons_zero, List.set_cons_succ, r0, r1, r2, r3, r4, r5, r6, r7, r8, r9, r11, r12]
  clear r0 r1 r2 r3 r4 r5 r6 r7 r8 r9 r11 r12 hv
  clear r10
  go_wp2_with fail
  go_ret
  exact ⟨rfl, (((Gr.refl _ _).alloc (Nat.le_refl _) _).alloc (by simp) _).trans (hb2.mono (by simp; omega))⟩
end Go.Proofs.Ytplafpchgfjomaa
