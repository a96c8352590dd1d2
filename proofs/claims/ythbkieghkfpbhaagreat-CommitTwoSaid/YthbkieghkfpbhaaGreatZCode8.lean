import Derived.Test.YthbkieghkfpbhaaGreatZCode6
import Derived.Test.YthbkieghkfpbhaaGreatZCode2
import Derived.Test.YthbkieghkfpbhaaGreatZOpMath
import Derived.Test.YthbkieghkfpbhaaGreatZDot4
namespace Go.Proofs.YthbkieghkfpbhaaGreat
open Go.RowKit Go.Buf
theorem Row.blockLt {w : World} {a : Option Addr} {cap : Nat} {l : List Nat} (h : Row w a cap l) (hl : 0 < l.length) : ∀ q, a = some q → q.block < w.heap.size := by
 intro q hq
 obtain ⟨r, hr, hc⟩ := h.2.2.2.2 0 l[0] (List.getElem?_eq_getElem hl)
 rw [hq] at hr
 obtain rfl := Option.some.inj hr
 have := World.block_lt_of_cell? _ _ hc
 have h3 : (q.add 0).block = q.block := by unfold Addr.add; split <;> rfl
 omega
theorem RdrS.below {w w' : World} {p : Nat} {l : List Nat} {er : Nat} (h : RdrS w p l er) (hb : Below w.heap.size w w') : RdrS w' p l er := by
 obtain ⟨a, n, c, h⟩ := h; exact ⟨a, n, c, h.kept hb⟩
theorem RdrS.grown {w w' : World} {p : Nat} {l : List Nat} {er : Nat} {row : Option Nat} (h : RdrS w p l er) (hg : w.grownBy w' row) (hr : ∀ k, row = some k → p < k) : RdrS w' p l er := by
 obtain ⟨a, n, c, h⟩ := h
 refine ⟨a, n, c, (hg.block p h.lt (fun e => by have := hr p e.symm; omega)).trans h.blk, ⟨h.row.1, h.row.2.1, h.row.2.2.1, h.row.2.2.2.1, fun i x hx => ?_⟩, h.len, h.low⟩
 obtain ⟨q, hq, hc⟩ := h.row.2.2.2.2 i x hx
 have hl : 0 < l.length := by have := (List.getElem?_eq_some_iff.1 hx).1; omega
 refine ⟨q, hq, hg.cell hc (fun e => ?_)⟩
 have h1 := hr _ e.symm
 have h2 := h.low hl q hq
 have h3 : (q.add i).block = q.block := by unfold Addr.add; split <;> rfl
 omega
theorem RdrS.lt {w : World} {p : Nat} {l : List Nat} {er : Nat} (h : RdrS w p l er) : p < w.heap.size := by obtain ⟨a, n, c, h⟩ := h; exact h.lt
theorem RdrS.byte {w : World} {p : Nat} {l : List Nat} {er : Nat} (h : RdrS w p l er) : ∀ x ∈ l, x < 256 := by obtain ⟨a, n, c, h⟩ := h; exact h.row.byte
def numR (l : List Nat) (er : Nat) : Nat × List Nat × Nat := step 0 l er (Cd.rd l)
def intR (l : List Nat) (er : Nat) : Int × List Nat × Nat := step 0 l er (Cd.sgn (Cd.rd l).1, (Cd.rd l).2)
def txtR (l : List Nat) (er : Nat) (most : Int) : List Nat × List Nat × Nat := step [] l er (Cd.rdText l most)
def mkU (x : Nat) : Value := .int .u64 (x : Nat)
def mkI (x : Int) : Value := .int .i64 x
def mkS (x : List Nat) : Value := .string (strB x)
set_option maxHeartbeats 400000 in
theorem Num_any (p : Nat) (l : List Nat) (er : Nat) (w : World) (h : RdrS w p l er) :
  Calls Tryz.prog 35 #[.pointer (some ⟨p, 0, none⟩)] w (RetRd w p mkU (numR l er)) := by
 have hr := read_u64 p l er w h (Cd.rd l) (Cd.rd_size l) _ rfl (by obtain ⟨a, n, c, h⟩ := h; exact rnum_any p a n c l er w h)
 have HR := Lib.hid hr
 clear h hr
 go_enter Tryz.func35, Tryz.ntmps35
 go_wp2_with fail
 refine HR.out.mono ?_
 rintro e w1 ⟨rfl, h1, h2⟩
 have H1 := Lib.hid h1; have H2 := Lib.hid h2; clear h1 h2
 go_wp2_with fail
 go_ret
 exact ⟨rfl, H1.out, H2.out⟩
set_option maxHeartbeats 400000 in
theorem Int_any (p : Nat) (l : List Nat) (er : Nat) (w : World) (h : RdrS w p l er) :
  Calls Tryz.prog 58 #[.pointer (some ⟨p, 0, none⟩)] w (RetRd w p mkI (intR l er)) := by
 have hr := read_i64 p l er w h (Cd.sgn (Cd.rd l).1, (Cd.rd l).2) (Cd.rd_size l) _ rfl (by obtain ⟨a, n, c, h⟩ := h; exact rwhole_any p a n c l er w h)
 have HR := Lib.hid hr
 clear h hr
 go_enter Tryz.func58, Tryz.ntmps58
 go_wp2_with fail
 refine HR.out.mono ?_
 rintro e w1 ⟨rfl, h1, h2⟩
 have H1 := Lib.hid h1; have H2 := Lib.hid h2; clear h1 h2
 go_wp2_with fail
 go_ret
 exact ⟨rfl, H1.out, H2.out⟩
theorem Num_at {p : Nat} {l : List Nat} {er : Nat} {w : World} (h : RdrS w p l er) {v : Nat} {l2 : List Nat} {er2 : Nat} (hr : numR l er = (v, l2, er2)) :
  Calls Tryz.prog 35 #[.pointer (some ⟨p, 0, none⟩)] w fun e w' => e = .returned (.int .u64 v) ∧ RdrS w' p l2 er2 ∧ w.grownBy w' (some p) := by
 have := Num_any p l er w h
 rw [hr] at this; exact this
theorem Int_at {p : Nat} {l : List Nat} {er : Nat} {w : World} (h : RdrS w p l er) {v : Int} {l2 : List Nat} {er2 : Nat} (hr : intR l er = (v, l2, er2)) :
  Calls Tryz.prog 58 #[.pointer (some ⟨p, 0, none⟩)] w fun e w' => e = .returned (.int .i64 v) ∧ RdrS w' p l2 er2 ∧ w.grownBy w' (some p) := by
 have := Int_any p l er w h
 rw [hr] at this; exact this
theorem rdText_size (l : List Nat) (most : Int) : (Cd.rdText l most).2.1 ≤ l.length := by
 have h := Cd.rd_size l
 unfold Cd.rdText
 split
 ·simp
 ·split
  ·simp
  ·split
   ·simp
   ·simp; omega
set_option maxHeartbeats 400000 in
theorem text_make (t0 : Value) (most : Int) (w : World) (ht : ∃ a, t0 = .pointer a) :
  Calls Tryz.prog 76 #[t0, .int .i64 most] w fun e w' => e = .returned (.func (.func 89) #[] #[.pointer (some ⟨w.heap.size, 0, none⟩), .pointer (some ⟨w.heap.size + 1, 0, none⟩)]) ∧ w' = (w.alloc (.cells #[t0] 48)).alloc (.cells #[.int .i64 most] 3) := by
 obtain ⟨a, rfl⟩ := ht
 go_enter Tryz.func76, Tryz.ntmps76
 go_wp2_with fail
 go_ret
 exact ⟨rfl, rfl⟩
set_option maxHeartbeats 400000 in
theorem Text_any (p : Nat) (l : List Nat) (er : Nat) (most : Int) (w : World) (h : RdrS w p l er) (hm1 : -9223372036854775808 ≤ most) (hm2 : most ≤ 9223372036854775807) :
  Calls Tryz.prog 59 #[.pointer (some ⟨p, 0, none⟩), .int .i64 most] w (RetRd w p mkS (txtR l er most)) := by
 obtain ⟨W, hW⟩ : ∃ W, W = (w.alloc (.cells #[.pointer (some ⟨p, 0, none⟩)] 48)).alloc (.cells #[.int .i64 most] 3) := ⟨_, rfl⟩
 have hbel : Below w.heap.size w W := by rw [hW]; exact ((Below.refl _ _).alloc (Nat.le_refl _) _).alloc (by simp) _
 have hR : RdrS W p l er := h.below hbel
 have k1 : W.cell? ⟨w.heap.size, 0, none⟩ = some (.pointer (some ⟨p, 0, none⟩)) := by rw [hW]; rw [cell_of_row _ _ _ _ _ _ (heap_alloc2_old _ _ _)]; rfl
 have k2 : W.cell? ⟨w.heap.size + 1, 0, none⟩ = some (.int .i64 most) := by rw [hW]; rw [cell_of_row _ _ _ _ _ _ (heap_alloc2_new _ _ _)]; rfl
 have hr := read_str p w.heap.size (w.heap.size + 1) l er W hR (Cd.rdText l most) (rdText_size l most) _ rfl (by obtain ⟨a, n, c, h⟩ := hR; exact text_step p _ _ a n c l er most W h k1 k2 hm1 hm2)
 have HR := Lib.hid hr; have HW := Lib.hid hW; have HB := Lib.hid hbel
 clear h hr hW hbel hR k1 k2
 go_enter Tryz.func59, Tryz.ntmps59
 go_wp2_with fail
 refine (text_make _ most _ ⟨_, rfl⟩).mono ?_
 rintro e w1 ⟨rfl, h1⟩
 rw [← HW.out] at h1
 subst h1
 go_wp2_with fail
 refine HR.out.mono ?_
 rintro e w2 ⟨rfl, h1, h2⟩
 have H1 := Lib.hid h1; have H2 := Lib.hid (grown_trans (row := some p) (grown_of_below HB.out) h2 (New.refl _ _)); clear h1 h2
 go_wp2_with fail
 go_ret
 exact ⟨rfl, H1.out, H2.out⟩
theorem Text_at {p : Nat} {l : List Nat} {er : Nat} {w : World} (h : RdrS w p l er) {most : Int} (hm1 : -9223372036854775808 ≤ most) (hm2 : most ≤ 9223372036854775807) {v : List Nat} {l2 : List Nat} {er2 : Nat} (hr : txtR l er most = (v, l2, er2)) :
  Calls Tryz.prog 59 #[.pointer (some ⟨p, 0, none⟩), .int .i64 most] w fun e w' => e = .returned (.string (strB v)) ∧ RdrS w' p l2 er2 ∧ w.grownBy w' (some p) := by
 have := Text_any p l er most w h hm1 hm2
 rw [hr] at this; exact this
theorem Err_at {p : Nat} {l : List Nat} {er : Nat} {w : World} (h : RdrS w p l er) : Calls Tryz.prog 18 #[.pointer (some ⟨p, 0, none⟩)] w fun e w' => e = .returned (.int .i64 er) ∧ w = w' := by
 obtain ⟨a, n, c, h⟩ := h; exact err_any p a n c l er w h
theorem Left_at {p : Nat} {l : List Nat} {er : Nat} {w : World} (h : RdrS w p l er) : Calls Tryz.prog 16 #[.pointer (some ⟨p, 0, none⟩)] w fun e w' => e = .returned (.int .i64 l.length) ∧ w = w' := by
 obtain ⟨a, n, c, h⟩ := h; rw [h.len]; exact left_any p a n c l er w h
set_option maxHeartbeats 400000 in
theorem NewReader_any (a : Option Addr) (n cap : Nat) (l : List Nat) (w : World) (hr : Row w a cap l) (hn : l.length = n) (hsm : n ≤ 140737488355328) :
  Calls Tryz.prog 14 #[.slice a n cap] w fun e w' => ∃ p, e = .returned (.pointer (some ⟨p, 0, none⟩)) ∧ RdrS w' p l 0 ∧ Below w.heap.size w w' ∧ w.heap.size ≤ p := by
 have Hr := Lib.hid hr; have Hn := Lib.hid hn; clear hr hn
 go_enter Tryz.func14, Tryz.ntmps14
 go_wp2_with fail
 refine (clone_any a n cap l _ Hr.out Hn.out hsm).mono ?_
 rintro e w1 hret
 obtain ⟨v1, row1, rfl, h1, h2⟩ := hret.below
 obtain ⟨a1, c1, rfl, hrow⟩ := h1.row
 have H1 := Lib.hid hrow; have H2 := Lib.hid h2
 clear h1 h2 hret hrow
 go_wp2_with fail
 go_ret
 refine ⟨w1.heap.size, rfl, ⟨a1, l.length, c1, ?_, H1.out.alloc _, rfl, fun hl q hq => H1.out.blockLt hl q hq⟩, H2.out.alloc H2.out.size _, H2.out.size⟩
 exact heap_alloc_new w1 _
end Go.Proofs.YthbkieghkfpbhaaGreat
namespace Go.Proofs.YthbkieghkfpbhaaGreat
open Go.RowKit Go.Buf
end Go.Proofs.YthbkieghkfpbhaaGreat
namespace Go.Proofs.YthbkieghkfpbhaaGreat
open Go.RowKit
def L14 : List Nat := [26, 23, 22, 16, 12, 11, 10, 8, 7, 5, 4, 2, 1, 0]
def divB (p : Nat) : Bool := L14.contains p
end Go.Proofs.YthbkieghkfpbhaaGreat
/- Plain mathematics: the long division of a row of bits by the polynomial leaves the register. No Go. -/
namespace Go.Proofs.YthbkieghkfpbhaaGreat
namespace Crc
def bitsOf (l : List Nat) (i : Nat) : Bool := (l.getD (i / 8) 0).testBit (i % 8)
def bstep (reg : Nat) (m : Bool) : Nat := st (reg ^^^ (if m then 1 else 0))
def rg (l : List Nat) : Nat → Nat
 | 0 => 4294967295
 | i + 1 => bstep (rg l i) (bitsOf l i)
def row0 (l : List Nat) (j : Nat) : Bool := bitsOf l j != decide (j < 32)
def rowAt (l : List Nat) (i j : Nat) : Bool := if i ≤ j then bitsOf l j != (decide (j < i + 32) && (rg l i).testBit (j - i)) else false
def div32 (p : Nat) : Bool := [26, 23, 22, 16, 12, 11, 10, 8, 7, 5, 4, 2, 1, 0].contains p
end Crc
end Go.Proofs.YthbkieghkfpbhaaGreat
namespace Go.Proofs.YthbkieghkfpbhaaGreat
open Go.RowKit
def boolsV (N : Nat) (F : Nat → Bool) : List Value := (List.range N).map fun i => .bool (F i)
def HasB (w : World) (g N : Nat) (F : Nat → Bool) : Prop := w.heap[g]? = some (.cells (boolsV N F).toArray 4 (0, 0))
theorem HasB.cell {w : World} {g N : Nat} {F : Nat → Bool} (h : HasB w g N F) (i : Nat) (hi : i < N) : w.cell? ⟨g, i, none⟩ = some (.bool (F i)) := by
 rw [cell_of_row w g i _ _ _ h]; simp [boolsV, hi]
theorem HasB.frozen {w : World} {g N : Nat} {F : Nat → Bool} (h : HasB w g N F) (i : Nat) : w.frozen? ⟨g, i, none⟩ = false := frozen_of_row w g i _ _ h
theorem HasB.congr {w : World} {g N : Nat} {F G : Nat → Bool} (h : HasB w g N F) (he : ∀ i, i < N → F i = G i) : HasB w g N G := by
 unfold HasB at *
 rw [h]
 congr 2
 apply Array.ext'
 simp only [boolsV]
 exact List.map_congr_left fun i hi => by rw [he i (by simpa using hi)]
theorem HasB.set {w : World} {g N : Nat} {F G : Nat → Bool} (h : HasB w g N F) (i : Nat) (x : Bool) (hx : x = G i) (hG : ∀ j, j < N → j ≠ i → G j = F j) :
  HasB (w.setCell ⟨g, i, none⟩ (.bool x)) g N G := by
 unfold HasB
 rw [heap_setCell_same w g i _ _ _ h]
 congr 2
 apply Array.ext'
 simp only [Array.toList_setIfInBounds]
 apply List.ext_getElem (by simp [boolsV])
 intro j h1 h2
 have hj : j < N := by simpa [boolsV] using h2
 by_cases e : i = j
 ·subst e; simp [boolsV, hx]
 ·rw [List.getElem_set_ne e]; simp [boolsV, hG j hj (fun c => e c.symm)]
theorem HasB.below {w w' : World} {g N B : Nat} {F : Nat → Bool} (h : HasB w g N F) (hb : Below B w w') (hg : g < B) : HasB w' g N F := by
 unfold HasB at *; rw [hb.block g hg]; exact h
theorem HasB.lt {w : World} {g N : Nat} {F : Nat → Bool} (h : HasB w g N F) : g < w.heap.size := (Array.getElem?_eq_some_iff.1 h).1
def RetB (B : Nat) (w : World) (N : Nat) (F : Nat → Bool) (e : Ending) (w' : World) : Prop := ∃ g, e = .returned (.slice (some ⟨g, 0, none⟩) N N) ∧ B ≤ g ∧ HasB w' g N F ∧ Below B w w'
end Go.Proofs.YthbkieghkfpbhaaGreat
namespace Go.Proofs.YthbkieghkfpbhaaGreat
open Go.RowKit
end Go.Proofs.YthbkieghkfpbhaaGreat
namespace Go.Proofs.YthbkieghkfpbhaaGreat
open Go.RowKit Go.Buf
theorem BB.step {B : Nat} {w w1 w2 : World} {v : Value} {l : List Nat} {r : Option Nat} (hb : Below B w w1) (h : BB B w1 v l r) (hg : w1.grownBy w2 r) (hB : B ≤ w.heap.size) : Below B w w2 :=
 hb.trans (below_of_grown hg (Nat.le_trans hB hb.size) (fun k hk => (h.2.row_le k hk).1))
end Go.Proofs.YthbkieghkfpbhaaGreat
namespace Go.Proofs.YthbkieghkfpbhaaGreat
open Go.RowKit Go.Buf
theorem num_lenO (n : Nat) : (Cd.num n).length ≤ 10 := (Cd.num_len n).2
theorem below_box3 (W : World) (c : Array Value) (t : TypeId) : Below W.heap.size W (W.alloc (.cells c t)) := (Below.refl _ _).alloc (Nat.le_refl _) _
structure BTo (B : Nat) (W0 : World) (row0 : Option Nat) (g : Nat) (w : World) (v : Value) (l : List Nat) (row : Option Nat) : Prop where
  bb : BB B w v l row
  grown : W0.grownBy w row0
  new : New W0 row0 row
  ne : ∀ k, row = some k → k ≠ g
  lt : g < w.heap.size
theorem num_bto {B : Nat} {W0 : World} {row0 : Option Nat} {g : Nat} {w : World} {v : Value} {l : List Nat} {row : Option Nat} {x y z : Value} (h : BTo B W0 row0 g w v l row) (n : Nat) (hn : n < 18446744073709551616) (hsm : l.length + 10 ≤ 140737488355328)
  (h0 : w.cell? ⟨g, 0, none⟩ = some x ∧ w.cell? ⟨g, 1, none⟩ = some y ∧ w.cell? ⟨g, 2, none⟩ = some z) :
  Calls Tryz.prog 31 #[v, .int .u64 n] w fun e w' => ∃ v' row', e = .returned v' ∧ BTo B W0 row0 g w' v' (l ++ Cd.num n) row' ∧ (w'.cell? ⟨g, 0, none⟩ = some x ∧ w'.cell? ⟨g, 1, none⟩ = some y ∧ w'.cell? ⟨g, 2, none⟩ = some z) := by
 refine (num_any B v l row n w h.bb hn hsm).mono ?_
 rintro e w' ⟨v', row', rfl, hb, hg, hnw⟩
 have hne : some g ≠ row := fun e => h.ne g e.symm rfl
 refine ⟨v', row', rfl, ⟨hb, grown_trans h.grown hg h.new, h.new.trans hnw h.grown.size, ?_, Nat.lt_of_lt_of_le h.lt hg.size⟩, hg.cell h0.1 (by simpa using hne), hg.cell h0.2.1 (by simpa using hne), hg.cell h0.2.2 (by simpa using hne)⟩
 rcases hnw with rfl | ⟨k, rfl, hk⟩
 ·exact h.ne
 ·intro j hj; cases hj; have := h.lt; omega
set_option maxRecDepth 100000 in
set_option maxHeartbeats 1600000 in
theorem putDot_any (B : Nat) (v : Value) (l : List Nat) (row : Option Nat) (d : Dt.Dot) (W : World) (hd : Dt.okD d) (hb : BB B W v l row) (hsm : l.length + 40 ≤ 140737488355328) :
  Calls Tryz.prog 51 #[v, dotV d] W (RetBB B W row (l ++ dotE d)) := by
 obtain ⟨⟨r, i⟩, s⟩ := d
 obtain ⟨hr, hi, hs⟩ := hd
 simp only at hr hi hs
 have l1 := num_lenO r
 have l2 := num_lenO i
 have ht0 : BTo B W row W.heap.size (W.alloc (.cells #[.int .u8 (r : Int), .int .u32 (i : Int), .int .u64 (s : Int)] 27)).drew v l row :=
  ⟨(hb.alloc _).below (Below.refl _ _).drew, ⟨rfl, rfl, rfl, by simp, fun k hk _ => Below.heap_alloc W _ k hk⟩, New.refl _ _, fun k hk => by have := (hb.2.row_le k hk).2; omega, by simp⟩
 have Hsm := Lib.hid hsm; have Hs := Lib.hid hs; have T0 := Lib.hid ht0; have L1 := Lib.hid l1; have L2 := Lib.hid l2
 clear hb hsm hs ht0 l1 l2
 go_enter Tryz.func51, Tryz.ntmps51
 go_wp2
 have hw1 : IntKind.u64.wrap (r : Int) = (r : Int) := by simp [IntKind.wrap, IntKind.bits, IntKind.signed]; omega
 have hw2 : IntKind.u64.wrap (i : Int) = (i : Int) := by simp [IntKind.wrap, IntKind.bits, IntKind.signed]; omega
 go_region_held3 (fun w' : World => w'.cell? ⟨W.heap.size, 0, none⟩ = some (.int .u8 (r : Int)) ∧ w'.cell? ⟨W.heap.size, 1, none⟩ = some (.int .u32 (i : Int)) ∧ w'.cell? ⟨W.heap.size, 2, none⟩ = some (.int .u64 (s : Int)))
  (first
   | assumption
   | go_keep)
  (first
   | (go_at_call 31; (with_reducible refine (num_bto T2.out s Hs.out (by have := Hsm.out; have := L1.out; have := L2.out; simp; omega) (by assumption)).mono ?_); rintro e w3 ⟨v3, row3, rfl, hb3, hS⟩; have T3 := Lib.hid hb3; clear hb3)
   | (go_at_call 31; (with_reducible refine (num_bto T1.out i (by omega) (by have := Hsm.out; have := L1.out; simp; omega) (by assumption)).mono ?_); rintro e w2 ⟨v2, row2, rfl, hb2, hS⟩; have T2 := Lib.hid hb2; clear hb2)
   | (go_at_call 31; (with_reducible refine (num_bto T0.out r (by omega) (by have := Hsm.out; omega) (by assumption)).mono ?_); rintro e w1 ⟨v1, row1, rfl, hb1, hS⟩; have T1 := Lib.hid hb1; clear hb1))
 clear hw1 hw2
 go_wp2
 go_ret
 exact ⟨v3, row3, rfl, by have := T3.out.bb; unfold dotE; rw [← List.append_assoc, ← List.append_assoc]; exact this, T3.out.grown, T3.out.new⟩
end Go.Proofs.YthbkieghkfpbhaaGreat
namespace Go.Proofs.YthbkieghkfpbhaaGreat
open Go.RowKit Go.Buf
def SRow (w : World) (a : Option Addr) (cap : Nat) (l : List ByteArray) : Prop :=
 l.length ≤ cap ∧ cap ≤ 9223372036854775807 ∧ (∀ s ∈ l, s.size ≤ 9223372036854775807) ∧ (a = none → cap = 0) ∧
 ∀ i s, l[i]? = some s → ∃ p, a = some p ∧ w.cell? (p.add i) = some (.string s)
theorem SRow.le {w : World} {a : Option Addr} {cap : Nat} {l : List ByteArray} (h : SRow w a cap l) : l.length ≤ cap := h.1
theorem SRow.cap {w : World} {a : Option Addr} {cap : Nat} {l : List ByteArray} (h : SRow w a cap l) : cap ≤ 9223372036854775807 := h.2.1
theorem SRow.ok {w : World} {a : Option Addr} {cap : Nat} {l : List ByteArray} (h : SRow w a cap l) : ∀ s ∈ l, s.size ≤ 9223372036854775807 := h.2.2.1
theorem SRow.below {w w' : World} {a : Option Addr} {cap : Nat} {l : List ByteArray} (h : SRow w a cap l) (hb : Below w.heap.size w w') : SRow w' a cap l := by
 refine ⟨h.1, h.2.1, h.2.2.1, h.2.2.2.1, fun i d hd => ?_⟩
 obtain ⟨p, hp, h1⟩ := h.2.2.2.2 i d hd
 exact ⟨p, hp, (hb.cell (World.block_lt_of_cell? _ _ h1)).trans h1⟩
theorem SRow.nil (w : World) : SRow w none 0 [] := ⟨by simp, by omega, by simp, by simp, by simp⟩
theorem SRow.at {w : World} {a : Option Addr} {cap : Nat} {l : List ByteArray} (h : SRow w a cap l) (hl : 0 < l.length) :
  ∃ b off, a = some ⟨b, off, none⟩ ∧ b < w.heap.size ∧ ∀ i s, l[i]? = some s → w.cell? ⟨b, off + i, none⟩ = some (.string s) := by
 obtain ⟨p, hp, hc⟩ := h.2.2.2.2 0 l[0] (by simp [hl])
 have hs := World.cell?_spot hc
 obtain ⟨b, off, spot⟩ := p
 have hspot : spot = none := by simpa [Addr.add] using hs
 subst hspot
 refine ⟨b, off, hp, by simpa [Addr.add] using World.block_lt_of_cell? w _ hc, fun i d hd => ?_⟩
 obtain ⟨q, hq, h1⟩ := h.2.2.2.2 i d hd
 rw [hp] at hq
 obtain rfl := Option.some.inj hq
 rw [Addr.add_mid] at h1
 exact h1
theorem gets_some {l : List ByteArray} {i : Nat} (hi : i < l.length) : ∃ s, l[i]? = some s := ⟨l[i], List.getElem?_eq_getElem hi⟩
set_option maxHeartbeats 800000 in
theorem nameByte_any (c : Nat) (w : World) : Calls Tryz.prog 91 #[.int .u8 (c : Int)] w fun e w' => e = .returned (.bool (Om.nb c)) ∧ w = w' := by
 by_cases h1 : 97 ≤ c <;> by_cases h2 : c ≤ 122 <;> by_cases h3 : 65 ≤ c <;> by_cases h4 : c ≤ 90 <;> by_cases h5 : 48 ≤ c <;> by_cases h6 : c ≤ 57 <;> first | (exfalso; omega) | skip
 all_goals
  go_enter Tryz.func91, Tryz.ntmps91
  go_wp2
  go_ret
  exact ⟨ret_bool (by simp [Om.nb, *] <;> omega), rfl⟩
theorem nameAt_get (s : ByteArray) (k : Nat) (h : k < s.size) : Om.nb s[k].toNat = Om.nameAt s k := by
 unfold Om.nameAt
 rw [Array.getD, dif_pos (show k < s.data.size from h)]; rfl
set_option maxRecDepth 100000 in
set_option maxHeartbeats 800000 in
theorem isName_any (s : ByteArray) (hs : s.size ≤ 9223372036854775807) (w : World) : Calls Tryz.prog 79 #[.string s] w fun e w' => e = .returned (.bool (Om.isName s)) ∧ w = w' := by
 by_cases h1 : 1 ≤ s.size
 ·by_cases h2 : s.size ≤ 12
  ·go_enter Tryz.func79, Tryz.ntmps79
   go_wp2_with fail
   go_loopw [14] (fun i wr => ∃ k : Nat, k ≤ s.size ∧ i = .int .i64 k ∧ Om.upTo (Om.nameAt s) k = true ∧ w = wr) (fun i _ => s.size - (intOf i).toNat)
   case atStart => exact ⟨0, Nat.zero_le _, rfl, Om.upTo_zero _, rfl⟩
   case round =>
    obtain ⟨k, hk, rfl, hu, rfl⟩ := hrel
    have HU := Lib.hid hu; clear hu
    by_cases hlt : k < s.size
    ·have HA := Lib.hid (nameAt_get s k hlt)
     go_wp2_with fail
     refine (nameByte_any _ _).mono ?_
     rintro e w1 ⟨rfl, rfl⟩
     rw [HA.out]
     cases hx : Om.nameAt s k
     ·have HX := Lib.hid hx; clear hx
      go_wp2_with fail
      go_ret
      exact ⟨ret_bool (by simp [Om.isName, Om.upTo_not hlt HX.out]), rfl⟩
     ·have HX := Lib.hid hx; clear hx
      go_wp2_with fail
      go_roundw
      case rel => exact ⟨k + 1, by omega, by go_num, Om.upTo_succ HU.out HX.out, trivial⟩
      case measure => simp [intOf]; omega
    ·obtain rfl : k = s.size := by omega
     go_wp2_with fail
     go_ret
     exact ⟨ret_bool (by simp [Om.isName, HU.out, h1, h2]), rfl⟩
  ·go_enter Tryz.func79, Tryz.ntmps79
   go_wp2_with fail
   go_ret
   exact ⟨ret_bool (by simp [Om.isName, h2]), rfl⟩
 ·go_enter Tryz.func79, Tryz.ntmps79
  go_wp2_with fail
  go_ret
  exact ⟨ret_bool (by simp [Om.isName, h1]), rfl⟩
theorem pathAt_get {l : List ByteArray} {k : Nat} {s : ByteArray} (h : l[k]? = some s) : Om.isName s = Om.pathAt l k := by simp [Om.pathAt, List.getD, h]
set_option maxHeartbeats 800000 in
theorem mayPathF_any (s : ByteArray) (hs : s.size ≤ 9223372036854775807) (w : World) : Calls Tryz.prog 78 #[.string s] w fun e w' => e = .returned (.bool (!Om.isName s)) ∧ w = w' := by
 go_enter Tryz.func78, Tryz.ntmps78
 go_wp2_with fail
 refine (isName_any s hs _).mono ?_
 rintro e w1 ⟨rfl, rfl⟩
 go_wp2_with fail
 go_ret
 exact ⟨rfl, rfl⟩
def noName (l : List ByteArray) : Int := if Om.upTo (Om.pathAt l) l.length then -1 else l.findIdx (fun s => !Om.isName s)
set_option maxRecDepth 100000 in
set_option maxHeartbeats 800000 in
theorem indexFunc_any (a : Option Addr) (n cap : Nat) (l : List ByteArray) (w : World) (hr : SRow w a cap l) (hl : l.length = n) :
  Calls Tryz.prog 90 #[.slice a n cap, .func (.func 78) #[] #[]] w fun e w' => ∃ z : Int, e = .returned (.int .i64 z) ∧ (decide (0 ≤ z) = !Om.upTo (Om.pathAt l) l.length) ∧ -1 ≤ z ∧ z ≤ n ∧ w = w' := by
 have hle := hr.le
 have hcap := hr.cap
 rw [hl] at hle
 have HR := Lib.hid hr; have HL := Lib.hid hl
 clear hr hl
 go_enter Tryz.func90, Tryz.ntmps90
 go_wp2_with fail
 go_loopw [5, 8] (fun _ i wr => ∃ k : Nat, k ≤ n ∧ i = .int .i64 k ∧ Om.upTo (Om.pathAt l) k = true ∧ w = wr) (fun _ i _ => n - (intOf i).toNat)
 case atStart => exact ⟨0, Nat.zero_le _, rfl, Om.upTo_zero _, rfl⟩
 case round =>
  obtain ⟨k, hk, rfl, hu, rfl⟩ := hrel
  have HU := Lib.hid hu; clear hu
  by_cases hlt : k < n
  ·obtain ⟨s, hs⟩ := gets_some (l := l) (i := k) (by rw [HL.out]; exact hlt)
   obtain ⟨b, off, rfl, hb, hc⟩ := HR.out.at (by rw [HL.out]; omega)
   have q := hc k s hs
   have HS := Lib.hid (HR.out.ok s (List.mem_of_getElem? hs))
   have HA := Lib.hid (pathAt_get hs)
   clear hc hs
   have i0 : (0 : Int) ≤ (k : Int) := by omega
   have i1 : (k : Int) < (n : Int) := by omega
   go_wp2_with fail
   refine (mayPathF_any s HS.out _).mono ?_
   rintro e w1 ⟨rfl, rfl⟩
   rw [HA.out]
   cases hx : Om.pathAt l k
   ·have HX := Lib.hid hx; clear hx
    go_wp2_with fail
    go_ret
    exact ⟨k, rfl, by rw [HL.out, Om.upTo_not hlt HX.out]; simp, by omega, by omega, rfl⟩
   ·have HX := Lib.hid hx; clear hx
    go_wp2_with fail
    go_roundw
    case rel => exact ⟨k + 1, by omega, by go_num, Om.upTo_succ HU.out HX.out, trivial⟩
    case measure => simp [intOf]; omega
  ·obtain rfl : k = n := by omega
   go_wp2_with fail
   go_ret
   exact ⟨-1, rfl, by rw [HL.out, HU.out]; rfl, by omega, by omega, rfl⟩
set_option maxHeartbeats 800000 in
theorem containsFunc_any (a : Option Addr) (n cap : Nat) (l : List ByteArray) (w : World) (hr : SRow w a cap l) (hl : l.length = n) :
  Calls Tryz.prog 77 #[.slice a n cap, .func (.func 78) #[] #[]] w fun e w' => e = .returned (.bool (!Om.upTo (Om.pathAt l) l.length)) ∧ w = w' := by
 have HR := Lib.hid hr; have HL := Lib.hid hl
 clear hr hl
 go_enter Tryz.func77, Tryz.ntmps77
 go_wp2_with fail
 refine (indexFunc_any a n cap l _ HR.out HL.out).mono ?_
 rintro e w1 ⟨z, rfl, hz, h1, h2, rfl⟩
 have HZ := Lib.hid hz; clear hz
 by_cases h0 : 0 ≤ z
 ·go_wp2_with fail
  go_ret
  exact ⟨ret_bool (by first | (rw [← HZ.out]; done) | (rw [← HZ.out]; simp [h0])), rfl⟩
 ·go_wp2_with fail
  go_ret
  exact ⟨ret_bool (by first | (rw [← HZ.out]; done) | (rw [← HZ.out]; simp [h0])), rfl⟩
set_option maxHeartbeats 800000 in
theorem mayPath_any (a : Option Addr) (n cap : Nat) (l : List ByteArray) (w : World) (hr : SRow w a cap l) (hl : l.length = n) :
  Calls Tryz.prog 63 #[.slice a n cap] w fun e w' => e = .returned (.bool (Om.mayPath l)) ∧ w = w' := by
 have HR := Lib.hid hr; have HL := Lib.hid hl
 clear hr hl
 by_cases h1 : 1 ≤ n
 ·by_cases h2 : n ≤ 3
  ·go_enter Tryz.func63, Tryz.ntmps63
   go_wp2_with fail
   refine (containsFunc_any a n cap l _ HR.out HL.out).mono ?_
   rintro e w1 ⟨rfl, rfl⟩
   go_wp2_with fail
   go_ret
   exact ⟨ret_bool (by simp [Om.mayPath, HL.out, h1, h2]), rfl⟩
  ·go_enter Tryz.func63, Tryz.ntmps63
   go_wp2_with fail
   go_ret
   exact ⟨ret_bool (by simp [Om.mayPath, HL.out, h2]), rfl⟩
 ·go_enter Tryz.func63, Tryz.ntmps63
  go_wp2_with fail
  go_ret
  exact ⟨ret_bool (by simp [Om.mayPath, HL.out, h1]), rfl⟩
end Go.Proofs.YthbkieghkfpbhaaGreat
