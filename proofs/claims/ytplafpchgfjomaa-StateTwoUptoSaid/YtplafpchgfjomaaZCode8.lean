import Derived.Test.YtplafpchgfjomaaZCode6
import Derived.Test.YtplafpchgfjomaaZCode3
import Derived.Test.YtplafpchgfjomaaZOpMath
import Derived.Test.YtplafpchgfjomaaZDot4
import Derived.Laws.EntriesVeiled
import Derived.Test.YtplafpchgfjomaaZBuf
namespace Go.Proofs.Ytplafpchgfjomaa
open Go.RowKit Go.Buf
theorem Row.blockLt {w : World} {a : Option Addr} {cap : Nat} {l : List Nat} (h : Row w a cap l) (hl : 0 < l.length) : ∀ q, a = some q → q.block < w.heap.size := by
 intro q hq
 obtain ⟨r, hr, hc⟩ := h.2.2.2.2 0 l[0] (List.getElem?_eq_getElem hl)
 rw [hq] at hr
 obtain rfl := Option.some.inj hr
 have := World.block_lt_of_cell? _ _ hc
 have h3 : (q.add 0).block = q.block := by unfold Addr.add; split <;> rfl
 omega
theorem RdrS.below {w w' : World} {p : Nat} {l : List Nat} {er : Nat} (h : RdrS w p l er) (hb : Below w.heap.size w w') : RdrS w' p l er := by
 obtain ⟨a, n, c, h⟩ := h; exact ⟨a, n, c, h.kept hb⟩
theorem RdrS.grown {w w' : World} {p : Nat} {l : List Nat} {er : Nat} {row : Option Nat} (h : RdrS w p l er) (hg : w.grownBy w' row) (hr : ∀ k, row = some k → p < k) : RdrS w' p l er := by
 obtain ⟨a, n, c, h⟩ := h
 refine ⟨a, n, c, (hg.block p h.lt (fun e => by have := hr p e.symm; omega)).trans h.blk, ⟨h.row.1, h.row.2.1, h.row.2.2.1, h.row.2.2.2.1, fun i x hx => ?_⟩, h.len, h.low⟩
 obtain ⟨q, hq, hc⟩ := h.row.2.2.2.2 i x hx
 have hl : 0 < l.length := by have := (List.getElem?_eq_some_iff.1 hx).1; omega
 refine ⟨q, hq, hg.cell hc (fun e => ?_)⟩
 have h1 := hr _ e.symm
 have h2 := h.low hl q hq
 have h3 : (q.add i).block = q.block := by unfold Addr.add; split <;> rfl
 omega
theorem RdrS.lt {w : World} {p : Nat} {l : List Nat} {er : Nat} (h : RdrS w p l er) : p < w.heap.size := by obtain ⟨a, n, c, h⟩ := h; exact h.lt
theorem RdrS.byte {w : World} {p : Nat} {l : List Nat} {er : Nat} (h : RdrS w p l er) : ∀ x ∈ l, x < 256 := by obtain ⟨a, n, c, h⟩ := h; exact h.row.byte
def numR (l : List Nat) (er : Nat) : Nat × List Nat × Nat := step 0 l er (Cd.rd l)
def intR (l : List Nat) (er : Nat) : Int × List Nat × Nat := step 0 l er (Cd.sgn (Cd.rd l).1, (Cd.rd l).2)
def txtR (l : List Nat) (er : Nat) (most : Int) : List Nat × List Nat × Nat := step [] l er (Cd.rdText l most)
def mkU (x : Nat) : Value := .int .u64 (x : Nat)
def mkI (x : Int) : Value := .int .i64 x
def mkS (x : List Nat) : Value := .string (strB x)
set_option maxHeartbeats 400000 in
theorem Num_any (p : Nat) (l : List Nat) (er : Nat) (w : World) (h : RdrS w p l er) :
  Calls Try.prog 35 #[.pointer (some ⟨p, 0, none⟩)] w (RetRd w p mkU (numR l er)) := by
 have hr := read_u64 p l er w h (Cd.rd l) (Cd.rd_size l) _ rfl (by obtain ⟨a, n, c, h⟩ := h; exact rnum_any p a n c l er w h)
 have HR := Lib.hid hr
 clear h hr
 go_enter Try.func35, Try.ntmps35
 go_wp2_with fail
 refine HR.out.mono ?_
 rintro e w1 ⟨rfl, h1, h2⟩
 have H1 := Lib.hid h1; have H2 := Lib.hid h2; clear h1 h2
 go_wp2_with fail
 go_ret
 exact ⟨rfl, H1.out, H2.out⟩
set_option maxHeartbeats 400000 in
theorem Int_any (p : Nat) (l : List Nat) (er : Nat) (w : World) (h : RdrS w p l er) :
  Calls Try.prog 39 #[.pointer (some ⟨p, 0, none⟩)] w (RetRd w p mkI (intR l er)) := by
 have hr := read_i64 p l er w h (Cd.sgn (Cd.rd l).1, (Cd.rd l).2) (Cd.rd_size l) _ rfl (by obtain ⟨a, n, c, h⟩ := h; exact rwhole_any p a n c l er w h)
 have HR := Lib.hid hr
 clear h hr
 go_enter Try.func39, Try.ntmps39
 go_wp2_with fail
 refine HR.out.mono ?_
 rintro e w1 ⟨rfl, h1, h2⟩
 have H1 := Lib.hid h1; have H2 := Lib.hid h2; clear h1 h2
 go_wp2_with fail
 go_ret
 exact ⟨rfl, H1.out, H2.out⟩
theorem Num_at {p : Nat} {l : List Nat} {er : Nat} {w : World} (h : RdrS w p l er) {v : Nat} {l2 : List Nat} {er2 : Nat} (hr : numR l er = (v, l2, er2)) :
  Calls Try.prog 35 #[.pointer (some ⟨p, 0, none⟩)] w fun e w' => e = .returned (.int .u64 v) ∧ RdrS w' p l2 er2 ∧ w.grownBy w' (some p) := by
 have := Num_any p l er w h
 rw [hr] at this; exact this
theorem Int_at {p : Nat} {l : List Nat} {er : Nat} {w : World} (h : RdrS w p l er) {v : Int} {l2 : List Nat} {er2 : Nat} (hr : intR l er = (v, l2, er2)) :
  Calls Try.prog 39 #[.pointer (some ⟨p, 0, none⟩)] w fun e w' => e = .returned (.int .i64 v) ∧ RdrS w' p l2 er2 ∧ w.grownBy w' (some p) := by
 have := Int_any p l er w h
 rw [hr] at this; exact this
theorem rdText_size (l : List Nat) (most : Int) : (Cd.rdText l most).2.1 ≤ l.length := by
 have h := Cd.rd_size l
 unfold Cd.rdText
 split
 ·simp
 ·split
  ·simp
  ·split
   ·simp
   ·simp; omega
set_option maxHeartbeats 400000 in
theorem text_make (t0 : Value) (most : Int) (w : World) (ht : ∃ a, t0 = .pointer a) :
  Calls Try.prog 37 #[t0, .int .i64 most] w fun e w' => e = .returned (.func (.func 48) #[] #[.pointer (some ⟨w.heap.size, 0, none⟩), .pointer (some ⟨w.heap.size + 1, 0, none⟩)]) ∧ w' = (w.alloc (.cells #[t0] 50)).alloc (.cells #[.int .i64 most] 3) := by
 obtain ⟨a, rfl⟩ := ht
 go_enter Try.func37, Try.ntmps37
 go_wp2_with fail
 go_ret
 exact ⟨rfl, rfl⟩
set_option maxHeartbeats 400000 in
theorem Text_any (p : Nat) (l : List Nat) (er : Nat) (most : Int) (w : World) (h : RdrS w p l er) (hm1 : -9223372036854775808 ≤ most) (hm2 : most ≤ 9223372036854775807) :
  Calls Try.prog 29 #[.pointer (some ⟨p, 0, none⟩), .int .i64 most] w (RetRd w p mkS (txtR l er most)) := by
 obtain ⟨W, hW⟩ : ∃ W, W = (w.alloc (.cells #[.pointer (some ⟨p, 0, none⟩)] 50)).alloc (.cells #[.int .i64 most] 3) := ⟨_, rfl⟩
 have hbel : Below w.heap.size w W := by rw [hW]; exact ((Below.refl _ _).alloc (Nat.le_refl _) _).alloc (by simp) _
 have hR : RdrS W p l er := h.below hbel
 have k1 : W.cell? ⟨w.heap.size, 0, none⟩ = some (.pointer (some ⟨p, 0, none⟩)) := by rw [hW]; rw [cell_of_row _ _ _ _ _ _ (heap_alloc2_old _ _ _)]; rfl
 have k2 : W.cell? ⟨w.heap.size + 1, 0, none⟩ = some (.int .i64 most) := by rw [hW]; rw [cell_of_row _ _ _ _ _ _ (heap_alloc2_new _ _ _)]; rfl
 have hr := read_str p w.heap.size (w.heap.size + 1) l er W hR (Cd.rdText l most) (rdText_size l most) _ rfl (by obtain ⟨a, n, c, h⟩ := hR; exact text_step p _ _ a n c l er most W h k1 k2 hm1 hm2)
 have HR := Lib.hid hr; have HW := Lib.hid hW; have HB := Lib.hid hbel
 clear h hr hW hbel hR k1 k2
 go_enter Try.func29, Try.ntmps29
 go_wp2_with fail
 refine (text_make _ most _ ⟨_, rfl⟩).mono ?_
 rintro e w1 ⟨rfl, h1⟩
 rw [← HW.out] at h1
 subst h1
 go_wp2_with fail
 refine HR.out.mono ?_
 rintro e w2 ⟨rfl, h1, h2⟩
 have H1 := Lib.hid h1; have H2 := Lib.hid (grown_trans (row := some p) (grown_of_below HB.out) h2 (New.refl _ _)); clear h1 h2
 go_wp2_with fail
 go_ret
 exact ⟨rfl, H1.out, H2.out⟩
theorem Text_at {p : Nat} {l : List Nat} {er : Nat} {w : World} (h : RdrS w p l er) {most : Int} (hm1 : -9223372036854775808 ≤ most) (hm2 : most ≤ 9223372036854775807) {v : List Nat} {l2 : List Nat} {er2 : Nat} (hr : txtR l er most = (v, l2, er2)) :
  Calls Try.prog 29 #[.pointer (some ⟨p, 0, none⟩), .int .i64 most] w fun e w' => e = .returned (.string (strB v)) ∧ RdrS w' p l2 er2 ∧ w.grownBy w' (some p) := by
 have := Text_any p l er most w h hm1 hm2
 rw [hr] at this; exact this
theorem Err_at {p : Nat} {l : List Nat} {er : Nat} {w : World} (h : RdrS w p l er) : Calls Try.prog 17 #[.pointer (some ⟨p, 0, none⟩)] w fun e w' => e = .returned (.int .i64 er) ∧ w = w' := by
 obtain ⟨a, n, c, h⟩ := h; exact err_any p a n c l er w h
theorem Left_at {p : Nat} {l : List Nat} {er : Nat} {w : World} (h : RdrS w p l er) : Calls Try.prog 15 #[.pointer (some ⟨p, 0, none⟩)] w fun e w' => e = .returned (.int .i64 l.length) ∧ w = w' := by
 obtain ⟨a, n, c, h⟩ := h; rw [h.len]; exact left_any p a n c l er w h
set_option maxHeartbeats 400000 in
theorem NewReader_any (a : Option Addr) (n cap : Nat) (l : List Nat) (w : World) (hr : Row w a cap l) (hn : l.length = n) (hsm : n ≤ 140737488355328) :
  Calls Try.prog 13 #[.slice a n cap] w fun e w' => ∃ p, e = .returned (.pointer (some ⟨p, 0, none⟩)) ∧ RdrS w' p l 0 ∧ Below w.heap.size w w' ∧ w.heap.size ≤ p := by
 have Hr := Lib.hid hr; have Hn := Lib.hid hn; clear hr hn
 go_enter Try.func13, Try.ntmps13
 go_wp2_with fail
 refine (clone_any a n cap l _ Hr.out Hn.out hsm).mono ?_
 rintro e w1 hret
 obtain ⟨v1, row1, rfl, h1, h2⟩ := hret.below
 obtain ⟨a1, c1, rfl, hrow⟩ := h1.row
 have H1 := Lib.hid hrow; have H2 := Lib.hid h2
 clear h1 h2 hret hrow
 go_wp2_with fail
 go_ret
 refine ⟨w1.heap.size, rfl, ⟨a1, l.length, c1, ?_, H1.out.alloc _, rfl, fun hl q hq => H1.out.blockLt hl q hq⟩, H2.out.alloc H2.out.size _, H2.out.size⟩
 exact heap_alloc_new w1 _
end Go.Proofs.Ytplafpchgfjomaa
namespace Go.Proofs.Ytplafpchgfjomaa
open Go.RowKit Go.Buf
end Go.Proofs.Ytplafpchgfjomaa
namespace Go.Proofs.Ytplafpchgfjomaa
open Go.RowKit
def L14 : List Nat := [26, 23, 22, 16, 12, 11, 10, 8, 7, 5, 4, 2, 1, 0]
def divB (p : Nat) : Bool := L14.contains p
end Go.Proofs.Ytplafpchgfjomaa
/- Plain mathematics: the long division of a row of bits by the polynomial leaves the register. No Go. -/
namespace Go.Proofs.Ytplafpchgfjomaa
namespace Crc
def bitsOf (l : List Nat) (i : Nat) : Bool := (l.getD (i / 8) 0).testBit (i % 8)
def bstep (reg : Nat) (m : Bool) : Nat := st (reg ^^^ (if m then 1 else 0))
def rg (l : List Nat) : Nat → Nat
 | 0 => 4294967295
 | i + 1 => bstep (rg l i) (bitsOf l i)
def row0 (l : List Nat) (j : Nat) : Bool := bitsOf l j != decide (j < 32)
def rowAt (l : List Nat) (i j : Nat) : Bool := if i ≤ j then bitsOf l j != (decide (j < i + 32) && (rg l i).testBit (j - i)) else false
def div32 (p : Nat) : Bool := [26, 23, 22, 16, 12, 11, 10, 8, 7, 5, 4, 2, 1, 0].contains p
end Crc
end Go.Proofs.Ytplafpchgfjomaa
namespace Go.Proofs.Ytplafpchgfjomaa
open Go.RowKit
def boolsV (N : Nat) (F : Nat → Bool) : List Value := (List.range N).map fun i => .bool (F i)
def HasB (w : World) (g N : Nat) (F : Nat → Bool) : Prop := w.heap[g]? = some (.cells (boolsV N F).toArray 4 (0, 0))
theorem HasB.cell {w : World} {g N : Nat} {F : Nat → Bool} (h : HasB w g N F) (i : Nat) (hi : i < N) : w.cell? ⟨g, i, none⟩ = some (.bool (F i)) := by
 rw [cell_of_row w g i _ _ _ h]; simp [boolsV, hi]
theorem HasB.frozen {w : World} {g N : Nat} {F : Nat → Bool} (h : HasB w g N F) (i : Nat) : w.frozen? ⟨g, i, none⟩ = false := frozen_of_row w g i _ _ h
theorem HasB.congr {w : World} {g N : Nat} {F G : Nat → Bool} (h : HasB w g N F) (he : ∀ i, i < N → F i = G i) : HasB w g N G := by
 unfold HasB at *
 rw [h]
 congr 2
 apply Array.ext'
 simp only [boolsV]
 exact List.map_congr_left fun i hi => by rw [he i (by simpa using hi)]
theorem HasB.set {w : World} {g N : Nat} {F G : Nat → Bool} (h : HasB w g N F) (i : Nat) (x : Bool) (hx : x = G i) (hG : ∀ j, j < N → j ≠ i → G j = F j) :
  HasB (w.setCell ⟨g, i, none⟩ (.bool x)) g N G := by
 unfold HasB
 rw [heap_setCell_same w g i _ _ _ h]
 congr 2
 apply Array.ext'
 simp only [Array.toList_setIfInBounds]
 apply List.ext_getElem (by simp [boolsV])
 intro j h1 h2
 have hj : j < N := by simpa [boolsV] using h2
 by_cases e : i = j
 ·subst e; simp [boolsV, hx]
 ·rw [List.getElem_set_ne e]; simp [boolsV, hG j hj (fun c => e c.symm)]
theorem HasB.below {w w' : World} {g N B : Nat} {F : Nat → Bool} (h : HasB w g N F) (hb : Below B w w') (hg : g < B) : HasB w' g N F := by
 unfold HasB at *; rw [hb.block g hg]; exact h
theorem HasB.lt {w : World} {g N : Nat} {F : Nat → Bool} (h : HasB w g N F) : g < w.heap.size := (Array.getElem?_eq_some_iff.1 h).1
def RetB (B : Nat) (w : World) (N : Nat) (F : Nat → Bool) (e : Ending) (w' : World) : Prop := ∃ g, e = .returned (.slice (some ⟨g, 0, none⟩) N N) ∧ B ≤ g ∧ HasB w' g N F ∧ Below B w w'
end Go.Proofs.Ytplafpchgfjomaa
namespace Go.Proofs.Ytplafpchgfjomaa
open Go.RowKit
end Go.Proofs.Ytplafpchgfjomaa
namespace Go.Proofs.Ytplafpchgfjomaa
open Go.RowKit Go.Buf
theorem BB.step {B : Nat} {w w1 w2 : World} {v : Value} {l : List Nat} {r : Option Nat} (hb : Below B w w1) (h : BB B w1 v l r) (hg : w1.grownBy w2 r) (hB : B ≤ w.heap.size) : Below B w w2 :=
 hb.trans (below_of_grown hg (Nat.le_trans hB hb.size) (fun k hk => (h.2.row_le k hk).1))
end Go.Proofs.Ytplafpchgfjomaa
namespace Go.Proofs.Ytplafpchgfjomaa
open Go.RowKit Go.Buf
theorem num_lenO (n : Nat) : (Cd.num n).length ≤ 10 := (Cd.num_len n).2
theorem below_box3 (W : World) (c : Array Value) (t : TypeId) : Below W.heap.size W (W.alloc (.cells c t)) := (Below.refl _ _).alloc (Nat.le_refl _) _
theorem dotcells {W w1 : World} {c0 c1 c2 : Value} (hb : Below (W.alloc (.cells #[c0, c1, c2] 40)).heap.size (W.alloc (.cells #[c0, c1, c2] 40)) w1) :
  w1.cell? ⟨W.heap.size, 0, none⟩ = some c0 ∧ w1.cell? ⟨W.heap.size, 1, none⟩ = some c1 ∧ w1.cell? ⟨W.heap.size, 2, none⟩ = some c2 :=
 ⟨(hb.cell (p := ⟨W.heap.size, 0, none⟩) (by simp)).trans (by simp), (hb.cell (p := ⟨W.heap.size, 1, none⟩) (by simp)).trans (by simp), (hb.cell (p := ⟨W.heap.size, 2, none⟩) (by simp)).trans (by simp)⟩
structure BTo (B : Nat) (W0 : World) (row0 : Option Nat) (g : Nat) (w : World) (v : Value) (l : List Nat) (row : Option Nat) : Prop where
  bb : BB B w v l row
  grown : W0.grownBy w row0
  new : New W0 row0 row
  ne : ∀ k, row = some k → k ≠ g
  lt : g < w.heap.size
end Go.Proofs.Ytplafpchgfjomaa
namespace Go.Proofs.Ytplafpchgfjomaa
open Go.RowKit Go.Buf
def SRow (w : World) (a : Option Addr) (cap : Nat) (l : List ByteArray) : Prop :=
 l.length ≤ cap ∧ cap ≤ 9223372036854775807 ∧ (∀ s ∈ l, s.size ≤ 9223372036854775807) ∧ (a = none → cap = 0) ∧
 ∀ i s, l[i]? = some s → ∃ p, a = some p ∧ w.cell? (p.add i) = some (.string s)
theorem SRow.le {w : World} {a : Option Addr} {cap : Nat} {l : List ByteArray} (h : SRow w a cap l) : l.length ≤ cap := h.1
theorem SRow.cap {w : World} {a : Option Addr} {cap : Nat} {l : List ByteArray} (h : SRow w a cap l) : cap ≤ 9223372036854775807 := h.2.1
theorem SRow.ok {w : World} {a : Option Addr} {cap : Nat} {l : List ByteArray} (h : SRow w a cap l) : ∀ s ∈ l, s.size ≤ 9223372036854775807 := h.2.2.1
theorem SRow.below {w w' : World} {a : Option Addr} {cap : Nat} {l : List ByteArray} (h : SRow w a cap l) (hb : Below w.heap.size w w') : SRow w' a cap l := by
 refine ⟨h.1, h.2.1, h.2.2.1, h.2.2.2.1, fun i d hd => ?_⟩
 obtain ⟨p, hp, h1⟩ := h.2.2.2.2 i d hd
 exact ⟨p, hp, (hb.cell (World.block_lt_of_cell? _ _ h1)).trans h1⟩
theorem SRow.nil (w : World) : SRow w none 0 [] := ⟨by simp, by omega, by simp, by simp, by simp⟩
theorem SRow.at {w : World} {a : Option Addr} {cap : Nat} {l : List ByteArray} (h : SRow w a cap l) (hl : 0 < l.length) :
  ∃ b off, a = some ⟨b, off, none⟩ ∧ b < w.heap.size ∧ ∀ i s, l[i]? = some s → w.cell? ⟨b, off + i, none⟩ = some (.string s) := by
 obtain ⟨p, hp, hc⟩ := h.2.2.2.2 0 l[0] (by simp [hl])
 have hs := World.cell?_spot hc
 obtain ⟨b, off, spot⟩ := p
 have hspot : spot = none := by simpa [Addr.add] using hs
 subst hspot
 refine ⟨b, off, hp, by simpa [Addr.add] using World.block_lt_of_cell? w _ hc, fun i d hd => ?_⟩
 obtain ⟨q, hq, h1⟩ := h.2.2.2.2 i d hd
 rw [hp] at hq
 obtain rfl := Option.some.inj hq
 rw [Addr.add_mid] at h1
 exact h1
set_option maxHeartbeats 800000 in
theorem nameByte_any (c : Nat) (w : World) : Calls Try.prog 44 #[.int .u8 (c : Int)] w fun e w' => e = .returned (.bool (Om.nb c)) ∧ w = w' := by
 by_cases h1 : 97 ≤ c <;> by_cases h2 : c ≤ 122 <;> by_cases h3 : 65 ≤ c <;> by_cases h4 : c ≤ 90 <;> by_cases h5 : 48 ≤ c <;> by_cases h6 : c ≤ 57 <;> first | (exfalso; omega) | skip
 all_goals
  go_enter Try.func44, Try.ntmps44
  go_wp2
  go_ret
  exact ⟨ret_bool (by simp [Om.nb, *] <;> omega), rfl⟩
theorem nameAt_get (s : ByteArray) (k : Nat) (h : k < s.size) : Om.nb s[k].toNat = Om.nameAt s k := by
 unfold Om.nameAt
 rw [Array.getD, dif_pos (show k < s.data.size from h)]; rfl
set_option maxRecDepth 100000 in
set_option maxHeartbeats 800000 in
theorem isName_any (s : ByteArray) (hs : s.size ≤ 9223372036854775807) (w : World) : Calls Try.prog 32 #[.string s] w fun e w' => e = .returned (.bool (Om.isName s)) ∧ w = w' := by
 by_cases h1 : 1 ≤ s.size
 ·by_cases h2 : s.size ≤ 12
  ·go_enter Try.func32, Try.ntmps32
   go_wp2_with fail
   go_loopw [14] (fun i wr => ∃ k : Nat, k ≤ s.size ∧ i = .int .i64 k ∧ Om.upTo (Om.nameAt s) k = true ∧ w = wr) (fun i _ => s.size - (intOf i).toNat)
   case atStart => exact ⟨0, Nat.zero_le _, rfl, Om.upTo_zero _, rfl⟩
   case round =>
    obtain ⟨k, hk, rfl, hu, rfl⟩ := hrel
    have HU := Lib.hid hu; clear hu
    by_cases hlt : k < s.size
    ·have HA := Lib.hid (nameAt_get s k hlt)
     go_wp2_with fail
     refine (nameByte_any _ _).mono ?_
     rintro e w1 ⟨rfl, rfl⟩
     rw [HA.out]
     cases hx : Om.nameAt s k
     ·have HX := Lib.hid hx; clear hx
      go_wp2_with fail
      go_ret
      exact ⟨ret_bool (by simp [Om.isName, Om.upTo_not hlt HX.out]), rfl⟩
     ·have HX := Lib.hid hx; clear hx
      go_wp2_with fail
      go_roundw
      case rel => exact ⟨k + 1, by omega, by go_num, Om.upTo_succ HU.out HX.out, trivial⟩
      case measure => simp [intOf]; omega
    ·obtain rfl : k = s.size := by omega
     go_wp2_with fail
     go_ret
     exact ⟨ret_bool (by simp [Om.isName, HU.out, h1, h2]), rfl⟩
  ·go_enter Try.func32, Try.ntmps32
   go_wp2_with fail
   go_ret
   exact ⟨ret_bool (by simp [Om.isName, h2]), rfl⟩
 ·go_enter Try.func32, Try.ntmps32
  go_wp2_with fail
  go_ret
  exact ⟨ret_bool (by simp [Om.isName, h1]), rfl⟩
def noName (l : List ByteArray) : Int := if Om.upTo (Om.pathAt l) l.length then -1 else l.findIdx (fun s => !Om.isName s)
end Go.Proofs.Ytplafpchgfjomaa
namespace Go.Proofs.Ytplafpchgfjomaa
open Go.RowKit Go.Buf
theorem cmp_less (x y : Dt.Dot) : decide (0 ≤ Dt.cmp x y) = !Dt.less x y := by
 unfold Dt.cmp Dt.less
 by_cases h1 : Dt.lt x y
 ·simp [h1]
 ·by_cases h2 : Dt.lt y x <;> simp [h1, h2]
theorem dropAt_zero {l : List Dt.Dot} {d : Dt.Dot} (h : l[0]? = some d) : Om.dropAt l 0 = Dt.may d := by simp [Om.dropAt, List.getD, h]
theorem dropAt_succ {l : List Dt.Dot} {k : Nat} {d e : Dt.Dot} (hk : 0 < k) (h : l[k]? = some d) (h' : l[k - 1]? = some e) : Om.dropAt l k = (Dt.may d && Dt.less e d) := by
 have : ¬ k = 0 := by omega
 simp [Om.dropAt, List.getD, h, h', this]
theorem dropAt_no {l : List Dt.Dot} {k : Nat} {d : Dt.Dot} (h : l[k]? = some d) (hm : Dt.may d = false) : Om.dropAt l k = false := by simp [Om.dropAt, List.getD, h, hm]
end Go.Proofs.Ytplafpchgfjomaa
namespace Go.Proofs.Ytplafpchgfjomaa
open Go.RowKit Go.Buf
set_option linter.unusedSimpArgs false
abbrev opV (k : Nat) (pa : Option Addr) (pl pc : Nat) (n : Int) (t : ByteArray) (da : Option Addr) (dl dc : Nat) : Value := .agg #[.int .u8 (k : Int), .slice pa pl pc, .int .i64 n, .string t, .slice da dl dc]
theorem below_box (W : World) (c : Array Value) (t : TypeId) : Below W.heap.size W (W.alloc (.cells c t)) := (Below.refl _ _).alloc (Nat.le_refl _) _
end Go.Proofs.Ytplafpchgfjomaa
namespace Go.Proofs.Ytplafpchgfjomaa
open Go.RowKit Go.Buf
set_option linter.unusedSimpArgs false
end Go.Proofs.Ytplafpchgfjomaa
namespace Go.Proofs.Ytplafpchgfjomaa
open Go.RowKit Go.Buf
set_option linter.unusedSimpArgs false
set_option linter.unusedVariables false
abbrev evV (r i s tm : Nat) (k : Nat) (pa : Option Addr) (pl pc : Nat) (n : Int) (t : ByteArray) (da : Option Addr) (dl dc : Nat) : Value := .agg #[.int .u8 (r : Int), .int .u32 (i : Int), .int .u64 (s : Int), .int .u64 (tm : Int), .int .u8 (k : Int), .slice pa pl pc, .int .i64 n, .string t, .slice da dl dc]
end Go.Proofs.Ytplafpchgfjomaa
namespace Go.Proofs.Ytplafpchgfjomaa
open Go.RowKit Go.Buf Go.Maps
set_option linter.unusedSimpArgs false
set_option linter.unusedVariables false
def Om.small (o : Om.O) : Prop := (∀ s ∈ o.path, s.size ≤ 100) ∧ o.path.length ≤ 20 ∧ o.text.size ≤ 200 ∧ o.dots.length ≤ 100
def GreatR (o : Om.O) (e : Ending) : Prop := ∃ b : Bool, e = .returned (.bool b) ∧ (b = false → Om.small o)
end Go.Proofs.Ytplafpchgfjomaa
namespace Go.Proofs.Ytplafpchgfjomaa
open Go.RowKit Go.Buf
set_option linter.unusedSimpArgs false
set_option linter.unusedVariables false
def opE (o : Om.O) : List Nat := Cd.num o.kind ++ Cd.num o.path.length ++ o.path.flatMap txtE ++ Cd.num (Cd.uns o.n) ++ txtE o.text ++ Cd.num o.dots.length ++ o.dots.flatMap dotE
theorem PT.alloc {B : Nat} {X w : World} {v : Value} {l : List Nat} (h : PT B X w v l) (hB : B ≤ X.heap.size) (o : Obj) : PT B X (w.alloc o) v l := by
 obtain ⟨⟨row, hb⟩, h⟩ := h
 exact ⟨⟨row, hb.alloc o⟩, h.alloc (Nat.le_trans hB h.size) o⟩
theorem PT.drew {B : Nat} {X w : World} {v : Value} {l : List Nat} (h : PT B X w v l) : PT B X w.drew v l := by
 obtain ⟨⟨row, hb⟩, h⟩ := h
 exact ⟨⟨row, hb.below (Below.refl _ _).drew⟩, h.drew⟩
end Go.Proofs.Ytplafpchgfjomaa
namespace Go.Proofs.Ytplafpchgfjomaa
open Go.RowKit Go.Buf
set_option linter.unusedSimpArgs false
set_option linter.unusedVariables false
theorem PT.fresh {B : Nat} {X w w' : World} {e : Ending} {l' : List Nat} (h : Below B X w) (hB : B ≤ X.heap.size) (hr : RetBB w.heap.size w none l' e w') : ∃ v', e = .returned v' ∧ PT B X w' v' l' := by
 obtain ⟨v, row, rfl, h1, h2⟩ := hr.below
 exact ⟨v, rfl, ⟨row, h1.base (Nat.le_trans hB h.size)⟩, h.trans (h2.mono (Nat.le_trans hB h.size))⟩
end Go.Proofs.Ytplafpchgfjomaa
namespace Go.Proofs.Ytplafpchgfjomaa
open Go.RowKit Go.Buf
set_option linter.unusedSimpArgs false
set_option linter.unusedVariables false
def evE (e : Om.E) : List Nat := dotE e.dot ++ Cd.num e.time ++ opE e.op
end Go.Proofs.Ytplafpchgfjomaa
namespace Go.Proofs.Ytplafpchgfjomaa
open Go.RowKit Go.Buf
def pre (l : List Nat) : List Nat := Cd.num l.length ++ l
end Go.Proofs.Ytplafpchgfjomaa
namespace Go.Proofs.Ytplafpchgfjomaa
open Go.RowKit Go.Buf Go.LB
set_option linter.unusedSimpArgs false
set_option linter.unusedVariables false
theorem numR_ok {n : Nat} (h : n < 18446744073709551616) (r : List Nat) : numR (Cd.num n ++ r) 0 = (n, r, 0) := by
 unfold numR step; rw [Cd.rd_num h]; simp
theorem intR_ok {m : Int} (h1 : -9223372036854775808 ≤ m) (h2 : m ≤ 9223372036854775807) (r : List Nat) : intR (Cd.num (Cd.uns m) ++ r) 0 = (m, r, 0) := by
 unfold intR step; rw [Cd.rd_num (Cd.uns_lt h1 h2)]; simp [Cd.sgn_uns]
theorem txtR_ok (s : ByteArray) (r : List Nat) (most : Int) (hm : (s.size : Int) ≤ most) (hs : s.size < 18446744073709551616) : txtR (txtE s ++ r) 0 most = (strL s, r, 0) := by
 unfold txtR step txtE
 have := Cd.rdText_text (strL s) r most (by rw [strL_length]; exact hm) (by rw [strL_length]; exact hs)
 rw [strL_length] at this
 rw [List.append_assoc, this]; simp
 rw [← strL_length s, List.drop_left]
theorem grownR {w w1 w2 : World} {p : Nat} (h : w.grownBy w1 (some p)) (h1 : w1.grownBy w2 (some p)) : w.grownBy w2 (some p) := grown_trans h h1 (New.refl _ _)
theorem grownA {w w1 : World} {p : Nat} (h : w.grownBy w1 (some p)) (o : Obj) : w.grownBy (w1.alloc o) (some p) := grownR h (World.grownBy_alloc w1 o _)
theorem RdrS.setCell {w : World} {p g : Nat} {l : List Nat} {er : Nat} (h : RdrS w p l er) (hg : p < g) (o : Nat) (x : Value) : RdrS (w.setCell ⟨g, o, none⟩ x) p l er := h.grown (grown_setCell w g o x) (fun k hk => by cases hk; exact hg)
theorem boxKept {W w : World} {c : Array Value} {t : TypeId} {p : Nat} (h : (W.alloc (.cells c t)).grownBy w (some p)) (hp : p < W.heap.size) : w.heap[W.heap.size]? = some (.cells c t (0, 0)) := by
 rw [h.block W.heap.size (by simp) (by simp; omega)]; exact heap_alloc_new W _
end Go.Proofs.Ytplafpchgfjomaa
namespace Go.Proofs.Ytplafpchgfjomaa
open Go.RowKit Go.Buf Go.LB
set_option linter.unusedSimpArgs false
set_option linter.unusedVariables false
theorem num_inj {n m : Nat} {R S : List Nat} (hn : n < 18446744073709551616) (hm : m < 18446744073709551616) (h : Cd.num n ++ R = Cd.num m ++ S) : n = m ∧ R = S := by
 have h1 := numR_ok hn R
 rw [h, numR_ok hm S] at h1
 simp only [Prod.mk.injEq, and_true] at h1
 exact ⟨h1.1.symm, h1.2.symm⟩
theorem int_inj {n m : Int} {R S : List Nat} (h1 : -9223372036854775808 ≤ n) (h2 : n ≤ 9223372036854775807) (g1 : -9223372036854775808 ≤ m) (g2 : m ≤ 9223372036854775807) (h : Cd.num (Cd.uns n) ++ R = Cd.num (Cd.uns m) ++ S) : n = m ∧ R = S := by
 have e := intR_ok h1 h2 R
 rw [h, intR_ok g1 g2 S] at e
 simp only [Prod.mk.injEq, and_true] at e
 exact ⟨e.1.symm, e.2.symm⟩
theorem txt_inj {s t : ByteArray} {R S : List Nat} (hs : s.size ≤ 9223372036854775807) (ht : t.size ≤ 9223372036854775807) (h : txtE s ++ R = txtE t ++ S) : s = t ∧ R = S := by
 have e := txtR_ok s R 9223372036854775807 (by omega) (by omega)
 rw [h, txtR_ok t S 9223372036854775807 (by omega) (by omega)] at e
 simp only [Prod.mk.injEq, and_true] at e
 have e1 := congrArg strB e.1
 rw [strB_strL, strB_strL] at e1
 exact ⟨e1.symm, e.2.symm⟩
theorem dot_inj {d e : Dt.Dot} {R S : List Nat} (hd : Dt.okD d) (he : Dt.okD e) (h : dotE d ++ R = dotE e ++ S) : d = e ∧ R = S := by
 obtain ⟨⟨r, i⟩, s⟩ := d
 obtain ⟨⟨r', i'⟩, s'⟩ := e
 obtain ⟨d1, d2, d3⟩ := hd
 obtain ⟨e1, e2, e3⟩ := he
 simp only at d1 d2 d3 e1 e2 e3
 simp only [dotE, List.append_assoc] at h
 obtain ⟨rfl, h_0⟩ := num_inj (by omega) (by omega) h
 obtain ⟨rfl, h_1⟩ := num_inj (by omega) (by omega) h_0
 obtain ⟨rfl, h_2⟩ := num_inj (by omega) (by omega) h_1
 exact ⟨rfl, h_2⟩
theorem flatD_inj : ∀ {l m : List Dt.Dot} {R S : List Nat}, l.length = m.length → (∀ d ∈ l, Dt.okD d) → (∀ d ∈ m, Dt.okD d) → l.flatMap dotE ++ R = m.flatMap dotE ++ S → l = m ∧ R = S
 | [], [], _, _, _, _, _, h => ⟨rfl, h⟩
 | d :: l, e :: m, R, S, hl, hd, he, h => by
  simp only [List.flatMap_cons, List.append_assoc] at h
  obtain ⟨rfl, h_0⟩ := dot_inj (hd d (by simp)) (he e (by simp)) h
  obtain ⟨rfl, h_1⟩ := flatD_inj (by simpa using hl) (fun x hx => hd x (by simp [hx])) (fun x hx => he x (by simp [hx])) h_0
  exact ⟨rfl, h_1⟩
end Go.Proofs.Ytplafpchgfjomaa
