import Derived.Test.YtiiidmphmojlgaaGreatZCmt3
import Derived.Test.YtiiidmphmojlgaaGreatZOp18
import Derived.WideKeyEntry
import Derived.Maps.OwnSet
import Derived.Test.YtiiidmphmojlgaaGreatZDot7
namespace Go.Proofs.YtiiidmphmojlgaaGreat
open Go.RowKit Go.Maps Go.WideElems Go.ChangeShapes Go.WideShapes Go.MapKept Go.ChangeMaps
open Go.WideMaps (KeyLaw)
set_option linter.unusedSimpArgs false
set_option linter.unusedVariables false
section
variable {H : Type} {P : Program} {w : World} {t k e : TypeId} {R : Value → Option (DataW H × List MemPlace)} {b : Nat} {es : Array MapEntry} {clock : Nat}
end
theorem dotKeyLaw : KeyLaw Tryz.prog 27 := deep_law_gate (by kernel_rfl) (of_decide_eq_true (by kernel_rfl)) (of_decide_eq_true (by kernel_rfl)) (by kernel_rfl) (by rw [Tryz.underlying27])
abbrev kd (d : Dt.Dot) : Lit := .string (keyBytes [.int .u8 (d.1.1 : Int), .int .u32 (d.1.2 : Int), .int .u64 (d.2 : Int)])
theorem keyType_dot : Tryz.prog.keyType 27 = true := by kernel_rfl
theorem cells_dot : Tryz.prog.cellsOf 27 = 3 := by kernel_rfl
theorem cells_u64 : Tryz.prog.cellsOf 25 = 1 := by kernel_rfl
theorem keyOf_dot {d : Dt.Dot} (h : Dt.okD d) : keyOf Tryz.prog 27 (dotV d) = some (kd d) := by
 obtain ⟨m, hm⟩ := types_size
 obtain ⟨m', rfl⟩ : ∃ m', m = m' + 1 := ⟨m - 1, by have h2 : 2 ≤ Tryz.prog.types.size := of_decide_eq_true (by kernel_rfl); omega⟩
 have wa : (Lit.int .u8 (d.1.1 : Int)).wf = true := by have := h.1; go_wf
 have wb : (Lit.int .u32 (d.1.2 : Int)).wf = true := by have := h.2.1; go_wf
 have wc : (Lit.int .u64 (d.2 : Int)).wf = true := by have := h.2.2; go_wf
 unfold keyOf
 simp only [Tryz.underlying27]
 rw [if_pos (by simp [keyType_dot, Value.formed, Tryz.underlying27, cells_dot]), hm]
 unfold Program.keyLits
 simp only [Tryz.underlying27, Value.cells]
 rw [if_pos (by simp [cells_dot])]
 simp [Program.keyLits, cells_act, cells_u8, cells_u32, cells_u64, wa, wb, wc]
 rw [if_pos (fun i x => by match i, x with | 0, _ => simp | 1, _ => simp)]
 rfl
abbrev Cnt (w : World) (b n : Nat) (D : DataW Unit) : Prop := w.ownsMap Tryz.prog 27 (plainElem Tryz.prog 3) b n D
def Seen (D : DataW Unit) (ds : List Dt.Dot) : Prop := Tidy D ∧ (∀ d, Dt.okD d → has D (kd d) = Lm.hasD ds d) ∧ size D ≤ ds.length ∧ (size D = ds.length ↔ ds.Nodup)
theorem Seen.nil : Seen (.map []) [] := ⟨tidy_empty, fun d _ => rfl, by simp [size_eq], by simp [size_eq]⟩
end Go.Proofs.YtiiidmphmojlgaaGreat
namespace Go.Proofs.YtiiidmphmojlgaaGreat
open Go.Shelf Go.RowKit Go.Maps
set_option maxRecDepth 100000 in
set_option maxHeartbeats 3200000 in
theorem vector_any (b n : Nat) (f : Dt.Ac → Nat) (w : World) (h : NumX w b n f) (hn : n ≤ 1000000000 - 1) (hf : ∀ a, okAc a → 0 < f a → Dt.mayA a = true) :
  Calls Tryz.prog 52 #[.map (some b)] w (RetVec w (Dt.vec f)) := by
 obtain ⟨D, hown, hD⟩ := h
 have hsz := size_le hown
 have hblt := hown.lt
 obtain ⟨i0, hi, hz0, hz1, hz2⟩ := info_parts info_dot
 have HOwn := Lib.hid hown; have HD := Lib.hid hD; have HF := Lib.hid hf
 have HI := Lib.hid hi; have HZ0 := Lib.hid hz0; have HZ1 := Lib.hid hz1; have HZ2 := Lib.hid hz2
 have HBl := Lib.hid hblt
 clear hown hD hf hi hz0 hz1 hz2 hblt
 go_enter Tryz.func52, Tryz.ntmps52
 go_wp2_with (at_range; refine wpList_range_own _ rfl _ 96 rfl 24 25 actLaw Tryz.underlying96 _ b n D rfl HOwn.out ?_; intro w0 hrg0 hg0 hs0)
 go_frame
 have Hr0 := Lib.hid hrg0; have Hg0 := Lib.hid hg0; have Hs0 := Lib.hid hs0
 clear hrg0 hg0 hs0
 go_loopw [3] (fun v wr => ∃ (left : Lit → Bool) (cnt : Nat) (xs : List Dt.Dot), wr.ranges Tryz.prog 24 (plainElem Tryz.prog 25) b w.heap.size n D left cnt ∧ wr.ownsRow (w.heap.size + 1) 27 3 v xs.length (dotsV xs) ∧ VecInv f D left xs ∧ xs.length + cnt ≤ n ∧ Below w.heap.size w wr) (fun _ wr => wr.rangeLeft b w.heap.size)
 case atStart => exact ⟨_, _, [], Hr0.out, World.ownsRow_nil _ _ _ _, vecInv_start f D, by simpa using hsz, ⟨Hg0.out.os, Hg0.out.tape, Hg0.out.output, Hg0.out.size, fun k hk => Hg0.out.block k hk (by simp)⟩⟩
 case round =>
  obtain ⟨left, cnt, xs, hrg, hrow, hinv, hcnt, hbel⟩ := hrel
  have Hrg := Lib.hid hrg; have Hrow := Lib.hid hrow; have Hinv := Lib.hid hinv; have Hcnt := Lib.hid hcnt; have Hbel := Lib.hid hbel
  clear hrg hrow hinv hcnt hbel
  go_wp2_with (at_next; refine wpList_next_ranges _ rfl _ rfl 24 actLaw (plainElem Tryz.prog 25) (fun a : Dt.Ac => acV a) (fun c : Nat => .int .u64 (c : Int)) ?k1 ?k2 b w.heap.size n D left cnt rfl Hrg.out ?k3 ?k4)
  case k1 =>
   intro key l hk
   obtain ⟨a, _, e, _⟩ := keyOf_act_inv hk
   exact ⟨a, e⟩
  case k2 =>
   intro v y hv
   obtain ⟨c, e, _, hw⟩ := plainElem_int_inv Tryz.underlying25 hv
   obtain ⟨c, rfl⟩ := Int.eq_ofNat_of_zero_le (bounds_u64 hw).1
   exact ⟨c, e⟩
  case k3 =>
   intro hc0 hl0
   have Hl := Lib.hid hl0; clear hl0 hc0
   rcases Hrow.out.2 with ⟨rfl, hx0⟩ | ⟨g, cap, cur, rfl, hg1, hg2, hg3, hg4, hg5, hg6⟩
   ·obtain rfl : xs = [] := List.eq_nil_of_length_eq_zero hx0
    have hnil : [] = Dt.vec f := vec_of_sort Hinv.out Hl.out HD.out HF.out (List.Perm.refl _) List.Pairwise.nil
    have Hnil := Lib.hid hnil; clear hnil hx0
    go_wp2_with fail
    refine (sort_none _ _ _ _).mono ?_
    rintro e w1 ⟨rfl, rfl⟩
    go_wp2_with fail
    go_ret
    exact ⟨none, 0, by rw [← Hnil.out]; rfl, by rw [← Hnil.out]; exact VRow.nil _, Hbel.out⟩
   ·by_cases hx0 : xs.length = 0
    ·obtain rfl : xs = [] := List.eq_nil_of_length_eq_zero hx0
     have hnil : [] = Dt.vec f := vec_of_sort Hinv.out Hl.out HD.out HF.out (List.Perm.refl _) List.Pairwise.nil
     have Hnil := Lib.hid hnil; have H4 := Lib.hid hg4
     clear hnil hx0 hg1 hg2 hg3 hg4 hg5 hg6
     go_wp2_with fail
     refine (sort_none _ _ _ _).mono ?_
     rintro e w1 ⟨rfl, rfl⟩
     go_wp2_with fail
     go_ret
     exact ⟨some ⟨g, 0, none⟩, cap, by rw [← Hnil.out]; rfl, by rw [← Hnil.out]; exact ⟨Nat.zero_le _, by have := H4.out; unfold maxLen at this; omega, by simp, (fun e => by cases e), by simp⟩, Hbel.out⟩
    ·have hH := holds_of_own Hrow.out
     have hglt : g < wr.heap.size := (Array.getElem?_eq_some_iff.1 hg2).1
     have HH := Lib.hid hH; have Hglt := Lib.hid hglt; have H1 := Lib.hid hg1; have H3 := Lib.hid hg3; have H4 := Lib.hid hg4
     clear hH hglt hg1 hg2 hg3 hg4 hg5 hg6 hx0
     go_wp2_with fail
     refine (sortDot g cap xs _ HH.out Hglt.out (by have := Hcnt.out; omega)).mono ?_
     rintro e w1 ⟨rfl, ys, hperm, hsort, hys, hgr⟩
     have hvec : ys = Dt.vec f := vec_of_sort Hinv.out Hl.out HD.out HF.out hperm hsort
     have hlen : xs.length = (Dt.vec f).length := by rw [← hvec, hperm.length_eq]
     have hrow : VRow w1 (some ⟨g, 0, none⟩) cap (Dt.vec f) := by
      rw [← hvec]
      refine row_of_holds hys (fun d hd => ?_) (by rw [hperm.length_eq]; exact H3.out) (by have := H4.out; unfold maxLen at this; omega)
      have := (Hinv.out.2 d).1 (hperm.mem_iff.1 hd)
      exact ⟨this.1.1, this.1.2, by rw [this.2.2.1]; exact Nums.bound (w := w) (b := b) (n := n) (D := D) (f := f) ⟨HOwn.out, HD.out⟩ this.1⟩
     have hb2 : Below w.heap.size w w1 := Hbel.out.grown hgr Hbel.out.size (fun k hk => by cases hk; have := H1.out; omega)
     have HV := Lib.hid hlen; have HR := Lib.hid hrow; have HB := Lib.hid hb2
     clear hvec hlen hrow hb2 hperm hsort hys hgr
     go_wp2_with fail
     go_ret
     exact ⟨some ⟨g, 0, none⟩, cap, ret_slice (by first | rfl | exact HV.out), HR.out, HB.out⟩
  case k4 =>
   intro a0 a1 c l y1 y2 w1 cnt1 hkey hlk hv hat hrg1 hlt1 hg1 hs1 hen
   obtain ⟨hok, rfl, hfx, hc⟩ := entry_facts HD.out hkey hv hat
   have hhas := has_of_left hat
   have hbB : Below w.heap.size w w1 := Hbel.out.grown hg1 Hbel.out.size (fun k hk => by cases hk; exact Nat.le_refl _)
   have hrow1 : w1.ownsRow (w.heap.size + 1) 27 3 u3 xs.length (dotsV xs) := Hrow.out.kept hg1 (by
    cases hvb : u3.ownBlock with
    | none => exact Or.inl rfl
    | some k => right; intro e; cases e; have := (Hrow.out.lt _ hvb).1; omega)
   have HOk := Lib.hid hok; have Hfx := Lib.hid hfx; have Hhas := Lib.hid hhas; have Hlk := Lib.hid hlk; have Hrg1 := Lib.hid hrg1; have Hlt1 := Lib.hid hlt1; have HbB := Lib.hid hbB; have HRow1 := Lib.hid hrow1
   clear hkey hlk hv hat hrg1 hlt1 hg1 hs1 hok hfx hhas hbB hrow1
   by_cases h0 : 0 < c
   ·go_wp2_with (refine wpList_append_own _ rfl _ _ 29 rfl (w.heap.size + 1) 27 i0 (.agg #[.int .u8 0, .int .u32 0, .int .u64 0]) 3 16 Tryz.underlying29 HI.out HZ0.out HZ1.out HZ2.out rfl (by decide) u3 xs.length (dotsV xs) rfl ((HRow1.out.alloc _).alloc _) ⟨w1.heap.size + 1, 0, none⟩ 1 1 (encD ((a0, a1), c)) rfl rfl ?c1 (encD_one _) ?c3 ?c4 ?c5 ?_)
    case c1 =>
     intro j u hu
     match j, hu with
     | 0, hu => simp [encD] at hu; subst hu; simp [Addr.add]
     | 1, hu => simp [encD] at hu; subst hu; simp [Addr.add]
     | 2, hu => simp [encD] at hu; subst hu; simp [Addr.add]
     | j + 3, hu => simp [encD] at hu
    case c3 => have := Hcnt.out; unfold maxLen; omega
    case c4 => have := Hcnt.out; omega
    case c5 => have := HbB.out.size; have := Hrg.out.lt; have := Hrg1.out.lt; simp; omega
    intro v' w2 hown' hg2 _
    have hlen : (xs ++ [((a0, a1), c)]).length = xs.length + 1 := by simp
    rw [← dotsV_snoc, ← hlen] at hown'
    have hne : ∀ k, u3.ownBlock = some k → w.heap.size < k := fun k hk => by have := (HRow1.out.lt _ hk).1; omega
    have hrg2 := ((Hrg1.out.alloc (.cells #[.int .u8 (a0 : Int), .int .u32 (a1 : Int)] 24)).alloc (.cells #[.int .u8 (a0 : Int), .int .u32 (a1 : Int), .int .u64 (c : Int)] 27)).kept hg2 (fun e => by have := hne _ e.symm; have := HBl.out; omega) (fun e => by have := hne _ e.symm; omega)
    have hb2 : Below w.heap.size w w2 := (((HbB.out.alloc HbB.out.size _).alloc (by have := HbB.out.size; simp; omega) _)).grown hg2 (by have := HbB.out.size; simp; omega) (fun k hk => by have := hne _ hk; omega)
    have hiv := vecInv_take Hinv.out HOk.out (by rw [Hfx.out]; exact h0) Hhas.out Hlk.out
    rw [Hfx.out] at hiv
    have G1 := Lib.hid hown'; have G2 := Lib.hid hrg2; have G3 := Lib.hid hb2; have G4 := Lib.hid hiv
    clear hown' hg2 hlen hne hrg2 hb2 hiv
    go_wp2_with fail
    go_roundw
    case rel => exact ⟨_, _, _, G2.out, G1.out, G4.out, by have := Hcnt.out; have := Hlt1.out; simp; omega, G3.out⟩
    case measure => rw [G2.out.left_eq, Hrg.out.left_eq]; exact Hlt1.out
   ·have hfz : f (a0, a1) = 0 := by rw [Hfx.out]; omega
    have hiv := vecInv_skip Hinv.out HOk.out hfz
    have hrg2 := Hrg1.out.alloc (.cells #[.int .u8 (a0 : Int), .int .u32 (a1 : Int)] 24)
    have hb2 : Below w.heap.size w (w1.alloc (.cells #[.int .u8 (a0 : Int), .int .u32 (a1 : Int)] 24)) := HbB.out.alloc HbB.out.size _
    have hw2 := HRow1.out.alloc (.cells #[.int .u8 (a0 : Int), .int .u32 (a1 : Int)] 24)
    have G1 := Lib.hid hw2; have G2 := Lib.hid hrg2; have G3 := Lib.hid hb2; have G4 := Lib.hid hiv
    clear hfz hiv hrg2 hb2 hw2
    go_wp2_with fail
    go_roundw
    case rel => exact ⟨_, _, _, G2.out, G1.out, G4.out, by have := Hcnt.out; have := Hlt1.out; omega, G3.out⟩
    case measure => rw [G2.out.left_eq, Hrg.out.left_eq]; exact Hlt1.out
end Go.Proofs.YtiiidmphmojlgaaGreat
namespace Go.Proofs.YtiiidmphmojlgaaGreat
open Go.RowKit Go.Maps
set_option maxHeartbeats 400000 in
theorem canon_any (a : Option Addr) (n cap : Nat) (l : List Dt.Dot) (w : World) (hr : VRow w a cap l) (hl : l.length = n) (hn : n ≤ 100000000) :
  Calls Tryz.prog 33 #[.slice a n cap] w (RetVec w (Dt.canon l)) := by
 have HR := Lib.hid hr; have HL := Lib.hid hl
 clear hr hl
 go_enter Tryz.func33, Tryz.ntmps33
 go_wp2_with fail
 refine (stands_any a n cap l w HR.out HL.out hn).mono ?_
 rintro e w1 ⟨b, rfl, hN, hB, hb⟩
 have HN := Lib.hid hN; have HB := Lib.hid hB; have Hb := Lib.hid hb
 clear hN hB hb
 go_wp2_with fail
 refine (vector_any b n (Dt.get l) w1 HN.out (by omega) (fun a _ h => Dt.get_may h)).mono ?_
 rintro e w2 ⟨a2, c2, rfl, hr2, hb2⟩
 have HR2 := Lib.hid hr2; have Hb2 := Lib.hid hb2
 clear hr2 hb2
 go_wp2_with fail
 go_ret
 exact ⟨a2, c2, rfl, HR2.out, Hb.out.trans (Hb2.out.mono Hb.out.size)⟩
set_option maxHeartbeats 400000 in
theorem pickM (x y : Nat) (w : World) : Calls Tryz.prog 126 #[.int .u64 (x : Int), .int .u64 (y : Int)] w fun e w' => e = .returned (.int .u64 (min x y : Nat)) ∧ w' = w := by
 go_enter Tryz.func126, Tryz.ntmps126
 go_wp2
 all_goals
  go_ret
  exact ⟨ret_int (by omega), rfl⟩
def bothG (p : Dt.Ac → Nat) (seen : Lit → Bool) : Dt.Ac → Nat := fun a => if seen (kl a) = true then p a else 0
theorem bothG_upd {p : Dt.Ac → Nat} {seen : Lit → Bool} {x : Dt.Ac} (hx : okAc x) : ∀ a, okAc a → upd (bothG p seen) x (p x) a = bothG p (fun z => seen z || z.sameKey (kl x)) a := by
 intro a ha
 unfold upd bothG
 by_cases e : a = x
 ·subst e
  have := WideAt.sameKey_self (actLaw.key (keyOf_act ha))
  simp [this]
 ·have := sameKey_ne (fun g => e (kl_inj ha hx g))
  simp [e, this]
theorem Nums.congr {w : World} {b n : Nat} {D : DataW Unit} {f g : Dt.Ac → Nat} (h : Nums w b n D f) (e : ∀ a, okAc a → f a = g a) : Nums w b n D g := ⟨h.1, fun a ha => by rw [h.2 a ha, e a ha]⟩
theorem NumX.congr' {w : World} {b n : Nat} {f g : Dt.Ac → Nat} (h : NumX w b n f) (e : ∀ a, okAc a → f a = g a) : NumX w b n g := by obtain ⟨D, h⟩ := h; exact ⟨D, h.congr e⟩
end Go.Proofs.YtiiidmphmojlgaaGreat
