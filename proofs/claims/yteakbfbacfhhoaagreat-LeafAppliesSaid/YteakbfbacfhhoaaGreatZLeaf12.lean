import Derived.Test.YteakbfbacfhhoaaGreatZLeaf9
import Derived.Test.YteakbfbacfhhoaaGreatZRegC
import Derived.StillTailTactics
namespace Go.Proofs.YteakbfbacfhhoaaGreat
open Go.RowKit Go.Buf Go.LB Go.Lib
set_option linter.unusedSimpArgs false
set_option linter.unusedVariables false
theorem fidx_nil {α : Type} {p : α → Bool} {z : Int} (h : FIdx ([] : List α) p z) : z = -1 := by
 rcases h with ⟨h, _⟩ | ⟨k, _, ⟨d, hd, _⟩, _⟩
 ·exact h
 ·simp at hd
set_option maxHeartbeats 1000000 in
theorem deleteI_any (v : Value) (row : Option Nat) (f : Nat) (cp : Array Value) (p : Lm.It → Bool) (l : List Lm.It) (B : Nat) (W : World) (h : OwnI B W v l row) (hok : ∀ x ∈ l, okI x) (hE : Enters f)
  (hF : ∀ (d : Lm.It) (w : World), d ∈ l → Chg (fun k => some k = row) W w → Calls Tryz.prog f (#[itVd d] ++ cp) w fun e w' => e = .returned (.bool (p d)) ∧ Below w.heap.size w w') :
  Calls Tryz.prog 68 #[v, .func (.func f) #[] cp] W fun e w' => (∃ v', e = .returned v' ∧ OwnI B w' v' (l.filter (fun d => !p d)) row) ∧ Chg (fun k => some k = row) W w' := by
 rcases h.2 with ⟨rfl, rfl, a, rfl⟩ | ⟨g, cap, tl, rfl, rfl, h3, h4, h5, h6, h7⟩
 ·have hr : IRow W a 0 [] := ⟨by simp, by omega, by simp, fun _ => rfl, by simp⟩
  have hB := h.1
  have HR := Lib.hid hr; have HE := Lib.hid hE
  clear hr hE hF h
  go_enter Tryz.func68, Tryz.ntmps68
  go_wp2_with fail
  refine (indexI_any a 0 0 f cp p [] _ HR.out rfl HE.out (fun k d w hd hb => by simp at hd)).mono ?_
  rintro e w1 ⟨⟨z, hz, rfl⟩, hb⟩
  have HB := Lib.hid hb; clear hb
  obtain rfl := fidx_nil hz
  go_wp2_with fail
  go_ret
  exact ⟨⟨_, rfl, Own.empty (Nat.le_trans hB HB.out.size) a⟩, Chg.of_below HB.out⟩
 ·refine (deleteI_own g l.length cap tl f cp p l W h4 rfl hok h5 h6 h7 hE (fun d w hd hc => hF d w hd (hc.mono (fun k _ e => by rw [e])))).mono ?_
  rintro e w' ⟨⟨tl', rfl, hb, hl⟩, hc⟩
  exact ⟨⟨_, rfl, Nat.le_trans h.1 hc.size, Or.inr ⟨g, cap, tl', rfl, rfl, h3, hb, Nat.le_trans (List.length_filter_le _ _) h5, h6, hl⟩⟩, hc.mono (fun k _ e => by rw [e])⟩
theorem compact_nil : Lm.compact [] = [] := rfl
theorem compact_le : ∀ l : List Dt.Dot, (Lm.compact l).length ≤ l.length := by
 have key : ∀ n (l : List Dt.Dot), l.length = n → (Lm.compact l).length ≤ l.length := by
  intro n
  induction n with
  | zero => intro l hl; rw [List.eq_nil_of_length_eq_zero hl]; simp [compact_nil]
  | succ n ih =>
   intro l hl
   rcases Lm.snoc_cases l with rfl | ⟨i, d, rfl⟩
   ·simp [compact_nil]
   ·have := ih i (by simpa using hl)
    rw [Lm.compact_snoc, Lm.cstep]
    split <;> simp <;> omega
 exact fun l => key _ l rfl
set_option maxHeartbeats 1000000 in
theorem compactD_any (v : Value) (row : Option Nat) (l : List Dt.Dot) (B : Nat) (W : World) (h : OwnD B W v l row) :
  Calls Tryz.prog 71 #[v] W fun e w' => (∃ v', e = .returned v' ∧ OwnD B w' v' (Lm.compact l) row) ∧ Chg (fun k => some k = row) W w' := by
 rcases h.2 with ⟨rfl, rfl, a, rfl⟩ | ⟨g, cap, tl, rfl, rfl, h3, h4, h5, h6, h7⟩
 ·have hB := h.1
  clear h
  go_enter Tryz.func71, Tryz.ntmps71
  go_wp2_with fail
  go_ret
  exact ⟨⟨_, rfl, Own.empty hB a⟩, Chg.refl _ _⟩
 ·refine (compact_own g l.length cap tl l W h4 rfl h5 h6 h7).mono ?_
  rintro e w' ⟨⟨tl', rfl, hb, hl⟩, hc⟩
  exact ⟨⟨_, rfl, Nat.le_trans h.1 hc.size, Or.inr ⟨g, cap, tl', rfl, rfl, h3, hb, Nat.le_trans (compact_le _) h5, h6, hl⟩⟩, hc.mono (fun k _ e => by rw [e])⟩
theorem holds_of_blk {w : World} {g : Nat} {t : TypeId} {xs : List Dt.Dot} {tl : List Value} (h : Blk w g t (xs.flatMap encD ++ tl)) : Go.Sort.HoldsK encD 3 w g 0 xs.toArray := by
 intro j hj
 simp only [Go.Sort.size_flatK, List.size_toArray] at hj
 refine ⟨?_, by rw [Nat.zero_add]; exact h.frozen j⟩
 have hi : j / 3 < xs.length := by omega
 have h3 : j % 3 < 3 := Nat.mod_lt _ (by omega)
 rw [Nat.zero_add, h.cell, List.getElem?_append_left (by rw [enc_length encD_len]; omega), Go.Sort.get_flatK encD 3 xs.toArray j (by simpa using hj)]
 have := enc_get encD_len xs (j / 3) xs[j / 3] (List.getElem?_eq_getElem hi) (j % 3) h3
 rw [show j / 3 * 3 + j % 3 = j from by omega] at this
 rw [this, getElem!_pos xs.toArray (j / 3) (by simpa using hi)]
 rw [getElem!_pos (encD _) (j % 3) (by rw [encD_len]; exact h3)]
 simp
theorem blk_of_holds {w : World} {g : Nat} {t : TypeId} {ys : List Dt.Dot} {cs : List Value} (h : Blk w g t cs) (hl : ys.length * 3 ≤ cs.length) (hh : Go.Sort.HoldsK encD 3 w g 0 ys.toArray) : ∃ tl, cs = ys.flatMap encD ++ tl := by
 refine ⟨cs.drop (ys.length * 3), ?_⟩
 have hfl : (ys.flatMap encD).length = ys.length * 3 := enc_length encD_len ys
 have : cs.take (ys.length * 3) = ys.flatMap encD := by
  apply List.ext_getElem?
  intro j
  by_cases hj : j < ys.length * 3
  ·rw [List.getElem?_take, if_pos hj]
   have h1 := (hh j (by simpa using hj)).1
   have hi : j / 3 < ys.length := by omega
   have h3 : j % 3 < 3 := Nat.mod_lt _ (by omega)
   rw [Nat.zero_add, h.cell, Go.Sort.get_flatK encD 3 ys.toArray j (by simpa using hj)] at h1
   rw [h1]
   have := enc_get encD_len ys (j / 3) ys[j / 3] (List.getElem?_eq_getElem hi) (j % 3) h3
   rw [show j / 3 * 3 + j % 3 = j from by omega] at this
   rw [this, getElem!_pos ys.toArray (j / 3) (by simpa using hi)]
   rw [getElem!_pos (encD _) (j % 3) (by rw [encD_len]; exact h3)]
   simp
  ·rw [List.getElem?_take, if_neg hj, List.getElem?_eq_none (by rw [hfl]; omega)]
 rw [← this, List.take_append_drop]
set_option maxHeartbeats 1000000 in
theorem sortD_any (v : Value) (row : Option Nat) (l : List Dt.Dot) (B : Nat) (W : World) (h : OwnD B W v l row) (hn : l.length < 1000000000) :
  Calls Tryz.prog 70 #[v, .func (.func 26) #[] #[]] W fun e w' => e = .returned (.tuple #[]) ∧ (∃ s : List Dt.Dot, s.Perm l ∧ s.Pairwise (fun x y => ¬ Dt.lt y x) ∧ OwnD B w' v s row) ∧ Chg (fun k => some k = row) W w' := by
 rcases h.2 with ⟨rfl, rfl, a, rfl⟩ | ⟨g, cap, tl, rfl, rfl, h3, h4, h5, h6, h7⟩
 ·refine (sort_nones a 0 _ W).mono ?_
  rintro e w' ⟨rfl, rfl⟩
  exact ⟨rfl, ⟨[], List.Perm.refl _, List.Pairwise.nil, h⟩, Chg.refl _ _⟩
 ·refine (sortDots g cap l W (holds_of_blk h4) h4.lt hn).mono ?_
  rintro e w' ⟨⟨rfl, ys, hp, hs, hh, hg⟩, hb⟩
  obtain ⟨cs', hb', hl'⟩ := hb _ _ h4
  have hlen := hp.length_eq
  have hc3 : l.length * 3 ≤ cap * 3 := by omega
  obtain ⟨tl', rfl⟩ := blk_of_holds hb' (by rw [hl', h7, hlen]; exact hc3) hh
  refine ⟨rfl, ⟨ys, hp, hs, Nat.le_trans h.1 hg.size, Or.inr ⟨g, cap, tl', rfl, by rw [hlen], h3, hb', by rw [hlen]; exact h5, h6, by rw [hl', h7]⟩⟩, (Chg.of_grown hg).mono (fun k _ e => e)⟩
end Go.Proofs.YteakbfbacfhhoaaGreat
namespace Go.Proofs.YteakbfbacfhhoaaGreat
open Go.RowKit Go.Buf Go.LB Go.Lib
set_option linter.unusedSimpArgs false
set_option linter.unusedVariables false
abbrev gcs (kk : Nat) (n : Int) (t r i s : Nat) (x : ByteArray) (vI vD : Value) : List Value := [.int .u8 (kk : Int), .int .i64 n, .int .u64 (t : Int), .int .u8 (r : Int), .int .u32 (i : Int), .int .u64 (s : Int), .string x, vI, vD]
structure GS (B : Nat) (w : World) (g : Nat) (kk : Nat) (n : Int) (t r i s : Nat) (x : ByteArray) (li : List Lm.It) (ld : List Dt.Dot) (vI : Value) (rI : Option Nat) (vD : Value) (rD : Option Nat) : Prop where
  blk : Blk w g 59 (gcs kk n t r i s x vI vD)
  items : OwnI B w vI li rI
  tombs : OwnD B w vD ld rD
  base : B ≤ g
  gi : rI ≠ some g
  gd : rD ≠ some g
  id : ∀ b, rI = some b → rD ≠ some b
def GE (B : Nat) (w : World) (g : Nat) (kk : Nat) (n : Int) (t r i s : Nat) (x : ByteArray) (li : List Lm.It) (ld : List Dt.Dot) : Prop := ∃ vI rI vD rD, GS B w g kk n t r i s x li ld vI rI vD rD
theorem Own.slice {α : Type} {enc : α → List Value} {e : TypeId} {size B : Nat} {w : World} {v : Value} {l : List α} {row : Option Nat} (h : Own e size enc B w v l row) : ∃ a n c, v = .slice a n c := by
 rcases h.2 with ⟨_, _, a, rfl⟩ | ⟨g, cap, tl, _, rfl, _⟩
 ·exact ⟨a, 0, 0, rfl⟩
 ·exact ⟨_, _, _, rfl⟩
set_option maxHeartbeats 1000000 in
theorem drop1_any (x : Lm.It) (c : Nat) (da : Option Addr) (dl dc : Nat) (d : List Dt.Dot) (w : World) (hc : w.cell? ⟨c, 8, none⟩ = some (.slice da dl dc)) (hd : VRow w da dc d) (hdl : d.length = dl) (hn : dl ≤ 1000000000) (hp : d.Pairwise Dt.lt) :
  Calls Tryz.prog 69 #[itVd x, .pointer (some ⟨c, 0, none⟩)] w fun e w' => e = .returned (.bool (Lm.hasD d x.2.1)) ∧ Below w.heap.size w w' := by
 obtain ⟨t, ⟨⟨r, i⟩, s⟩, y⟩ := x
 have HBox := Lib.hid (below_box w #[.int .u64 (t : Int), .int .u8 (r : Int), .int .u32 (i : Int), .int .u64 (s : Int), .string y] 47)
 have hb := World.block_lt_of_cell? w _ hc
 have hc5 := (HBox.out.cell (p := ⟨c, 8, none⟩) hb).trans hc
 have HI := Lib.hid hd; have HIl := Lib.hid hdl; have HP := Lib.hid hp
 clear hd hdl hp hc hb
 go_enter Tryz.func69, Tryz.ntmps69
 go_wp2_with fail
 refine (hasDot_any da dl dc r i s d _ (HI.out.below HBox.out) HIl.out hn HP.out).mono ?_
 rintro e w1 ⟨rfl, hb⟩
 have HB := Lib.hid (HBox.out.trans (hb.mono HBox.out.size)); clear hb
 go_wp2_with fail
 go_ret
 exact ⟨rfl, HB.out⟩
set_option maxRecDepth 100000 in
set_option maxHeartbeats 6400000 in
theorem drop_any (W u : World) (g : Nat) (kk : Nat) (n : Int) (t r i s : Nat) (x : ByteArray) (li : List Lm.It) (ld : List Dt.Dot) (vI : Value) (rI : Option Nat) (vD : Value) (rD : Option Nat) (r' i' s' tm k : Nat) (pa : Option Addr) (pl pc : Nat) (n' : Int) (t' : ByteArray) (da : Option Addr) (dl dc : Nat) (d : List Dt.Dot) (h : GS W.heap.size u g kk n t r i s x li ld vI rI vD rD) (hW : Below W.heap.size W u) (hd : VRow W da dc d) (hdl : d.length = dl)
  (hok : ∀ y ∈ li, okI y) (hpt : ld.Pairwise Dt.lt) (hpd : d.Pairwise Dt.lt) (hn : ld.length ≤ 100000000) (hdn : dl ≤ 100000000) :
  Calls Tryz.prog 54 #[.pointer (some ⟨g, 0, none⟩), evV r' i' s' tm k pa pl pc n' t' da dl dc] u fun e w' => e = .returned (.tuple #[]) ∧ GE W.heap.size w' g kk n t r i s x (li.filter (fun y => !Lm.hasD d y.2.1)) (d.foldl Lm.bury ld) ∧ Below W.heap.size W w' ∧ u.heap.size ≤ w'.heap.size := by
 obtain ⟨hG, hI, hD, hB, hgi, hgd, hid⟩ := h
 have hus := hW.size
 have HBox := Lib.hid (below_box u #[.int .u8 (r' : Int), .int .u32 (i' : Int), .int .u64 (s' : Int), .int .u64 (tm : Int), .int .u8 (k : Int), .slice pa pl pc, .int .i64 n', .string t', .slice da dl dc] 36)
 have HEv := Lib.hid (Blk.new u #[.int .u8 (r' : Int), .int .u32 (i' : Int), .int .u64 (s' : Int), .int .u64 (tm : Int), .int .u8 (k : Int), .slice pa pl pc, .int .i64 n', .string t', .slice da dl dc] 36)
 have HW1 := Lib.hid (hW.trans (HBox.out.mono hus))
 have HG1 := Lib.hid (hG.below HBox.out)
 have HI1 := Lib.hid (hI.below HBox.out)
 have HD1 := Lib.hid (hD.below HBox.out)
 have HNg := Lib.hid (And.intro hgd hid)
 have HIlt := Lib.hid hI.lt
 have hgu := hG.lt
 have c7 := HG1.out.cell 7
 have HD0 := Lib.hid hd; have HDl := Lib.hid hdl; have HOk := Lib.hid hok; have HPd := Lib.hid hpd; have HPt := Lib.hid hpt; have HW := Lib.hid hW
 have HGi := Lib.hid hgi
 simp only [List.getElem?_cons_succ, List.getElem?_cons_zero] at c7
 clear hd hdl hok hpd hpt hW hG hI hD hgd hid hgi
 go_enter Tryz.func54, Tryz.ntmps54
 go_wp2_with fail
 refine (deleteI_any vI rI 69 #[.pointer (some ⟨u.heap.size, 0, none⟩)] (fun y => Lm.hasD d y.2.1) li W.heap.size _ HI1.out HOk.out enters_drop (fun y w hy hc => ?_)).mono ?_
 ·have hev := HEv.out.chg hc (fun e => by have := (HIlt.out _ e.symm).2; omega)
  exact drop1_any y u.heap.size da dl dc d w (hev.cell 8) (HD0.out.below (Chg.belowTrans HW1.out hc (fun k _ e => (HIlt.out k e.symm).1) HW1.out.size)) HDl.out (by omega) HPd.out
 rintro e w1 ⟨⟨v7, rfl, hI2⟩, hc2⟩
 obtain ⟨a7, n7, m7, rfl⟩ := Own.slice hI2
 have s0 := HBox.out.size; have s2 := hc2.size
 have HC2 := Lib.hid hc2; have HI2a := Lib.hid hI2
 have hG2 := HG1.out.chg hc2 (fun e => HGi.out e.symm)
 have HE2a := Lib.hid (HEv.out.chg hc2 (fun e => by have := (HIlt.out _ e.symm).2; omega))
 have HD2a := Lib.hid (HD1.out.chg hc2 (fun k e f => HNg.out.2 k f.symm e))
 have HW2a := Lib.hid (Chg.belowTrans HW1.out hc2 (fun k _ e => (HIlt.out k e.symm).1) HW1.out.size)
 have c7' := hG2.cell 7; have f7' := hG2.frozen 7
 simp only [List.getElem?_cons_succ, List.getElem?_cons_zero] at c7'
 have HG2a := Lib.hid hG2
 clear hc2 hI2 hG2
 go_wp2_with fail
 obtain ⟨u2, hu2⟩ : ∃ u2, u2 = w1.setCell ⟨g, 7, none⟩ (.slice a7 n7 m7) := ⟨_, rfl⟩
 have hst : Chg (fun k => k = g) w1 u2 := by rw [hu2]; exact (Chg.refl (fun k => k = g) _).set (Or.inr rfl) 7 _
 have HSt := Lib.hid hst
 have s3 := hst.size
 have hG2 : Blk u2 g 59 (gcs kk n t r i s x (.slice a7 n7 m7) vD) := by rw [hu2]; exact HG2a.out.set 7 _
 have HG2 := Lib.hid hG2
 have HI2 := Lib.hid (HI2a.out.chg hst (fun k e f => HGi.out (by rw [e, f])))
 have HE2 := Lib.hid (HE2a.out.chg hst (fun e => by omega))
 have HD2 := Lib.hid (HD2a.out.chg hst (fun k e f => HNg.out.1 (by rw [e, f])))
 have HBel := Lib.hid (Chg.belowTrans HW2a.out hst (fun k _ e => by rw [e]; exact hB) HW2a.out.size)
 rw [← hu2]
 clear hst hu2 hG2 c7 c7' f7'
 obtain ⟨i0, hi, hz0, hz1, hz2⟩ := info_parts info_dot
 have hApp : ∀ (w : World) (ty : TypeId), OwnD W.heap.size w vD ld rD → Below W.heap.size W w → ∃ v' w' row', (Builtin.append_ #[29, 29] ty #[vD, .slice da dl dc]).run Tryz.prog w = .ok v' w' ∧ OwnD W.heap.size w' v' (ld ++ d) row' ∧ w.grownBy w' rD ∧ New w rD row' := fun w ty ho hb => by
  have hs := srcD (HD0.out.below hb)
  rw [HDl.out] at hs
  exact LB.run_append_owned (P := Tryz.prog) encD_len w W.heap.size 29 29 ty i0 _ 16 Tryz.underlying29 hi hz0 hz1 hz2 rfl ho (.slice da dl dc) d (by rw [HDl.out]; exact hs) (by have := HDl.out; simp [maxLen]; omega) (by have := HDl.out; simp; omega)
 have HApp := Lib.hid hApp
 clear hApp hi hz0 hz1 hz2
 refine RegC.region_list (by kernel_rfl) [9, 13] [RegC.plain (fun v _ => v = .pointer (some ⟨g, 0, none⟩)), RegC.plain (fun v _ => v = .pointer (some ⟨g, 0, none⟩)), RegC.plain (fun v _ => v = .pointer (some ⟨g, 0, none⟩)), RegC.plain (fun v _ => v = .pointer (some ⟨g, 0, none⟩)), RegC.plain (fun v _ => v = .pointer (some ⟨g, 8, none⟩)), RegC.plain (fun v _ => v = vD), RegC.plain (fun v _ => v = .pointer (some ⟨u.heap.size, 4, none⟩)), RegC.plain (fun v _ => v = .pointer (some ⟨u.heap.size, 8, none⟩)), RegC.plain (fun v _ => v = .slice da dl dc), RegC.change (fun v w => ∃ row, OwnD W.heap.size w v (ld ++ d) row ∧ row ≠ some g ∧ ∀ b, rI = some b → row ≠ some b) (fun k => some k = rD), RegC.plain (fun v _ => v = .pointer (some ⟨g, 0, none⟩)), RegC.plain (fun v _ => v = .pointer (some ⟨g, 0, none⟩)), RegC.plain (fun v _ => v = .pointer (some ⟨g, 8, none⟩)), RegC.change (fun v w => ∃ v8 row, Blk w g 59 (gcs kk n t r i s x (.slice a7 n7 m7) v8) ∧ OwnD W.heap.size w v8 (ld ++ d) row ∧ row ≠ some g ∧ ∀ b, rI = some b → row ≠ some b) (fun k => k = g)] (by kernel_rfl) ?_ ?_ ?_ ?_ ?_
 ·exact ⟨Or.inr (fun _ h => h), Or.inr (fun _ h => h), Or.inr (fun _ h => h), Or.inr (fun _ h => h), Or.inr (fun _ h => h), Or.inr (fun _ h => h), Or.inr (fun _ h => h), Or.inr (fun _ h => h), Or.inr (fun _ h => h), Or.inl (by decide), Or.inr (fun _ h => h), Or.inr (fun _ h => h), Or.inr (fun _ h => h), Or.inl (by decide), trivial⟩
 ·refine ⟨k4, k4, k4, k4, k4, k4, k4, k4, k4, (fun v wa wb hb h => by obtain ⟨row, h1, h2, h3⟩ := h; exact ⟨row, h1.below hb, h2, h3⟩), k4, k4, k4, (fun v wa wb hb h => by obtain ⟨v8, row, h0, h1, h2, h3⟩ := h; exact ⟨v8, row, h0.below hb, h1.below hb, h2, h3⟩), trivial⟩
 ·refine ⟨⟨Or.inr (Or.inr k4), Or.inr (Or.inr k4), Or.inr (Or.inr k4), Or.inr (Or.inr k4), Or.inr (Or.inr k4), Or.inr (Or.inr k4), Or.inr (Or.inr k4), Or.inr (Or.inr k4), Or.inr (Or.inr k4), Or.inl rfl, Or.inr (Or.inr k4), Or.inr (Or.inr k4), Or.inr (Or.inr k4), Or.inr (Or.inl (by kernel_rfl)), trivial⟩, ⟨Or.inr (Or.inr k4), Or.inr (Or.inr k4), Or.inr (Or.inr k4), Or.inr (Or.inr k4), Or.inr (Or.inr k4), Or.inr (Or.inr k4), Or.inr (Or.inr k4), Or.inr (Or.inr k4), Or.inr (Or.inr k4), Or.inr (Or.inr (fun v wa wb hr h => by exact (by obtain ⟨row, h1, h2, h3⟩ := h; exact ⟨row, h1.chg hr (fun q e f => h2 (by rw [e, f])), h2, h3⟩))), Or.inr (Or.inr k4), Or.inr (Or.inr k4), Or.inr (Or.inr k4), Or.inl rfl, trivial⟩, trivial⟩
 ·refine ⟨?_, ?_, ?_, ?_, ?_, ?_, ?_, ?_, ?_, ?_, ?_, ?_, ?_, ?_, trivial⟩
  ·intro ev w hc hf hg hfix hdep hchg
   have e0 : ev (.tmp 0) = _ := hfix 0 (by decide)
   exact Or.inl ⟨trivial, Or.inl ⟨_, w, by go_simp, rfl, Chg.refl _ _⟩⟩
  ·intro ev w hc hf hg hfix hdep hchg
   have e0 : ev (.tmp 0) = _ := hfix 0 (by decide)
   exact Or.inl ⟨trivial, Or.inl ⟨_, w, by go_simp, rfl, Chg.refl _ _⟩⟩
  ·intro ev w hc hf hg hfix hdep hchg
   have e16 : ev (.tmp 16) = _ := hdep 1 (by decide)
   exact Or.inl ⟨trivial, Or.inl ⟨_, w, by go_simp, rfl, Chg.refl _ _⟩⟩
  ·intro ev w hc hf hg hfix hdep hchg
   have e17 : ev (.tmp 17) = _ := hdep 2 (by decide)
   exact Or.inl ⟨trivial, Or.inl ⟨_, w, by go_simp, rfl, Chg.refl _ _⟩⟩
  ·intro ev w hc hf hg hfix hdep hchg
   have e18 : ev (.tmp 18) = _ := hdep 3 (by decide)
   exact Or.inl ⟨trivial, Or.inl ⟨_, w, by go_simp, rfl, Chg.refl _ _⟩⟩
  ·intro ev w hc hf hg hfix hdep hchg
   have e19 : ev (.tmp 19) = _ := hdep 4 (by decide)
   have c8 : w.cell? ⟨g, 8, none⟩ = some vD := (HG2.out.below (RegC.chg0 (hchg [] (by kernel_rfl)))).cell 8
   exact Or.inl ⟨trivial, Or.inl ⟨_, w, by go_simp, rfl, Chg.refl _ _⟩⟩
  ·intro ev w hc hf hg hfix hdep hchg
   have e3 : ev (.tmp 3) = _ := hfix 3 (by decide)
   exact Or.inl ⟨trivial, Or.inl ⟨_, w, by go_simp, rfl, Chg.refl _ _⟩⟩
  ·intro ev w hc hf hg hfix hdep hchg
   have e21 : ev (.tmp 21) = _ := hdep 6 (by decide)
   exact Or.inl ⟨trivial, Or.inl ⟨_, w, by go_simp, rfl, Chg.refl _ _⟩⟩
  ·intro ev w hc hf hg hfix hdep hchg
   have e22 : ev (.tmp 22) = _ := hdep 7 (by decide)
   have c8 : w.cell? ⟨u.heap.size, 8, none⟩ = some (.slice da dl dc) := (HE2.out.below (RegC.chg0 (hchg [] (by kernel_rfl)))).cell 8
   exact Or.inl ⟨trivial, Or.inl ⟨_, w, by go_simp, rfl, Chg.refl _ _⟩⟩
  ·intro ev w hc hf hg hfix hdep hchg
   have e20 : ev (.tmp 20) = _ := hdep 5 (by decide)
   have e23 : ev (.tmp 23) = _ := hdep 8 (by decide)
   have hb0 : Below u2.heap.size u2 w := RegC.chg0 (hchg [] (by kernel_rfl))
   have hO : OwnD W.heap.size w vD ld rD := HD2.out.below hb0
   obtain ⟨v', w', row', h1, h2, h3, h4⟩ := HApp.out w _ hO (HBel.out.trans (hb0.mono HBel.out.size))
   refine Or.inl ⟨trivial, Or.inl ⟨v', w', RegC.exec_append (.tmp 20) (.tmp 23) 29 29 rfl e20 e23 h1, ⟨row', h2, ?_, ?_⟩, (Chg.of_grown h3).mono (fun k _ e => e)⟩⟩
   ·rcases h4 with rfl | ⟨q, rfl, hq⟩
    ·exact HNg.out.1
    ·intro e; have e2 := Option.some.inj e; have := hb0.size; have h5 := HG2.out.lt; omega
   ·rcases h4 with rfl | ⟨q, rfl, hq⟩
    ·exact HNg.out.2
    ·intro b hb e; have e2 := Option.some.inj e; have := hb0.size; have h5 := (HI2.out.lt b hb).2; omega
  ·intro ev w hc hf hg hfix hdep hchg
   have e15 : ev (.tmp 15) = _ := hdep 0 (by decide)
   exact Or.inl ⟨trivial, Or.inl ⟨_, w, by go_simp, rfl, Chg.refl _ _⟩⟩
  ·intro ev w hc hf hg hfix hdep hchg
   have e25 : ev (.tmp 25) = _ := hdep 10 (by decide)
   exact Or.inl ⟨trivial, Or.inl ⟨_, w, by go_simp, rfl, Chg.refl _ _⟩⟩
  ·intro ev w hc hf hg hfix hdep hchg
   have e26 : ev (.tmp 26) = _ := hdep 11 (by decide)
   exact Or.inl ⟨trivial, Or.inl ⟨_, w, by go_simp, rfl, Chg.refl _ _⟩⟩
  ·intro ev w hc hf hg hfix hdep hchg
   have e27 : ev (.tmp 27) = _ := hdep 12 (by decide)
   have e24 := hdep 9 (by decide)
   obtain ⟨row, h1, h2, h3⟩ := e24
   obtain ⟨a8, n8, m8, hv8⟩ := Own.slice h1
   have e24 : ev (.tmp 24) = .slice a8 n8 m8 := hv8
   rw [hv8] at h1
   have hG : Blk w g 59 (gcs kk n t r i s x (.slice a7 n7 m7) vD) := HG2.out.chg (RegC.chg1 (hchg [9] (by kernel_rfl))) (fun e => HNg.out.1 (Eq.symm e))
   have c8 := hG.cell 8; have f8 := hG.frozen 8
   simp only [List.getElem?_cons_succ, List.getElem?_cons_zero] at c8
   refine Or.inl ⟨trivial, Or.inr (Or.inr ⟨w.setCell ⟨g, 8, none⟩ (.slice a8 n8 m8), by go_simp, ⟨_, row, hG.set 8 _, h1.chg ((Chg.refl (fun k => k = g) w).set (Or.inr rfl) 8 _) (fun q e f => h2 (by rw [e, f])), h2, h3⟩, (Chg.refl (fun k => k = g) w).set (Or.inr rfl) 8 _⟩)⟩
 ·intro v w2 hv hb2
  have r0 : v 0 = _ := hv 0 (by decide)
  have r1 : v 1 = _ := hv 1 (by decide)
  have r2 : v 2 = _ := hv 2 (by decide)
  have r3 : v 3 = _ := hv 3 (by decide)
  have r4 : v 4 = _ := hv 4 (by decide)
  have r5 : v 5 = _ := hv 5 (by decide)
  have r6 : v 6 = _ := hv 6 (by decide)
  have r7 : v 7 = _ := hv 7 (by decide)
  have r8 : v 8 = _ := hv 8 (by decide)
  have r9 := hv 9 (by decide)
  have r10 : v 10 = _ := hv 10 (by decide)
  have r11 : v 11 = _ := hv 11 (by decide)
  have r12 : v 12 = _ := hv 12 (by decide)
  have r13 := hv 13 (by decide)
  simp only [Reg.putAll, Act.put, List.setIfInBounds_toArray, List.set_cons_zero, List.set_cons_succ, r0, r1, r2, r3, r4, r5, r6, r7, r8, r10, r11, r12]
  clear r0 r1 r2 r3 r4 r5 r6 r7 r8 r10 r11 r12 hv
  obtain ⟨v8, row8, hG3, hD3, hn3, hn4⟩ := r13
  have hc3 : Chg (fun k => some k = rD ∨ k = g) u2 w2 := RegC.end2 hb2
  have s4 := hc3.size
  have HI3 := Lib.hid (HI2.out.chg hc3 (fun k e f => f.elim (fun f => HNg.out.2 k e f.symm) (fun f => HGi.out (by rw [e, f]))))
  have HW3 := Lib.hid (Chg.belowTrans HBel.out hc3 (fun k hk e => e.elim (fun e => (HD2.out.lt k e.symm).1) (fun e => by rw [e]; exact hB)) HBel.out.size)
  have c8 := hG3.cell 8
  simp only [List.getElem?_cons_succ, List.getElem?_cons_zero] at c8
  have HG3 := Lib.hid hG3; have HD3 := Lib.hid hD3; have HN3 := Lib.hid (And.intro hn3 hn4)
  clear hG3 hD3 hn3 hn4 hb2 hc3 r9
  go_wp2_with fail
  refine (sortD_any v8 row8 (ld ++ d) W.heap.size _ HD3.out (by have := HDl.out; simp; omega)).mono ?_
  rintro e w3 ⟨rfl, ⟨ys, hperm, hsort, hD4⟩, hc4⟩
  have s5 := hc4.size
  have hG4 := HG3.out.chg hc4 (fun e => HN3.out.1 e.symm)
  have c8' := hG4.cell 8; have f8' := hG4.frozen 8
  simp only [List.getElem?_cons_succ, List.getElem?_cons_zero] at c8'
  have HI4 := Lib.hid (HI3.out.chg hc4 (fun k e f => HN3.out.2 k e f.symm))
  have HW4 := Lib.hid (Chg.belowTrans HW3.out hc4 (fun k hk e => (HD3.out.lt k e.symm).1) HW3.out.size)
  have HG4 := Lib.hid hG4; have HD4 := Lib.hid hD4; have HY := Lib.hid (Lm.buried_eq HPt.out hperm hsort)
  clear hG4 hD4 hc4 hperm hsort c8
  go_wp2_with fail
  refine (compactD_any v8 row8 ys W.heap.size _ HD4.out).mono ?_
  rintro e w4 ⟨⟨v9, rfl, hD5⟩, hc5⟩
  obtain ⟨a9, n9, m9, rfl⟩ := Own.slice hD5
  have s6 := hc5.size
  have hG5 := HG4.out.chg hc5 (fun e => HN3.out.1 e.symm)
  have c9 := hG5.cell 8; have f9 := hG5.frozen 8
  simp only [List.getElem?_cons_succ, List.getElem?_cons_zero] at c9
  have HI5 := Lib.hid (HI4.out.chg hc5 (fun k e f => HN3.out.2 k e f.symm))
  have HW5 := Lib.hid (Chg.belowTrans HW4.out hc5 (fun k hk e => (HD4.out.lt k e.symm).1) HW4.out.size)
  have HG5 := Lib.hid hG5; have HD5 := Lib.hid hD5
  clear hG5 hD5 hc5 c8' f8'
  go_wp2_with fail
  go_end0
  have hst5 : Chg (fun k => k = g) w4 (w4.setCell ⟨g, 8, none⟩ (.slice a9 n9 m9)) := (Chg.refl (fun k => k = g) _).set (Or.inr rfl) 8 _
  refine ⟨rfl, ⟨_, rI, _, row8, ⟨HG5.out.set 8 _, HI5.out.chg hst5 (fun k e f => HGi.out (by rw [e, f])), ?_, hB, HGi.out, HN3.out.1, HN3.out.2⟩⟩, Chg.belowTrans HW5.out hst5 (fun k _ e => by rw [e]; exact hB) HW5.out.size, by have s7 := hst5.size; omega⟩
  rw [← HY.out]
  exact HD5.out.chg hst5 (fun k e f => HN3.out.1 (by rw [e, f]))
end Go.Proofs.YteakbfbacfhhoaaGreat
