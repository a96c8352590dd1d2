import Derived.Test.YteakbfbacfhhoaaGreatZLeaf12
import Derived.Test.YteakbfbacfhhoaaGreatZOwn
import Derived.Shelf.Spec.SlicesInsert
namespace Go.Proofs.YteakbfbacfhhoaaGreat
open Go.RowKit Go.Buf Go.LB Go.Lib
set_option linter.unusedSimpArgs false
set_option linter.unusedVariables false
theorem hsz_item : (Tryz.prog.info? 47).map (·.size) = some 5 := by kernel_rfl
theorem elem_one (x : Lm.It) : [x].flatMap encI = encI x := by simp
set_option maxRecDepth 100000 in
set_option maxHeartbeats 6400000 in
theorem insertI_end (v : Value) (row : Option Nat) (l : List Lm.It) (x : Lm.It) (b n : Nat) (B : Nat) (W : World) (h : OwnI B W v l row) (hl : l.length = n) (hn : n ≤ 100000000) (hx : Blk W b 47 (encI x)) :
  Calls Tryz.prog 87 #[v, .int .i64 n, .slice (some ⟨b, 0, none⟩) 1 1] W fun e w' => (∃ v' row', e = .returned v' ∧ OwnI B w' v' (l ++ [x]) row' ∧ New W row row') ∧ Chg (fun k => some k = row) W w' := by
 obtain ⟨i0, hi, hz0, hz1, hz2⟩ := info_parts info_item
 have hs : Src Tryz.prog 5 28 (.slice (some ⟨b, 0, none⟩) 1 1) [x].length ([x].flatMap encI) W := by
  rw [elem_one]
  exact Src.ofSlice W Tryz.underlying28 ⟨b, 0, none⟩ 1 1 (encI x) rfl (fun j u hj => by rw [Addr.add_lit, Nat.zero_add, hx.cell]; exact hj) (encI_one x)
 have hrun : ∀ ty, ∃ v' w' row', (Builtin.append_ #[28, 28] ty #[v, .slice (some ⟨b, 0, none⟩) 1 1]).run Tryz.prog W = .ok v' w' ∧ OwnI B w' v' (l ++ [x]) row' ∧ W.grownBy w' row ∧ New W row row' := fun ty =>
  LB.run_append_owned (P := Tryz.prog) encI_len W B 28 28 ty i0 _ 40 Tryz.underlying28 hi hz0 hz1 hz2 rfl h (.slice (some ⟨b, 0, none⟩) 1 1) [x] hs (by simp [maxLen]; omega) (by simp; omega)
 obtain ⟨v', w1, row', h1, h2, h3, h4⟩ := hrun 28
 have H2 := Lib.hid h2; have H3 := Lib.hid h3; have H4 := Lib.hid h4
 have hcap : ∃ a c, v = .slice a n c ∧ n ≤ c ∧ c ≤ 9223372036854775807 := by
  rcases h.2 with ⟨_, rfl, a, rfl⟩ | ⟨g, cap, tl, _, rfl, _, _, h5, h6, _⟩
  ·simp at hl; subst hl; exact ⟨a, 0, rfl, by omega, by omega⟩
  ·rw [hl]; rw [hl] at h5; exact ⟨_, cap, rfl, h5, by unfold maxLen at h6; omega⟩
 obtain ⟨a, c, rfl, hc1, hc2⟩ := hcap
 clear h2 h3 h4 hrun hs hi hz0 hz1 hz2 h hx hl
 go_enter Tryz.func87, Tryz.ntmps87
 go_wp2_with (at_builtin; refine Lib.wpList_append_run _ rfl _ _ _ _ rfl _ _ rfl rfl _ _ h1 ?_)
 all_goals go_ret
 all_goals exact ⟨⟨_, rfl, row', H2.out, H4.out⟩, (Chg.of_grown H3.out).mono (fun k _ e => e)⟩
end Go.Proofs.YteakbfbacfhhoaaGreat
namespace Go.Proofs.YteakbfbacfhhoaaGreat
open Go.RowKit Go.Buf Go.LB Go.Lib
set_option linter.unusedSimpArgs false
set_option linter.unusedVariables false
theorem ovI {W : World} {b g : Nat} {x : Lm.It} {cs : List Value} (hx : Blk W b 47 (encI x)) (hb : Blk W g 47 cs) (h0 : cs.length ≠ 0) (hne : b ≠ g) (off lb cb : Nat) :
  (callFunc 95 #[.slice (some ⟨b, 0, none⟩) 1 1, .slice (some ⟨g, off, none⟩) lb cb]).run Tryz.prog W = .ok (.value (.bool false)) W := by
 rw [run_callFunc_extern Tryz.func95 (by kernel_rfl) (by kernel_rfl) (by kernel_rfl) (e := Extern.SlicesOverlaps.overlaps #[28, 28] #[4]) (by kernel_rfl)]
 rw [Lib.run_overlaps_apart W 28 4 47 Tryz.underlying28 5 Tryz.sizeOf47 ⟨b, 0, none⟩ ⟨g, off, none⟩ 1 1 lb cb hne _ _ _ _ hx.shape hb.shape h0 (hx.frozen 0) (hx.frozen _)]
 rfl
theorem copyI_up {W : World} {g n i cap : Nat} {l : List Lm.It} {tl : List Value} (hb : Blk W g 47 (l.flatMap encI ++ tl)) (hl : l.length = n) (hi : i < n) (hroom : n + 1 ≤ cap) (ht : (l.flatMap encI ++ tl).length = cap * 5) (ty : TypeId) (dc sc : Nat) :
  (Builtin.copy_ #[28, 28] ty #[.slice (some ⟨g, (i + 1) * 5, none⟩) (n - i) dc, .slice (some ⟨g, i * 5, none⟩) (n + 1 - i) sc]).run Tryz.prog W = .ok (goInt ((n - i : Nat) : Int)) (W.setCells g ((i + 1) * 5) ((l.drop i).flatMap encI)) := by
 have hdl : ((l.drop i).flatMap encI).length = (n - i) * 5 := by rw [enc_length encI_len, List.length_drop, hl]
 have hmin : Nat.min (n + 1 - i) (n - i) = n - i := Nat.min_eq_right (by omega)
 have hpre : ((l.take i).flatMap encI).length = i * 5 := by rw [enc_length encI_len, List.length_take, Nat.min_eq_left (by omega)]
 have hsrc : ∀ j v, ((l.drop i).flatMap encI)[j]? = some v → W.cell? ((⟨g, i * 5, none⟩ : Addr).add j) = some v := fun j u hj => by
  rw [Addr.add_lit, hb.cell, flat_parts (enc := encI) l i, List.append_assoc, List.getElem?_append_right (by rw [hpre]; omega), hpre, Nat.add_sub_cancel_left,
   List.getElem?_append_left (List.getElem?_eq_some_iff.1 hj).1]
  exact hj
 have hsome : ∀ j, j < ((l.drop i).flatMap encI).length → (W.cell? ⟨g, (i + 1) * 5 + j, none⟩).isSome = true := fun j hj => hb.some (by rw [ht]; rw [hdl] at hj; omega)
 have h := run_copy_flat (P := Tryz.prog) W 28 28 ty 47 5 g ((i + 1) * 5) (n - i) dc ⟨g, i * 5, none⟩ (n + 1 - i) sc ((l.drop i).flatMap encI) Tryz.underlying28 hsz_item (by rw [hdl, hmin]) hsrc hsome (fun j _ => hb.frozen _) (flatI_one _)
 rw [hmin] at h
 exact h
theorem copyI_one {W : World} {g b n i cap : Nat} {x : Lm.It} {cs : List Value} (hb : Blk W g 47 cs) (hx : Blk W b 47 (encI x)) (hi : i < n + 1) (hroom : n + 1 ≤ cap) (ht : cs.length = cap * 5) (ty : TypeId) (dc : Nat) :
  (Builtin.copy_ #[28, 28] ty #[.slice (some ⟨g, i * 5, none⟩) (n + 1 - i) dc, .slice (some ⟨b, 0, none⟩) 1 1]).run Tryz.prog W = .ok (goInt 1) (W.setCells g (i * 5) (encI x)) := by
 have hmin : Nat.min 1 (n + 1 - i) = 1 := Nat.min_eq_left (by omega)
 have hsrc : ∀ j v, (encI x)[j]? = some v → W.cell? ((⟨b, 0, none⟩ : Addr).add j) = some v := fun j u hj => by rw [Addr.add_lit, Nat.zero_add, hx.cell]; exact hj
 have hsome : ∀ j, j < (encI x).length → (W.cell? ⟨g, i * 5 + j, none⟩).isSome = true := fun j hj => hb.some (by rw [ht]; rw [encI_len] at hj; omega)
 have h := run_copy_flat (P := Tryz.prog) W 28 28 ty 47 5 g (i * 5) (n + 1 - i) dc ⟨b, 0, none⟩ 1 1 (encI x) Tryz.underlying28 hsz_item (by rw [hmin]; rfl) hsrc hsome (fun j _ => hb.frozen _) (encI_one x)
 rw [hmin] at h
 exact h
set_option maxRecDepth 100000 in
set_option maxHeartbeats 12800000 in
theorem insertI_shift (g cap n i : Nat) (tl : List Value) (l : List Lm.It) (x : Lm.It) (b : Nat) (W : World) (hb : Blk W g 47 (l.flatMap encI ++ tl)) (hl : l.length = n) (hi : i < n) (hroom : n + 1 ≤ cap) (hm : cap ≤ 9223372036854775807) (ht : (l.flatMap encI ++ tl).length = cap * 5) (hx : Blk W b 47 (encI x)) (hne : b ≠ g) :
  Calls Tryz.prog 87 #[.slice (some ⟨g, 0, none⟩) n cap, .int .i64 i, .slice (some ⟨b, 0, none⟩) 1 1] W fun e w' => e = .returned (.slice (some ⟨g, 0, none⟩) (n + 1) cap) ∧ Blk w' g 47 ((l.take i ++ x :: l.drop i).flatMap encI ++ tl.drop 5) ∧ Chg (fun k => k = g) W w' := by
 have hfl : (l.flatMap encI).length = n * 5 := by rw [enc_length encI_len, hl]
 have htl : tl.length = cap * 5 - n * 5 := by rw [List.length_append, hfl] at ht; omega
 have hov := ovI hx hb (by rw [ht]; omega) hne
 have hdl : ((l.drop i).flatMap encI).length = (n - i) * 5 := by rw [enc_length encI_len, List.length_drop, hl]
 have hcp1 := fun ty dc sc => copyI_up (W := W.drew) (i := i) hb hl hi hroom ht ty dc sc
 obtain ⟨W1, hW1⟩ : ∃ W1, W1 = W.drew.setCells g ((i + 1) * 5) ((l.drop i).flatMap encI) := ⟨_, rfl⟩
 have hc1 : Chg (fun k => k = g) W W1 := by rw [hW1]; exact (Chg.refl (fun k => k = g) W).drew.sets (Or.inr rfl) _ _
 have hb1 : ∃ cs, Blk W1 g 47 cs ∧ cs.length = cap * 5 := by
  have hle : (i + 1) * 5 + ((l.drop i).flatMap encI).length ≤ (l.flatMap encI ++ tl).length := by rw [ht, hdl]; omega
  have h1 := Blk.setCells (w := W.drew) ((l.drop i).flatMap encI) ((i + 1) * 5) hb hle
  exact ⟨_, by rw [hW1]; exact h1, by rw [splice_len _ _ _ hle, ht]⟩
 obtain ⟨cs, hb1, hcs⟩ := hb1
 have hx1 := hx.chg hc1 (fun e => hne e)
 have hcp2 := fun ty dc => copyI_one hb1 hx1 (show i < n + 1 by omega) hroom hcs ty dc
 have hfin := Blk.shifted (w := W.drew) encI_len (i := i) hb (by omega) (by rw [htl]; omega) x
 have hfin2 : Blk (W1.setCells g (i * 5) (encI x)) g 47 ((l.take i ++ x :: l.drop i).flatMap encI ++ tl.drop 5) := by rw [hW1]; exact hfin
 have HFin := Lib.hid hfin2
 have HC := Lib.hid (hc1.sets (S := fun k => k = g) (Or.inr rfl) (i * 5) (encI x))
 rw [← hW1] at hcp1
 have hz2 : ((i : Int) == (n : Int)) = false := by simp; omega
 have hw1 : IntKind.i64.wrap ((i : Int) + 1) = (i : Int) + 1 := by simp [IntKind.wrap, IntKind.bits, IntKind.signed]; omega
 have hw2 : IntKind.i64.wrap ((n : Int) + 1) = (n : Int) + 1 := by simp [IntKind.wrap, IntKind.bits, IntKind.signed]; omega
 have hb0 : (0 : Int) ≤ (i : Int) := by omega
 have hb1' : (0 : Int) ≤ (i : Int) + 1 := by omega
 have hb2 : ¬ (cap = i + 1) := by omega
 have hb3 : (i : Int) ≤ (n : Int) + 1 := by omega
 have hb4 : ¬ (cap = i) := by omega
 have hb5 : (i : Int) ≤ (n : Int) := by omega
 have hb6 : ((i : Int) + 1).toNat = i + 1 := by omega
 have hb7 : ((n : Int) + 1).toNat = n + 1 := by omega
 have hb8 : (n : Int) + 1 ≤ (cap : Int) := by omega
 have hb9 : (i : Int) + 1 ≤ (n : Int) + 1 := by omega
 have hb10 : ¬ ((cap : Int) < (n : Int) + 1) := by omega
 have hb11 : (0 : Int) ≤ (n : Int) + 1 := by omega
 clear hfin hfin2 hc1 hb1 hcs hx1 hW1 hdl htl hfl ht hl hb hx
 go_enter Tryz.func87, Tryz.ntmps87
 go_wp2_with (simp only [hov])
 go_region_law (refine step_copy_runI rfl _ _ 28 28 rfl _ _ (by simp [Act.eval, Act.put]) (by simp [Act.eval, Act.put]) (hcp1 _ _ _) ?_)
 go_wp2_with (at_builtin; refine wpList_copy_runI _ rfl _ _ 28 28 rfl _ _ rfl rfl (hcp2 _ _) ?_)
 go_ret
 exact ⟨rfl, HFin.out, HC.out⟩
end Go.Proofs.YteakbfbacfhhoaaGreat
namespace Go.Proofs.YteakbfbacfhhoaaGreat
open Go.RowKit Go.Buf Go.LB Go.Lib
set_option linter.unusedSimpArgs false
set_option linter.unusedVariables false
theorem setCells_heap (b : Nat) : ∀ (vs : List Value) (o : Nat) {w w' : World}, w.heap = w'.heap → (w.setCells b o vs).heap = (w'.setCells b o vs).heap
 | [], _, _, _, h => h
 | v :: r, o, w, w', h => setCells_heap b r (o + 1) (by unfold World.setCell; rw [h])
theorem Blk.of_heap {w w' : World} {b : Nat} {t : TypeId} {cs : List Value} (h : Blk w b t cs) (e : w'.heap = w.heap) : Blk w' b t cs := by unfold Blk at h ⊢; rw [e]; exact h
theorem copyI_tail {W : World} {g N n i K : Nat} {l : List Lm.It} {tl cs : List Value} (hb : Blk W g 47 (l.flatMap encI ++ tl)) (hN : Blk W N 47 cs) (hl : l.length = n) (hi : i < n) (hroom : n + 1 ≤ K) (ht : cs.length = K * 5) (ty : TypeId) (dc sc : Nat) :
  (Builtin.copy_ #[28, 28] ty #[.slice (some ⟨N, (i + 1) * 5, none⟩) (n - i) dc, .slice (some ⟨g, i * 5, none⟩) (n - i) sc]).run Tryz.prog W = .ok (goInt ((n - i : Nat) : Int)) (W.setCells N ((i + 1) * 5) ((l.drop i).flatMap encI)) := by
 have hdl : ((l.drop i).flatMap encI).length = (n - i) * 5 := by rw [enc_length encI_len, List.length_drop, hl]
 have hmin : Nat.min (n - i) (n - i) = n - i := Nat.min_self _
 have hpre : ((l.take i).flatMap encI).length = i * 5 := by rw [enc_length encI_len, List.length_take, Nat.min_eq_left (by omega)]
 have hsrc : ∀ j v, ((l.drop i).flatMap encI)[j]? = some v → W.cell? ((⟨g, i * 5, none⟩ : Addr).add j) = some v := fun j u hj => by
  rw [Addr.add_lit, hb.cell, flat_parts (enc := encI) l i, List.append_assoc, List.getElem?_append_right (by rw [hpre]; omega), hpre, Nat.add_sub_cancel_left,
   List.getElem?_append_left (List.getElem?_eq_some_iff.1 hj).1]
  exact hj
 have hsome : ∀ j, j < ((l.drop i).flatMap encI).length → (W.cell? ⟨N, (i + 1) * 5 + j, none⟩).isSome = true := fun j hj => hN.some (by rw [ht]; rw [hdl] at hj; omega)
 have h := run_copy_flat (P := Tryz.prog) W 28 28 ty 47 5 N ((i + 1) * 5) (n - i) dc ⟨g, i * 5, none⟩ (n - i) sc ((l.drop i).flatMap encI) Tryz.underlying28 hsz_item (by rw [hdl, hmin]) hsrc hsome (fun j _ => hN.frozen _) (flatI_one _)
 rw [hmin] at h
 exact h
set_option maxRecDepth 100000 in
set_option maxHeartbeats 12800000 in
theorem insertI_grow (g cap n i : Nat) (tl : List Value) (l : List Lm.It) (x : Lm.It) (b B : Nat) (W : World) (hB : B ≤ W.heap.size) (hb : Blk W g 47 (l.flatMap encI ++ tl)) (hl : l.length = n) (hi : i < n) (hnc : n ≤ cap) (hroom : cap < n + 1) (hn : n ≤ 100000000) (hx : Blk W b 47 (encI x)) :
  Calls Tryz.prog 87 #[.slice (some ⟨g, 0, none⟩) n cap, .int .i64 i, .slice (some ⟨b, 0, none⟩) 1 1] W fun e w' => (∃ v', e = .returned v' ∧ OwnI B w' v' (l.take i ++ x :: l.drop i) (some W.heap.size)) ∧ Below W.heap.size W w' := by
 obtain ⟨i0, hi0, hz0, hzs, hzb⟩ := info_parts info_item
 have hgw := hb.lt
 have hbw := hx.lt
 have hfl : (l.flatMap encI).length = n * 5 := by rw [enc_length encI_len, hl]
 have hpre : ((l.take i).flatMap encI).length = i * 5 := by rw [enc_length encI_len, List.length_take, Nat.min_eq_left (by omega)]
 have hkk : (n : Int) + 1 - (i : Int) = ((n + 1 - i : Nat) : Int) := by omega
 have hik : i + (n + 1 - i) = n + 1 := by omega
 have hold : (Builtin.firstCells i0.size i (.slice (some ⟨g, 0, none⟩) i cap)).run Tryz.prog W.drew = .ok ((l.take i).flatMap encI).toArray W.drew := by
  rw [hzs]
  exact run_firstCells_some W.drew 5 i ⟨g, 0, none⟩ i cap ((l.take i).flatMap encI) hpre (fun j v hj => by
   have h0 : W.cell? ⟨g, j, none⟩ = some v := by
    rw [hb.cell, flat_parts (enc := encI) l i, List.append_assoc, List.getElem?_append_left (List.getElem?_eq_some_iff.1 hj).1]; exact hj
   rw [Addr.add_lit, Nat.zero_add]; exact h0)
 have hrz : ∀ ty, (Builtin.append_ #[28, 3] ty #[.slice (some ⟨g, 0, none⟩) i cap, .int .i64 ((n : Int) + 1 - (i : Int))]).run Tryz.prog W =
   .ok (.slice (some ⟨W.heap.size, 0, none⟩) (n + 1) (grownCap W (n + 1) cap 47)) (W.drew.alloc (.cells (((l.take i).flatMap encI).toArray ++ Builtin.zeroCells (Value.agg #[.int .u64 0, .int .u8 0, .int .u32 0, .int .u64 0, .string ⟨#[]⟩]).cells (n + 1 - i) ++ Builtin.zeroCells (Value.agg #[.int .u64 0, .int .u8 0, .int .u32 0, .int .u64 0, .string ⟨#[]⟩]).cells (grownCap W (n + 1) cap 47 - (n + 1))) 47)) := fun ty => by
  have h := Lib.run_append_grow_zeros W 28 3 ty 47 i0 _ .i64 .i64 Tryz.underlying28 Tryz.underlying3 hi0 hz0 (some ⟨g, 0, none⟩) i cap ((l.take i).flatMap encI) hold (n + 1 - i) (by omega) (by omega) (by omega) (by omega) (by rw [hzb]; omega) (by rw [hzb, hik]; exact growslice_fits hroom (by omega))
  rw [hik] at h
  rw [hkk]
  exact h
 obtain ⟨G, hG⟩ : ∃ G, G = grownCap W (n + 1) cap 47 := ⟨_, rfl⟩
 have hGn : n + 1 ≤ G := by rw [hG]; exact grownCap_ge W _ _ _
 have hG63 : G ≤ maxLen := by
  rw [hG]; exact grownCap_le_maxLen W (n + 1) cap 47 (by unfold maxLen; omega)
 rw [← hG] at hrz
 obtain ⟨ZA, hZA⟩ : ∃ ZA, ZA = Builtin.zeroCells (Value.agg #[.int .u64 0, .int .u8 0, .int .u32 0, .int .u64 0, .string ⟨#[]⟩]).cells (n + 1 - i) := ⟨_, rfl⟩
 obtain ⟨ZB, hZB⟩ : ∃ ZB, ZB = Builtin.zeroCells (Value.agg #[.int .u64 0, .int .u8 0, .int .u32 0, .int .u64 0, .string ⟨#[]⟩]).cells (G - (n + 1)) := ⟨_, rfl⟩
 rw [← hZA, ← hZB] at hrz
 have hZAl : ZA.toList.length = (n + 1 - i) * 5 := by rw [hZA]; simp [Builtin.zeroCells, Value.cells]
 have hZBl : ZB.toList.length = (G - (n + 1)) * 5 := by rw [hZB]; simp [Builtin.zeroCells, Value.cells]
 clear hZA hZB hold hfl hG hz0 hzs hzb hi0
 obtain ⟨W1, hW1⟩ : ∃ W1, W1 = W.drew.alloc (.cells (((l.take i).flatMap encI).toArray ++ ZA ++ ZB) 47) := ⟨_, rfl⟩
 rw [← hW1] at hrz
 have hN1 : Blk W1 W.heap.size 47 ((l.take i).flatMap encI ++ ZA.toList ++ ZB.toList) := by
  have := Blk.new W.drew (((l.take i).flatMap encI).toArray ++ ZA ++ ZB) 47
  rw [hW1]; simpa using this
 have hNl : ((l.take i).flatMap encI ++ ZA.toList ++ ZB.toList).length = G * 5 := by rw [List.length_append, List.length_append, hpre, hZAl, hZBl]; omega
 have hbel1 : Below W.heap.size W W1 := by rw [hW1]; exact (Below.refl W.heap.size W).drew.alloc (Nat.le_refl _) _
 have hg1 := hb.below hbel1
 have hx1 := hx.below hbel1
 have hcpA : ∀ (Wx : World), Wx.heap = W1.heap → ∀ ty dc, (Builtin.copy_ #[28, 28] ty #[.slice (some ⟨W.heap.size, i * 5, none⟩) (n + 1 - i) dc, .slice (some ⟨b, 0, none⟩) 1 1]).run Tryz.prog Wx = .ok (goInt 1) (Wx.setCells W.heap.size (i * 5) (encI x)) := fun Wx e ty dc =>
  copyI_one (Blk.of_heap hN1 e) (Blk.of_heap hx1 e) (by omega) hGn hNl ty dc
 have hle2 : i * 5 + (encI x).length ≤ ((l.take i).flatMap encI ++ ZA.toList ++ ZB.toList).length := by rw [hNl, encI_len]; omega
 have hN2 := Blk.setCells (encI x) (i * 5) hN1 hle2
 have hNl2 : (LB.splice ((l.take i).flatMap encI ++ ZA.toList ++ ZB.toList) (encI x) (i * 5)).length = G * 5 := by rw [splice_len _ _ _ hle2, hNl]
 have hg2 : Blk (W1.setCells W.heap.size (i * 5) (encI x)) g 47 (l.flatMap encI ++ tl) := hg1.chg ((Chg.refl (fun k => k = W.heap.size) W1).sets (Or.inr rfl) _ _) (fun e => by omega)
 have hcpB : ∀ (Wx : World), Wx.heap = (W1.setCells W.heap.size (i * 5) (encI x)).heap → ∀ ty dc sc, (Builtin.copy_ #[28, 28] ty #[.slice (some ⟨W.heap.size, (i + 1) * 5, none⟩) (n - i) dc, .slice (some ⟨g, i * 5, none⟩) (n - i) sc]).run Tryz.prog Wx = .ok (goInt ((n - i : Nat) : Int)) (Wx.setCells W.heap.size ((i + 1) * 5) ((l.drop i).flatMap encI)) := fun Wx e ty dc sc =>
  copyI_tail (Blk.of_heap hg2 e) (Blk.of_heap hN2 e) hl hi hGn hNl2 ty dc sc
 have hfin : ∀ (Wx Wy : World), Wx.heap = W1.heap → Wy.heap = (Wx.setCells W.heap.size (i * 5) (encI x)).heap → Blk (Wy.setCells W.heap.size ((i + 1) * 5) ((l.drop i).flatMap encI)) W.heap.size 47 ((l.take i ++ x :: l.drop i).flatMap encI ++ ZB.toList) := fun Wx Wy e1 e2 => by
  have h := Blk.filled encI_len hN1 (by omega) (by rw [hZAl, hl]) x
  exact Blk.of_heap h (setCells_heap _ _ _ (e2.trans (setCells_heap _ _ _ e1)))
 have hcpB2 := hcpB ((W1.setCells W.heap.size (i * 5) (encI x)).drew) rfl 3 (G - (i + 1)) (cap - i)
 have HFin := Lib.hid (hfin W1 (W1.setCells W.heap.size (i * 5) (encI x)).drew rfl rfl)
 have HC0 : Below W.heap.size W (((W1.setCells W.heap.size (i * 5) (encI x)).drew).setCells W.heap.size ((i + 1) * 5) ((l.drop i).flatMap encI)) := by
  have h1 : Chg (fun k => k = W.heap.size) W W1 := (Chg.of_below hbel1)
  exact (((h1.sets (Or.inr rfl) (i * 5) (encI x)).drew).sets (Or.inr rfl) _ _).below (fun k hk e => by omega) (Nat.le_refl _)
 have HC := Lib.hid HC0
 have hlen : (l.take i ++ x :: l.drop i).length = n + 1 := by rw [List.length_append, List.length_take, List.length_cons, List.length_drop, hl, Nat.min_eq_left (by omega)]; omega
 have hfl2 : ((l.take i ++ x :: l.drop i).flatMap encI ++ ZB.toList).length = G * 5 := by rw [List.length_append, enc_length encI_len, hlen, hZBl]; omega
 have HLen := Lib.hid hlen; have HF2 := Lib.hid hfl2
 have hz2 : ((i : Int) == (n : Int)) = false := by simp; omega
 have hz3 : (cap : Int) < (n : Int) + 1 := by omega
 have hw1 : IntKind.i64.wrap ((i : Int) + 1) = (i : Int) + 1 := by simp [IntKind.wrap, IntKind.bits, IntKind.signed]; omega
 have hw2 : IntKind.i64.wrap ((n : Int) + 1) = (n : Int) + 1 := by simp [IntKind.wrap, IntKind.bits, IntKind.signed]; omega
 have hw3 : IntKind.i64.wrap ((n : Int) + 1 - (i : Int)) = (n : Int) + 1 - (i : Int) := by simp [IntKind.wrap, IntKind.bits, IntKind.signed]; omega
 have hb0 : (0 : Int) ≤ (i : Int) := by omega
 have hb1' : (0 : Int) ≤ (i : Int) + 1 := by omega
 have hb3 : (i : Int) ≤ (n : Int) + 1 := by omega
 have hb5 : (i : Int) ≤ (n : Int) := by omega
 have hb5' : (i : Int) ≤ (cap : Int) := by omega
 have hb6 : ((i : Int) + 1).toNat = i + 1 := by omega
 have hb9 : (i : Int) + 1 ≤ (n : Int) + 1 := by omega
 have hGi : ¬ (G = i) := by omega
 have hGim : ¬ (G = i + 1) := by omega
 have hci : ¬ (cap = i) := by omega
 clear hlen hfl2 HC0 hcpB hfin hN1 hNl hbel1 hg1 hx1 hle2 hN2 hNl2 hg2 hW1 hZAl hZBl hkk hik hpre hl hb hx
 go_enter Tryz.func87, Tryz.ntmps87
 go_wp2_with (first
  | (at_builtin; refine Lib.wpList_append_run _ rfl _ _ _ _ rfl _ _ rfl rfl _ _ (hrz _) ?_)
  | (at_builtin; refine wpList_copy_runI _ rfl _ _ 28 28 rfl _ _ rfl rfl (hcpA _ rfl _ _) ?_))
 go_region_law (refine step_copy_runI rfl _ _ 28 28 rfl (.slice (some ⟨W.heap.size, (i + 1) * 5, none⟩) (n - i) (G - (i + 1))) (.slice (some ⟨g, i * 5, none⟩) (n - i) (cap - i)) (by simp [Act.eval, Act.put]) (by simp [Act.eval, Act.put]) hcpB2 ?_)
 go_wp2
 go_ret
 refine ⟨⟨_, rfl, Nat.le_trans hB HC.out.size, Or.inr ⟨W.heap.size, G, ZB.toList, rfl, ?_, hB, HFin.out, by rw [HLen.out]; exact hGn, hG63, HF2.out⟩⟩, HC.out⟩
 rw [HLen.out]; rfl
theorem insertI_any (v : Value) (row : Option Nat) (l : List Lm.It) (x : Lm.It) (b i : Nat) (B : Nat) (W : World) (h : OwnI B W v l row) (hi : i ≤ l.length) (hn : l.length ≤ 100000000) (hx : Blk W b 47 (encI x)) (hb : row ≠ some b) :
  Calls Tryz.prog 87 #[v, .int .i64 i, .slice (some ⟨b, 0, none⟩) 1 1] W fun e w' => (∃ v' row', e = .returned v' ∧ OwnI B w' v' (l.take i ++ x :: l.drop i) row' ∧ New W row row') ∧ Chg (fun k => some k = row) W w' := by
 by_cases he : i = l.length
 ·subst he
  have := insertI_end v row l x b l.length B W h rfl hn hx
  rwa [List.take_length, List.drop_length]
 have hlt : i < l.length := by omega
 rcases h.2 with ⟨_, rfl, _⟩ | ⟨g, cap, tl, rfl, rfl, h3, h4, h5, h6, h7⟩
 ·simp at hlt
 have hlen : (l.take i ++ x :: l.drop i).length = l.length + 1 := by rw [List.length_append, List.length_take, List.length_cons, List.length_drop, Nat.min_eq_left (by omega)]; omega
 by_cases hr : l.length + 1 ≤ cap
 ·refine (insertI_shift g cap l.length i tl l x b W h4 rfl hlt hr (by unfold maxLen at h6; omega) h7 hx (fun e => hb (by rw [e]))).mono ?_
  rintro e w' ⟨rfl, hbk, hc⟩
  refine ⟨⟨_, some g, rfl, ⟨Nat.le_trans h.1 hc.size, Or.inr ⟨g, cap, tl.drop 5, rfl, by rw [hlen], h3, hbk, by rw [hlen]; exact hr, h6, ?_⟩⟩, Or.inl rfl⟩, hc.mono (fun k _ e => by rw [e])⟩
  have h8 := h7
  rw [List.length_append, enc_length encI_len] at h8 ⊢
  rw [hlen, List.length_drop]; omega
 ·refine (insertI_grow g cap l.length i tl l x b B W h.1 h4 rfl hlt h5 (by omega) hn hx).mono ?_
  rintro e w' ⟨⟨v', rfl, ho⟩, hbel⟩
  exact ⟨⟨v', _, rfl, ho, Or.inr ⟨_, rfl, Nat.le_refl _⟩⟩, Chg.of_below hbel⟩
end Go.Proofs.YteakbfbacfhhoaaGreat
namespace Go.Proofs.YteakbfbacfhhoaaGreat
open Go.RowKit Go.Buf Go.LB Go.Lib
set_option linter.unusedSimpArgs false
set_option linter.unusedVariables false
theorem enters_ins : Enters 86 := enters_of Tryz.func86 (by kernel_rfl) (by kernel_rfl)
set_option maxRecDepth 100000 in
set_option maxHeartbeats 2000000 in
theorem search_any (n : Nat) (f : Nat) (cp : Array Value) (p : Nat → Bool) (W : World) (hn : n ≤ 1000000000) (hE : Enters f) (hmono : ∀ i j, i ≤ j → j < n → p i = true → p j = true)
  (hF : ∀ (i : Nat) (w : World), i < n → Below W.heap.size W w → Calls Tryz.prog f (#[.int .i64 (i : Int)] ++ cp) w fun e w' => e = .returned (.bool (p i)) ∧ Below w.heap.size w w') :
  Calls Tryz.prog 85 #[.int .i64 n, .func (.func f) #[] cp] W fun e w' => (∃ k : Nat, e = .returned (.int .i64 k) ∧ k ≤ n ∧ (∀ j, j < k → p j = false) ∧ ∀ j, k ≤ j → j < n → p j = true) ∧ Below W.heap.size W w' := by
 have HE := Lib.hid hE; have HM := Lib.hid hmono; have HF := Lib.hid hF
 clear hE hmono hF
 go_enter Tryz.func85, Tryz.ntmps85
 go_wp2_with fail
 go_loopw [5, 6, 7] (fun x y _ wr => ∃ lo hi : Nat, lo ≤ hi ∧ hi ≤ n ∧ x = .int .i64 lo ∧ y = .int .i64 hi ∧ Below W.heap.size W wr ∧ (∀ j, j < lo → p j = false) ∧ ∀ j, hi ≤ j → j < n → p j = true) (fun x y _ _ => (intOf y).toNat - (intOf x).toNat)
 case atStart => exact ⟨0, n, by omega, by omega, rfl, rfl, Below.refl _ _, fun j h => by omega, fun j h g => by omega⟩
 case round =>
  obtain ⟨lo, hi, hlh, hhn, rfl, rfl, hbel, hlow, hhigh⟩ := hrel
  have HB := Lib.hid hbel; have HLo := Lib.hid hlow; have HHi := Lib.hid hhigh
  clear hbel hlow hhigh
  by_cases hlt : lo < hi
  ·obtain ⟨m, hm⟩ : ∃ m : Nat, m = (lo + hi) / 2 := ⟨_, rfl⟩
   have hm1 : lo ≤ m := by omega
   have hm2 : m < hi := by omega
   have hmi : ((lo : Int) + (hi : Int)) / 2 = (m : Int) := by omega
   have w1 : IntKind.i64.wrap ((lo : Int) + (hi : Int)) = (lo : Int) + (hi : Int) := by simp [IntKind.wrap, IntKind.bits, IntKind.signed]; omega
   have HMI := Lib.hid hmi
   clear hm hmi
   go_wp2_with fail
   simp only [HMI.out]
   rw [HE.out, Oper.upon_enter]
   refine (HF.out m _ (by omega) HB.out).mono ?_
   rintro e w2 ⟨rfl, hb⟩
   have HB2 := Lib.hid (HB.out.trans (hb.mono HB.out.size)); clear hb
   cases hpm : p m
   ·have hwm : IntKind.i64.wrap ((m : Int) + 1) = (m : Int) + 1 := by simp [IntKind.wrap, IntKind.bits, IntKind.signed]; omega
    have hlow2 : ∀ j, j < m + 1 → p j = false := fun j hj => by
     cases hpj : p j
     ·rfl
     ·have := HM.out j m (by omega) (by omega) hpj
      rw [hpm] at this; cases this
    have HLo2 := Lib.hid hlow2
    clear hlow2 hpm
    go_wp2_with fail
    go_roundw
    case rel => exact ⟨m + 1, hi, by omega, hhn, by go_num, rfl, HB2.out, HLo2.out, HHi.out⟩
    case measure => simp [intOf]; omega
   ·have hhigh2 : ∀ j, m ≤ j → j < n → p j = true := fun j hj hn => HM.out m j hj hn hpm
    have HHi2 := Lib.hid hhigh2
    clear hhigh2 hpm
    go_wp2_with fail
    go_roundw
    case rel => exact ⟨lo, m, hm1, by omega, rfl, rfl, HB2.out, HLo.out, HHi2.out⟩
    case measure => simp [intOf]; omega
  ·obtain rfl : lo = hi := by omega
   go_wp2_with fail
   go_ret
   exact ⟨⟨lo, rfl, hhn, HLo.out, HHi.out⟩, HB.out⟩
set_option maxRecDepth 100000 in
set_option maxHeartbeats 4000000 in
theorem ins1_any (j c0 c1 g m cap : Nat) (a : Option Addr) (kk : Nat) (n : Int) (t r i s : Nat) (x : ByteArray) (vD : Value) (z : Lm.It) (li : List Lm.It) (u : World) (h0 : u.cell? ⟨c0, 0, none⟩ = some (.pointer (some ⟨g, 0, none⟩))) (h1 : Blk u c1 47 (encI z)) (hg : Blk u g 59 (gcs kk n t r i s x (.slice a m cap) vD)) (hr : IRow u a cap li) (hl : li.length = m) (hj : j < m) (hm : m ≤ 1000000000) :
  Calls Tryz.prog 86 #[.int .i64 (j : Int), .pointer (some ⟨c1, 0, none⟩), .pointer (some ⟨c0, 0, none⟩)] u fun e w' => (∀ y, li[j]? = some y → e = .returned (.bool (Lm.aheadI z y))) ∧ Below u.heap.size u w' := by
 obtain ⟨y, hy⟩ := geti_some (l := li) (i := j) (by omega)
 obtain ⟨blk, off, rfl, hblk, hcells⟩ := hr.at (by omega)
 obtain ⟨g0, g1, g2, g3, g4⟩ := hcells j y hy
 obtain ⟨t', ⟨⟨r', i'⟩, s'⟩, y'⟩ := z
 obtain ⟨t'', ⟨⟨r'', i''⟩, s''⟩, y''⟩ := y
 have k0 := h1.cell 0; have k1 := h1.cell 1; have k2 := h1.cell 2; have k3 := h1.cell 3; have k4 := h1.cell 4
 have k7 := hg.cell 7
 simp only [encI, List.getElem?_cons_succ, List.getElem?_cons_zero] at k0 k1 k2 k3 k4 k7
 simp only at g0 g1 g2 g3 g4
 have hC : ∀ w2, Below u.drew.heap.size u.drew w2 → w2.cell? ⟨c0, 0, none⟩ = some (.pointer (some ⟨g, 0, none⟩)) ∧ w2.cell? ⟨c1, 0, none⟩ = some (.int .u64 (t' : Int)) ∧ w2.cell? ⟨c1, 1, none⟩ = some (.int .u8 (r' : Int)) ∧ w2.cell? ⟨c1, 2, none⟩ = some (.int .u32 (i' : Int)) ∧ w2.cell? ⟨c1, 3, none⟩ = some (.int .u64 (s' : Int)) ∧ w2.cell? ⟨c1, 4, none⟩ = some (.string y') ∧ w2.cell? ⟨g, 7, none⟩ = some (.slice (some ⟨blk, off, none⟩) m cap) ∧
   w2.cell? ⟨blk, off + j * 5, none⟩ = some (.int .u64 (t'' : Int)) ∧ w2.cell? ⟨blk, off + j * 5 + 1, none⟩ = some (.int .u8 (r'' : Int)) ∧ w2.cell? ⟨blk, off + j * 5 + 2, none⟩ = some (.int .u32 (i'' : Int)) ∧ w2.cell? ⟨blk, off + j * 5 + 3, none⟩ = some (.int .u64 (s'' : Int)) ∧ w2.cell? ⟨blk, off + j * 5 + 4, none⟩ = some (.string y'') := fun w2 h =>
  ⟨(h.cell (World.block_lt_of_cell? _ _ h0)).trans h0, (h.cell (World.block_lt_of_cell? _ _ k0)).trans k0, (h.cell (World.block_lt_of_cell? _ _ k1)).trans k1, (h.cell (World.block_lt_of_cell? _ _ k2)).trans k2, (h.cell (World.block_lt_of_cell? _ _ k3)).trans k3, (h.cell (World.block_lt_of_cell? _ _ k4)).trans k4, (h.cell (World.block_lt_of_cell? _ _ k7)).trans k7,
   (h.cell (World.block_lt_of_cell? _ _ g0)).trans g0, (h.cell (World.block_lt_of_cell? _ _ g1)).trans g1, (h.cell (World.block_lt_of_cell? _ _ g2)).trans g2, (h.cell (World.block_lt_of_cell? _ _ g3)).trans g3, (h.cell (World.block_lt_of_cell? _ _ g4)).trans g4⟩
 have HC := Lib.hid hC; have HY := Lib.hid hy
 have j0 : (0 : Int) ≤ (j : Int) := by omega
 have j1 : (j : Int) < (m : Int) := by omega
 clear hC hy hcells g0 g1 g2 g3 g4 k0 k1 k2 k3 k4 k7 h0 h1 hg hr
 go_enter Tryz.func86, Tryz.ntmps86
 go_wp2_with fail
 refine Reg.region_list (by kernel_rfl) [fun v _ => v = .pointer (some ⟨c1, 0, none⟩), fun v _ => v = .int .u64 (t' : Int), fun v _ => v = .pointer (some ⟨c1, 1, none⟩), fun v _ => v = .agg #[.int .u8 (r' : Int), .int .u32 (i' : Int), .int .u64 (s' : Int)], fun v _ => v = .pointer (some ⟨g, 0, none⟩), fun v _ => v = .pointer (some ⟨g, 0, none⟩), fun v _ => v = .pointer (some ⟨g, 0, none⟩), fun v _ => v = .pointer (some ⟨g, 7, none⟩), fun v _ => v = .slice (some ⟨blk, off, none⟩) m cap, fun v _ => v = .int .i64 (j : Int), fun v _ => v = .pointer (some ⟨blk, off + j * 5, none⟩), fun v _ => v = .pointer (some ⟨blk, off + j * 5, none⟩), fun v _ => v = .int .u64 (t'' : Int), fun v _ => v = .pointer (some ⟨g, 0, none⟩), fun v _ => v = .pointer (some ⟨g, 0, none⟩), fun v _ => v = .pointer (some ⟨g, 0, none⟩), fun v _ => v = .pointer (some ⟨g, 7, none⟩), fun v _ => v = .slice (some ⟨blk, off, none⟩) m cap, fun v _ => v = .int .i64 (j : Int), fun v _ => v = .pointer (some ⟨blk, off + j * 5, none⟩), fun v _ => v = .pointer (some ⟨blk, off + j * 5 + 1, none⟩), fun v _ => v = .agg #[.int .u8 (r'' : Int), .int .u32 (i'' : Int), .int .u64 (s'' : Int)], fun v _ => v = .bool (Lm.ahead t' ((r', i'), s') t'' ((r'', i''), s'')), fun v _ => v = .bool (Lm.ahead t' ((r', i'), s') t'' ((r'', i''), s''))] (by kernel_rfl) ?_ ?_ ?_
 ·refine ⟨k4, k4, k4, k4, k4, k4, k4, k4, k4, k4, k4, k4, k4, k4, k4, k4, k4, k4, k4, k4, k4, k4, k4, k4, trivial⟩
 ·refine ⟨?_, ?_, ?_, ?_, ?_, ?_, ?_, ?_, ?_, ?_, ?_, ?_, ?_, ?_, ?_, ?_, ?_, ?_, ?_, ?_, ?_, ?_, ?_, ?_, trivial⟩
  ·intro ev w hc hf hg hfix hdep hbel
   have e1 : ev (.tmp 1) = _ := hfix 1 (by decide)
   exact okb trivial rfl (by go_simp)
  ·intro ev w hc hf hg hfix hdep hbel
   have e5 : ev (.tmp 5) = _ := hdep 0 (by decide)
   obtain ⟨b0, b1, b2, b3, b4, b5, g7, q0, q1, q2, q3, q4⟩ := HC.out w hbel
   exact okb trivial rfl (by go_simp)
  ·intro ev w hc hf hg hfix hdep hbel
   have e1 : ev (.tmp 1) = _ := hfix 1 (by decide)
   exact okb trivial rfl (by go_simp)
  ·intro ev w hc hf hg hfix hdep hbel
   have e7 : ev (.tmp 7) = _ := hdep 2 (by decide)
   obtain ⟨b0, b1, b2, b3, b4, b5, g7, q0, q1, q2, q3, q4⟩ := HC.out w hbel
   exact okb trivial rfl (by go_simp)
  ·intro ev w hc hf hg hfix hdep hbel
   have e2 : ev (.tmp 2) = _ := hfix 2 (by decide)
   obtain ⟨b0, b1, b2, b3, b4, b5, g7, q0, q1, q2, q3, q4⟩ := HC.out w hbel
   exact okb trivial rfl (by go_simp)
  ·intro ev w hc hf hg hfix hdep hbel
   have e9 : ev (.tmp 9) = _ := hdep 4 (by decide)
   exact okb trivial rfl (by go_simp)
  ·intro ev w hc hf hg hfix hdep hbel
   have e10 : ev (.tmp 10) = _ := hdep 5 (by decide)
   exact okb trivial rfl (by go_simp)
  ·intro ev w hc hf hg hfix hdep hbel
   have e11 : ev (.tmp 11) = _ := hdep 6 (by decide)
   exact okb trivial rfl (by go_simp)
  ·intro ev w hc hf hg hfix hdep hbel
   have e12 : ev (.tmp 12) = _ := hdep 7 (by decide)
   obtain ⟨b0, b1, b2, b3, b4, b5, g7, q0, q1, q2, q3, q4⟩ := HC.out w hbel
   exact okb trivial rfl (by go_simp)
  ·intro ev w hc hf hg hfix hdep hbel
   have e0 : ev (.tmp 0) = _ := hfix 0 (by decide)
   exact okb trivial rfl (by go_simp)
  ·intro ev w hc hf hg hfix hdep hbel
   have e13 : ev (.tmp 13) = _ := hdep 8 (by decide)
   have e14 : ev (.tmp 14) = _ := hdep 9 (by decide)
   exact okb trivial rfl (by go_simp)
  ·intro ev w hc hf hg hfix hdep hbel
   have e15 : ev (.tmp 15) = _ := hdep 10 (by decide)
   exact okb trivial rfl (by go_simp)
  ·intro ev w hc hf hg hfix hdep hbel
   have e16 : ev (.tmp 16) = _ := hdep 11 (by decide)
   obtain ⟨b0, b1, b2, b3, b4, b5, g7, q0, q1, q2, q3, q4⟩ := HC.out w hbel
   exact okb trivial rfl (by go_simp)
  ·intro ev w hc hf hg hfix hdep hbel
   have e2 : ev (.tmp 2) = _ := hfix 2 (by decide)
   obtain ⟨b0, b1, b2, b3, b4, b5, g7, q0, q1, q2, q3, q4⟩ := HC.out w hbel
   exact okb trivial rfl (by go_simp)
  ·intro ev w hc hf hg hfix hdep hbel
   have e18 : ev (.tmp 18) = _ := hdep 13 (by decide)
   exact okb trivial rfl (by go_simp)
  ·intro ev w hc hf hg hfix hdep hbel
   have e19 : ev (.tmp 19) = _ := hdep 14 (by decide)
   exact okb trivial rfl (by go_simp)
  ·intro ev w hc hf hg hfix hdep hbel
   have e20 : ev (.tmp 20) = _ := hdep 15 (by decide)
   exact okb trivial rfl (by go_simp)
  ·intro ev w hc hf hg hfix hdep hbel
   have e21 : ev (.tmp 21) = _ := hdep 16 (by decide)
   obtain ⟨b0, b1, b2, b3, b4, b5, g7, q0, q1, q2, q3, q4⟩ := HC.out w hbel
   exact okb trivial rfl (by go_simp)
  ·intro ev w hc hf hg hfix hdep hbel
   have e0 : ev (.tmp 0) = _ := hfix 0 (by decide)
   exact okb trivial rfl (by go_simp)
  ·intro ev w hc hf hg hfix hdep hbel
   have e22 : ev (.tmp 22) = _ := hdep 17 (by decide)
   have e23 : ev (.tmp 23) = _ := hdep 18 (by decide)
   exact okb trivial rfl (by go_simp)
  ·intro ev w hc hf hg hfix hdep hbel
   have e24 : ev (.tmp 24) = _ := hdep 19 (by decide)
   exact okb trivial rfl (by go_simp)
  ·intro ev w hc hf hg hfix hdep hbel
   have e25 : ev (.tmp 25) = _ := hdep 20 (by decide)
   obtain ⟨b0, b1, b2, b3, b4, b5, g7, q0, q1, q2, q3, q4⟩ := HC.out w hbel
   exact okb trivial rfl (by go_simp)
  ·intro ev w hc hf hg hfix hdep hbel
   have e6 : ev (.tmp 6) = _ := hdep 1 (by decide)
   have e8 : ev (.tmp 8) = _ := hdep 3 (by decide)
   have e17 : ev (.tmp 17) = _ := hdep 12 (by decide)
   have e26 : ev (.tmp 26) = _ := hdep 21 (by decide)
   refine Or.inl ⟨trivial, Or.inr ⟨13, #[.int .u64 (t' : Int), .agg #[.int .u8 (r' : Int), .int .u32 (i' : Int), .int .u64 (s' : Int)], .int .u64 (t'' : Int), .agg #[.int .u8 (r'' : Int), .int .u32 (i'' : Int), .int .u64 (s'' : Int)]], w, by go_simp, ?_⟩⟩
   refine (ahead_any t' r' i' s' t'' r'' i'' s'' w).mono ?_
   rintro e w2 ⟨rfl, hb⟩
   exact ⟨_, rfl, rfl, hb⟩
  ·intro ev w hc hf hg hfix hdep hbel
   have e27 : ev (.tmp 27) = _ := hdep 22 (by decide)
   exact okb trivial rfl (by go_simp)
 ·intro v w2 hv hb2
  have r0 : v 0 = _ := hv 0 (by decide)
  have r1 : v 1 = _ := hv 1 (by decide)
  have r2 : v 2 = _ := hv 2 (by decide)
  have r3 : v 3 = _ := hv 3 (by decide)
  have r4 : v 4 = _ := hv 4 (by decide)
  have r5 : v 5 = _ := hv 5 (by decide)
  have r6 : v 6 = _ := hv 6 (by decide)
  have r7 : v 7 = _ := hv 7 (by decide)
  have r8 : v 8 = _ := hv 8 (by decide)
  have r9 : v 9 = _ := hv 9 (by decide)
  have r10 : v 10 = _ := hv 10 (by decide)
  have r11 : v 11 = _ := hv 11 (by decide)
  have r12 : v 12 = _ := hv 12 (by decide)
  have r13 : v 13 = _ := hv 13 (by decide)
  have r14 : v 14 = _ := hv 14 (by decide)
  have r15 : v 15 = _ := hv 15 (by decide)
  have r16 : v 16 = _ := hv 16 (by decide)
  have r17 : v 17 = _ := hv 17 (by decide)
  have r18 : v 18 = _ := hv 18 (by decide)
  have r19 : v 19 = _ := hv 19 (by decide)
  have r20 : v 20 = _ := hv 20 (by decide)
  have r21 : v 21 = _ := hv 21 (by decide)
  have r22 : v 22 = _ := hv 22 (by decide)
  have r23 : v 23 = _ := hv 23 (by decide)
  simp only [Reg.putAll, Act.put, List.setIfInBounds_toArray, List.set_cons_zero, List.set_cons_succ, r0, r1, r2, r3, r4, r5, r6, r7, r8, r9, r10, r11, r12, r13, r14, r15, r16, r17, r18, r19, r20, r21, r22, r23]
  clear r0 r1 r2 r3 r4 r5 r6 r7 r8 r9 r10 r11 r12 r13 r14 r15 r16 r17 r18 r19 r20 r21 r22 r23 hv
  have HB := Lib.hid hb2; clear hb2
  go_wp2_with fail
  go_ret
  refine ⟨fun y hy => ?_, HB.out⟩
  have := HY.out
  rw [this] at hy
  cases hy
  rfl
set_option maxRecDepth 100000 in
set_option maxHeartbeats 6400000 in
theorem insert_any (W u : World) (g : Nat) (kk : Nat) (n : Int) (t r i s : Nat) (x : ByteArray) (li : List Lm.It) (ld : List Dt.Dot) (vI : Value) (rI : Option Nat) (vD : Value) (rD : Option Nat) (z : Lm.It) (h : GS W.heap.size u g kk n t r i s x li ld vI rI vD rD) (hW : Below W.heap.size W u)
  (hok : ∀ y ∈ li, okI y) (hs : Lm.hasI li z.2.1 = false) (hasc : li.Pairwise (fun x y => Lm.aheadI x y = true)) (hn : li.length ≤ 100000000) :
  Calls Tryz.prog 67 #[.pointer (some ⟨g, 0, none⟩), itVd z] u fun e w' => e = .returned (.tuple #[]) ∧ GE W.heap.size w' g kk n t r i s x (Lm.lay li z) ld ∧ Below W.heap.size W w' ∧ u.heap.size ≤ w'.heap.size := by
 obtain ⟨hG, hI, hD, hB, hgi, hgd, hid⟩ := h
 obtain ⟨a, cap, rfl, hrow⟩ := ownI_row hI hok
 have hus := hW.size
 have hg0 := hG.lt
 have hBox : Below u.heap.size u ((u.alloc (.cells #[.pointer (some ⟨g, 0, none⟩)] 65)).alloc (.cells #[.int .u64 (z.1 : Int), .int .u8 (z.2.1.1.1 : Int), .int .u32 (z.2.1.1.2 : Int), .int .u64 (z.2.1.2 : Int), .string z.2.2] 47)) := ((Below.refl u.heap.size u).alloc (Nat.le_refl _) _).alloc (by simp) _
 have HBox := Lib.hid hBox
 have HC0a := Lib.hid ((Blk.new u #[.pointer (some ⟨g, 0, none⟩)] 65).below ((Below.refl _ _).alloc (Nat.le_refl _) (.cells #[.int .u64 (z.1 : Int), .int .u8 (z.2.1.1.1 : Int), .int .u32 (z.2.1.1.2 : Int), .int .u64 (z.2.1.2 : Int), .string z.2.2] 47)))
 have hC1a := Blk.new (u.alloc (.cells #[.pointer (some ⟨g, 0, none⟩)] 65)) #[.int .u64 (z.1 : Int), .int .u8 (z.2.1.1.1 : Int), .int .u32 (z.2.1.1.2 : Int), .int .u64 (z.2.1.2 : Int), .string z.2.2] 47
 rw [World.size_alloc] at hC1a
 have HC1a := Lib.hid hC1a
 have HG1 := Lib.hid (hG.below hBox)
 have HI1 := Lib.hid (hI.below hBox)
 have HD1 := Lib.hid (hD.below hBox)
 have HR1 := Lib.hid (hrow.below hBox)
 have HW1 := Lib.hid (hW.trans (hBox.mono hus))
 have HNg := Lib.hid (And.intro hgi (And.intro hgd hid))
 have HIlt := Lib.hid hI.lt
 have c0 := HC0a.out.cell 0
 have c7 := HG1.out.cell 7
 simp only [List.getElem?_cons_succ, List.getElem?_cons_zero] at c0 c7
 have HAsc := Lib.hid hasc; have HS := Lib.hid hs
 clear hG hI hD hgi hgd hid hrow hasc hs hBox hC1a hok
 go_enter Tryz.func67, Tryz.ntmps67
 go_wp2_with fail
 refine (search_any li.length 86 #[.pointer (some ⟨u.heap.size + 1, 0, none⟩), .pointer (some ⟨u.heap.size, 0, none⟩)] (fun j => match li[j]? with | some y => Lm.aheadI z y | none => false) _ (by omega) enters_ins ?_ ?_).mono ?_
 ·intro p q hpq hq h
  by_cases e : p = q
  ·subst e; exact h
  ·have hp : p < li.length := by omega
   simp only [List.getElem?_eq_getElem hp, List.getElem?_eq_getElem hq] at h ⊢
   exact Lm.aheadI_trans h (List.pairwise_iff_getElem.1 HAsc.out p q hp hq (by omega))
 ·intro j w hj hb
  refine (ins1_any j u.heap.size (u.heap.size + 1) g li.length cap a kk n t r i s x vD z li w (((HC0a.out.below hb).cell 0).trans rfl) (HC1a.out.below hb) (HG1.out.below hb) (HR1.out.below hb) rfl hj (by omega)).mono ?_
  rintro e w2 ⟨h1, h2⟩
  obtain ⟨y, hy⟩ := geti_some hj
  refine ⟨?_, h2⟩
  rw [hy]; exact h1 y hy
 rintro e u2 ⟨⟨k, rfl, hk, hlow, hhigh⟩, hb⟩
 have s0 := HBox.out.size; have s1 := hb.size
 have hlay : li.take k ++ z :: li.drop k = Lm.lay li z := Lm.lay_at hk HS.out (fun j y hj hy => by have := hlow j hj; rw [hy] at this; exact this) (fun j y hj hy => by have := hhigh j hj (List.getElem?_eq_some_iff.1 hy).1; rw [hy] at this; exact this)
 have HLay := Lib.hid hlay
 have HC0 := Lib.hid (HC0a.out.below hb); have HC1 := Lib.hid (HC1a.out.below hb)
 have HG2 := Lib.hid (HG1.out.below hb); have HI2 := Lib.hid (HI1.out.below hb); have HD2 := Lib.hid (HD1.out.below hb)
 have HBel := Lib.hid (HW1.out.trans (hb.mono HW1.out.size))
 clear hlay hlow hhigh hb c0 c7
 go_wp2_with fail
 refine RegC.region_list (by kernel_rfl) [9, 13] [RegC.plain (fun v _ => v = .pointer (some ⟨g, 0, none⟩)), RegC.plain (fun v _ => v = .pointer (some ⟨g, 0, none⟩)), RegC.plain (fun v _ => v = .pointer (some ⟨g, 0, none⟩)), RegC.plain (fun v _ => v = .pointer (some ⟨g, 0, none⟩)), RegC.plain (fun v _ => v = .pointer (some ⟨g, 7, none⟩)), RegC.plain (fun v _ => v = .slice a li.length cap), RegC.plain (fun v _ => v = .int .i64 (k : Int)), RegC.plain (fun v _ => v = .agg #[.int .u64 (z.1 : Int), .int .u8 (z.2.1.1.1 : Int), .int .u32 (z.2.1.1.2 : Int), .int .u64 (z.2.1.2 : Int), .string z.2.2]), RegC.plain (fun v w => ∃ b, v = .slice (some ⟨b, 0, none⟩) 1 1 ∧ Blk w b 47 (encI z) ∧ u2.heap.size ≤ b), RegC.change (fun v w => ∃ row, OwnI W.heap.size w v (Lm.lay li z) row ∧ row ≠ some g ∧ ∀ b, row = some b → rD ≠ some b) (fun k => some k = rI), RegC.plain (fun v _ => v = .pointer (some ⟨g, 0, none⟩)), RegC.plain (fun v _ => v = .pointer (some ⟨g, 0, none⟩)), RegC.plain (fun v _ => v = .pointer (some ⟨g, 7, none⟩)), RegC.change (fun v w => ∃ v7 row, Blk w g 59 (gcs kk n t r i s x v7 vD) ∧ OwnI W.heap.size w v7 (Lm.lay li z) row ∧ row ≠ some g ∧ ∀ b, row = some b → rD ≠ some b) (fun k => k = g)] (by kernel_rfl) ?_ ?_ ?_ ?_ ?_
 ·exact ⟨Or.inr (fun _ h => h), Or.inr (fun _ h => h), Or.inr (fun _ h => h), Or.inr (fun _ h => h), Or.inr (fun _ h => h), Or.inr (fun _ h => h), Or.inr (fun _ h => h), Or.inr (fun _ h => h), Or.inr (fun _ h => h), Or.inl (by decide), Or.inr (fun _ h => h), Or.inr (fun _ h => h), Or.inr (fun _ h => h), Or.inl (by decide), trivial⟩
 ·refine ⟨k4, k4, k4, k4, k4, k4, k4, k4, (fun v wa wb hb h => by obtain ⟨b, h1, h2, h3⟩ := h; exact ⟨b, h1, h2.below hb, h3⟩), (fun v wa wb hb h => by obtain ⟨row, h1, h2, h3⟩ := h; exact ⟨row, h1.below hb, h2, h3⟩), k4, k4, k4, (fun v wa wb hb h => by obtain ⟨v7, row, h0, h1, h2, h3⟩ := h; exact ⟨v7, row, h0.below hb, h1.below hb, h2, h3⟩), trivial⟩
 ·refine ⟨⟨Or.inr (Or.inr k4), Or.inr (Or.inr k4), Or.inr (Or.inr k4), Or.inr (Or.inr k4), Or.inr (Or.inr k4), Or.inr (Or.inr k4), Or.inr (Or.inr k4), Or.inr (Or.inr k4), Or.inr (Or.inr (fun v wa wb hr h => by obtain ⟨b, h1, h2, h3⟩ := h; exact ⟨b, h1, h2.chg hr (fun e => by have := (HI2.out.lt b (Eq.symm e)).2; omega), h3⟩)), Or.inl rfl, Or.inr (Or.inr k4), Or.inr (Or.inr k4), Or.inr (Or.inr k4), Or.inr (Or.inl (by kernel_rfl)), trivial⟩, ⟨Or.inr (Or.inr k4), Or.inr (Or.inr k4), Or.inr (Or.inr k4), Or.inr (Or.inr k4), Or.inr (Or.inr k4), Or.inr (Or.inr k4), Or.inr (Or.inr k4), Or.inr (Or.inr k4), Or.inr (Or.inr (fun v wa wb hr h => by obtain ⟨b, h1, h2, h3⟩ := h; exact ⟨b, h1, h2.chg hr (fun e => by have := HG2.out.lt; have e2 : b = g := e; omega), h3⟩)), Or.inr (Or.inr (fun v wa wb hr h => by obtain ⟨row, h1, h2, h3⟩ := h; exact ⟨row, h1.chg hr (fun q e f => h2 (by rw [e, f])), h2, h3⟩)), Or.inr (Or.inr k4), Or.inr (Or.inr k4), Or.inr (Or.inr k4), Or.inl rfl, trivial⟩, trivial⟩
 ·refine ⟨?_, ?_, ?_, ?_, ?_, ?_, ?_, ?_, ?_, ?_, ?_, ?_, ?_, ?_, trivial⟩
  ·intro ev w hc hf hg hfix hdep hchg
   have e2 : ev (.tmp 2) = _ := hfix 2 (by decide)
   have b0 := (HC0.out.chg (RegC.chg1 (hchg [9] (by kernel_rfl))) (fun e => by have := (HIlt.out _ (Eq.symm e)).2; omega)).cell 0
   exact Or.inl ⟨trivial, Or.inl ⟨_, w, by go_simp, rfl, Chg.refl _ _⟩⟩
  ·intro ev w hc hf hg hfix hdep hchg
   have e2 : ev (.tmp 2) = _ := hfix 2 (by decide)
   have b0 := (HC0.out.below (RegC.chg0 (hchg [] (by kernel_rfl)))).cell 0
   exact Or.inl ⟨trivial, Or.inl ⟨_, w, by go_simp, rfl, Chg.refl _ _⟩⟩
  ·intro ev w hc hf hg hfix hdep hchg
   have e14 : ev (.tmp 14) = _ := hdep 1 (by decide)
   exact Or.inl ⟨trivial, Or.inl ⟨_, w, by go_simp, rfl, Chg.refl _ _⟩⟩
  ·intro ev w hc hf hg hfix hdep hchg
   have e15 : ev (.tmp 15) = _ := hdep 2 (by decide)
   exact Or.inl ⟨trivial, Or.inl ⟨_, w, by go_simp, rfl, Chg.refl _ _⟩⟩
  ·intro ev w hc hf hg hfix hdep hchg
   have e16 : ev (.tmp 16) = _ := hdep 3 (by decide)
   exact Or.inl ⟨trivial, Or.inl ⟨_, w, by go_simp, rfl, Chg.refl _ _⟩⟩
  ·intro ev w hc hf hg hfix hdep hchg
   have e17 : ev (.tmp 17) = _ := hdep 4 (by decide)
   have c7 := (HG2.out.below (RegC.chg0 (hchg [] (by kernel_rfl)))).cell 7
   simp only [List.getElem?_cons_succ, List.getElem?_cons_zero] at c7
   exact Or.inl ⟨trivial, Or.inl ⟨_, w, by go_simp, rfl, Chg.refl _ _⟩⟩
  ·intro ev w hc hf hg hfix hdep hchg
   have e4 : ev (.tmp 4) = _ := hfix 4 (by decide)
   exact Or.inl ⟨trivial, Or.inl ⟨_, w, by go_simp, rfl, Chg.refl _ _⟩⟩
  ·intro ev w hc hf hg hfix hdep hchg
   have e3 : ev (.tmp 3) = _ := hfix 3 (by decide)
   have hx := HC1.out.below (RegC.chg0 (hchg [] (by kernel_rfl)))
   have c0 := hx.cell 0; have c1 := hx.cell 1; have c2 := hx.cell 2; have c3 := hx.cell 3; have c4 := hx.cell 4
   simp only [encI, List.getElem?_cons_succ, List.getElem?_cons_zero] at c0 c1 c2 c3 c4
   exact Or.inl ⟨trivial, Or.inl ⟨_, w, by go_simp, rfl, Chg.refl _ _⟩⟩
  ·intro ev w hc hf hg hfix hdep hchg
   have e20 : ev (.tmp 20) = _ := hdep 7 (by decide)
   exact Or.inl ⟨trivial, Or.inl ⟨.slice (some ⟨w.heap.size, 0, none⟩) 1 1, w.alloc (.cells #[.int .u64 (z.1 : Int), .int .u8 (z.2.1.1.1 : Int), .int .u32 (z.2.1.1.2 : Int), .int .u64 (z.2.1.2 : Int), .string z.2.2] 47), by go_simp, ⟨w.heap.size, rfl, Blk.new w _ _, (RegC.chg0 (hchg [] (by kernel_rfl))).size⟩, (Chg.refl _ w).alloc _⟩⟩
  ·intro ev w hc hf hg hfix hdep hchg
   have e18 : ev (.tmp 18) = _ := hdep 5 (by decide)
   have e19 : ev (.tmp 19) = _ := hdep 6 (by decide)
   have e21 := hdep 8 (by decide)
   obtain ⟨b, hv, hbk, hbu⟩ := e21
   have e21 : ev (.tmp 21) = .slice (some ⟨b, 0, none⟩) 1 1 := hv
   have hb0 : Below u2.heap.size u2 w := RegC.chg0 (hchg [] (by kernel_rfl))
   refine Or.inl ⟨trivial, Or.inr (Or.inl ⟨87, #[.slice a li.length cap, .int .i64 (k : Int), .slice (some ⟨b, 0, none⟩) 1 1], w, by go_simp, ?_⟩)⟩
   refine (insertI_any (.slice a li.length cap) rI li z b k W.heap.size w (HI2.out.below hb0) hk hn hbk (fun e => by have := (HI2.out.lt b e).2; omega)).mono ?_
   rintro e w2 ⟨⟨v', row', rfl, ho, hnw⟩, hc⟩
   refine ⟨v', rfl, ⟨row', by rw [← HLay.out]; exact ho, ?_, ?_⟩, hc⟩
   ·rcases hnw with rfl | ⟨q, rfl, hq⟩
    ·exact HNg.out.1
    ·intro e; have e2 := Option.some.inj e; have := hb0.size; have h5 := HG2.out.lt; omega
   ·rcases hnw with rfl | ⟨q, rfl, hq⟩
    ·exact HNg.out.2.2
    ·intro b' e hb'; have e2 := Option.some.inj e; have := hb0.size; have h5 := (HD2.out.lt b' hb').2; omega
  ·intro ev w hc hf hg hfix hdep hchg
   have e13 : ev (.tmp 13) = _ := hdep 0 (by decide)
   exact Or.inl ⟨trivial, Or.inl ⟨_, w, by go_simp, rfl, Chg.refl _ _⟩⟩
  ·intro ev w hc hf hg hfix hdep hchg
   have e23 : ev (.tmp 23) = _ := hdep 10 (by decide)
   exact Or.inl ⟨trivial, Or.inl ⟨_, w, by go_simp, rfl, Chg.refl _ _⟩⟩
  ·intro ev w hc hf hg hfix hdep hchg
   have e24 : ev (.tmp 24) = _ := hdep 11 (by decide)
   exact Or.inl ⟨trivial, Or.inl ⟨_, w, by go_simp, rfl, Chg.refl _ _⟩⟩
  ·intro ev w hc hf hg hfix hdep hchg
   have e25 : ev (.tmp 25) = _ := hdep 12 (by decide)
   have e22 := hdep 9 (by decide)
   obtain ⟨row, h1, h2, h3⟩ := e22
   obtain ⟨a8, n8, m8, hv8⟩ := Own.slice h1
   have e22 : ev (.tmp 22) = .slice a8 n8 m8 := hv8
   rw [hv8] at h1
   have hG : Blk w g 59 (gcs kk n t r i s x (.slice a li.length cap) vD) := HG2.out.chg (RegC.chg1 (hchg [9] (by kernel_rfl))) (fun e => HNg.out.1 (Eq.symm e))
   have c7 := hG.cell 7; have f7 := hG.frozen 7
   simp only [List.getElem?_cons_succ, List.getElem?_cons_zero] at c7
   refine Or.inl ⟨trivial, Or.inr (Or.inr ⟨w.setCell ⟨g, 7, none⟩ (.slice a8 n8 m8), by go_simp, ⟨_, row, hG.set 7 _, h1.chg ((Chg.refl (fun k => k = g) w).set (Or.inr rfl) 7 _) (fun q e f => h2 (by rw [e, f])), h2, h3⟩, (Chg.refl (fun k => k = g) w).set (Or.inr rfl) 7 _⟩)⟩
 ·intro v w2 hv hb2
  have r0 : v 0 = _ := hv 0 (by decide)
  have r1 : v 1 = _ := hv 1 (by decide)
  have r2 : v 2 = _ := hv 2 (by decide)
  have r3 : v 3 = _ := hv 3 (by decide)
  have r4 : v 4 = _ := hv 4 (by decide)
  have r5 : v 5 = _ := hv 5 (by decide)
  have r6 : v 6 = _ := hv 6 (by decide)
  have r7 : v 7 = _ := hv 7 (by decide)
  have r8 := hv 8 (by decide)
  have r9 := hv 9 (by decide)
  have r10 : v 10 = _ := hv 10 (by decide)
  have r11 : v 11 = _ := hv 11 (by decide)
  have r12 : v 12 = _ := hv 12 (by decide)
  have r13 := hv 13 (by decide)
  simp only [Reg.putAll, Act.put, List.setIfInBounds_toArray, List.set_cons_zero, List.set_cons_succ, r0, r1, r2, r3, r4, r5, r6, r7, r10, r11, r12]
  clear r0 r1 r2 r3 r4 r5 r6 r7 r10 r11 r12 hv
  obtain ⟨v7, row, hG3, hI3, hn3, hn4⟩ := r13
  have hc3 : Chg (fun k => some k = rI ∨ k = g) u2 w2 := RegC.end2 hb2
  have s2 := hc3.size
  have HD3 := Lib.hid (HD2.out.chg hc3 (fun k e f => f.elim (fun f => HNg.out.2.2 k f.symm e) (fun f => HNg.out.2.1 (by rw [e, f]))))
  have HW3 := Lib.hid (Chg.belowTrans HBel.out hc3 (fun k hk e => e.elim (fun e => (HI2.out.lt k e.symm).1) (fun e => by rw [e]; exact hB)) HBel.out.size)
  have HG3 := Lib.hid hG3; have HI3 := Lib.hid hI3; have HN3 := Lib.hid (And.intro hn3 hn4)
  clear hG3 hI3 hn3 hn4 hb2 hc3 r8 r9
  go_wp2_with fail
  go_end0
  exact ⟨rfl, ⟨v7, row, vD, rD, ⟨HG3.out, HI3.out, HD3.out, hB, HN3.out.1, HNg.out.2.1, HN3.out.2⟩⟩, HW3.out, by omega⟩
end Go.Proofs.YteakbfbacfhhoaaGreat
namespace Go.Proofs.YteakbfbacfhhoaaGreat
open Go.RowKit Go.Buf Go.LB Go.Lib
set_option linter.unusedSimpArgs false
set_option linter.unusedVariables false
set_option maxRecDepth 100000 in
set_option maxHeartbeats 6400000 in
theorem add_any (W u : World) (g : Nat) (kk : Nat) (n : Int) (t r i s : Nat) (x : ByteArray) (li : List Lm.It) (ld : List Dt.Dot) (vI : Value) (rI : Option Nat) (vD : Value) (rD : Option Nat) (r' i' s' tm k : Nat) (pa : Option Addr) (pl pc : Nat) (n' : Int) (t' : ByteArray) (da : Option Addr) (dl dc : Nat) (h : GS W.heap.size u g kk n t r i s x li ld vI rI vD rD) (hW : Below W.heap.size W u) :
  Calls Tryz.prog 51 #[.pointer (some ⟨g, 0, none⟩), evV r' i' s' tm k pa pl pc n' t' da dl dc] u fun e w' => e = .returned (.tuple #[]) ∧ GE W.heap.size w' g kk (Lm.add64 n n') t r i s x li ld ∧ Below W.heap.size W w' ∧ u.heap.size ≤ w'.heap.size := by
 obtain ⟨hG, hI, hD, hB, hgi, hgd, hid⟩ := h
 have hus := hW.size
 have hg0 := hG.lt
 have hBox := below_box u #[.int .u8 (r' : Int), .int .u32 (i' : Int), .int .u64 (s' : Int), .int .u64 (tm : Int), .int .u8 (k : Int), .slice pa pl pc, .int .i64 n', .string t', .slice da dl dc] 36
 have HBox := Lib.hid hBox
 have HE1 := Lib.hid (Blk.new u #[.int .u8 (r' : Int), .int .u32 (i' : Int), .int .u64 (s' : Int), .int .u64 (tm : Int), .int .u8 (k : Int), .slice pa pl pc, .int .i64 n', .string t', .slice da dl dc] 36)
 have HG1 := Lib.hid (hG.below hBox)
 have HI1 := Lib.hid (hI.below hBox)
 have HD1 := Lib.hid (hD.below hBox)
 have HW1 := Lib.hid (hW.trans (hBox.mono hus))
 have HNg := Lib.hid (And.intro hgi (And.intro hgd hid))
 clear hG hI hD hgi hgd hid hBox
 go_enter Tryz.func51, Tryz.ntmps51
 go_wp2_with fail
 refine RegC.region_list (by kernel_rfl) [12] [RegC.plain (fun v _ => v = .pointer (some ⟨g, 0, none⟩)), RegC.plain (fun v _ => v = .pointer (some ⟨g, 0, none⟩)), RegC.plain (fun v _ => v = .pointer (some ⟨g, 0, none⟩)), RegC.plain (fun v _ => v = .pointer (some ⟨g, 1, none⟩)), RegC.plain (fun v _ => v = .int .i64 n), RegC.plain (fun v _ => v = .pointer (some ⟨u.heap.size, 4, none⟩)), RegC.plain (fun v _ => v = .pointer (some ⟨u.heap.size, 6, none⟩)), RegC.plain (fun v _ => v = .int .i64 n'), RegC.plain (fun v _ => v = .int .i64 (IntKind.i64.wrap (n + n'))), RegC.plain (fun v _ => v = .pointer (some ⟨g, 0, none⟩)), RegC.plain (fun v _ => v = .pointer (some ⟨g, 0, none⟩)), RegC.plain (fun v _ => v = .pointer (some ⟨g, 1, none⟩)), RegC.change (fun v w => Blk w g 59 (gcs kk (IntKind.i64.wrap (n + n')) t r i s x vI vD)) (fun k => k = g)] (by kernel_rfl) ?_ ?_ ?_ ?_ ?_
 ·exact ⟨Or.inr (fun _ h => h), Or.inr (fun _ h => h), Or.inr (fun _ h => h), Or.inr (fun _ h => h), Or.inr (fun _ h => h), Or.inr (fun _ h => h), Or.inr (fun _ h => h), Or.inr (fun _ h => h), Or.inr (fun _ h => h), Or.inr (fun _ h => h), Or.inr (fun _ h => h), Or.inr (fun _ h => h), Or.inl (by decide), trivial⟩
 ·refine ⟨k4, k4, k4, k4, k4, k4, k4, k4, k4, k4, k4, k4, (fun v wa wb hb h => by exact h.below hb), trivial⟩
 ·refine ⟨⟨Or.inr (Or.inr k4), Or.inr (Or.inr k4), Or.inr (Or.inr k4), Or.inr (Or.inr k4), Or.inr (Or.inr k4), Or.inr (Or.inr k4), Or.inr (Or.inr k4), Or.inr (Or.inr k4), Or.inr (Or.inr k4), Or.inr (Or.inr k4), Or.inr (Or.inr k4), Or.inr (Or.inr k4), Or.inl rfl, trivial⟩, trivial⟩
 ·refine ⟨?_, ?_, ?_, ?_, ?_, ?_, ?_, ?_, ?_, ?_, ?_, ?_, ?_, trivial⟩
  ·intro ev w hc hf hg hfix hdep hchg
   have e0 : ev (.tmp 0) = _ := hfix 0 (by decide)
   exact Or.inl ⟨trivial, Or.inl ⟨_, w, by go_simp, rfl, Chg.refl _ _⟩⟩
  ·intro ev w hc hf hg hfix hdep hchg
   have e4 : ev (.tmp 4) = _ := hdep 0 (by decide)
   exact Or.inl ⟨trivial, Or.inl ⟨_, w, by go_simp, rfl, Chg.refl _ _⟩⟩
  ·intro ev w hc hf hg hfix hdep hchg
   have e5 : ev (.tmp 5) = _ := hdep 1 (by decide)
   exact Or.inl ⟨trivial, Or.inl ⟨_, w, by go_simp, rfl, Chg.refl _ _⟩⟩
  ·intro ev w hc hf hg hfix hdep hchg
   have e6 : ev (.tmp 6) = _ := hdep 2 (by decide)
   exact Or.inl ⟨trivial, Or.inl ⟨_, w, by go_simp, rfl, Chg.refl _ _⟩⟩
  ·intro ev w hc hf hg hfix hdep hchg
   have e7 : ev (.tmp 7) = _ := hdep 3 (by decide)
   have c1 := (HG1.out.below (RegC.chg0 (hchg [] (by kernel_rfl)))).cell 1
   simp only [List.getElem?_cons_succ, List.getElem?_cons_zero] at c1
   exact Or.inl ⟨trivial, Or.inl ⟨_, w, by go_simp, rfl, Chg.refl _ _⟩⟩
  ·intro ev w hc hf hg hfix hdep hchg
   have e3 : ev (.tmp 3) = _ := hfix 3 (by decide)
   exact Or.inl ⟨trivial, Or.inl ⟨_, w, by go_simp, rfl, Chg.refl _ _⟩⟩
  ·intro ev w hc hf hg hfix hdep hchg
   have e9 : ev (.tmp 9) = _ := hdep 5 (by decide)
   exact Or.inl ⟨trivial, Or.inl ⟨_, w, by go_simp, rfl, Chg.refl _ _⟩⟩
  ·intro ev w hc hf hg hfix hdep hchg
   have e10 : ev (.tmp 10) = _ := hdep 6 (by decide)
   have c6 := (HE1.out.below (RegC.chg0 (hchg [] (by kernel_rfl)))).cell 6
   simp only [List.getElem?_cons_succ, List.getElem?_cons_zero] at c6
   exact Or.inl ⟨trivial, Or.inl ⟨_, w, by go_simp, rfl, Chg.refl _ _⟩⟩
  ·intro ev w hc hf hg hfix hdep hchg
   have e8 : ev (.tmp 8) = _ := hdep 4 (by decide)
   have e11 : ev (.tmp 11) = _ := hdep 7 (by decide)
   exact Or.inl ⟨trivial, Or.inl ⟨_, w, by go_simp, rfl, Chg.refl _ _⟩⟩
  ·intro ev w hc hf hg hfix hdep hchg
   have e4 : ev (.tmp 4) = _ := hdep 0 (by decide)
   exact Or.inl ⟨trivial, Or.inl ⟨_, w, by go_simp, rfl, Chg.refl _ _⟩⟩
  ·intro ev w hc hf hg hfix hdep hchg
   have e13 : ev (.tmp 13) = _ := hdep 9 (by decide)
   exact Or.inl ⟨trivial, Or.inl ⟨_, w, by go_simp, rfl, Chg.refl _ _⟩⟩
  ·intro ev w hc hf hg hfix hdep hchg
   have e14 : ev (.tmp 14) = _ := hdep 10 (by decide)
   exact Or.inl ⟨trivial, Or.inl ⟨_, w, by go_simp, rfl, Chg.refl _ _⟩⟩
  ·intro ev w hc hf hg hfix hdep hchg
   have e15 : ev (.tmp 15) = _ := hdep 11 (by decide)
   have e12 : ev (.tmp 12) = _ := hdep 8 (by decide)
   have hG := HG1.out.below (RegC.chg0 (hchg [] (by kernel_rfl)))
   have c1 := hG.cell 1; have f1 := hG.frozen 1
   simp only [List.getElem?_cons_succ, List.getElem?_cons_zero] at c1
   exact Or.inl ⟨trivial, Or.inr (Or.inr ⟨w.setCell ⟨g, 1, none⟩ (.int .i64 (IntKind.i64.wrap (n + n'))), by go_simp, hG.set 1 _, (Chg.refl (fun k => k = g) w).set (Or.inr rfl) 1 _⟩)⟩
 ·intro v w2 hv hb2
  have r0 : v 0 = _ := hv 0 (by decide)
  have r1 : v 1 = _ := hv 1 (by decide)
  have r2 : v 2 = _ := hv 2 (by decide)
  have r3 : v 3 = _ := hv 3 (by decide)
  have r4 : v 4 = _ := hv 4 (by decide)
  have r5 : v 5 = _ := hv 5 (by decide)
  have r6 : v 6 = _ := hv 6 (by decide)
  have r7 : v 7 = _ := hv 7 (by decide)
  have r8 : v 8 = _ := hv 8 (by decide)
  have r9 : v 9 = _ := hv 9 (by decide)
  have r10 : v 10 = _ := hv 10 (by decide)
  have r11 : v 11 = _ := hv 11 (by decide)
  have r12 := hv 12 (by decide)
  simp only [Reg.putAll, Act.put, List.setIfInBounds_toArray, List.set_cons_zero, List.set_cons_succ, r0, r1, r2, r3, r4, r5, r6, r7, r8, r9, r10, r11]
  clear r0 r1 r2 r3 r4 r5 r6 r7 r8 r9 r10 r11 hv
  have hc3 : Chg (fun k => k = g) _ w2 := RegC.end1 hb2
  have s0 := HBox.out.size; have s1 := hc3.size
  have HI3 := Lib.hid (HI1.out.chg hc3 (fun k e f => HNg.out.1 (by rw [e, f])))
  have HD3 := Lib.hid (HD1.out.chg hc3 (fun k e f => HNg.out.2.1 (by rw [e, f])))
  have HW3 := Lib.hid (Chg.belowTrans HW1.out hc3 (fun k hk e => by rw [e]; exact hB) HW1.out.size)
  have HG3 := Lib.hid r12
  clear r12 hc3 hb2
  go_wp2_with fail
  go_end0
  exact ⟨rfl, ⟨vI, rI, vD, rD, ⟨HG3.out, HI3.out, HD3.out, hB, HNg.out.1, HNg.out.2.1, HNg.out.2.2⟩⟩, HW3.out, by omega⟩
set_option maxRecDepth 100000 in
set_option maxHeartbeats 6400000 in
theorem set_any (W u : World) (g : Nat) (kk : Nat) (n : Int) (t r i s : Nat) (x : ByteArray) (li : List Lm.It) (ld : List Dt.Dot) (vI : Value) (rI : Option Nat) (vD : Value) (rD : Option Nat) (r' i' s' tm k : Nat) (pa : Option Addr) (pl pc : Nat) (n' : Int) (t' : ByteArray) (da : Option Addr) (dl dc : Nat) (h : GS W.heap.size u g kk n t r i s x li ld vI rI vD rD) (hW : Below W.heap.size W u) :
  Calls Tryz.prog 52 #[.pointer (some ⟨g, 0, none⟩), evV r' i' s' tm k pa pl pc n' t' da dl dc] u fun e w' => e = .returned (.tuple #[]) ∧ ((Lm.ahead t ((r, i), s) tm ((r', i'), s') = true → GE W.heap.size w' g kk n tm r' i' s' t' li ld) ∧ (Lm.ahead t ((r, i), s) tm ((r', i'), s') = false → GE W.heap.size w' g kk n t r i s x li ld)) ∧ Below W.heap.size W w' ∧ u.heap.size ≤ w'.heap.size := by
 obtain ⟨hG, hI, hD, hB, hgi, hgd, hid⟩ := h
 have hus := hW.size
 have hg0 := hG.lt
 have hBox := below_box u #[.int .u8 (r' : Int), .int .u32 (i' : Int), .int .u64 (s' : Int), .int .u64 (tm : Int), .int .u8 (k : Int), .slice pa pl pc, .int .i64 n', .string t', .slice da dl dc] 36
 have HBox := Lib.hid hBox
 have HE1 := Lib.hid (Blk.new u #[.int .u8 (r' : Int), .int .u32 (i' : Int), .int .u64 (s' : Int), .int .u64 (tm : Int), .int .u8 (k : Int), .slice pa pl pc, .int .i64 n', .string t', .slice da dl dc] 36)
 have HG1 := Lib.hid (hG.below hBox)
 have HI1 := Lib.hid (hI.below hBox)
 have HD1 := Lib.hid (hD.below hBox)
 have HW1 := Lib.hid (hW.trans (hBox.mono hus))
 have HNg := Lib.hid (And.intro hgi (And.intro hgd hid))
 clear hG hI hD hgi hgd hid hBox
 obtain ⟨U, hU⟩ : ∃ U, U = u.alloc (.cells #[.int .u8 (r' : Int), .int .u32 (i' : Int), .int .u64 (s' : Int), .int .u64 (tm : Int), .int .u8 (k : Int), .slice pa pl pc, .int .i64 n', .string t', .slice da dl dc] 36) := ⟨_, rfl⟩
 have hC : ∀ w2, Below (u.alloc (.cells #[.int .u8 (r' : Int), .int .u32 (i' : Int), .int .u64 (s' : Int), .int .u64 (tm : Int), .int .u8 (k : Int), .slice pa pl pc, .int .i64 n', .string t', .slice da dl dc] 36)).drew.heap.size (u.alloc (.cells #[.int .u8 (r' : Int), .int .u32 (i' : Int), .int .u64 (s' : Int), .int .u64 (tm : Int), .int .u8 (k : Int), .slice pa pl pc, .int .i64 n', .string t', .slice da dl dc] 36)).drew w2 →
   w2.cell? ⟨g, 2, none⟩ = some (.int .u64 (t : Int)) ∧ w2.cell? ⟨g, 3, none⟩ = some (.int .u8 (r : Int)) ∧ w2.cell? ⟨g, 4, none⟩ = some (.int .u32 (i : Int)) ∧ w2.cell? ⟨g, 5, none⟩ = some (.int .u64 (s : Int)) ∧
   w2.cell? ⟨u.heap.size, 0, none⟩ = some (.int .u8 (r' : Int)) ∧ w2.cell? ⟨u.heap.size, 1, none⟩ = some (.int .u32 (i' : Int)) ∧ w2.cell? ⟨u.heap.size, 2, none⟩ = some (.int .u64 (s' : Int)) ∧ w2.cell? ⟨u.heap.size, 3, none⟩ = some (.int .u64 (tm : Int)) := fun w2 h =>
  ⟨(HG1.out.below (undrew h)).cell 2, (HG1.out.below (undrew h)).cell 3, (HG1.out.below (undrew h)).cell 4, (HG1.out.below (undrew h)).cell 5, (HE1.out.below (undrew h)).cell 0, (HE1.out.below (undrew h)).cell 1, (HE1.out.below (undrew h)).cell 2, (HE1.out.below (undrew h)).cell 3⟩
 have HC := Lib.hid hC; clear hC hU
 go_enter Tryz.func52, Tryz.ntmps52
 go_wp2_with fail
 refine Reg.region_list (by kernel_rfl) [fun v _ => v = .pointer (some ⟨g, 0, none⟩), fun v _ => v = .pointer (some ⟨g, 0, none⟩), fun v _ => v = .pointer (some ⟨g, 0, none⟩), fun v _ => v = .pointer (some ⟨g, 2, none⟩), fun v _ => v = .int .u64 (t : Int), fun v _ => v = .pointer (some ⟨g, 0, none⟩), fun v _ => v = .pointer (some ⟨g, 0, none⟩), fun v _ => v = .pointer (some ⟨g, 0, none⟩), fun v _ => v = .pointer (some ⟨g, 3, none⟩), fun v _ => v = .agg #[.int .u8 (r : Int), .int .u32 (i : Int), .int .u64 (s : Int)], fun v _ => v = .pointer (some ⟨u.heap.size, 3, none⟩), fun v _ => v = .int .u64 (tm : Int), fun v _ => v = .pointer (some ⟨u.heap.size, 0, none⟩), fun v _ => v = .agg #[.int .u8 (r' : Int), .int .u32 (i' : Int), .int .u64 (s' : Int)], fun v _ => v = .bool (Lm.ahead t ((r, i), s) tm ((r', i'), s'))] (by kernel_rfl) ?_ ?_ ?_
 ·refine ⟨k4, k4, k4, k4, k4, k4, k4, k4, k4, k4, k4, k4, k4, k4, k4, trivial⟩
 ·refine ⟨?_, ?_, ?_, ?_, ?_, ?_, ?_, ?_, ?_, ?_, ?_, ?_, ?_, ?_, ?_, trivial⟩
  ·intro ev w hc hf hg hfix hdep hbel
   have e0 : ev (.tmp 0) = _ := hfix 0 (by decide)
   exact okb trivial rfl (by go_simp)
  ·intro ev w hc hf hg hfix hdep hbel
   have e4 : ev (.tmp 4) = _ := hdep 0 (by decide)
   exact okb trivial rfl (by go_simp)
  ·intro ev w hc hf hg hfix hdep hbel
   have e5 : ev (.tmp 5) = _ := hdep 1 (by decide)
   exact okb trivial rfl (by go_simp)
  ·intro ev w hc hf hg hfix hdep hbel
   have e6 : ev (.tmp 6) = _ := hdep 2 (by decide)
   exact okb trivial rfl (by go_simp)
  ·intro ev w hc hf hg hfix hdep hbel
   have e7 : ev (.tmp 7) = _ := hdep 3 (by decide)
   obtain ⟨a2, a3, a4, a5, b0, b1, b2, b3⟩ := HC.out w hbel
   exact okb trivial rfl (by go_simp)
  ·intro ev w hc hf hg hfix hdep hbel
   have e0 : ev (.tmp 0) = _ := hfix 0 (by decide)
   exact okb trivial rfl (by go_simp)
  ·intro ev w hc hf hg hfix hdep hbel
   have e9 : ev (.tmp 9) = _ := hdep 5 (by decide)
   exact okb trivial rfl (by go_simp)
  ·intro ev w hc hf hg hfix hdep hbel
   have e10 : ev (.tmp 10) = _ := hdep 6 (by decide)
   exact okb trivial rfl (by go_simp)
  ·intro ev w hc hf hg hfix hdep hbel
   have e11 : ev (.tmp 11) = _ := hdep 7 (by decide)
   exact okb trivial rfl (by go_simp)
  ·intro ev w hc hf hg hfix hdep hbel
   have e12 : ev (.tmp 12) = _ := hdep 8 (by decide)
   obtain ⟨a2, a3, a4, a5, b0, b1, b2, b3⟩ := HC.out w hbel
   exact okb trivial rfl (by go_simp)
  ·intro ev w hc hf hg hfix hdep hbel
   have e3 : ev (.tmp 3) = _ := hfix 3 (by decide)
   exact okb trivial rfl (by go_simp)
  ·intro ev w hc hf hg hfix hdep hbel
   have e14 : ev (.tmp 14) = _ := hdep 10 (by decide)
   obtain ⟨a2, a3, a4, a5, b0, b1, b2, b3⟩ := HC.out w hbel
   exact okb trivial rfl (by go_simp)
  ·intro ev w hc hf hg hfix hdep hbel
   have e3 : ev (.tmp 3) = _ := hfix 3 (by decide)
   exact okb trivial rfl (by go_simp)
  ·intro ev w hc hf hg hfix hdep hbel
   have e16 : ev (.tmp 16) = _ := hdep 12 (by decide)
   obtain ⟨a2, a3, a4, a5, b0, b1, b2, b3⟩ := HC.out w hbel
   exact okb trivial rfl (by go_simp)
  ·intro ev w hc hf hg hfix hdep hbel
   have e8 : ev (.tmp 8) = _ := hdep 4 (by decide)
   have e13 : ev (.tmp 13) = _ := hdep 9 (by decide)
   have e15 : ev (.tmp 15) = _ := hdep 11 (by decide)
   have e17 : ev (.tmp 17) = _ := hdep 13 (by decide)
   refine Or.inl ⟨trivial, Or.inr ⟨13, #[.int .u64 (t : Int), .agg #[.int .u8 (r : Int), .int .u32 (i : Int), .int .u64 (s : Int)], .int .u64 (tm : Int), .agg #[.int .u8 (r' : Int), .int .u32 (i' : Int), .int .u64 (s' : Int)]], w, by go_simp, ?_⟩⟩
   refine (ahead_any t r i s tm r' i' s' w).mono ?_
   rintro e w2 ⟨rfl, hb⟩
   exact ⟨_, rfl, rfl, hb⟩
 ·intro v w2 hv hb2
  have r0 : v 0 = _ := hv 0 (by decide)
  have r1 : v 1 = _ := hv 1 (by decide)
  have r2 : v 2 = _ := hv 2 (by decide)
  have r3 : v 3 = _ := hv 3 (by decide)
  have r4 : v 4 = _ := hv 4 (by decide)
  have r5 : v 5 = _ := hv 5 (by decide)
  have r6 : v 6 = _ := hv 6 (by decide)
  have r7 : v 7 = _ := hv 7 (by decide)
  have r8 : v 8 = _ := hv 8 (by decide)
  have r9 : v 9 = _ := hv 9 (by decide)
  have r10 : v 10 = _ := hv 10 (by decide)
  have r11 : v 11 = _ := hv 11 (by decide)
  have r12 : v 12 = _ := hv 12 (by decide)
  have r13 : v 13 = _ := hv 13 (by decide)
  have r14 : v 14 = _ := hv 14 (by decide)
  simp only [Reg.putAll, Act.put, List.setIfInBounds_toArray, List.set_cons_zero, List.set_cons_succ, r0, r1, r2, r3, r4, r5, r6, r7, r8, r9, r10, r11, r12, r13, r14]
  clear r0 r1 r2 r3 r4 r5 r6 r7 r8 r9 r10 r11 r12 r13 r14 hv
  have s0 := HBox.out.size; have s1 := hb2.size
  have HG2 := Lib.hid (HG1.out.below hb2); have HI2 := Lib.hid (HI1.out.below hb2); have HD2 := Lib.hid (HD1.out.below hb2); have HE2 := Lib.hid (HE1.out.below hb2)
  have HW2 := Lib.hid (HW1.out.trans (hb2.mono HW1.out.size))
  clear hb2
  cases hah : Lm.ahead t ((r, i), s) tm ((r', i'), s')
  ·have HAh := Lib.hid hah; clear hah
   go_wp2_with fail
   go_end0
   exact ⟨rfl, ⟨(fun e => by rw [HAh.out] at e; cases e), fun _ => ⟨vI, rI, vD, rD, ⟨HG2.out, HI2.out, HD2.out, hB, HNg.out.1, HNg.out.2.1, HNg.out.2.2⟩⟩⟩, HW2.out, by omega⟩
  ·have HAh := Lib.hid hah; clear hah
   have d2 := HG2.out.cell 2; have d3 := HG2.out.cell 3; have d4 := HG2.out.cell 4; have d5 := HG2.out.cell 5; have d6 := HG2.out.cell 6
   have e0 := HE2.out.cell 0; have e1 := HE2.out.cell 1; have e2 := HE2.out.cell 2; have e3 := HE2.out.cell 3; have e7 := HE2.out.cell 7
   have f2 := HG2.out.frozen 2; have f3 := HG2.out.frozen 3; have f4 := HG2.out.frozen 4; have f5 := HG2.out.frozen 5; have f6 := HG2.out.frozen 6
   simp only [List.getElem?_cons_succ, List.getElem?_cons_zero, gcs] at d2 d3 d4 d5 d6 e0 e1 e2 e3 e7
   have hne : ¬ (u.heap.size = g) := by omega
   have hne2 : ¬ (g = u.heap.size) := by omega
   go_wp2_with fail
   go_region
   go_wp2_with fail
   go_end0
   have hc3 : Chg (fun k => k = g) w2 ((((((w2.setCell ⟨g, 2, none⟩ (.int .u64 (tm : Int))).setCell ⟨g, 3, none⟩ (.int .u8 (r' : Int))).setCell ⟨g, 4, none⟩ (.int .u32 (i' : Int))).setCell ⟨g, 5, none⟩ (.int .u64 (s' : Int))).setCell ⟨g, 6, none⟩ (.string t')).drew) :=
    ((((((Chg.refl (fun k => k = g) w2).set (Or.inr rfl) 2 _).set (Or.inr rfl) 3 _).set (Or.inr rfl) 4 _).set (Or.inr rfl) 5 _).set (Or.inr rfl) 6 _).drew
   refine ⟨rfl, ⟨fun _ => ⟨vI, rI, vD, rD, ⟨?_, HI2.out.chg hc3 (fun k e f => HNg.out.1 (by rw [e, f])), HD2.out.chg hc3 (fun k e f => HNg.out.2.1 (by rw [e, f])), hB, HNg.out.1, HNg.out.2.1, HNg.out.2.2⟩⟩, (fun e => by rw [HAh.out] at e; cases e)⟩, Chg.belowTrans HW2.out hc3 (fun k hk e => by rw [e]; exact hB) HW2.out.size, by have s2 := hc3.size; omega⟩
   exact ((((HG2.out.set 2 (.int .u64 (tm : Int))).set 3 (.int .u8 (r' : Int))).set 4 (.int .u32 (i' : Int))).set 5 (.int .u64 (s' : Int))).set 6 (.string t')
end Go.Proofs.YteakbfbacfhhoaaGreat
