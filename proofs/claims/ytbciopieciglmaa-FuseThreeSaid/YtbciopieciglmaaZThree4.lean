import Derived.Test.YtbciopieciglmaaZThree2
import Derived.Test.YtbciopieciglmaaZLeaf6
import Derived.Test.YtbciopieciglmaaZFuse11
import Derived.Test.YtbciopieciglmaaZFuse12
import Derived.Test.YtbciopieciglmaaZLeaf5
namespace Go.Proofs.Ytbciopieciglmaa
open Go.RowKit Go.Buf Go.LB Go.Lib
set_option linter.unusedSimpArgs false
set_option linter.unusedVariables false
theorem evs_snoc {l : List ER} {k : Nat} {y : ER} (h : l[k]? = some y) : (l.take (k + 1)).map (fun x : ER => x.e.dot) = (l.take k).map (fun x : ER => x.e.dot) ++ [((y.r, y.i), y.s)] := by
 rw [List.take_add_one, h, List.map_append]; rfl
theorem dl_snoc {l : List ER} {k : Nat} {y : ER} (h : l[k]? = some y) (g : ∀ x ∈ l.take k, x.dl ≤ 100) (hy : y.dl ≤ 100) : ∀ x ∈ l.take (k + 1), x.dl ≤ 100 := by
 rw [List.take_add_one, h]
 intro x hx
 rcases List.mem_append.1 hx with e | e
 ·exact g x e
 ·simp at e; subst e; exact hy
def sofar (l0 l1 l2 : List ER) (p : Nat) : List Dt.Dot := (([l0, l1, l2].take p).flatten).map (fun x : ER => x.e.dot)
def few (l0 l1 l2 : List ER) (p : Nat) : Prop := ∀ x ∈ ([l0, l1, l2].take p).flatten, x.dl ≤ 100
theorem sofar_0 (l0 l1 l2 : List ER) : sofar l0 l1 l2 0 ++ l0.map (fun x : ER => x.e.dot) = sofar l0 l1 l2 1 := by simp [sofar]
theorem few_0 {l0 l1 l2 : List ER} (h : few l0 l1 l2 0) (g : ∀ y ∈ l0, y.dl ≤ 100) : few l0 l1 l2 1 := by
 intro x hx
 have e : ([l0, l1, l2].take 1).flatten = ([l0, l1, l2].take 0).flatten ++ l0 := by simp
 rw [e] at hx
 rcases List.mem_append.1 hx with q | q
 ·exact h x q
 ·exact g x q
theorem sofar_1 (l0 l1 l2 : List ER) : sofar l0 l1 l2 1 ++ l1.map (fun x : ER => x.e.dot) = sofar l0 l1 l2 2 := by simp [sofar]
theorem few_1 {l0 l1 l2 : List ER} (h : few l0 l1 l2 1) (g : ∀ y ∈ l1, y.dl ≤ 100) : few l0 l1 l2 2 := by
 intro x hx
 have e : ([l0, l1, l2].take 2).flatten = ([l0, l1, l2].take 1).flatten ++ l1 := by simp
 rw [e] at hx
 rcases List.mem_append.1 hx with q | q
 ·exact h x q
 ·exact g x q
theorem sofar_2 (l0 l1 l2 : List ER) : sofar l0 l1 l2 2 ++ l2.map (fun x : ER => x.e.dot) = sofar l0 l1 l2 3 := by simp [sofar]
theorem few_2 {l0 l1 l2 : List ER} (h : few l0 l1 l2 2) (g : ∀ y ∈ l2, y.dl ≤ 100) : few l0 l1 l2 3 := by
 intro x hx
 have e : ([l0, l1, l2].take 3).flatten = ([l0, l1, l2].take 2).flatten ++ l2 := by simp
 rw [e] at hx
 rcases List.mem_append.1 hx with q | q
 ·exact h x q
 ·exact g x q
theorem few_all {l0 l1 l2 : List ER} (h : few l0 l1 l2 3) : (∀ y ∈ l0, y.dl ≤ 100) ∧ (∀ y ∈ l1, y.dl ≤ 100) ∧ (∀ y ∈ l2, y.dl ≤ 100) := by
 have e : ([l0, l1, l2].take 3).flatten = l0 ++ (l1 ++ l2) := by simp
 unfold few at h
 rw [e] at h
 exact ⟨fun y hy => h y (by simp [hy]), fun y hy => h y (by simp [hy]), fun y hy => h y (by simp [hy])⟩
theorem evok {W : World} {a : Option Addr} {c : Nat} {l : List ER} (h : ERow W a c l) (d : ∀ y ∈ l, y.dl ≤ 100) : ∀ e ∈ l.map ER.e, e.op.dots.length ≤ 100 ∧ e.op.text.size ≤ 9223372036854775807 := by
 intro e he
 obtain ⟨y, hy, rfl⟩ := List.mem_map.1 he
 obtain ⟨_, _, _, _, h5, _, _, _, h9⟩ := h.ok y hy
 exact ⟨by have := d y hy; show y.d.length ≤ 100; omega, h5⟩
theorem evapp {P : Om.E → Prop} {a b : List Om.E} (h : ∀ e ∈ a, P e) (g : ∀ e ∈ b, P e) : ∀ e ∈ a ++ b, P e := fun e he => (List.mem_append.1 he).elim (h e) (g e)
theorem cells_evs : Try.prog.cellsOf 22 = 1 := by kernel_rfl
theorem index_three (s0 s1 s2 : Value) (a0 a1 a2 : Option Addr) (n0 n1 n2 c0 c1 c2 : Nat) (h0 : s0 = .slice a0 n0 c0) (h1 : s1 = .slice a1 n1 c1) (h2 : s2 = .slice a2 n2 c2) (w : World) :
  (Instr.index 25 (.agg #[s0, s1, s2]) (.int .i64 0)).run Try.prog w = .ok s0 w ∧ (Instr.index 25 (.agg #[s0, s1, s2]) (.int .i64 1)).run Try.prog w = .ok s1 w ∧ (Instr.index 25 (.agg #[s0, s1, s2]) (.int .i64 2)).run Try.prog w = .ok s2 w := by
 subst h0; subst h1; subst h2
 refine ⟨?_, ?_, ?_⟩ <;> simp [Instr.index, run_underlying Try.underlying25, asIntOf, cells_evs, go_sem]
set_option maxRecDepth 100000 in
set_option maxHeartbeats 51200000 in
theorem lawThree_any (kk : Nat) (a0 : Option Addr) (n0 c0 : Nat) (l0 : List ER) (a1 : Option Addr) (n1 c1 : Nat) (l1 : List ER) (a2 : Option Addr) (n2 c2 : Nat) (l2 : List ER) (W : World) (hkk : kk < 256) (h0 : ERow W a0 c0 l0) (g0 : l0.length = n0) (h1 : ERow W a1 c1 l1) (g1 : l1.length = n1) (h2 : ERow W a2 c2 l2) (g2 : l2.length = n2) :
  Calls Try.prog 3 #[.int .u8 (kk : Int), .slice a0 n0 c0, .slice a1 n1 c1, .slice a2 n2 c2] W fun e w' => e = .returned (.bool true) ∧ Below W.heap.size W w' := by
 have H0 := Lib.hid h0; have H1 := Lib.hid h1; have H2 := Lib.hid h2; have G0 := Lib.hid g0; have G1 := Lib.hid g1; have G2 := Lib.hid g2
 have l0e := h0.le; have l0c := h0.cap; have l1e := h1.le; have l1c := h1.cap; have l2e := h2.le; have l2c := h2.cap
 rw [g0] at l0e; rw [g1] at l1e; rw [g2] at l2e
 have HR := Lib.hid (Below.refl W.heap.size W)
 clear h0 h1 h2 g0 g1 g2
 have hmm : ∀ (w : World), (Instr.makeMap 24 none).run Try.prog w = .ok (.map (some w.heap.size)) (w.alloc (.map #[] 0)) := fun w => by
  simp [Instr.makeMap, run_underlying Try.underlying24, newObj, Result.andThen]
  try rfl
 have hix : ∀ (w : World), _ := fun w => index_three _ _ _ a0 a1 a2 n0 n1 n2 c0 c1 c2 rfl rfl rfl w
 have hix0 := fun w => (hix w).1; have hix1 := fun w => (hix w).2.1; have hix2 := fun w => (hix w).2.2
 clear hix
 by_cases b0 : n0 ≤ 12
 case neg =>
  go_enter Try.func3, Try.ntmps3
  go_wp2_with fail
  refine (known06_any _).mono ?_
  rintro e w9 ⟨rfl, hb⟩
  have HF := Lib.hid (HR.out.trans (hb.mono (HR.out).size)); clear hb
  go_wp2_with fail
  go_ret
  exact ⟨rfl, HF.out⟩
 by_cases b1 : n1 ≤ 12
 case neg =>
  go_enter Try.func3, Try.ntmps3
  go_wp2_with fail
  refine (known06_any _).mono ?_
  rintro e w9 ⟨rfl, hb⟩
  have HF := Lib.hid (HR.out.trans (hb.mono (HR.out).size)); clear hb
  go_wp2_with fail
  go_ret
  exact ⟨rfl, HF.out⟩
 by_cases b2 : n2 ≤ 12
 case neg =>
  go_enter Try.func3, Try.ntmps3
  go_wp2_with fail
  refine (known06_any _).mono ?_
  rintro e w9 ⟨rfl, hb⟩
  have HF := Lib.hid (HR.out.trans (hb.mono (HR.out).size)); clear hb
  go_wp2_with fail
  go_ret
  exact ⟨rfl, HF.out⟩
 have t0 : decide ((12 : Int) < (n0 : Int)) = false := by simp; omega
 have t1 : decide ((12 : Int) < (n1 : Int)) = false := by simp; omega
 have t2 : decide ((12 : Int) < (n2 : Int)) = false := by simp; omega
 go_enter Try.func3, Try.ntmps3
 go_wp2_with fail
 go_loopw [10, 12, 14, 46] (fun u _ _ v wr => ∃ (j K : Nat) (D : DataW Unit), v = .int .i64 j ∧ j ≤ 3 ∧ u = .int .i64 K ∧ K = (sofar l0 l1 l2 j).length ∧ K ≤ 12 * j ∧ Cnt wr W.heap.size K D ∧ Seen D (sofar l0 l1 l2 j) ∧ few l0 l1 l2 j ∧ Below W.heap.size W wr) (fun _ _ _ v _ => 3 - (intOf v).toNat)
 case atStart => exact ⟨0, 0, .map [], rfl, by omega, rfl, rfl, by omega, World.ownsMap_made _ _ _ _, Seen.nil, by simp [few], (Below.refl _ _).alloc (Nat.le_refl _) _⟩
 case round =>
  obtain ⟨j, K, D, rfl, hj, rfl, hK, hKb, hcnt, hseen, hfew, hbel⟩ := hrel
  have HC := Lib.hid hcnt; have HSe := Lib.hid hseen; have HFe := Lib.hid hfew; have HBl := Lib.hid hbel; have HK := Lib.hid hK
  clear hcnt hseen hfew hbel hK
  by_cases hlt : j < 3
  ·obtain ⟨SF, hSF⟩ : ∃ SF, SF = sofar l0 l1 l2 j := ⟨_, rfl⟩
   have HSF := Lib.hid hSF
   rw [← hSF] at HSe HK
   clear hSF
   rcases (show j = 0 ∨ j = 1 ∨ j = 2 by omega) with rfl | rfl | rfl
   ·rw [show (((0 : Nat)) : Int) = 0 from rfl]
    go_wp2_with fail
    go_loopw [10, 14, 51] (fun u _ v wr => ∃ (k K2 : Nat) (D2 : DataW Unit), v = .int .i64 k ∧ k ≤ n0 ∧ u = .int .i64 K2 ∧ K2 = K + k ∧ Cnt wr W.heap.size K2 D2 ∧ Seen D2 (SF ++ (l0.take k).map (fun x : ER => x.e.dot)) ∧ (∀ y ∈ l0.take k, y.dl ≤ 100) ∧ Below W.heap.size W wr) (fun _ _ v _ => n0 - (intOf v).toNat)
    case atStart => exact ⟨0, K, D, rfl, by omega, rfl, by omega, HC.out, by simpa using HSe.out, by simp, HBl.out⟩
    case round =>
     obtain ⟨k, K2, D2, rfl, hk, rfl, hK2, hcnt, hseen, hfew, hbel⟩ := hrel
     have HS := Lib.hid hseen; have HBel := Lib.hid hbel; have HFw := Lib.hid hfew; clear hseen hbel hfew
     by_cases hlt : k < n0
     ·obtain ⟨y, hy⟩ : ∃ y, l0[k]? = some y := ⟨l0[k]'(by rw [G0.out]; exact hlt), List.getElem?_eq_getElem _⟩
      have hokd := H0.out.ok y (List.mem_of_getElem? hy)
      obtain ⟨blk, off, ha, hblk, hcells⟩ := H0.out.at (by rw [G0.out]; omega)
      obtain ⟨e0, e1, e2, e3, e4, e5, e6, e7, e8⟩ := hcells k y hy
      have q0 := (HBel.out.cell (p := ⟨blk, off + k * 9, none⟩) hblk).trans e0
      have q1 := (HBel.out.cell (p := ⟨blk, off + k * 9 + 1, none⟩) hblk).trans e1
      have q2 := (HBel.out.cell (p := ⟨blk, off + k * 9 + 2, none⟩) hblk).trans e2
      have q3 := (HBel.out.cell (p := ⟨blk, off + k * 9 + 3, none⟩) hblk).trans e3
      have q4 := (HBel.out.cell (p := ⟨blk, off + k * 9 + 4, none⟩) hblk).trans e4
      have q5 := (HBel.out.cell (p := ⟨blk, off + k * 9 + 5, none⟩) hblk).trans e5
      have q6 := (HBel.out.cell (p := ⟨blk, off + k * 9 + 6, none⟩) hblk).trans e6
      have q7 := (HBel.out.cell (p := ⟨blk, off + k * 9 + 7, none⟩) hblk).trans e7
      have q8 := (HBel.out.cell (p := ⟨blk, off + k * 9 + 8, none⟩) hblk).trans e8
      have hsz := HBel.out.size
      have HT := Lib.hid (evs_snoc hy)
      have HO := Lib.hid hokd.1
      have HDl := Lib.hid (fun g => dl_snoc hy HFw.out g)
      have hpl := (hokd.2.2.2.2.2.1).le; have hpl2 := (hokd.2.2.2.2.2.1).cap; have hpl3 := hokd.2.2.2.2.2.2.1
      have hdl := (hokd.2.2.2.2.2.2.2.1).le; have hdl2 := (hokd.2.2.2.2.2.2.2.1).cap; have hdl3 := hokd.2.2.2.2.2.2.2.2
      have htx := hokd.2.2.2.2.1
      rw [hpl3] at hpl; rw [hdl3] at hdl
      clear hcells e0 e1 e2 e3 e4 e5 e6 e7 e8 hy hokd hpl3 hdl3
      obtain ⟨r, i, s, tm, k', pa, pl, pc, n, t, da, dl, dc, pp, dd⟩ := y
      simp only at q0 q1 q2 q3 q4 q5 q6 q7 q8 HT HO HDl hpl hpl2 hdl hdl2 htx
      have hcw : Cnt ((wr.alloc (.cells #[.int .u8 (r : Int), .int .u32 (i : Int), .int .u64 (s : Int), .int .u64 (tm : Int), .int .u8 (k' : Int), .slice pa pl pc, .int .i64 n, .string t, .slice da dl dc] 37)).drew) W.heap.size K2 D2 := cnt_kept (cnt_kept hcnt (World.grownBy_alloc _ _ none) (by simp)) (row := none) ⟨rfl, rfl, rfl, Nat.le_refl _, fun _ _ _ => rfl⟩ (by simp)
      obtain ⟨c, c1, v0, st, w1, ⟨y, rfl⟩, ⟨y1, rfl⟩, e1, e2, e3, e4⟩ := hcw.bump HO.out (by unfold maxLen; omega)
      obtain ⟨w2, f1, f2, f3⟩ := e4 (y + 1)
      obtain ⟨w3, f4, f5, f6⟩ := e4 (y1 + 1)
      have hE := Blk.new wr #[.int .u8 (r : Int), .int .u32 (i : Int), .int .u64 (s : Int), .int .u64 (tm : Int), .int .u8 (k' : Int), .slice pa pl pc, .int .i64 n, .string t, .slice da dl dc] 37
      have hneE : some wr.heap.size ≠ some W.heap.size := fun e => by have e9 := Option.some.inj e; have e8 := hcnt.lt; omega
      have z2 : ∀ w9, ((wr.alloc (.cells #[.int .u8 (r : Int), .int .u32 (i : Int), .int .u64 (s : Int), .int .u64 (tm : Int), .int .u8 (k' : Int), .slice pa pl pc, .int .i64 n, .string t, .slice da dl dc] 37)).drew).grownBy w9 (some W.heap.size) → w9.cell? ⟨wr.heap.size, 5, none⟩ = some (.slice pa pl pc) ∧ w9.cell? ⟨wr.heap.size, 7, none⟩ = some (.string t) ∧ w9.cell? ⟨wr.heap.size, 8, none⟩ = some (.slice da dl dc) := fun w9 hg => by
       have hE9 : Blk w9 wr.heap.size 37 _ := Blk.grown (w := (wr.alloc (.cells #[.int .u8 (r : Int), .int .u32 (i : Int), .int .u64 (s : Int), .int .u64 (tm : Int), .int .u8 (k' : Int), .slice pa pl pc, .int .i64 n, .string t, .slice da dl dc] 37)).drew) hE hg hneE
       exact ⟨hE9.cell 5, hE9.cell 7, hE9.cell 8⟩
      obtain ⟨zu5, zu7, zu8⟩ := z2 w2 f3
      obtain ⟨zv5, zv7, zv8⟩ := z2 w3 f6
      have F2 := Lib.hid f2; have F3 := Lib.hid f3; have F5 := Lib.hid f5; have F6 := Lib.hid f6
      clear f2 f3 f5 f6 e4 hcw hcnt hE hneE z2
      have i0 : (0 : Int) ≤ (k : Int) := by omega
      have i1 : (k : Int) < (n0 : Int) := by omega
      simp only [goInt] at e2 f1 f4
      have HWa := Lib.hid ((HBel.out.alloc HBel.out.size (.cells #[.int .u8 (r : Int), .int .u32 (i : Int), .int .u64 (s : Int), .int .u64 (tm : Int), .int .u8 (k' : Int), .slice pa pl pc, .int .i64 n, .string t, .slice da dl dc] 37)).drew)
      rw [ha]
      clear ha
      go_wp2_with fail
      clear q0 q1 q2 q3 q4 q5 q6 q7 q8
      go_region
      all_goals
       by_cases s1 : dl ≤ 100
       case neg =>
        go_wp2_with fail
        first
         | (refine (known06_any _).mono ?_; rintro e w9 ⟨rfl, hb⟩; have HF := Lib.hid ((below_grown HWa.out F3.out (Nat.le_refl _)).trans (hb.mono (below_grown HWa.out F3.out (Nat.le_refl _)).size)); clear hb; (go_wp2_with fail); go_ret; exact ⟨rfl, HF.out⟩)
         | (refine (known06_any _).mono ?_; rintro e w9 ⟨rfl, hb⟩; have HF := Lib.hid ((below_grown HWa.out F6.out (Nat.le_refl _)).trans (hb.mono (below_grown HWa.out F6.out (Nat.le_refl _)).size)); clear hb; (go_wp2_with fail); go_ret; exact ⟨rfl, HF.out⟩)
       by_cases s2 : pl ≤ 10
       case neg =>
        go_wp2_with fail
        first
         | (refine (known06_any _).mono ?_; rintro e w9 ⟨rfl, hb⟩; have HF := Lib.hid ((below_grown HWa.out F3.out (Nat.le_refl _)).trans (hb.mono (below_grown HWa.out F3.out (Nat.le_refl _)).size)); clear hb; (go_wp2_with fail); go_ret; exact ⟨rfl, HF.out⟩)
         | (refine (known06_any _).mono ?_; rintro e w9 ⟨rfl, hb⟩; have HF := Lib.hid ((below_grown HWa.out F6.out (Nat.le_refl _)).trans (hb.mono (below_grown HWa.out F6.out (Nat.le_refl _)).size)); clear hb; (go_wp2_with fail); go_ret; exact ⟨rfl, HF.out⟩)
       by_cases s3 : t.size ≤ 100
       case neg =>
        go_wp2_with fail
        first
         | (refine (known06_any _).mono ?_; rintro e w9 ⟨rfl, hb⟩; have HF := Lib.hid ((below_grown HWa.out F3.out (Nat.le_refl _)).trans (hb.mono (below_grown HWa.out F3.out (Nat.le_refl _)).size)); clear hb; (go_wp2_with fail); go_ret; exact ⟨rfl, HF.out⟩)
         | (refine (known06_any _).mono ?_; rintro e w9 ⟨rfl, hb⟩; have HF := Lib.hid ((below_grown HWa.out F6.out (Nat.le_refl _)).trans (hb.mono (below_grown HWa.out F6.out (Nat.le_refl _)).size)); clear hb; (go_wp2_with fail); go_ret; exact ⟨rfl, HF.out⟩)
       have x1 : decide ((100 : Int) < (dl : Int)) = false := by simp; omega
       have x2 : decide ((10 : Int) < (pl : Int)) = false := by simp; omega
       have x3 : decide ((100 : Int) < (t.size : Int)) = false := by simp; omega
       go_wp2_with fail
       go_roundw
       case rel => first | exact ⟨k + 1, K2 + 1, _, by go_num, by omega, by go_num, by omega, F2.out, by rw [HT.out, ← List.append_assoc]; exact HS.out.snoc HO.out _, HDl.out s1, below_grown HWa.out F3.out (Nat.le_refl _)⟩ | exact ⟨k + 1, K2 + 1, _, by go_num, by omega, by go_num, by omega, F5.out, by rw [HT.out, ← List.append_assoc]; exact HS.out.snoc HO.out _, HDl.out s1, below_grown HWa.out F6.out (Nat.le_refl _)⟩
       case measure => simp [intOf]; omega
     ·have hkn : k = n0 := by omega
      have htk : l0.take k = l0 := List.take_of_length_le (by rw [G0.out, hkn]; exact Nat.le_refl _)
      have HS2 := HS.out; have HF2 := HFw.out
      rw [htk] at HS2 HF2
      have hcat : SF ++ l0.map (fun x : ER => x.e.dot) = sofar l0 l1 l2 1 := by rw [HSF.out]; exact sofar_0 l0 l1 l2
      rw [hcat] at HS2
      have hlen : K2 = (sofar l0 l1 l2 1).length := by rw [← hcat, List.length_append, List.length_map, G0.out, ← HK.out]; omega
      have HS3 := Lib.hid HS2; have HF3 := Lib.hid (few_0 HFe.out HF2); have HL3 := Lib.hid hlen; have HC3 := Lib.hid hcnt
      clear HS2 HF2 hcat hlen htk hcnt
      go_wp2_with fail
      go_roundw
      case rel => exact ⟨1, K2, D2, by go_num, by omega, rfl, HL3.out, by omega, HC3.out, HS3.out, HF3.out, HBel.out⟩
      case measure => simp [intOf]
   ·rw [show (((1 : Nat)) : Int) = 1 from rfl]
    go_wp2_with fail
    go_loopw [10, 14, 51] (fun u _ v wr => ∃ (k K2 : Nat) (D2 : DataW Unit), v = .int .i64 k ∧ k ≤ n1 ∧ u = .int .i64 K2 ∧ K2 = K + k ∧ Cnt wr W.heap.size K2 D2 ∧ Seen D2 (SF ++ (l1.take k).map (fun x : ER => x.e.dot)) ∧ (∀ y ∈ l1.take k, y.dl ≤ 100) ∧ Below W.heap.size W wr) (fun _ _ v _ => n1 - (intOf v).toNat)
    case atStart => exact ⟨0, K, D, rfl, by omega, rfl, by omega, HC.out, by simpa using HSe.out, by simp, HBl.out⟩
    case round =>
     obtain ⟨k, K2, D2, rfl, hk, rfl, hK2, hcnt, hseen, hfew, hbel⟩ := hrel
     have HS := Lib.hid hseen; have HBel := Lib.hid hbel; have HFw := Lib.hid hfew; clear hseen hbel hfew
     by_cases hlt : k < n1
     ·obtain ⟨y, hy⟩ : ∃ y, l1[k]? = some y := ⟨l1[k]'(by rw [G1.out]; exact hlt), List.getElem?_eq_getElem _⟩
      have hokd := H1.out.ok y (List.mem_of_getElem? hy)
      obtain ⟨blk, off, ha, hblk, hcells⟩ := H1.out.at (by rw [G1.out]; omega)
      obtain ⟨e0, e1, e2, e3, e4, e5, e6, e7, e8⟩ := hcells k y hy
      have q0 := (HBel.out.cell (p := ⟨blk, off + k * 9, none⟩) hblk).trans e0
      have q1 := (HBel.out.cell (p := ⟨blk, off + k * 9 + 1, none⟩) hblk).trans e1
      have q2 := (HBel.out.cell (p := ⟨blk, off + k * 9 + 2, none⟩) hblk).trans e2
      have q3 := (HBel.out.cell (p := ⟨blk, off + k * 9 + 3, none⟩) hblk).trans e3
      have q4 := (HBel.out.cell (p := ⟨blk, off + k * 9 + 4, none⟩) hblk).trans e4
      have q5 := (HBel.out.cell (p := ⟨blk, off + k * 9 + 5, none⟩) hblk).trans e5
      have q6 := (HBel.out.cell (p := ⟨blk, off + k * 9 + 6, none⟩) hblk).trans e6
      have q7 := (HBel.out.cell (p := ⟨blk, off + k * 9 + 7, none⟩) hblk).trans e7
      have q8 := (HBel.out.cell (p := ⟨blk, off + k * 9 + 8, none⟩) hblk).trans e8
      have hsz := HBel.out.size
      have HT := Lib.hid (evs_snoc hy)
      have HO := Lib.hid hokd.1
      have HDl := Lib.hid (fun g => dl_snoc hy HFw.out g)
      have hpl := (hokd.2.2.2.2.2.1).le; have hpl2 := (hokd.2.2.2.2.2.1).cap; have hpl3 := hokd.2.2.2.2.2.2.1
      have hdl := (hokd.2.2.2.2.2.2.2.1).le; have hdl2 := (hokd.2.2.2.2.2.2.2.1).cap; have hdl3 := hokd.2.2.2.2.2.2.2.2
      have htx := hokd.2.2.2.2.1
      rw [hpl3] at hpl; rw [hdl3] at hdl
      clear hcells e0 e1 e2 e3 e4 e5 e6 e7 e8 hy hokd hpl3 hdl3
      obtain ⟨r, i, s, tm, k', pa, pl, pc, n, t, da, dl, dc, pp, dd⟩ := y
      simp only at q0 q1 q2 q3 q4 q5 q6 q7 q8 HT HO HDl hpl hpl2 hdl hdl2 htx
      have hcw : Cnt ((wr.alloc (.cells #[.int .u8 (r : Int), .int .u32 (i : Int), .int .u64 (s : Int), .int .u64 (tm : Int), .int .u8 (k' : Int), .slice pa pl pc, .int .i64 n, .string t, .slice da dl dc] 37)).drew) W.heap.size K2 D2 := cnt_kept (cnt_kept hcnt (World.grownBy_alloc _ _ none) (by simp)) (row := none) ⟨rfl, rfl, rfl, Nat.le_refl _, fun _ _ _ => rfl⟩ (by simp)
      obtain ⟨c, c1, v0, st, w1, ⟨y, rfl⟩, ⟨y1, rfl⟩, e1, e2, e3, e4⟩ := hcw.bump HO.out (by unfold maxLen; omega)
      obtain ⟨w2, f1, f2, f3⟩ := e4 (y + 1)
      obtain ⟨w3, f4, f5, f6⟩ := e4 (y1 + 1)
      have hE := Blk.new wr #[.int .u8 (r : Int), .int .u32 (i : Int), .int .u64 (s : Int), .int .u64 (tm : Int), .int .u8 (k' : Int), .slice pa pl pc, .int .i64 n, .string t, .slice da dl dc] 37
      have hneE : some wr.heap.size ≠ some W.heap.size := fun e => by have e9 := Option.some.inj e; have e8 := hcnt.lt; omega
      have z2 : ∀ w9, ((wr.alloc (.cells #[.int .u8 (r : Int), .int .u32 (i : Int), .int .u64 (s : Int), .int .u64 (tm : Int), .int .u8 (k' : Int), .slice pa pl pc, .int .i64 n, .string t, .slice da dl dc] 37)).drew).grownBy w9 (some W.heap.size) → w9.cell? ⟨wr.heap.size, 5, none⟩ = some (.slice pa pl pc) ∧ w9.cell? ⟨wr.heap.size, 7, none⟩ = some (.string t) ∧ w9.cell? ⟨wr.heap.size, 8, none⟩ = some (.slice da dl dc) := fun w9 hg => by
       have hE9 : Blk w9 wr.heap.size 37 _ := Blk.grown (w := (wr.alloc (.cells #[.int .u8 (r : Int), .int .u32 (i : Int), .int .u64 (s : Int), .int .u64 (tm : Int), .int .u8 (k' : Int), .slice pa pl pc, .int .i64 n, .string t, .slice da dl dc] 37)).drew) hE hg hneE
       exact ⟨hE9.cell 5, hE9.cell 7, hE9.cell 8⟩
      obtain ⟨zu5, zu7, zu8⟩ := z2 w2 f3
      obtain ⟨zv5, zv7, zv8⟩ := z2 w3 f6
      have F2 := Lib.hid f2; have F3 := Lib.hid f3; have F5 := Lib.hid f5; have F6 := Lib.hid f6
      clear f2 f3 f5 f6 e4 hcw hcnt hE hneE z2
      have i0 : (0 : Int) ≤ (k : Int) := by omega
      have i1 : (k : Int) < (n1 : Int) := by omega
      simp only [goInt] at e2 f1 f4
      have HWa := Lib.hid ((HBel.out.alloc HBel.out.size (.cells #[.int .u8 (r : Int), .int .u32 (i : Int), .int .u64 (s : Int), .int .u64 (tm : Int), .int .u8 (k' : Int), .slice pa pl pc, .int .i64 n, .string t, .slice da dl dc] 37)).drew)
      rw [ha]
      clear ha
      go_wp2_with fail
      clear q0 q1 q2 q3 q4 q5 q6 q7 q8
      go_region
      all_goals
       by_cases s1 : dl ≤ 100
       case neg =>
        go_wp2_with fail
        first
         | (refine (known06_any _).mono ?_; rintro e w9 ⟨rfl, hb⟩; have HF := Lib.hid ((below_grown HWa.out F3.out (Nat.le_refl _)).trans (hb.mono (below_grown HWa.out F3.out (Nat.le_refl _)).size)); clear hb; (go_wp2_with fail); go_ret; exact ⟨rfl, HF.out⟩)
         | (refine (known06_any _).mono ?_; rintro e w9 ⟨rfl, hb⟩; have HF := Lib.hid ((below_grown HWa.out F6.out (Nat.le_refl _)).trans (hb.mono (below_grown HWa.out F6.out (Nat.le_refl _)).size)); clear hb; (go_wp2_with fail); go_ret; exact ⟨rfl, HF.out⟩)
       by_cases s2 : pl ≤ 10
       case neg =>
        go_wp2_with fail
        first
         | (refine (known06_any _).mono ?_; rintro e w9 ⟨rfl, hb⟩; have HF := Lib.hid ((below_grown HWa.out F3.out (Nat.le_refl _)).trans (hb.mono (below_grown HWa.out F3.out (Nat.le_refl _)).size)); clear hb; (go_wp2_with fail); go_ret; exact ⟨rfl, HF.out⟩)
         | (refine (known06_any _).mono ?_; rintro e w9 ⟨rfl, hb⟩; have HF := Lib.hid ((below_grown HWa.out F6.out (Nat.le_refl _)).trans (hb.mono (below_grown HWa.out F6.out (Nat.le_refl _)).size)); clear hb; (go_wp2_with fail); go_ret; exact ⟨rfl, HF.out⟩)
       by_cases s3 : t.size ≤ 100
       case neg =>
        go_wp2_with fail
        first
         | (refine (known06_any _).mono ?_; rintro e w9 ⟨rfl, hb⟩; have HF := Lib.hid ((below_grown HWa.out F3.out (Nat.le_refl _)).trans (hb.mono (below_grown HWa.out F3.out (Nat.le_refl _)).size)); clear hb; (go_wp2_with fail); go_ret; exact ⟨rfl, HF.out⟩)
         | (refine (known06_any _).mono ?_; rintro e w9 ⟨rfl, hb⟩; have HF := Lib.hid ((below_grown HWa.out F6.out (Nat.le_refl _)).trans (hb.mono (below_grown HWa.out F6.out (Nat.le_refl _)).size)); clear hb; (go_wp2_with fail); go_ret; exact ⟨rfl, HF.out⟩)
       have x1 : decide ((100 : Int) < (dl : Int)) = false := by simp; omega
       have x2 : decide ((10 : Int) < (pl : Int)) = false := by simp; omega
       have x3 : decide ((100 : Int) < (t.size : Int)) = false := by simp; omega
       go_wp2_with fail
       go_roundw
       case rel => first | exact ⟨k + 1, K2 + 1, _, by go_num, by omega, by go_num, by omega, F2.out, by rw [HT.out, ← List.append_assoc]; exact HS.out.snoc HO.out _, HDl.out s1, below_grown HWa.out F3.out (Nat.le_refl _)⟩ | exact ⟨k + 1, K2 + 1, _, by go_num, by omega, by go_num, by omega, F5.out, by rw [HT.out, ← List.append_assoc]; exact HS.out.snoc HO.out _, HDl.out s1, below_grown HWa.out F6.out (Nat.le_refl _)⟩
       case measure => simp [intOf]; omega
     ·have hkn : k = n1 := by omega
      have htk : l1.take k = l1 := List.take_of_length_le (by rw [G1.out, hkn]; exact Nat.le_refl _)
      have HS2 := HS.out; have HF2 := HFw.out
      rw [htk] at HS2 HF2
      have hcat : SF ++ l1.map (fun x : ER => x.e.dot) = sofar l0 l1 l2 2 := by rw [HSF.out]; exact sofar_1 l0 l1 l2
      rw [hcat] at HS2
      have hlen : K2 = (sofar l0 l1 l2 2).length := by rw [← hcat, List.length_append, List.length_map, G1.out, ← HK.out]; omega
      have HS3 := Lib.hid HS2; have HF3 := Lib.hid (few_1 HFe.out HF2); have HL3 := Lib.hid hlen; have HC3 := Lib.hid hcnt
      clear HS2 HF2 hcat hlen htk hcnt
      go_wp2_with fail
      go_roundw
      case rel => exact ⟨2, K2, D2, by go_num, by omega, rfl, HL3.out, by omega, HC3.out, HS3.out, HF3.out, HBel.out⟩
      case measure => simp [intOf]
   ·rw [show (((2 : Nat)) : Int) = 2 from rfl]
    go_wp2_with fail
    go_loopw [10, 14, 51] (fun u _ v wr => ∃ (k K2 : Nat) (D2 : DataW Unit), v = .int .i64 k ∧ k ≤ n2 ∧ u = .int .i64 K2 ∧ K2 = K + k ∧ Cnt wr W.heap.size K2 D2 ∧ Seen D2 (SF ++ (l2.take k).map (fun x : ER => x.e.dot)) ∧ (∀ y ∈ l2.take k, y.dl ≤ 100) ∧ Below W.heap.size W wr) (fun _ _ v _ => n2 - (intOf v).toNat)
    case atStart => exact ⟨0, K, D, rfl, by omega, rfl, by omega, HC.out, by simpa using HSe.out, by simp, HBl.out⟩
    case round =>
     obtain ⟨k, K2, D2, rfl, hk, rfl, hK2, hcnt, hseen, hfew, hbel⟩ := hrel
     have HS := Lib.hid hseen; have HBel := Lib.hid hbel; have HFw := Lib.hid hfew; clear hseen hbel hfew
     by_cases hlt : k < n2
     ·obtain ⟨y, hy⟩ : ∃ y, l2[k]? = some y := ⟨l2[k]'(by rw [G2.out]; exact hlt), List.getElem?_eq_getElem _⟩
      have hokd := H2.out.ok y (List.mem_of_getElem? hy)
      obtain ⟨blk, off, ha, hblk, hcells⟩ := H2.out.at (by rw [G2.out]; omega)
      obtain ⟨e0, e1, e2, e3, e4, e5, e6, e7, e8⟩ := hcells k y hy
      have q0 := (HBel.out.cell (p := ⟨blk, off + k * 9, none⟩) hblk).trans e0
      have q1 := (HBel.out.cell (p := ⟨blk, off + k * 9 + 1, none⟩) hblk).trans e1
      have q2 := (HBel.out.cell (p := ⟨blk, off + k * 9 + 2, none⟩) hblk).trans e2
      have q3 := (HBel.out.cell (p := ⟨blk, off + k * 9 + 3, none⟩) hblk).trans e3
      have q4 := (HBel.out.cell (p := ⟨blk, off + k * 9 + 4, none⟩) hblk).trans e4
      have q5 := (HBel.out.cell (p := ⟨blk, off + k * 9 + 5, none⟩) hblk).trans e5
      have q6 := (HBel.out.cell (p := ⟨blk, off + k * 9 + 6, none⟩) hblk).trans e6
      have q7 := (HBel.out.cell (p := ⟨blk, off + k * 9 + 7, none⟩) hblk).trans e7
      have q8 := (HBel.out.cell (p := ⟨blk, off + k * 9 + 8, none⟩) hblk).trans e8
      have hsz := HBel.out.size
      have HT := Lib.hid (evs_snoc hy)
      have HO := Lib.hid hokd.1
      have HDl := Lib.hid (fun g => dl_snoc hy HFw.out g)
      have hpl := (hokd.2.2.2.2.2.1).le; have hpl2 := (hokd.2.2.2.2.2.1).cap; have hpl3 := hokd.2.2.2.2.2.2.1
      have hdl := (hokd.2.2.2.2.2.2.2.1).le; have hdl2 := (hokd.2.2.2.2.2.2.2.1).cap; have hdl3 := hokd.2.2.2.2.2.2.2.2
      have htx := hokd.2.2.2.2.1
      rw [hpl3] at hpl; rw [hdl3] at hdl
      clear hcells e0 e1 e2 e3 e4 e5 e6 e7 e8 hy hokd hpl3 hdl3
      obtain ⟨r, i, s, tm, k', pa, pl, pc, n, t, da, dl, dc, pp, dd⟩ := y
      simp only at q0 q1 q2 q3 q4 q5 q6 q7 q8 HT HO HDl hpl hpl2 hdl hdl2 htx
      have hcw : Cnt ((wr.alloc (.cells #[.int .u8 (r : Int), .int .u32 (i : Int), .int .u64 (s : Int), .int .u64 (tm : Int), .int .u8 (k' : Int), .slice pa pl pc, .int .i64 n, .string t, .slice da dl dc] 37)).drew) W.heap.size K2 D2 := cnt_kept (cnt_kept hcnt (World.grownBy_alloc _ _ none) (by simp)) (row := none) ⟨rfl, rfl, rfl, Nat.le_refl _, fun _ _ _ => rfl⟩ (by simp)
      obtain ⟨c, c1, v0, st, w1, ⟨y, rfl⟩, ⟨y1, rfl⟩, e1, e2, e3, e4⟩ := hcw.bump HO.out (by unfold maxLen; omega)
      obtain ⟨w2, f1, f2, f3⟩ := e4 (y + 1)
      obtain ⟨w3, f4, f5, f6⟩ := e4 (y1 + 1)
      have hE := Blk.new wr #[.int .u8 (r : Int), .int .u32 (i : Int), .int .u64 (s : Int), .int .u64 (tm : Int), .int .u8 (k' : Int), .slice pa pl pc, .int .i64 n, .string t, .slice da dl dc] 37
      have hneE : some wr.heap.size ≠ some W.heap.size := fun e => by have e9 := Option.some.inj e; have e8 := hcnt.lt; omega
      have z2 : ∀ w9, ((wr.alloc (.cells #[.int .u8 (r : Int), .int .u32 (i : Int), .int .u64 (s : Int), .int .u64 (tm : Int), .int .u8 (k' : Int), .slice pa pl pc, .int .i64 n, .string t, .slice da dl dc] 37)).drew).grownBy w9 (some W.heap.size) → w9.cell? ⟨wr.heap.size, 5, none⟩ = some (.slice pa pl pc) ∧ w9.cell? ⟨wr.heap.size, 7, none⟩ = some (.string t) ∧ w9.cell? ⟨wr.heap.size, 8, none⟩ = some (.slice da dl dc) := fun w9 hg => by
       have hE9 : Blk w9 wr.heap.size 37 _ := Blk.grown (w := (wr.alloc (.cells #[.int .u8 (r : Int), .int .u32 (i : Int), .int .u64 (s : Int), .int .u64 (tm : Int), .int .u8 (k' : Int), .slice pa pl pc, .int .i64 n, .string t, .slice da dl dc] 37)).drew) hE hg hneE
       exact ⟨hE9.cell 5, hE9.cell 7, hE9.cell 8⟩
      obtain ⟨zu5, zu7, zu8⟩ := z2 w2 f3
      obtain ⟨zv5, zv7, zv8⟩ := z2 w3 f6
      have F2 := Lib.hid f2; have F3 := Lib.hid f3; have F5 := Lib.hid f5; have F6 := Lib.hid f6
      clear f2 f3 f5 f6 e4 hcw hcnt hE hneE z2
      have i0 : (0 : Int) ≤ (k : Int) := by omega
      have i1 : (k : Int) < (n2 : Int) := by omega
      simp only [goInt] at e2 f1 f4
      have HWa := Lib.hid ((HBel.out.alloc HBel.out.size (.cells #[.int .u8 (r : Int), .int .u32 (i : Int), .int .u64 (s : Int), .int .u64 (tm : Int), .int .u8 (k' : Int), .slice pa pl pc, .int .i64 n, .string t, .slice da dl dc] 37)).drew)
      rw [ha]
      clear ha
      go_wp2_with fail
      clear q0 q1 q2 q3 q4 q5 q6 q7 q8
      go_region
      all_goals
       by_cases s1 : dl ≤ 100
       case neg =>
        go_wp2_with fail
        first
         | (refine (known06_any _).mono ?_; rintro e w9 ⟨rfl, hb⟩; have HF := Lib.hid ((below_grown HWa.out F3.out (Nat.le_refl _)).trans (hb.mono (below_grown HWa.out F3.out (Nat.le_refl _)).size)); clear hb; (go_wp2_with fail); go_ret; exact ⟨rfl, HF.out⟩)
         | (refine (known06_any _).mono ?_; rintro e w9 ⟨rfl, hb⟩; have HF := Lib.hid ((below_grown HWa.out F6.out (Nat.le_refl _)).trans (hb.mono (below_grown HWa.out F6.out (Nat.le_refl _)).size)); clear hb; (go_wp2_with fail); go_ret; exact ⟨rfl, HF.out⟩)
       by_cases s2 : pl ≤ 10
       case neg =>
        go_wp2_with fail
        first
         | (refine (known06_any _).mono ?_; rintro e w9 ⟨rfl, hb⟩; have HF := Lib.hid ((below_grown HWa.out F3.out (Nat.le_refl _)).trans (hb.mono (below_grown HWa.out F3.out (Nat.le_refl _)).size)); clear hb; (go_wp2_with fail); go_ret; exact ⟨rfl, HF.out⟩)
         | (refine (known06_any _).mono ?_; rintro e w9 ⟨rfl, hb⟩; have HF := Lib.hid ((below_grown HWa.out F6.out (Nat.le_refl _)).trans (hb.mono (below_grown HWa.out F6.out (Nat.le_refl _)).size)); clear hb; (go_wp2_with fail); go_ret; exact ⟨rfl, HF.out⟩)
       by_cases s3 : t.size ≤ 100
       case neg =>
        go_wp2_with fail
        first
         | (refine (known06_any _).mono ?_; rintro e w9 ⟨rfl, hb⟩; have HF := Lib.hid ((below_grown HWa.out F3.out (Nat.le_refl _)).trans (hb.mono (below_grown HWa.out F3.out (Nat.le_refl _)).size)); clear hb; (go_wp2_with fail); go_ret; exact ⟨rfl, HF.out⟩)
         | (refine (known06_any _).mono ?_; rintro e w9 ⟨rfl, hb⟩; have HF := Lib.hid ((below_grown HWa.out F6.out (Nat.le_refl _)).trans (hb.mono (below_grown HWa.out F6.out (Nat.le_refl _)).size)); clear hb; (go_wp2_with fail); go_ret; exact ⟨rfl, HF.out⟩)
       have x1 : decide ((100 : Int) < (dl : Int)) = false := by simp; omega
       have x2 : decide ((10 : Int) < (pl : Int)) = false := by simp; omega
       have x3 : decide ((100 : Int) < (t.size : Int)) = false := by simp; omega
       go_wp2_with fail
       go_roundw
       case rel => first | exact ⟨k + 1, K2 + 1, _, by go_num, by omega, by go_num, by omega, F2.out, by rw [HT.out, ← List.append_assoc]; exact HS.out.snoc HO.out _, HDl.out s1, below_grown HWa.out F3.out (Nat.le_refl _)⟩ | exact ⟨k + 1, K2 + 1, _, by go_num, by omega, by go_num, by omega, F5.out, by rw [HT.out, ← List.append_assoc]; exact HS.out.snoc HO.out _, HDl.out s1, below_grown HWa.out F6.out (Nat.le_refl _)⟩
       case measure => simp [intOf]; omega
     ·have hkn : k = n2 := by omega
      have htk : l2.take k = l2 := List.take_of_length_le (by rw [G2.out, hkn]; exact Nat.le_refl _)
      have HS2 := HS.out; have HF2 := HFw.out
      rw [htk] at HS2 HF2
      have hcat : SF ++ l2.map (fun x : ER => x.e.dot) = sofar l0 l1 l2 3 := by rw [HSF.out]; exact sofar_2 l0 l1 l2
      rw [hcat] at HS2
      have hlen : K2 = (sofar l0 l1 l2 3).length := by rw [← hcat, List.length_append, List.length_map, G2.out, ← HK.out]; omega
      have HS3 := Lib.hid HS2; have HF3 := Lib.hid (few_2 HFe.out HF2); have HL3 := Lib.hid hlen; have HC3 := Lib.hid hcnt
      clear HS2 HF2 hcat hlen htk hcnt
      go_wp2_with fail
      go_roundw
      case rel => exact ⟨3, K2, D2, by go_num, by omega, rfl, HL3.out, by omega, HC3.out, HS3.out, HF3.out, HBel.out⟩
      case measure => simp [intOf]
  ·have hj3 : j = 3 := by omega
   subst hj3
   have D0 := Lib.hid (few_all HFe.out).1; have D1 := Lib.hid (few_all HFe.out).2.1; have D2 := Lib.hid (few_all HFe.out).2.2
   have HP0 := Lib.hid HBl.out; have HQ0 := Lib.hid (Below.refl wr.heap.size wr)
   have R0 := Lib.hid (H0.out.below HBl.out); have R1 := Lib.hid (H1.out.below HBl.out); have R2 := Lib.hid (H2.out.below HBl.out)
   go_wp2_with fail
   refine (some1_any kk a0 n0 c0 l0 _ _ wr (by simp) hkk (R0.out.below HQ0.out) G0.out b0 D0.out).mono ?_
   rintro e w1 ⟨⟨LB, okB, ⟨iaB, icB, daB, dcB, rfl, hI, hD⟩, hrun⟩, hb⟩
   obtain ⟨kdB, nB, tB, ⟨⟨rB, iB⟩, sB⟩, xB, liB, ldB⟩ := LB
   simp only at hI hD hrun ⊢
   obtain ⟨NIB, hNI⟩ : ∃ NIB, NIB = liB.length := ⟨_, rfl⟩
   obtain ⟨NDB, hND⟩ : ∃ NDB, NDB = ldB.length := ⟨_, rfl⟩
   rw [← hNI, ← hND]
   have HNIB := Lib.hid hNI.symm; have HNDB := Lib.hid hND.symm; have HRunB := Lib.hid hrun
   have HP0w := Lib.hid (HP0.out.trans (hb.mono HP0.out.size)); have HQ0w := Lib.hid (HQ0.out.trans (hb.mono HQ0.out.size))
   have up : Below w1.heap.size w1 (w1.alloc (.cells #[.int .u8 (kdB : Int), .int .i64 nB, .int .u64 (tB : Int), .int .u8 (rB : Int), .int .u32 (iB : Int), .int .u64 (sB : Int), .string xB, .slice iaB NIB icB, .slice daB NDB dcB] 40)) := (Below.refl _ _).alloc (Nat.le_refl _) _
   have HLB := Lib.hid (Blk.new w1 #[.int .u8 (kdB : Int), .int .i64 nB, .int .u64 (tB : Int), .int .u8 (rB : Int), .int .u32 (iB : Int), .int .u64 (sB : Int), .string xB, .slice iaB NIB icB, .slice daB NDB dcB] 40); have HIB := Lib.hid (hI.below up); have HDB := Lib.hid (hD.below up)
   have HP1 := Lib.hid (HP0w.out.alloc HP0w.out.size (.cells #[.int .u8 (kdB : Int), .int .i64 nB, .int .u64 (tB : Int), .int .u8 (rB : Int), .int .u32 (iB : Int), .int .u64 (sB : Int), .string xB, .slice iaB NIB icB, .slice daB NDB dcB] 40)); have HQ1 := Lib.hid (HQ0w.out.alloc HQ0w.out.size (.cells #[.int .u8 (kdB : Int), .int .i64 nB, .int .u64 (tB : Int), .int .u8 (rB : Int), .int .u32 (iB : Int), .int .u64 (sB : Int), .string xB, .slice iaB NIB icB, .slice daB NDB dcB] 40))
   clear hI hD hrun hNI hND hb up
   go_wp2_with fail
   refine (some2_any kk a0 n0 c0 l0 a1 n1 c1 l1 _ _ (w1.alloc (.cells #[.int .u8 (kdB : Int), .int .i64 nB, .int .u64 (tB : Int), .int .u8 (rB : Int), .int .u32 (iB : Int), .int .u64 (sB : Int), .string xB, .slice iaB NIB icB, .slice daB NDB dcB] 40)) (by simp) hkk (R0.out.below HQ1.out) G0.out b0 D0.out (R1.out.below HQ1.out) G1.out b1 D1.out).mono ?_
   rintro e w2 ⟨⟨LX, okX, ⟨iaX, icX, daX, dcX, rfl, hI, hD⟩, hrun⟩, hb⟩
   obtain ⟨kdX, nX, tX, ⟨⟨rX, iX⟩, sX⟩, xX, liX, ldX⟩ := LX
   simp only at hI hD hrun ⊢
   obtain ⟨NIX, hNI⟩ : ∃ NIX, NIX = liX.length := ⟨_, rfl⟩
   obtain ⟨NDX, hND⟩ : ∃ NDX, NDX = ldX.length := ⟨_, rfl⟩
   rw [← hNI, ← hND]
   have HNIX := Lib.hid hNI.symm; have HNDX := Lib.hid hND.symm; have HRunX := Lib.hid hrun
   have HP1w := Lib.hid (HP1.out.trans (hb.mono HP1.out.size)); have HQ1w := Lib.hid (HQ1.out.trans (hb.mono HQ1.out.size))
   have HLB := Lib.hid (HLB.out.below hb); have HIB := Lib.hid (HIB.out.below hb); have HDB := Lib.hid (HDB.out.below hb)
   have up : Below w2.heap.size w2 (w2.alloc (.cells #[.int .u8 (kdX : Int), .int .i64 nX, .int .u64 (tX : Int), .int .u8 (rX : Int), .int .u32 (iX : Int), .int .u64 (sX : Int), .string xX, .slice iaX NIX icX, .slice daX NDX dcX] 40)) := (Below.refl _ _).alloc (Nat.le_refl _) _
   have HLB := Lib.hid (HLB.out.below up); have HIB := Lib.hid (HIB.out.below up); have HDB := Lib.hid (HDB.out.below up)
   have HLX := Lib.hid (Blk.new w2 #[.int .u8 (kdX : Int), .int .i64 nX, .int .u64 (tX : Int), .int .u8 (rX : Int), .int .u32 (iX : Int), .int .u64 (sX : Int), .string xX, .slice iaX NIX icX, .slice daX NDX dcX] 40); have HIX := Lib.hid (hI.below up); have HDX := Lib.hid (hD.below up)
   have HP2 := Lib.hid (HP1w.out.alloc HP1w.out.size (.cells #[.int .u8 (kdX : Int), .int .i64 nX, .int .u64 (tX : Int), .int .u8 (rX : Int), .int .u32 (iX : Int), .int .u64 (sX : Int), .string xX, .slice iaX NIX icX, .slice daX NDX dcX] 40)); have HQ2 := Lib.hid (HQ1w.out.alloc HQ1w.out.size (.cells #[.int .u8 (kdX : Int), .int .i64 nX, .int .u64 (tX : Int), .int .u8 (rX : Int), .int .u32 (iX : Int), .int .u64 (sX : Int), .string xX, .slice iaX NIX icX, .slice daX NDX dcX] 40))
   clear hI hD hrun hNI hND hb up
   go_wp2_with fail
   refine (some2_any kk a0 n0 c0 l0 a2 n2 c2 l2 _ _ (w2.alloc (.cells #[.int .u8 (kdX : Int), .int .i64 nX, .int .u64 (tX : Int), .int .u8 (rX : Int), .int .u32 (iX : Int), .int .u64 (sX : Int), .string xX, .slice iaX NIX icX, .slice daX NDX dcX] 40)) (by simp) hkk (R0.out.below HQ2.out) G0.out b0 D0.out (R2.out.below HQ2.out) G2.out b2 D2.out).mono ?_
   rintro e w3 ⟨⟨LU, okU, ⟨iaU, icU, daU, dcU, rfl, hI, hD⟩, hrun⟩, hb⟩
   obtain ⟨kdU, nU, tU, ⟨⟨rU, iU⟩, sU⟩, xU, liU, ldU⟩ := LU
   simp only at hI hD hrun ⊢
   obtain ⟨NIU, hNI⟩ : ∃ NIU, NIU = liU.length := ⟨_, rfl⟩
   obtain ⟨NDU, hND⟩ : ∃ NDU, NDU = ldU.length := ⟨_, rfl⟩
   rw [← hNI, ← hND]
   have HNIU := Lib.hid hNI.symm; have HNDU := Lib.hid hND.symm; have HRunU := Lib.hid hrun
   have HP2w := Lib.hid (HP2.out.trans (hb.mono HP2.out.size)); have HQ2w := Lib.hid (HQ2.out.trans (hb.mono HQ2.out.size))
   have HLB := Lib.hid (HLB.out.below hb); have HIB := Lib.hid (HIB.out.below hb); have HDB := Lib.hid (HDB.out.below hb)
   have HLX := Lib.hid (HLX.out.below hb); have HIX := Lib.hid (HIX.out.below hb); have HDX := Lib.hid (HDX.out.below hb)
   have up : Below w3.heap.size w3 (w3.alloc (.cells #[.int .u8 (kdU : Int), .int .i64 nU, .int .u64 (tU : Int), .int .u8 (rU : Int), .int .u32 (iU : Int), .int .u64 (sU : Int), .string xU, .slice iaU NIU icU, .slice daU NDU dcU] 40)) := (Below.refl _ _).alloc (Nat.le_refl _) _
   have HLB := Lib.hid (HLB.out.below up); have HIB := Lib.hid (HIB.out.below up); have HDB := Lib.hid (HDB.out.below up)
   have HLX := Lib.hid (HLX.out.below up); have HIX := Lib.hid (HIX.out.below up); have HDX := Lib.hid (HDX.out.below up)
   have HLU := Lib.hid (Blk.new w3 #[.int .u8 (kdU : Int), .int .i64 nU, .int .u64 (tU : Int), .int .u8 (rU : Int), .int .u32 (iU : Int), .int .u64 (sU : Int), .string xU, .slice iaU NIU icU, .slice daU NDU dcU] 40); have HIU := Lib.hid (hI.below up); have HDU := Lib.hid (hD.below up)
   have HP3 := Lib.hid (HP2w.out.alloc HP2w.out.size (.cells #[.int .u8 (kdU : Int), .int .i64 nU, .int .u64 (tU : Int), .int .u8 (rU : Int), .int .u32 (iU : Int), .int .u64 (sU : Int), .string xU, .slice iaU NIU icU, .slice daU NDU dcU] 40)); have HQ3 := Lib.hid (HQ2w.out.alloc HQ2w.out.size (.cells #[.int .u8 (kdU : Int), .int .i64 nU, .int .u64 (tU : Int), .int .u8 (rU : Int), .int .u32 (iU : Int), .int .u64 (sU : Int), .string xU, .slice iaU NIU icU, .slice daU NDU dcU] 40))
   clear hI hD hrun hNI hND hb up
   go_wp2_with fail
   refine (some3_any kk a0 n0 c0 l0 a1 n1 c1 l1 a2 n2 c2 l2 _ _ (w3.alloc (.cells #[.int .u8 (kdU : Int), .int .i64 nU, .int .u64 (tU : Int), .int .u8 (rU : Int), .int .u32 (iU : Int), .int .u64 (sU : Int), .string xU, .slice iaU NIU icU, .slice daU NDU dcU] 40)) (by simp) hkk (R0.out.below HQ3.out) G0.out b0 D0.out (R1.out.below HQ3.out) G1.out b1 D1.out (R2.out.below HQ3.out) G2.out b2 D2.out).mono ?_
   rintro e w4 ⟨⟨LA, okA, ⟨iaA, icA, daA, dcA, rfl, hI, hD⟩, hrun⟩, hb⟩
   obtain ⟨kdA, nA, tA, ⟨⟨rA, iA⟩, sA⟩, xA, liA, ldA⟩ := LA
   simp only at hI hD hrun ⊢
   obtain ⟨NIA, hNI⟩ : ∃ NIA, NIA = liA.length := ⟨_, rfl⟩
   obtain ⟨NDA, hND⟩ : ∃ NDA, NDA = ldA.length := ⟨_, rfl⟩
   rw [← hNI, ← hND]
   have HNIA := Lib.hid hNI.symm; have HNDA := Lib.hid hND.symm; have HRunA := Lib.hid hrun
   have HP3w := Lib.hid (HP3.out.trans (hb.mono HP3.out.size)); have HQ3w := Lib.hid (HQ3.out.trans (hb.mono HQ3.out.size))
   have HLB := Lib.hid (HLB.out.below hb); have HIB := Lib.hid (HIB.out.below hb); have HDB := Lib.hid (HDB.out.below hb)
   have HLX := Lib.hid (HLX.out.below hb); have HIX := Lib.hid (HIX.out.below hb); have HDX := Lib.hid (HDX.out.below hb)
   have HLU := Lib.hid (HLU.out.below hb); have HIU := Lib.hid (HIU.out.below hb); have HDU := Lib.hid (HDU.out.below hb)
   have up : Below w4.heap.size w4 (w4.alloc (.cells #[.int .u8 (kdA : Int), .int .i64 nA, .int .u64 (tA : Int), .int .u8 (rA : Int), .int .u32 (iA : Int), .int .u64 (sA : Int), .string xA, .slice iaA NIA icA, .slice daA NDA dcA] 40)) := (Below.refl _ _).alloc (Nat.le_refl _) _
   have HLB := Lib.hid (HLB.out.below up); have HIB := Lib.hid (HIB.out.below up); have HDB := Lib.hid (HDB.out.below up)
   have HLX := Lib.hid (HLX.out.below up); have HIX := Lib.hid (HIX.out.below up); have HDX := Lib.hid (HDX.out.below up)
   have HLU := Lib.hid (HLU.out.below up); have HIU := Lib.hid (HIU.out.below up); have HDU := Lib.hid (HDU.out.below up)
   have HLA := Lib.hid (Blk.new w4 #[.int .u8 (kdA : Int), .int .i64 nA, .int .u64 (tA : Int), .int .u8 (rA : Int), .int .u32 (iA : Int), .int .u64 (sA : Int), .string xA, .slice iaA NIA icA, .slice daA NDA dcA] 40); have HIA := Lib.hid (hI.below up); have HDA := Lib.hid (hD.below up)
   have HP4 := Lib.hid (HP3w.out.alloc HP3w.out.size (.cells #[.int .u8 (kdA : Int), .int .i64 nA, .int .u64 (tA : Int), .int .u8 (rA : Int), .int .u32 (iA : Int), .int .u64 (sA : Int), .string xA, .slice iaA NIA icA, .slice daA NDA dcA] 40)); have HQ4 := Lib.hid (HQ3w.out.alloc HQ3w.out.size (.cells #[.int .u8 (kdA : Int), .int .i64 nA, .int .u64 (tA : Int), .int .u8 (rA : Int), .int .u32 (iA : Int), .int .u64 (sA : Int), .string xA, .slice iaA NIA icA, .slice daA NDA dcA] 40))
   clear hI hD hrun hNI hND hb up
   have hln := (cnt_below HC.out HQ4.out).len Try.underlying24 3
   by_cases hq : Maps.size D < K
   case pos =>
    go_wp2_with fail
    refine (known06_any _).mono ?_
    rintro e w9 ⟨rfl, hb⟩
    have HF := Lib.hid (HP4.out.trans (hb.mono (HP4.out).size)); clear hb
    go_wp2_with fail
    go_ret
    exact ⟨rfl, HF.out⟩
   cases okB
   case false =>
    go_wp2_with fail
    refine (known06_any _).mono ?_
    rintro e w9 ⟨rfl, hb⟩
    have HF := Lib.hid (HP4.out.trans (hb.mono (HP4.out).size)); clear hb
    go_wp2_with fail
    go_ret
    exact ⟨rfl, HF.out⟩
   cases okX
   case false =>
    go_wp2_with fail
    refine (known06_any _).mono ?_
    rintro e w9 ⟨rfl, hb⟩
    have HF := Lib.hid (HP4.out.trans (hb.mono (HP4.out).size)); clear hb
    go_wp2_with fail
    go_ret
    exact ⟨rfl, HF.out⟩
   cases okU
   case false =>
    go_wp2_with fail
    refine (known06_any _).mono ?_
    rintro e w9 ⟨rfl, hb⟩
    have HF := Lib.hid (HP4.out.trans (hb.mono (HP4.out).size)); clear hb
    go_wp2_with fail
    go_ret
    exact ⟨rfl, HF.out⟩
   cases okA
   case false =>
    go_wp2_with fail
    refine (known06_any _).mono ?_
    rintro e w9 ⟨rfl, hb⟩
    have HF := Lib.hid (HP4.out.trans (hb.mono (HP4.out).size)); clear hb
    go_wp2_with fail
    go_ret
    exact ⟨rfl, HF.out⟩
   by_cases hk1 : 1 ≤ kk
   case neg =>
    go_wp2_with fail
    refine (known06_any _).mono ?_
    rintro e w9 ⟨rfl, hb⟩
    have HF := Lib.hid (HP4.out.trans (hb.mono (HP4.out).size)); clear hb
    go_wp2_with fail
    go_ret
    exact ⟨rfl, HF.out⟩
   by_cases hk4 : kk ≤ 4
   case neg =>
    go_wp2_with fail
    refine (known06_any _).mono ?_
    rintro e w9 ⟨rfl, hb⟩
    have HF := Lib.hid (HP4.out.trans (hb.mono (HP4.out).size)); clear hb
    go_wp2_with fail
    go_ret
    exact ⟨rfl, HF.out⟩
   have HTh := Lib.hid (Lm.three ⟨hk1, hk4⟩ (HRunB.out rfl) (HRunX.out rfl) (HRunU.out rfl) (HRunA.out rfl) (by
    have h4 := HSe.out.2.2.2; have h3 := HSe.out.2.2.1; have h5 := HK.out
    have h6 := h4.1 (by omega)
    have h7 : sofar l0 l1 l2 3 = (l0.map ER.e ++ l1.map ER.e ++ l2.map ER.e).map (·.dot) := by simp [sofar, Function.comp_def]
    rw [← h7]; exact h6))
   have hbdB := run_len 9223372036854775807 (HRunB.out rfl) (evok H0.out D0.out) (by rw [new_eq]; exact Nat.zero_le _)
   rw [new_eq] at hbdB
   simp only [List.length_nil, Nat.zero_add, List.length_append, List.length_map, G0.out, HNIB.out, HNDB.out] at hbdB
   have HBdB := Lib.hid (show NIB ≤ 4000 ∧ NDB ≤ 4000 by omega); have HXB := Lib.hid hbdB.2.2
   clear hbdB
   have hbdX := run_len 9223372036854775807 (HRunX.out rfl) (evapp (evok H0.out D0.out) (evok H1.out D1.out)) (by rw [new_eq]; exact Nat.zero_le _)
   rw [new_eq] at hbdX
   simp only [List.length_nil, Nat.zero_add, List.length_append, List.length_map, G0.out, G1.out, HNIX.out, HNDX.out] at hbdX
   have HBdX := Lib.hid (show NIX ≤ 4000 ∧ NDX ≤ 4000 by omega); have HXX := Lib.hid hbdX.2.2
   clear hbdX
   have hbdU := run_len 9223372036854775807 (HRunU.out rfl) (evapp (evok H0.out D0.out) (evok H2.out D2.out)) (by rw [new_eq]; exact Nat.zero_le _)
   rw [new_eq] at hbdU
   simp only [List.length_nil, Nat.zero_add, List.length_append, List.length_map, G0.out, G2.out, HNIU.out, HNDU.out] at hbdU
   have HBdU := Lib.hid (show NIU ≤ 4000 ∧ NDU ≤ 4000 by omega); have HXU := Lib.hid hbdU.2.2
   clear hbdU
   have hbdA := run_len 9223372036854775807 (HRunA.out rfl) (evapp (evapp (evok H0.out D0.out) (evok H1.out D1.out)) (evok H2.out D2.out)) (by rw [new_eq]; exact Nat.zero_le _)
   rw [new_eq] at hbdA
   simp only [List.length_nil, Nat.zero_add, List.length_append, List.length_map, G0.out, G1.out, G2.out, HNIA.out, HNDA.out] at hbdA
   have HBdA := Lib.hid (show NIA ≤ 4000 ∧ NDA ≤ 4000 by omega); have HXA := Lib.hid hbdA.2.2
   clear hbdA
   obtain ⟨d0, d1, d2, d3, d4, d5, d6, d7, d8⟩ := HLB.out.nine
   obtain ⟨g0, g1, g2, g3, g4, g5, g6, g7, g8⟩ := HLX.out.nine
   obtain ⟨y0, y1, y2, y3, y4, y5, y6, y7, y8⟩ := HLU.out.nine
   go_wp2_with fail
   clear hln
   clear d0 d1 d2 d3 d4 d5 d6 d7 d8 g0 g1 g2 g3 g4 g5 g6 g7 g8 y0 y1 y2 y3 y4 y5 y6 y7 y8
   have hm := fmerge_any kdB nB tB rB iB sB xB iaB NIB icB daB NDB dcB liB ldB kdX nX tX rX iX sX xX iaX NIX icX daX NDX dcX liX ldX kdU nU tU rU iU sU xU iaU NIU icU daU NDU dcU liU ldU (w4.alloc (.cells #[.int .u8 (kdA : Int), .int .i64 nA, .int .u64 (tA : Int), .int .u8 (rA : Int), .int .u32 (iA : Int), .int .u64 (sA : Int), .string xA, .slice iaA NIA icA, .slice daA NDA dcA] 40)) HIB.out HNIB.out HDB.out HNDB.out HBdB.out.1 HBdB.out.2 HXB.out HIX.out HNIX.out HDX.out HNDX.out HBdX.out.1 HBdX.out.2 HXX.out HIU.out HNIU.out HDU.out HNDU.out HBdU.out.1 HBdU.out.2 HXU.out
   rw [HTh.out.1] at hm
   refine hm.mono ?_
   rintro e w5 ⟨⟨vI, rI, vD, rD, rfl, hOI, hOD⟩, hb⟩
   obtain ⟨iaM, icM, rfl, hI⟩ := ownI_row hOI HIA.out.ok
   obtain ⟨daM, dcM, rfl, hD⟩ := ownD_row hOD HDA.out.ok
   simp only at hI hD ⊢
   rw [HNIA.out, HNDA.out]
   have HP4w := Lib.hid (HP4.out.trans (hb.mono HP4.out.size))
   have HLB := Lib.hid (HLB.out.below hb); have HIB := Lib.hid (HIB.out.below hb); have HDB := Lib.hid (HDB.out.below hb)
   have HLX := Lib.hid (HLX.out.below hb); have HIX := Lib.hid (HIX.out.below hb); have HDX := Lib.hid (HDX.out.below hb)
   have HLU := Lib.hid (HLU.out.below hb); have HIU := Lib.hid (HIU.out.below hb); have HDU := Lib.hid (HDU.out.below hb)
   have HLA := Lib.hid (HLA.out.below hb); have HIA := Lib.hid (HIA.out.below hb); have HDA := Lib.hid (HDA.out.below hb)
   have up : Below w5.heap.size w5 (w5.alloc (.cells #[.int .u8 (kdA : Int), .int .i64 nA, .int .u64 (tA : Int), .int .u8 (rA : Int), .int .u32 (iA : Int), .int .u64 (sA : Int), .string xA, .slice iaM NIA icM, .slice daM NDA dcM] 40)) := (Below.refl _ _).alloc (Nat.le_refl _) _
   have HLB := Lib.hid (HLB.out.below up); have HIB := Lib.hid (HIB.out.below up); have HDB := Lib.hid (HDB.out.below up)
   have HLX := Lib.hid (HLX.out.below up); have HIX := Lib.hid (HIX.out.below up); have HDX := Lib.hid (HDX.out.below up)
   have HLU := Lib.hid (HLU.out.below up); have HIU := Lib.hid (HIU.out.below up); have HDU := Lib.hid (HDU.out.below up)
   have HLA := Lib.hid (HLA.out.below up); have HIA := Lib.hid (HIA.out.below up); have HDA := Lib.hid (HDA.out.below up)
   have HLM := Lib.hid (Blk.new w5 #[.int .u8 (kdA : Int), .int .i64 nA, .int .u64 (tA : Int), .int .u8 (rA : Int), .int .u32 (iA : Int), .int .u64 (sA : Int), .string xA, .slice iaM NIA icM, .slice daM NDA dcM] 40); have HIM := Lib.hid (hI.below up); have HDM := Lib.hid (hD.below up)
   have HP5 := Lib.hid (HP4w.out.alloc HP4w.out.size (.cells #[.int .u8 (kdA : Int), .int .i64 nA, .int .u64 (tA : Int), .int .u8 (rA : Int), .int .u32 (iA : Int), .int .u64 (sA : Int), .string xA, .slice iaM NIA icM, .slice daM NDA dcM] 40))
   clear hI hD hOI hOD hb up hm
   obtain ⟨d0, d1, d2, d3, d4, d5, d6, d7, d8⟩ := HLB.out.nine
   obtain ⟨g0, g1, g2, g3, g4, g5, g6, g7, g8⟩ := HLX.out.nine
   obtain ⟨y0, y1, y2, y3, y4, y5, y6, y7, y8⟩ := HLU.out.nine
   go_wp2_with fail
   clear d0 d1 d2 d3 d4 d5 d6 d7 d8 g0 g1 g2 g3 g4 g5 g6 g7 g8 y0 y1 y2 y3 y4 y5 y6 y7 y8
   have hm := fmerge_any kdB nB tB rB iB sB xB iaB NIB icB daB NDB dcB liB ldB kdU nU tU rU iU sU xU iaU NIU icU daU NDU dcU liU ldU kdX nX tX rX iX sX xX iaX NIX icX daX NDX dcX liX ldX (w5.alloc (.cells #[.int .u8 (kdA : Int), .int .i64 nA, .int .u64 (tA : Int), .int .u8 (rA : Int), .int .u32 (iA : Int), .int .u64 (sA : Int), .string xA, .slice iaM NIA icM, .slice daM NDA dcM] 40)) HIB.out HNIB.out HDB.out HNDB.out HBdB.out.1 HBdB.out.2 HXB.out HIU.out HNIU.out HDU.out HNDU.out HBdU.out.1 HBdU.out.2 HXU.out HIX.out HNIX.out HDX.out HNDX.out HBdX.out.1 HBdX.out.2 HXX.out
   rw [HTh.out.2] at hm
   refine hm.mono ?_
   rintro e w6 ⟨⟨vI, rI, vD, rD, rfl, hOI, hOD⟩, hb⟩
   obtain ⟨iaO, icO, rfl, hI⟩ := ownI_row hOI HIA.out.ok
   obtain ⟨daO, dcO, rfl, hD⟩ := ownD_row hOD HDA.out.ok
   simp only at hI hD ⊢
   rw [HNIA.out, HNDA.out]
   have HP5w := Lib.hid (HP5.out.trans (hb.mono HP5.out.size))
   have HLB := Lib.hid (HLB.out.below hb); have HIB := Lib.hid (HIB.out.below hb); have HDB := Lib.hid (HDB.out.below hb)
   have HLX := Lib.hid (HLX.out.below hb); have HIX := Lib.hid (HIX.out.below hb); have HDX := Lib.hid (HDX.out.below hb)
   have HLU := Lib.hid (HLU.out.below hb); have HIU := Lib.hid (HIU.out.below hb); have HDU := Lib.hid (HDU.out.below hb)
   have HLA := Lib.hid (HLA.out.below hb); have HIA := Lib.hid (HIA.out.below hb); have HDA := Lib.hid (HDA.out.below hb)
   have HLM := Lib.hid (HLM.out.below hb); have HIM := Lib.hid (HIM.out.below hb); have HDM := Lib.hid (HDM.out.below hb)
   have up : Below w6.heap.size w6 (w6.alloc (.cells #[.int .u8 (kdA : Int), .int .i64 nA, .int .u64 (tA : Int), .int .u8 (rA : Int), .int .u32 (iA : Int), .int .u64 (sA : Int), .string xA, .slice iaO NIA icO, .slice daO NDA dcO] 40)) := (Below.refl _ _).alloc (Nat.le_refl _) _
   have HLB := Lib.hid (HLB.out.below up); have HIB := Lib.hid (HIB.out.below up); have HDB := Lib.hid (HDB.out.below up)
   have HLX := Lib.hid (HLX.out.below up); have HIX := Lib.hid (HIX.out.below up); have HDX := Lib.hid (HDX.out.below up)
   have HLU := Lib.hid (HLU.out.below up); have HIU := Lib.hid (HIU.out.below up); have HDU := Lib.hid (HDU.out.below up)
   have HLA := Lib.hid (HLA.out.below up); have HIA := Lib.hid (HIA.out.below up); have HDA := Lib.hid (HDA.out.below up)
   have HLM := Lib.hid (HLM.out.below up); have HIM := Lib.hid (HIM.out.below up); have HDM := Lib.hid (HDM.out.below up)
   have HLO := Lib.hid (Blk.new w6 #[.int .u8 (kdA : Int), .int .i64 nA, .int .u64 (tA : Int), .int .u8 (rA : Int), .int .u32 (iA : Int), .int .u64 (sA : Int), .string xA, .slice iaO NIA icO, .slice daO NDA dcO] 40); have HIO := Lib.hid (hI.below up); have HDO := Lib.hid (hD.below up)
   have HP6 := Lib.hid (HP5w.out.alloc HP5w.out.size (.cells #[.int .u8 (kdA : Int), .int .i64 nA, .int .u64 (tA : Int), .int .u8 (rA : Int), .int .u32 (iA : Int), .int .u64 (sA : Int), .string xA, .slice iaO NIA icO, .slice daO NDA dcO] 40))
   clear hI hD hOI hOD hb up hm
   obtain ⟨d0, d1, d2, d3, d4, d5, d6, d7, d8⟩ := HLM.out.nine
   obtain ⟨g0, g1, g2, g3, g4, g5, g6, g7, g8⟩ := HLA.out.nine
   go_wp2_with fail
   clear d0 d1 d2 d3 d4 d5 d6 d7 d8 g0 g1 g2 g3 g4 g5 g6 g7 g8
   have hs := refsame05_any kdA nA tA rA iA sA xA iaM NIA icM daM NDA dcM liA ldA kdA nA tA rA iA sA xA iaA NIA icA daA NDA dcA liA ldA (w6.alloc (.cells #[.int .u8 (kdA : Int), .int .i64 nA, .int .u64 (tA : Int), .int .u8 (rA : Int), .int .u32 (iA : Int), .int .u64 (sA : Int), .string xA, .slice iaO NIA icO, .slice daO NDA dcO] 40)) HIM.out HNIA.out HDM.out HNDA.out HIA.out HNIA.out HDA.out HNDA.out
   rw [Lm.same_refl] at hs
   refine hs.mono ?_
   rintro e w7 ⟨rfl, hb⟩
   have HP7 := Lib.hid (HP6.out.trans (hb.mono HP6.out.size))
   have HLB := Lib.hid (HLB.out.below hb); have HIB := Lib.hid (HIB.out.below hb); have HDB := Lib.hid (HDB.out.below hb)
   have HLX := Lib.hid (HLX.out.below hb); have HIX := Lib.hid (HIX.out.below hb); have HDX := Lib.hid (HDX.out.below hb)
   have HLU := Lib.hid (HLU.out.below hb); have HIU := Lib.hid (HIU.out.below hb); have HDU := Lib.hid (HDU.out.below hb)
   have HLA := Lib.hid (HLA.out.below hb); have HIA := Lib.hid (HIA.out.below hb); have HDA := Lib.hid (HDA.out.below hb)
   have HLM := Lib.hid (HLM.out.below hb); have HIM := Lib.hid (HIM.out.below hb); have HDM := Lib.hid (HDM.out.below hb)
   have HLO := Lib.hid (HLO.out.below hb); have HIO := Lib.hid (HIO.out.below hb); have HDO := Lib.hid (HDO.out.below hb)
   clear hb hs
   obtain ⟨d0, d1, d2, d3, d4, d5, d6, d7, d8⟩ := HLO.out.nine
   obtain ⟨g0, g1, g2, g3, g4, g5, g6, g7, g8⟩ := HLA.out.nine
   go_wp2_with fail
   clear d0 d1 d2 d3 d4 d5 d6 d7 d8 g0 g1 g2 g3 g4 g5 g6 g7 g8
   have hs := refsame05_any kdA nA tA rA iA sA xA iaO NIA icO daO NDA dcO liA ldA kdA nA tA rA iA sA xA iaA NIA icA daA NDA dcA liA ldA w7 HIO.out HNIA.out HDO.out HNDA.out HIA.out HNIA.out HDA.out HNDA.out
   rw [Lm.same_refl] at hs
   refine hs.mono ?_
   rintro e w8 ⟨rfl, hb⟩
   have HP8 := Lib.hid (HP7.out.trans (hb.mono HP7.out.size))
   have HLB := Lib.hid (HLB.out.below hb); have HIB := Lib.hid (HIB.out.below hb); have HDB := Lib.hid (HDB.out.below hb)
   have HLX := Lib.hid (HLX.out.below hb); have HIX := Lib.hid (HIX.out.below hb); have HDX := Lib.hid (HDX.out.below hb)
   have HLU := Lib.hid (HLU.out.below hb); have HIU := Lib.hid (HIU.out.below hb); have HDU := Lib.hid (HDU.out.below hb)
   have HLA := Lib.hid (HLA.out.below hb); have HIA := Lib.hid (HIA.out.below hb); have HDA := Lib.hid (HDA.out.below hb)
   have HLM := Lib.hid (HLM.out.below hb); have HIM := Lib.hid (HIM.out.below hb); have HDM := Lib.hid (HDM.out.below hb)
   have HLO := Lib.hid (HLO.out.below hb); have HIO := Lib.hid (HIO.out.below hb); have HDO := Lib.hid (HDO.out.below hb)
   clear hb hs
   go_wp2_with fail
   refine (known06_any _).mono ?_
   rintro e w9 ⟨rfl, hb⟩
   have HF := Lib.hid (HP8.out.trans (hb.mono (HP8.out).size)); clear hb
   go_wp2_with fail
   go_ret
   exact ⟨rfl, HF.out⟩
end Go.Proofs.Ytbciopieciglmaa
