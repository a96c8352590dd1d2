import Derived.Test.YtiiidmphmojlgaaGreatZGr20
import Derived.Test.YtiiidmphmojlgaaGreatZCmt5
import Derived.Test.YtiiidmphmojlgaaGreatZRegC
namespace Go.Proofs.YtiiidmphmojlgaaGreat
open Go.RowKit Go.Buf Go.LB Go.Lib
set_option linter.unusedSimpArgs false
set_option linter.unusedVariables false
theorem CMap.zero {w : World} {b : Nat} (h : w.heap[b]? = some (.map #[] 0)) : CMap w (some b) [] := Or.inr ⟨b, #[], 0, rfl, h, rfl, by simp, by simp, by simp, by simp⟩
theorem len_map {w : World} {b c : Nat} {es : Array MapEntry} (h : w.heap[b]? = some (.map es c)) (ty : TypeId) : (Builtin.len_ #[40] ty #[.map (some b)]).run Tryz.prog w = .ok (.int .i64 (es.size : Int)) w := by
 simp [Builtin.len_, run_underlying Tryz.underlying40, MapKept.run_getObj_map h, Result.andThen, goInt]
theorem map_below {w w' : World} {b c : Nat} {es : Array MapEntry} (h : w.heap[b]? = some (.map es c)) (hb : Below w.heap.size w w') : w'.heap[b]? = some (.map es c) := (hb.block b (Array.getElem?_eq_some_iff.1 h).1).trans h
set_option maxRecDepth 100000 in
set_option maxHeartbeats 6400000 in
theorem refuses_gap (gb b : Nat) (r i : Nat) (qa : Option Addr) (qc : Nat) (va : Option Addr) (vl vc : Nat) (tm k : Nat) (pa : Option Addr) (pl pc : Nat) (n : Int) (t : ByteArray) (da : Option Addr) (dl dc : Nat) (pd : Dt.Dot) (lv : List Dt.Dot) (lp : List ByteArray) (ld : List Dt.Dot) (W : World) (hq : VRow W qa qc [pd]) (hv : VRow W va vc lv) (hvl : lv.length = vl) (hp : SRow W pa pc lp) (hpl : lp.length = pl) (hd : VRow W da dc ld) (hdl : ld.length = dl) (hk : k < 256) (hpn : pl ≤ 1000000) (hdn : dl ≤ 1000000) (hvn : vl ≤ 1000000) (hmay : Cm.may ⟨((r, i), 1), [pd], lv, tm, ⟨k, lp, n, t, ld⟩⟩ = true) (hG : Blk W gb 42 [.int .u64 0, .slice none 0 0, .slice none 0 0, .int .u64 0, .slice none 0 0, .map (some b)]) (hM : CMap W (some b) []) (hok : Dt.okD ((r, i), 1)) :
  Calls Tryz.prog 18 #[.pointer (some ⟨gb, 0, none⟩), cmV r i 1 qa 1 qc va vl vc tm k pa pl pc n t da dl dc] W fun e w' => e = .returned (.int .i64 9) ∧ Below W.heap.size W w' := by
 have HQ := Lib.hid hq; have HV := Lib.hid hv; have HVl := Lib.hid hvl; have HP := Lib.hid hp; have HPl := Lib.hid hpl; have HD := Lib.hid hd; have HDl := Lib.hid hdl
 have HMay := Lib.hid hmay; have HG := Lib.hid hG; have HM := Lib.hid hM
 have HBox := Lib.hid (below_box W #[.int .u8 (r : Int), .int .u32 (i : Int), .int .u64 1, .slice qa 1 qc, .slice va vl vc, .int .u64 (tm : Int), .int .u8 (k : Int), .slice pa pl pc, .int .i64 n, .string t, .slice da dl dc] 34)
 have HBk := Lib.hid (show ∀ w, Below (W.alloc (.cells #[.int .u8 (r : Int), .int .u32 (i : Int), .int .u64 1, .slice qa 1 qc, .slice va vl vc, .int .u64 (tm : Int), .int .u8 (k : Int), .slice pa pl pc, .int .i64 n, .string t, .slice da dl dc] 34)).heap.size (W.alloc (.cells #[.int .u8 (r : Int), .int .u32 (i : Int), .int .u64 1, .slice qa 1 qc, .slice va vl vc, .int .u64 (tm : Int), .int .u8 (k : Int), .slice pa pl pc, .int .i64 n, .string t, .slice da dl dc] 34)) w → Blk w W.heap.size 34 [.int .u8 (r : Int), .int .u32 (i : Int), .int .u64 1, .slice qa 1 qc, .slice va vl vc, .int .u64 (tm : Int), .int .u8 (k : Int), .slice pa pl pc, .int .i64 n, .string t, .slice da dl dc] from fun w h => (Blk.new W #[.int .u8 (r : Int), .int .u32 (i : Int), .int .u64 1, .slice qa 1 qc, .slice va vl vc, .int .u64 (tm : Int), .int .u8 (k : Int), .slice pa pl pc, .int .i64 n, .string t, .slice da dl dc] 34).below h)
 clear hq hv hvl hp hpl hd hdl hmay hG hM
 go_enter Tryz.func18, Tryz.ntmps18
 go_wp2_with fail
 refine (cmay_any r i 1 qa 1 qc va vl vc tm k pa pl pc n t da dl dc [pd] lv lp ld _ (HQ.out.below HBox.out) rfl (HV.out.below HBox.out) HVl.out (HP.out.below HBox.out) HPl.out (HD.out.below HBox.out) HDl.out hk (by omega) (by omega) (by omega)).mono ?_
 rintro e w1 ⟨rfl, hb⟩
 rw [HMay.out]
 have HX1 := Lib.hid hb; clear hb
 have hk := HBk.out _ HX1.out
 have hc0 := hk.cell 0; have hc1 := hk.cell 1; have hc2 := hk.cell 2; have hc3 := hk.cell 3; have hc4 := hk.cell 4; have hc5 := hk.cell 5; have hc6 := hk.cell 6; have hc7 := hk.cell 7; have hc8 := hk.cell 8; have hc9 := hk.cell 9; have hc10 := hk.cell 10
 simp only [List.getElem?_cons_succ, List.getElem?_cons_zero] at hc0 hc1 hc2 hc3 hc4 hc5 hc6 hc7 hc8 hc9 hc10
 clear hk
 go_wp2_with fail
 refine (ghas_any (some ⟨gb, 0, none⟩) (some b) r i 1 _ _ (Or.inr ⟨gb, rfl, HG.out.below (HBox.out.trans (HX1.out.mono HBox.out.size))⟩) (CMap.below HM.out (HBox.out.trans (HX1.out.mono HBox.out.size))) hok).mono ?_
 rintro e w2 ⟨rfl, hb⟩
 have HX2 := Lib.hid (HX1.out.trans (hb.mono HX1.out.size)); clear hc0 hc1 hc2 hc3 hc4 hc5 hc6 hc7 hc8 hc9 hc10 hb
 have hg0 : gin [] ((r, i), 1) = false := rfl
 rw [hg0]
 clear hg0
 have hk := HBk.out _ HX2.out
 have hc0 := hk.cell 0; have hc1 := hk.cell 1; have hc2 := hk.cell 2; have hc3 := hk.cell 3; have hc4 := hk.cell 4; have hc5 := hk.cell 5; have hc6 := hk.cell 6; have hc7 := hk.cell 7; have hc8 := hk.cell 8; have hc9 := hk.cell 9; have hc10 := hk.cell 10
 simp only [List.getElem?_cons_succ, List.getElem?_cons_zero] at hc0 hc1 hc2 hc3 hc4 hc5 hc6 hc7 hc8 hc9 hc10
 clear hk
 go_wp2_with fail
 refine (isGap_lacks gb b r i qa qc va vl vc tm k pa pl pc n t da dl dc _ (HG.out.below (HBox.out.trans (HX2.out.mono HBox.out.size))) [] pd (HQ.out.below (HBox.out.trans (HX2.out.mono HBox.out.size))) rfl (CMap.below HM.out (HBox.out.trans (HX2.out.mono HBox.out.size)))).mono ?_
 rintro e w3 ⟨rfl, hb⟩
 have HX3 := Lib.hid (HX2.out.trans (hb.mono HX2.out.size)); clear hc0 hc1 hc2 hc3 hc4 hc5 hc6 hc7 hc8 hc9 hc10 hb
 have HB := Lib.hid (HBox.out.trans (HX3.out.mono HBox.out.size))
 go_wp2_with fail
 go_ret
 exact ⟨rfl, HB.out⟩
set_option maxRecDepth 100000 in
set_option maxHeartbeats 6400000 in
theorem refuses_twice (gb b : Nat) (r i : Nat) (va : Option Addr) (vc : Nat) (tm k : Nat) (pa : Option Addr) (pl pc : Nat) (n : Int) (t : ByteArray) (da : Option Addr) (dl dc : Nat) (lp : List ByteArray) (ld : List Dt.Dot) (W : World) (hv : VRow W va vc [((r, i), 1)]) (hp : SRow W pa pc lp) (hpl : lp.length = pl) (hd : VRow W da dc ld) (hdl : ld.length = dl) (hk : k < 256) (hpn : pl ≤ 1000000) (hdn : dl ≤ 1000000) (hmay : Cm.may ⟨((r, i), 1), [], [((r, i), 1)], tm, ⟨k, lp, n, t, ld⟩⟩ = true) (hG : Blk W gb 42 [.int .u64 0, .slice none 0 0, .slice none 0 0, .int .u64 0, .slice none 0 0, .map (some b)]) (cs : List Cm.C) (hM : CMap W (some b) cs) (hgin : gin cs ((r, i), 1) = true) :
  Calls Tryz.prog 18 #[.pointer (some ⟨gb, 0, none⟩), cmV r i 1 none 0 0 va 1 vc tm k pa pl pc n t da dl dc] W fun e w' => e = .returned (.int .i64 8) ∧ Below W.heap.size W w' := by
 have HV := Lib.hid hv; have HP := Lib.hid hp; have HPl := Lib.hid hpl; have HD := Lib.hid hd; have HDl := Lib.hid hdl
 have HMay := Lib.hid hmay; have HG := Lib.hid hG; have HM := Lib.hid hM
 have HBox := Lib.hid (below_box W #[.int .u8 (r : Int), .int .u32 (i : Int), .int .u64 1, .slice none 0 0, .slice va 1 vc, .int .u64 (tm : Int), .int .u8 (k : Int), .slice pa pl pc, .int .i64 n, .string t, .slice da dl dc] 34)
 have HBk := Lib.hid (show ∀ w, Below (W.alloc (.cells #[.int .u8 (r : Int), .int .u32 (i : Int), .int .u64 1, .slice none 0 0, .slice va 1 vc, .int .u64 (tm : Int), .int .u8 (k : Int), .slice pa pl pc, .int .i64 n, .string t, .slice da dl dc] 34)).heap.size (W.alloc (.cells #[.int .u8 (r : Int), .int .u32 (i : Int), .int .u64 1, .slice none 0 0, .slice va 1 vc, .int .u64 (tm : Int), .int .u8 (k : Int), .slice pa pl pc, .int .i64 n, .string t, .slice da dl dc] 34)) w → Blk w W.heap.size 34 [.int .u8 (r : Int), .int .u32 (i : Int), .int .u64 1, .slice none 0 0, .slice va 1 vc, .int .u64 (tm : Int), .int .u8 (k : Int), .slice pa pl pc, .int .i64 n, .string t, .slice da dl dc] from fun w h => (Blk.new W #[.int .u8 (r : Int), .int .u32 (i : Int), .int .u64 1, .slice none 0 0, .slice va 1 vc, .int .u64 (tm : Int), .int .u8 (k : Int), .slice pa pl pc, .int .i64 n, .string t, .slice da dl dc] 34).below h)
 clear hv hp hpl hd hdl hmay hG hM
 go_enter Tryz.func18, Tryz.ntmps18
 go_wp2_with fail
 refine (cmay_any r i 1 none 0 0 va 1 vc tm k pa pl pc n t da dl dc [] [((r, i), 1)] lp ld _ (VRow.nil _) rfl (HV.out.below HBox.out) rfl (HP.out.below HBox.out) HPl.out (HD.out.below HBox.out) HDl.out hk (by omega) (by omega) (by omega)).mono ?_
 rintro e w1 ⟨rfl, hb⟩
 rw [HMay.out]
 have HX1 := Lib.hid hb; clear hb
 have hk := HBk.out _ HX1.out
 have hc0 := hk.cell 0; have hc1 := hk.cell 1; have hc2 := hk.cell 2; have hc3 := hk.cell 3; have hc4 := hk.cell 4; have hc5 := hk.cell 5; have hc6 := hk.cell 6; have hc7 := hk.cell 7; have hc8 := hk.cell 8; have hc9 := hk.cell 9; have hc10 := hk.cell 10
 simp only [List.getElem?_cons_succ, List.getElem?_cons_zero] at hc0 hc1 hc2 hc3 hc4 hc5 hc6 hc7 hc8 hc9 hc10
 clear hk
 go_wp2_with fail
 refine (ghas_any (some ⟨gb, 0, none⟩) (some b) r i 1 _ _ (Or.inr ⟨gb, rfl, HG.out.below (HBox.out.trans (HX1.out.mono HBox.out.size))⟩) (CMap.below HM.out (HBox.out.trans (HX1.out.mono HBox.out.size))) (HV.out.ok _ (List.mem_singleton.2 rfl))).mono ?_
 rintro e w2 ⟨rfl, hb⟩
 have HX2 := Lib.hid (HX1.out.trans (hb.mono HX1.out.size)); clear hc0 hc1 hc2 hc3 hc4 hc5 hc6 hc7 hc8 hc9 hc10 hb
 rw [hgin]
 have HB := Lib.hid (HBox.out.trans (HX2.out.mono HBox.out.size))
 go_wp2_with fail
 go_ret
 exact ⟨rfl, HB.out⟩
set_option maxRecDepth 100000 in
set_option maxHeartbeats 6400000 in
theorem refuses_none (gb b : Nat) (r i : Nat) (va : Option Addr) (vc : Nat) (tm k : Nat) (pa : Option Addr) (pl pc : Nat) (n : Int) (t : ByteArray) (da : Option Addr) (dl dc : Nat) (lp : List ByteArray) (ld : List Dt.Dot) (W : World) (hv : VRow W va vc [((r, i), 1)]) (hp : SRow W pa pc lp) (hpl : lp.length = pl) (hd : VRow W da dc ld) (hdl : ld.length = dl) (hk : k < 256) (hpn : pl ≤ 1000000) (hdn : dl ≤ 1000000) (hmay : Cm.may ⟨((r, i), 1), [], [((r, i), 1)], tm, ⟨k, lp, n, t, ld⟩⟩ = true) (hG : Blk W gb 42 [.int .u64 0, .slice none 0 0, .slice none 0 0, .int .u64 0, .slice none 0 0, .map (some b)]) (hM : W.heap[b]? = some (.map #[] 0)) :
  Calls Tryz.prog 18 #[.pointer (some ⟨gb, 0, none⟩), cmV r i 1 none 0 0 va 1 vc tm k pa pl pc n t da dl dc] W fun e w' => e = .returned (.int .i64 0) ∧ Below W.heap.size W w' := by
 have HV := Lib.hid hv; have HP := Lib.hid hp; have HPl := Lib.hid hpl; have HD := Lib.hid hd; have HDl := Lib.hid hdl
 have HMay := Lib.hid hmay; have HG := Lib.hid hG; have HM := Lib.hid hM
 have HBox := Lib.hid (below_box W #[.int .u8 (r : Int), .int .u32 (i : Int), .int .u64 1, .slice none 0 0, .slice va 1 vc, .int .u64 (tm : Int), .int .u8 (k : Int), .slice pa pl pc, .int .i64 n, .string t, .slice da dl dc] 34)
 have HBk := Lib.hid (show ∀ w, Below (W.alloc (.cells #[.int .u8 (r : Int), .int .u32 (i : Int), .int .u64 1, .slice none 0 0, .slice va 1 vc, .int .u64 (tm : Int), .int .u8 (k : Int), .slice pa pl pc, .int .i64 n, .string t, .slice da dl dc] 34)).heap.size (W.alloc (.cells #[.int .u8 (r : Int), .int .u32 (i : Int), .int .u64 1, .slice none 0 0, .slice va 1 vc, .int .u64 (tm : Int), .int .u8 (k : Int), .slice pa pl pc, .int .i64 n, .string t, .slice da dl dc] 34)) w → Blk w W.heap.size 34 [.int .u8 (r : Int), .int .u32 (i : Int), .int .u64 1, .slice none 0 0, .slice va 1 vc, .int .u64 (tm : Int), .int .u8 (k : Int), .slice pa pl pc, .int .i64 n, .string t, .slice da dl dc] from fun w h => (Blk.new W #[.int .u8 (r : Int), .int .u32 (i : Int), .int .u64 1, .slice none 0 0, .slice va 1 vc, .int .u64 (tm : Int), .int .u8 (k : Int), .slice pa pl pc, .int .i64 n, .string t, .slice da dl dc] 34).below h)
 clear hv hp hpl hd hdl hmay hG hM
 go_enter Tryz.func18, Tryz.ntmps18
 go_wp2_with fail
 refine (cmay_any r i 1 none 0 0 va 1 vc tm k pa pl pc n t da dl dc [] [((r, i), 1)] lp ld _ (VRow.nil _) rfl (HV.out.below HBox.out) rfl (HP.out.below HBox.out) HPl.out (HD.out.below HBox.out) HDl.out hk (by omega) (by omega) (by omega)).mono ?_
 rintro e w1 ⟨rfl, hb⟩
 rw [HMay.out]
 have HX1 := Lib.hid hb; clear hb
 have hk := HBk.out _ HX1.out
 have hc0 := hk.cell 0; have hc1 := hk.cell 1; have hc2 := hk.cell 2; have hc3 := hk.cell 3; have hc4 := hk.cell 4; have hc5 := hk.cell 5; have hc6 := hk.cell 6; have hc7 := hk.cell 7; have hc8 := hk.cell 8; have hc9 := hk.cell 9; have hc10 := hk.cell 10
 simp only [List.getElem?_cons_succ, List.getElem?_cons_zero] at hc0 hc1 hc2 hc3 hc4 hc5 hc6 hc7 hc8 hc9 hc10
 clear hk
 go_wp2_with fail
 refine (ghas_any (some ⟨gb, 0, none⟩) (some b) r i 1 _ _ (Or.inr ⟨gb, rfl, HG.out.below (HBox.out.trans (HX1.out.mono HBox.out.size))⟩) (CMap.below (CMap.zero HM.out) (HBox.out.trans (HX1.out.mono HBox.out.size))) (HV.out.ok _ (List.mem_singleton.2 rfl))).mono ?_
 rintro e w2 ⟨rfl, hb⟩
 have HX2 := Lib.hid (HX1.out.trans (hb.mono HX1.out.size)); clear hc0 hc1 hc2 hc3 hc4 hc5 hc6 hc7 hc8 hc9 hc10 hb
 have hg0 : gin [] ((r, i), 1) = false := rfl
 rw [hg0]
 clear hg0
 have hk := HBk.out _ HX2.out
 have hc0 := hk.cell 0; have hc1 := hk.cell 1; have hc2 := hk.cell 2; have hc3 := hk.cell 3; have hc4 := hk.cell 4; have hc5 := hk.cell 5; have hc6 := hk.cell 6; have hc7 := hk.cell 7; have hc8 := hk.cell 8; have hc9 := hk.cell 9; have hc10 := hk.cell 10
 simp only [List.getElem?_cons_succ, List.getElem?_cons_zero] at hc0 hc1 hc2 hc3 hc4 hc5 hc6 hc7 hc8 hc9 hc10
 clear hk
 go_wp2_with fail
 refine (isGap_own gb b r i va vc tm k pa pl pc n t da dl dc _ (HG.out.below (HBox.out.trans (HX2.out.mono HBox.out.size))) (HV.out.below (HBox.out.trans (HX2.out.mono HBox.out.size)))).mono ?_
 rintro e w3 ⟨rfl, hb⟩
 have HX3 := Lib.hid (HX2.out.trans (hb.mono HX2.out.size)); clear hc0 hc1 hc2 hc3 hc4 hc5 hc6 hc7 hc8 hc9 hc10 hb
 have hk := HBk.out _ HX3.out
 have hc0 := hk.cell 0; have hc1 := hk.cell 1; have hc2 := hk.cell 2; have hc3 := hk.cell 3; have hc4 := hk.cell 4; have hc5 := hk.cell 5; have hc6 := hk.cell 6; have hc7 := hk.cell 7; have hc8 := hk.cell 8; have hc9 := hk.cell 9; have hc10 := hk.cell 10
 simp only [List.getElem?_cons_succ, List.getElem?_cons_zero] at hc0 hc1 hc2 hc3 hc4 hc5 hc6 hc7 hc8 hc9 hc10
 clear hk
 go_wp2_with fail
 refine (isFit_own gb b r i va vc tm k pa pl pc n t da dl dc _ (HG.out.below (HBox.out.trans (HX3.out.mono HBox.out.size))) (HV.out.below (HBox.out.trans (HX3.out.mono HBox.out.size)))).mono ?_
 rintro e w4 ⟨rfl, hb⟩
 have HX4 := Lib.hid (HX3.out.trans (hb.mono HX3.out.size)); clear hc0 hc1 hc2 hc3 hc4 hc5 hc6 hc7 hc8 hc9 hc10 hb
 have hg := HG.out.below (HBox.out.trans (HX4.out.mono HBox.out.size))
 have hd5 := hg.cell 5
 simp only [List.getElem?_cons_succ, List.getElem?_cons_zero] at hd5
 have hm4 := map_below HM.out (HBox.out.trans (HX4.out.mono HBox.out.size))
 have hl4 := fun ty => len_map hm4 ty
 have HB := Lib.hid (HBox.out.trans (HX4.out.mono HBox.out.size))
 go_wp2_with fail
 go_ret
 exact ⟨rfl, HB.out⟩
end Go.Proofs.YtiiidmphmojlgaaGreat
