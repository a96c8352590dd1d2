import Derived.Test.YtiiidmphmojlgaaGreatZGr21
import Derived.RangeFuncOwn
namespace Go.Proofs.YtiiidmphmojlgaaGreat
open Go.RowKit Go.Buf Go.LB Go.Lib
set_option linter.unusedSimpArgs false
set_option linter.unusedVariables false
set_option maxRecDepth 100000 in
set_option maxHeartbeats 6400000 in
theorem insert_gap (gb b : Nat) (r i : Nat) (qa : Option Addr) (qc : Nat) (va : Option Addr) (vl vc : Nat) (tm k : Nat) (pa : Option Addr) (pl pc : Nat) (n : Int) (t : ByteArray) (da : Option Addr) (dl dc : Nat) (pd : Dt.Dot) (lv : List Dt.Dot) (lp : List ByteArray) (ld : List Dt.Dot) (W : World) (hq : VRow W qa qc [pd]) (hv : VRow W va vc lv) (hvl : lv.length = vl) (hp : SRow W pa pc lp) (hpl : lp.length = pl) (hd : VRow W da dc ld) (hdl : ld.length = dl) (hk : k < 256) (hpn : pl ≤ 1000000) (hdn : dl ≤ 1000000) (hvn : vl ≤ 1000000) (hmay : Cm.may ⟨((r, i), 1), [pd], lv, tm, ⟨k, lp, n, t, ld⟩⟩ = true) (hG : Blk W gb 42 [.int .u64 0, .slice none 0 0, .slice none 0 0, .int .u64 0, .slice none 0 0, .map (some b)]) (hM : CMap W (some b) []) (hok : Dt.okD ((r, i), 1)) :
  Calls Tryz.prog 5 #[.pointer (some ⟨gb, 0, none⟩), cmV r i 1 qa 1 qc va vl vc tm k pa pl pc n t da dl dc] W fun e w' => e = .returned (.int .i64 9) ∧ Below W.heap.size W w' := by
 have HQ := Lib.hid hq; have HV := Lib.hid hv; have HVl := Lib.hid hvl; have HP := Lib.hid hp; have HPl := Lib.hid hpl; have HD := Lib.hid hd; have HDl := Lib.hid hdl
 have HMay := Lib.hid hmay; have HG := Lib.hid hG; have HM := Lib.hid hM
 have HBox := Lib.hid (below_box W #[.int .u8 (r : Int), .int .u32 (i : Int), .int .u64 1, .slice qa 1 qc, .slice va vl vc, .int .u64 (tm : Int), .int .u8 (k : Int), .slice pa pl pc, .int .i64 n, .string t, .slice da dl dc] 34)
 have HBk := Lib.hid (show ∀ w, Below (W.alloc (.cells #[.int .u8 (r : Int), .int .u32 (i : Int), .int .u64 1, .slice qa 1 qc, .slice va vl vc, .int .u64 (tm : Int), .int .u8 (k : Int), .slice pa pl pc, .int .i64 n, .string t, .slice da dl dc] 34)).heap.size (W.alloc (.cells #[.int .u8 (r : Int), .int .u32 (i : Int), .int .u64 1, .slice qa 1 qc, .slice va vl vc, .int .u64 (tm : Int), .int .u8 (k : Int), .slice pa pl pc, .int .i64 n, .string t, .slice da dl dc] 34)) w → Blk w W.heap.size 34 [.int .u8 (r : Int), .int .u32 (i : Int), .int .u64 1, .slice qa 1 qc, .slice va vl vc, .int .u64 (tm : Int), .int .u8 (k : Int), .slice pa pl pc, .int .i64 n, .string t, .slice da dl dc] from fun w h => (Blk.new W #[.int .u8 (r : Int), .int .u32 (i : Int), .int .u64 1, .slice qa 1 qc, .slice va vl vc, .int .u64 (tm : Int), .int .u8 (k : Int), .slice pa pl pc, .int .i64 n, .string t, .slice da dl dc] 34).below h)
 clear hq hv hvl hp hpl hd hdl hmay hG hM
 go_enter Tryz.func5, Tryz.ntmps5
 go_wp2_with fail
 refine (isMade_any (some ⟨gb, 0, none⟩) (some b) _ (Or.inr ⟨gb, rfl, HG.out.below HBox.out⟩)).mono ?_
 rintro e w1 ⟨rfl, hb⟩
 have HX1 := Lib.hid hb; clear hb
 have hk := HBk.out _ HX1.out
 have hc0 := hk.cell 0; have hc1 := hk.cell 1; have hc2 := hk.cell 2; have hc3 := hk.cell 3; have hc4 := hk.cell 4; have hc5 := hk.cell 5; have hc6 := hk.cell 6; have hc7 := hk.cell 7; have hc8 := hk.cell 8; have hc9 := hk.cell 9; have hc10 := hk.cell 10
 simp only [List.getElem?_cons_succ, List.getElem?_cons_zero] at hc0 hc1 hc2 hc3 hc4 hc5 hc6 hc7 hc8 hc9 hc10
 clear hk
 go_wp2_with fail
 refine (refuses_gap gb b r i qa qc va vl vc tm k pa pl pc n t da dl dc pd lv lp ld _ (HQ.out.below (HBox.out.trans (HX1.out.mono HBox.out.size))) (HV.out.below (HBox.out.trans (HX1.out.mono HBox.out.size))) HVl.out (HP.out.below (HBox.out.trans (HX1.out.mono HBox.out.size))) HPl.out (HD.out.below (HBox.out.trans (HX1.out.mono HBox.out.size))) HDl.out hk hpn hdn hvn HMay.out (HG.out.below (HBox.out.trans (HX1.out.mono HBox.out.size))) (CMap.below HM.out (HBox.out.trans (HX1.out.mono HBox.out.size))) hok).mono ?_
 rintro e w2 ⟨rfl, hb⟩
 have HB := Lib.hid (HBox.out.trans ((HX1.out.trans (hb.mono HX1.out.size)).mono HBox.out.size)); clear hc0 hc1 hc2 hc3 hc4 hc5 hc6 hc7 hc8 hc9 hc10 hb
 go_wp2_with fail
 go_ret
 exact ⟨rfl, HB.out⟩
set_option maxRecDepth 100000 in
set_option maxHeartbeats 6400000 in
theorem insert_twice (gb b : Nat) (r i : Nat) (va : Option Addr) (vc : Nat) (tm k : Nat) (pa : Option Addr) (pl pc : Nat) (n : Int) (t : ByteArray) (da : Option Addr) (dl dc : Nat) (lp : List ByteArray) (ld : List Dt.Dot) (W : World) (hv : VRow W va vc [((r, i), 1)]) (hp : SRow W pa pc lp) (hpl : lp.length = pl) (hd : VRow W da dc ld) (hdl : ld.length = dl) (hk : k < 256) (hpn : pl ≤ 1000000) (hdn : dl ≤ 1000000) (hmay : Cm.may ⟨((r, i), 1), [], [((r, i), 1)], tm, ⟨k, lp, n, t, ld⟩⟩ = true) (hG : Blk W gb 42 [.int .u64 0, .slice none 0 0, .slice none 0 0, .int .u64 0, .slice none 0 0, .map (some b)]) (cs : List Cm.C) (hM : CMap W (some b) cs) (hgin : gin cs ((r, i), 1) = true) :
  Calls Tryz.prog 5 #[.pointer (some ⟨gb, 0, none⟩), cmV r i 1 none 0 0 va 1 vc tm k pa pl pc n t da dl dc] W fun e w' => e = .returned (.int .i64 8) ∧ Below W.heap.size W w' := by
 have HV := Lib.hid hv; have HP := Lib.hid hp; have HPl := Lib.hid hpl; have HD := Lib.hid hd; have HDl := Lib.hid hdl
 have HMay := Lib.hid hmay; have HG := Lib.hid hG; have HM := Lib.hid hM
 have HBox := Lib.hid (below_box W #[.int .u8 (r : Int), .int .u32 (i : Int), .int .u64 1, .slice none 0 0, .slice va 1 vc, .int .u64 (tm : Int), .int .u8 (k : Int), .slice pa pl pc, .int .i64 n, .string t, .slice da dl dc] 34)
 have HBk := Lib.hid (show ∀ w, Below (W.alloc (.cells #[.int .u8 (r : Int), .int .u32 (i : Int), .int .u64 1, .slice none 0 0, .slice va 1 vc, .int .u64 (tm : Int), .int .u8 (k : Int), .slice pa pl pc, .int .i64 n, .string t, .slice da dl dc] 34)).heap.size (W.alloc (.cells #[.int .u8 (r : Int), .int .u32 (i : Int), .int .u64 1, .slice none 0 0, .slice va 1 vc, .int .u64 (tm : Int), .int .u8 (k : Int), .slice pa pl pc, .int .i64 n, .string t, .slice da dl dc] 34)) w → Blk w W.heap.size 34 [.int .u8 (r : Int), .int .u32 (i : Int), .int .u64 1, .slice none 0 0, .slice va 1 vc, .int .u64 (tm : Int), .int .u8 (k : Int), .slice pa pl pc, .int .i64 n, .string t, .slice da dl dc] from fun w h => (Blk.new W #[.int .u8 (r : Int), .int .u32 (i : Int), .int .u64 1, .slice none 0 0, .slice va 1 vc, .int .u64 (tm : Int), .int .u8 (k : Int), .slice pa pl pc, .int .i64 n, .string t, .slice da dl dc] 34).below h)
 clear hv hp hpl hd hdl hmay hG hM
 go_enter Tryz.func5, Tryz.ntmps5
 go_wp2_with fail
 refine (isMade_any (some ⟨gb, 0, none⟩) (some b) _ (Or.inr ⟨gb, rfl, HG.out.below HBox.out⟩)).mono ?_
 rintro e w1 ⟨rfl, hb⟩
 have HX1 := Lib.hid hb; clear hb
 have hk := HBk.out _ HX1.out
 have hc0 := hk.cell 0; have hc1 := hk.cell 1; have hc2 := hk.cell 2; have hc3 := hk.cell 3; have hc4 := hk.cell 4; have hc5 := hk.cell 5; have hc6 := hk.cell 6; have hc7 := hk.cell 7; have hc8 := hk.cell 8; have hc9 := hk.cell 9; have hc10 := hk.cell 10
 simp only [List.getElem?_cons_succ, List.getElem?_cons_zero] at hc0 hc1 hc2 hc3 hc4 hc5 hc6 hc7 hc8 hc9 hc10
 clear hk
 go_wp2_with fail
 refine (refuses_twice gb b r i va vc tm k pa pl pc n t da dl dc lp ld _ (HV.out.below (HBox.out.trans (HX1.out.mono HBox.out.size))) (HP.out.below (HBox.out.trans (HX1.out.mono HBox.out.size))) HPl.out (HD.out.below (HBox.out.trans (HX1.out.mono HBox.out.size))) HDl.out hk hpn hdn HMay.out (HG.out.below (HBox.out.trans (HX1.out.mono HBox.out.size))) cs (CMap.below HM.out (HBox.out.trans (HX1.out.mono HBox.out.size))) hgin).mono ?_
 rintro e w2 ⟨rfl, hb⟩
 have HB := Lib.hid (HBox.out.trans ((HX1.out.trans (hb.mono HX1.out.size)).mono HBox.out.size)); clear hc0 hc1 hc2 hc3 hc4 hc5 hc6 hc7 hc8 hc9 hc10 hb
 go_wp2_with fail
 go_ret
 exact ⟨rfl, HB.out⟩
theorem put_first {w : World} {b : Nat} {x : Value} {d : Dt.Dot} (hd : Dt.okD d) (hb : w.heap[b]? = some (.map #[] 0)) : (Instr.mapUpdate 40 (.map (some b)) (dotV d) x).run Tryz.prog w = .ok () (w.putObj b (.map #[{ key := dotV d, val := x, born := 0 }] 1)) := by
 rcases dotKeyLaw.find w (keyOf_dot hd) [] (fun e he => by simp at he) with ⟨f1, f2⟩ | ⟨j, e, f1, f2, f3⟩
 ·simp [Instr.mapUpdate, run_underlying Tryz.underlying40, MapKept.run_getObj_map hb, dotKeyLaw.check w false (keyOf_dot hd), f1, MapKept.run_setObj_map _ hb, Result.andThen, World.putObj]
 ·simp at f2
set_option maxRecDepth 100000 in
set_option maxHeartbeats 6400000 in
theorem insert_first (gb b : Nat) (r i : Nat) (va : Option Addr) (vc : Nat) (tm k : Nat) (pa : Option Addr) (pl pc : Nat) (n : Int) (t : ByteArray) (da : Option Addr) (dl dc : Nat) (lp : List ByteArray) (ld : List Dt.Dot) (W : World) (hv : VRow W va vc [((r, i), 1)]) (hp : SRow W pa pc lp) (hpl : lp.length = pl) (hd : VRow W da dc ld) (hdl : ld.length = dl) (hk : k < 256) (hpn : pl ≤ 1000000) (hdn : dl ≤ 1000000) (hmay : Cm.may ⟨((r, i), 1), [], [((r, i), 1)], tm, ⟨k, lp, n, t, ld⟩⟩ = true) (hG : Blk W gb 42 [.int .u64 0, .slice none 0 0, .slice none 0 0, .int .u64 0, .slice none 0 0, .map (some b)]) (hM : W.heap[b]? = some (.map #[] 0)) (htm : tm < 18446744073709551616) (hn1 : -9223372036854775808 ≤ n) (hn2 : n ≤ 9223372036854775807) (hts : t.size ≤ 9223372036854775807) :
  Calls Tryz.prog 5 #[.pointer (some ⟨gb, 0, none⟩), cmV r i 1 none 0 0 va 1 vc tm k pa pl pc n t da dl dc] W fun e w' => e = .returned (.int .i64 0) ∧ CMap w' (some b) [⟨((r, i), 1), [], [((r, i), 1)], tm, ⟨k, lp, n, t, ld⟩⟩] ∧ Chg (fun q => q = b) W w' := by
 have HV := Lib.hid hv; have HP := Lib.hid hp; have HPl := Lib.hid hpl; have HD := Lib.hid hd; have HDl := Lib.hid hdl
 have HMay := Lib.hid hmay; have HG := Lib.hid hG; have HM := Lib.hid hM
 have HBox := Lib.hid (below_box W #[.int .u8 (r : Int), .int .u32 (i : Int), .int .u64 1, .slice none 0 0, .slice va 1 vc, .int .u64 (tm : Int), .int .u8 (k : Int), .slice pa pl pc, .int .i64 n, .string t, .slice da dl dc] 34)
 have HBk := Lib.hid (show ∀ w, Below (W.alloc (.cells #[.int .u8 (r : Int), .int .u32 (i : Int), .int .u64 1, .slice none 0 0, .slice va 1 vc, .int .u64 (tm : Int), .int .u8 (k : Int), .slice pa pl pc, .int .i64 n, .string t, .slice da dl dc] 34)).heap.size (W.alloc (.cells #[.int .u8 (r : Int), .int .u32 (i : Int), .int .u64 1, .slice none 0 0, .slice va 1 vc, .int .u64 (tm : Int), .int .u8 (k : Int), .slice pa pl pc, .int .i64 n, .string t, .slice da dl dc] 34)) w → Blk w W.heap.size 34 [.int .u8 (r : Int), .int .u32 (i : Int), .int .u64 1, .slice none 0 0, .slice va 1 vc, .int .u64 (tm : Int), .int .u8 (k : Int), .slice pa pl pc, .int .i64 n, .string t, .slice da dl dc] from fun w h => (Blk.new W #[.int .u8 (r : Int), .int .u32 (i : Int), .int .u64 1, .slice none 0 0, .slice va 1 vc, .int .u64 (tm : Int), .int .u8 (k : Int), .slice pa pl pc, .int .i64 n, .string t, .slice da dl dc] 34).below h)
 clear hv hp hpl hd hdl hmay hG hM
 go_enter Tryz.func5, Tryz.ntmps5
 go_wp2_with fail
 refine (isMade_any (some ⟨gb, 0, none⟩) (some b) _ (Or.inr ⟨gb, rfl, HG.out.below HBox.out⟩)).mono ?_
 rintro e w1 ⟨rfl, hb⟩
 have HX1 := Lib.hid hb; clear hb
 have hk := HBk.out _ HX1.out
 have hc0 := hk.cell 0; have hc1 := hk.cell 1; have hc2 := hk.cell 2; have hc3 := hk.cell 3; have hc4 := hk.cell 4; have hc5 := hk.cell 5; have hc6 := hk.cell 6; have hc7 := hk.cell 7; have hc8 := hk.cell 8; have hc9 := hk.cell 9; have hc10 := hk.cell 10
 simp only [List.getElem?_cons_succ, List.getElem?_cons_zero] at hc0 hc1 hc2 hc3 hc4 hc5 hc6 hc7 hc8 hc9 hc10
 clear hk
 go_wp2_with fail
 have HLt := Lib.hid (Array.getElem?_eq_some_iff.1 HM.out).1
 have HOk := Lib.hid (HV.out.ok _ (List.mem_singleton.2 rfl))
 refine (refuses_none gb b r i va vc tm k pa pl pc n t da dl dc lp ld _ (HV.out.below (HBox.out.trans (HX1.out.mono HBox.out.size))) (HP.out.below (HBox.out.trans (HX1.out.mono HBox.out.size))) HPl.out (HD.out.below (HBox.out.trans (HX1.out.mono HBox.out.size))) HDl.out hk hpn hdn HMay.out (HG.out.below (HBox.out.trans (HX1.out.mono HBox.out.size))) (map_below HM.out (HBox.out.trans (HX1.out.mono HBox.out.size)))).mono ?_
 rintro e w2 ⟨rfl, hb⟩
 have HX2 := Lib.hid (HX1.out.trans (hb.mono HX1.out.size)); clear hc0 hc1 hc2 hc3 hc4 hc5 hc6 hc7 hc8 hc9 hc10 hb
 go_wp2_with fail
 refine RegC.region_list (by kernel_rfl) [8] [RegC.plain (fun v _ => v = .pointer (some ⟨gb, 0, none⟩)), RegC.plain (fun v _ => v = .pointer (some ⟨gb, 0, none⟩)), RegC.plain (fun v _ => v = .pointer (some ⟨gb, 5, none⟩)), RegC.plain (fun v _ => v = .map (some b)), RegC.plain (fun v _ => v = .pointer (some ⟨W.heap.size, 0, none⟩)), RegC.plain (fun v _ => v = .agg #[.int .u8 (r : Int), .int .u32 (i : Int), .int .u64 1]), RegC.plain (fun v _ => v = .agg #[.int .u8 (r : Int), .int .u32 (i : Int), .int .u64 1, .slice none 0 0, .slice va 1 vc, .int .u64 (tm : Int), .int .u8 (k : Int), .slice pa pl pc, .int .i64 n, .string t, .slice da dl dc]), RegC.plain (fun v w => ∃ qa' qc' va' vc' pa' pc' da' dc', v = cmV r i 1 qa' 0 qc' va' 1 vc' tm k pa' pl pc' n t da' dl dc' ∧ (∀ w2, Chg (fun q => q < W.heap.size) w w2 → VRow w2 qa' qc' [] ∧ VRow w2 va' vc' [((r, i), 1)] ∧ SRow w2 pa' pc' lp ∧ VRow w2 da' dc' ld)), RegC.change (fun v w => ∃ en : MapEntry, w.heap[b]? = some (.map #[en] 1) ∧ en.key = dotV ((r, i), 1) ∧ IsC w en.val ⟨((r, i), 1), [], [((r, i), 1)], tm, ⟨k, lp, n, t, ld⟩⟩ ∧ en.born = 0) (fun k => k = b)] (by kernel_rfl) ?_ ?_ ?_ ?_ ?_
 ·exact ⟨Or.inr (fun _ h => h), Or.inr (fun _ h => h), Or.inr (fun _ h => h), Or.inr (fun _ h => h), Or.inr (fun _ h => h), Or.inr (fun _ h => h), Or.inr (fun _ h => h), Or.inr (fun _ h => h), Or.inl (by decide), trivial⟩
 ·refine ⟨k4, k4, k4, k4, k4, k4, k4, (fun v wa wb hb h => by obtain ⟨qa', qc', va', vc', pa', pc', da', dc', h1, h2⟩ := h; exact ⟨qa', qc', va', vc', pa', pc', da', dc', h1, fun w2 hc => h2 w2 ((Chg.of_below hb).trans hc (fun _ _ e => e))⟩), (fun v wa wb hb h => by obtain ⟨en, h1, h2, h3, h4⟩ := h; exact ⟨en, map_below h1 hb, h2, h3.below hb, h4⟩), trivial⟩
 ·refine ⟨⟨Or.inr (Or.inr k4), Or.inr (Or.inr k4), Or.inr (Or.inr k4), Or.inr (Or.inr k4), Or.inr (Or.inr k4), Or.inr (Or.inr k4), Or.inr (Or.inr k4), Or.inr (Or.inr (fun v wa wb hr h => by obtain ⟨qa', qc', va', vc', pa', pc', da', dc', h1, h2⟩ := h; exact ⟨qa', qc', va', vc', pa', pc', da', dc', h1, fun w2 hc => h2 w2 ((Chg.mono hr (fun q _ e => by have e' : q = b := e; rw [e']; exact HLt.out)).trans hc (fun _ _ e => e))⟩)), Or.inl rfl, trivial⟩, trivial⟩
 ·refine ⟨?_, ?_, ?_, ?_, ?_, ?_, ?_, ?_, ?_, trivial⟩
  ·intro ev w hc hf hg hfix hdep hchg
   have e0 : ev (.tmp 0) = _ := hfix 0 (by decide)
   exact Or.inl ⟨trivial, Or.inl ⟨_, w, by go_simp, rfl, Chg.refl _ _⟩⟩
  ·intro ev w hc hf hg hfix hdep hchg
   have e15 : ev (.tmp 15) = _ := hdep 0 (by decide)
   exact Or.inl ⟨trivial, Or.inl ⟨_, w, by go_simp, rfl, Chg.refl _ _⟩⟩
  ·intro ev w hc hf hg hfix hdep hchg
   have e16 : ev (.tmp 16) = _ := hdep 1 (by decide)
   exact Or.inl ⟨trivial, Or.inl ⟨_, w, by go_simp, rfl, Chg.refl _ _⟩⟩
  ·intro ev w hc hf hg hfix hdep hchg
   have e17 : ev (.tmp 17) = _ := hdep 2 (by decide)
   have hb0 := RegC.chg0 (hchg [] (by kernel_rfl))
   have hg := HG.out.below (HBox.out.trans ((HX2.out.trans (hb0.mono HX2.out.size)).mono HBox.out.size))
   have hd0 := hg.cell 0; have hd1 := hg.cell 1; have hd2 := hg.cell 2; have hd3 := hg.cell 3; have hd4 := hg.cell 4; have hd5 := hg.cell 5
   simp only [List.getElem?_cons_succ, List.getElem?_cons_zero] at hd0 hd1 hd2 hd3 hd4 hd5
   exact Or.inl ⟨trivial, Or.inl ⟨_, w, by go_simp, rfl, Chg.refl _ _⟩⟩
  ·intro ev w hc hf hg hfix hdep hchg
   have e3 : ev (.tmp 3) = _ := hfix 3 (by decide)
   exact Or.inl ⟨trivial, Or.inl ⟨_, w, by go_simp, rfl, Chg.refl _ _⟩⟩
  ·intro ev w hc hf hg hfix hdep hchg
   have e19 : ev (.tmp 19) = _ := hdep 4 (by decide)
   have hb0 := RegC.chg0 (hchg [] (by kernel_rfl))
   have hk := HBk.out w (HX2.out.trans (hb0.mono HX2.out.size))
   have hc0 := hk.cell 0; have hc1 := hk.cell 1; have hc2 := hk.cell 2; have hc3 := hk.cell 3; have hc4 := hk.cell 4; have hc5 := hk.cell 5; have hc6 := hk.cell 6; have hc7 := hk.cell 7; have hc8 := hk.cell 8; have hc9 := hk.cell 9; have hc10 := hk.cell 10
   simp only [List.getElem?_cons_succ, List.getElem?_cons_zero] at hc0 hc1 hc2 hc3 hc4 hc5 hc6 hc7 hc8 hc9 hc10
   exact Or.inl ⟨trivial, Or.inl ⟨_, w, by go_simp, rfl, Chg.refl _ _⟩⟩
  ·intro ev w hc hf hg hfix hdep hchg
   have e3 : ev (.tmp 3) = _ := hfix 3 (by decide)
   have hb0 := RegC.chg0 (hchg [] (by kernel_rfl))
   have hk := HBk.out w (HX2.out.trans (hb0.mono HX2.out.size))
   have hc0 := hk.cell 0; have hc1 := hk.cell 1; have hc2 := hk.cell 2; have hc3 := hk.cell 3; have hc4 := hk.cell 4; have hc5 := hk.cell 5; have hc6 := hk.cell 6; have hc7 := hk.cell 7; have hc8 := hk.cell 8; have hc9 := hk.cell 9; have hc10 := hk.cell 10
   simp only [List.getElem?_cons_succ, List.getElem?_cons_zero] at hc0 hc1 hc2 hc3 hc4 hc5 hc6 hc7 hc8 hc9 hc10
   exact Or.inl ⟨trivial, Or.inl ⟨_, w, by go_simp, rfl, Chg.refl _ _⟩⟩
  ·intro ev w hc hf hg hfix hdep hchg
   have e21 : ev (.tmp 21) = _ := hdep 6 (by decide)
   refine Or.inl ⟨trivial, Or.inr (Or.inl ⟨16, #[.agg #[.int .u8 (r : Int), .int .u32 (i : Int), .int .u64 1, .slice none 0 0, .slice va 1 vc, .int .u64 (tm : Int), .int .u8 (k : Int), .slice pa pl pc, .int .i64 n, .string t, .slice da dl dc]], w, by go_simp, ?_⟩)⟩
   have hb0 := RegC.chg0 (hchg [] (by kernel_rfl))
   have hw := (HBox.out.trans ((HX2.out.trans (hb0.mono HX2.out.size)).mono HBox.out.size))
   have hsz := hw.size
   refine (ownCommit_any r i 1 none 0 0 va 1 vc tm k pa pl pc n t da dl dc [] [((r, i), 1)] lp ld w (VRow.nil _) rfl (HV.out.below hw) rfl (HP.out.below hw) HPl.out (HD.out.below hw) HDl.out (by omega) (by omega) (by omega) (by omega)).mono ?_
   rintro e w1 ⟨qa', qc', va', vc', pa', pc', da', dc', rfl, hst, hb⟩
   exact ⟨_, rfl, ⟨qa', qc', va', vc', pa', pc', da', dc', rfl, fun w2 hc => hst w2 (hc.mono (fun q _ e => Nat.lt_of_lt_of_le e hsz))⟩, Chg.of_below hb⟩
  ·intro ev w hc hf hg hfix hdep hchg
   have e18 : ev (.tmp 18) = _ := hdep 3 (by decide)
   have e20 : ev (.tmp 20) = _ := hdep 5 (by decide)
   have e22 := hdep 7 (by decide)
   have hb0 := RegC.chg0 (hchg [] (by kernel_rfl))
   have hw := (HBox.out.trans ((HX2.out.trans (hb0.mono HX2.out.size)).mono HBox.out.size))
   obtain ⟨qa', qc', va', vc', pa', pc', da', dc', hv, hst⟩ := e22
   have e22 : ev (.tmp 22) = cmV r i 1 qa' 0 qc' va' 1 vc' tm k pa' pl pc' n t da' dl dc' := hv
   have hmb := map_below HM.out hw
   have hput := put_first (x := cmV r i 1 qa' 0 qc' va' 1 vc' tm k pa' pl pc' n t da' dl dc') HOk.out hmb
   have hput' : (Instr.mapUpdate 40 (.map (some b)) (.agg #[.int .u8 (r : Int), .int .u32 (i : Int), .int .u64 1]) (cmV r i 1 qa' 0 qc' va' 1 vc' tm k pa' pl pc' n t da' dl dc')).run Tryz.prog w = .ok () (w.putObj b (.map #[{ key := dotV ((r, i), 1), val := cmV r i 1 qa' 0 qc' va' 1 vc' tm k pa' pl pc' n t da' dl dc', born := 0 }] 1)) := hput
   have hch : Chg (fun q => q = b) w (w.putObj b (.map #[{ key := dotV ((r, i), 1), val := cmV r i 1 qa' 0 qc' va' 1 vc' tm k pa' pl pc' n t da' dl dc', born := 0 }] 1)) := (Chg.of_grown (grownBy_putObj' w b _)).mono (fun q _ e => Option.some.inj e)
   obtain ⟨s1, s2, s3, s4⟩ := hst _ (hch.mono (fun q _ e => by subst e; exact HLt.out))
   exact Or.inl ⟨trivial, Or.inr (Or.inr ⟨w.putObj b (.map #[{ key := dotV ((r, i), 1), val := cmV r i 1 qa' 0 qc' va' 1 vc' tm k pa' pl pc' n t da' dl dc', born := 0 }] 1), by go_simp, ⟨{ key := dotV ((r, i), 1), val := cmV r i 1 qa' 0 qc' va' 1 vc' tm k pa' pl pc' n t da' dl dc', born := 0 }, World.putObj_heap_same (Array.getElem?_eq_some_iff.1 hmb).1, rfl, ⟨r, i, 1, qa', 0, qc', va', 1, vc', tm, k, pa', pl, pc', n, t, da', dl, dc', [], [((r, i), 1)], lp, ld, rfl, rfl, s1, rfl, s2, rfl, s3, HPl.out, s4, HDl.out, HOk.out, htm, hk, hn1, hn2, hts⟩, rfl⟩, hch⟩)⟩
 ·intro v w2 hv hb2
  have r0 : v 0 = _ := hv 0 (by decide)
  have r1 : v 1 = _ := hv 1 (by decide)
  have r2 : v 2 = _ := hv 2 (by decide)
  have r3 : v 3 = _ := hv 3 (by decide)
  have r4 : v 4 = _ := hv 4 (by decide)
  have r5 : v 5 = _ := hv 5 (by decide)
  have r6 : v 6 = _ := hv 6 (by decide)
  have r7 := hv 7 (by decide)
  have r8 := hv 8 (by decide)
  simp only [Reg.putAll, Act.put, List.setIfInBounds_toArray, List.set_cons_zero, List.set_cons_succ, r0, r1, r2, r3, r4, r5, r6]
  clear r0 r1 r2 r3 r4 r5 r6 hv
  obtain ⟨en, hen, hk1, hk2, hk3⟩ := r8
  have hch := RegC.end1 hb2
  have hfin : CMap w2 (some b) [⟨((r, i), 1), [], [((r, i), 1)], tm, ⟨k, lp, n, t, ld⟩⟩] := Or.inr ⟨b, #[en], 1, rfl, hen, rfl, fun j c hc => by
   have : j = 0 := by have := (List.getElem?_eq_some_iff.1 hc).1; simpa using this
   subst this
   simp at hc
   subst hc
   exact ⟨en, rfl, hk1, hk2, HOk.out⟩, by simp, by simp [hk3], by simp⟩
  have HF := Lib.hid hfin
  have HC := Lib.hid (((Chg.of_below (S := fun q => q = b) HBox.out).trans (Chg.of_below (S := fun q => q = b) (HX2.out)) (fun _ _ e => e)).trans hch (fun _ _ e => e))
  clear hfin hch hen hk1 hk2 hk3 hb2 r7
  go_wp2_with fail
  go_ret
  exact ⟨rfl, HF.out, HC.out⟩
end Go.Proofs.YtiiidmphmojlgaaGreat
