import Derived.Test.YtiiidmphmojlgaaGreatZDot13
import Derived.Test.YtiiidmphmojlgaaGreatZCmt3
import Derived.Test.YtiiidmphmojlgaaGreatZLeaf6
import Derived.Test.YtiiidmphmojlgaaGreatZCmt2
namespace Go.Proofs.YtiiidmphmojlgaaGreat
open Go.RowKit Go.Maps
set_option maxHeartbeats 400000 in
theorem meet_any (a : Option Addr) (n cap : Nat) (la : List Dt.Dot) (c : Option Addr) (m capc : Nat) (lb : List Dt.Dot) (W : World) (hr : VRow W a cap la) (hl : la.length = n) (hn : n ≤ 100000000) (hs : VRow W c capc lb) (hm : lb.length = m) (hn2 : m ≤ 100000000) :
  Calls Tryz.prog 106 #[.slice a n cap, .slice c m capc] W (RetVec W (Dt.meet la lb)) := by
 have H := Lib.hid (bothM a n cap la c m capc lb W hr hl hn hs hm hn2)
 clear hr hl hs hm
 go_enter Tryz.func106, Tryz.ntmps106
 go_wp2_with fail
 refine H.out.mono ?_
 rintro e w1 ⟨a2, c2, rfl, hr2, hb2⟩
 have HR2 := Lib.hid hr2; have Hb2 := Lib.hid hb2
 clear hr2 hb2
 go_wp2_with fail
 go_ret
 exact ⟨a2, c2, rfl, HR2.out, Hb2.out⟩
set_option maxRecDepth 100000 in
set_option maxHeartbeats 1600000 in
theorem has_any (a : Option Addr) (n cap : Nat) (r i s : Nat) (l : List Dt.Dot) (W : World) (hr : VRow W a cap l) (hl : l.length = n) :
  Calls Tryz.prog 19 #[.slice a n cap, dotV ((r, i), s)] W fun e w' => e = .returned (.bool (Dt.has l ((r, i), s))) ∧ Below W.heap.size W w' := by
 have HR := Lib.hid hr; have HL := Lib.hid hl
 clear hr hl
 have hC : ∀ w2, Below (W.alloc (.cells #[.int .u8 (r : Int), .int .u32 (i : Int), .int .u64 (s : Int)] 27)).drew.heap.size (W.alloc (.cells #[.int .u8 (r : Int), .int .u32 (i : Int), .int .u64 (s : Int)] 27)).drew w2 → w2.cell? ⟨W.heap.size, 0, none⟩ = some (.int .u8 (r : Int)) ∧ w2.cell? ⟨W.heap.size, 1, none⟩ = some (.int .u32 (i : Int)) ∧ w2.cell? ⟨W.heap.size, 2, none⟩ = some (.int .u64 (s : Int)) := fun w2 h =>
  ⟨(h.cell (p := ⟨W.heap.size, 0, none⟩) (by simp)).trans (by simp), (h.cell (p := ⟨W.heap.size, 1, none⟩) (by simp)).trans (by simp), (h.cell (p := ⟨W.heap.size, 2, none⟩) (by simp)).trans (by simp)⟩
 have HC := Lib.hid hC; clear hC
 cases hm : Dt.may ((r, i), s)
 ·have HM := Lib.hid hm; clear hm
  go_enter Tryz.func19, Tryz.ntmps19
  go_wp2_with fail
  refine Reg.region_list (by kernel_rfl) [fun v _ => v = dotV ((r, i), s), fun v _ => v = .bool false, fun v _ => v = .bool false, fun v _ => v = undef, fun v _ => v = undef, fun v _ => v = undef, fun v _ => v = undef, fun v _ => v = undef, fun v _ => v = undef, fun v _ => v = undef, fun v _ => v = .bool false, fun v _ => v = .bool false] (by kernel_rfl) ?_ ?_ ?_
  ·refine ⟨k4, k4, k4, k4, k4, k4, k4, k4, k4, k4, k4, k4, trivial⟩
  ·refine ⟨?_, ?_, ?_, ?_, ?_, ?_, ?_, ?_, ?_, ?_, ?_, ?_, trivial⟩
   ·intro ev w hc hf hg hfix hdep hbel
    have e3 : ev (.tmp 3) = _ := hfix 3 (by decide)
    obtain ⟨hc0, hc1, hc2⟩ := HC.out w hbel
    exact okb trivial rfl (by go_simp)
   ·intro ev w hc hf hg hfix hdep hbel
    have e5 : ev (.tmp 5) = _ := hdep 0 (by decide)
    refine Or.inl ⟨trivial, Or.inr ⟨42, #[dotV ((r, i), s)], w, by go_simp, ?_⟩⟩
    refine (may_any r i s w).mono ?_
    rintro e w1 ⟨rfl, hb1⟩
    exact ⟨_, rfl, by rw [HM.out], hb1⟩
   ·intro ev w hc hf hg hfix hdep hbel
    have e6 : ev (.tmp 6) = _ := hdep 1 (by decide)
    exact okb trivial rfl (by go_simp)
   ·intro ev w hc hf hg hfix hdep hbel
    have fg : ev (.tmp 7) = _ := hdep 2 (by decide)
    exact Or.inr ⟨Or.inl fg, rfl⟩
   ·intro ev w hc hf hg hfix hdep hbel
    have fg : ev (.tmp 7) = _ := hdep 2 (by decide)
    exact Or.inr ⟨Or.inl fg, rfl⟩
   ·intro ev w hc hf hg hfix hdep hbel
    have fg : ev (.tmp 7) = _ := hdep 2 (by decide)
    exact Or.inr ⟨Or.inl fg, rfl⟩
   ·intro ev w hc hf hg hfix hdep hbel
    have fg : ev (.tmp 7) = _ := hdep 2 (by decide)
    exact Or.inr ⟨Or.inl fg, rfl⟩
   ·intro ev w hc hf hg hfix hdep hbel
    have fg : ev (.tmp 7) = _ := hdep 2 (by decide)
    exact Or.inr ⟨Or.inl fg, rfl⟩
   ·intro ev w hc hf hg hfix hdep hbel
    have fg : ev (.tmp 7) = _ := hdep 2 (by decide)
    exact Or.inr ⟨Or.inl fg, rfl⟩
   ·intro ev w hc hf hg hfix hdep hbel
    have fg : ev (.tmp 7) = _ := hdep 2 (by decide)
    exact Or.inr ⟨Or.inl fg, rfl⟩
   ·intro ev w hc hf hg hfix hdep hbel
    have e7 : ev (.tmp 7) = _ := hdep 2 (by decide)
    have e14 : ev (.tmp 14) = _ := hdep 9 (by decide)
    exact okb trivial rfl (by go_simp)
   ·intro ev w hc hf hg hfix hdep hbel
    have e15 : ev (.tmp 15) = _ := hdep 10 (by decide)
    exact okb trivial rfl (by go_simp)
  ·intro v w2 hv hb2
   have r0 : v 0 = _ := hv 0 (by decide)
   have r1 : v 1 = _ := hv 1 (by decide)
   have r2 : v 2 = _ := hv 2 (by decide)
   have r3 : v 3 = _ := hv 3 (by decide)
   have r4 : v 4 = _ := hv 4 (by decide)
   have r5 : v 5 = _ := hv 5 (by decide)
   have r6 : v 6 = _ := hv 6 (by decide)
   have r7 : v 7 = _ := hv 7 (by decide)
   have r8 : v 8 = _ := hv 8 (by decide)
   have r9 : v 9 = _ := hv 9 (by decide)
   have r10 : v 10 = _ := hv 10 (by decide)
   have r11 : v 11 = _ := hv 11 (by decide)
   simp only [Reg.putAll, Act.put, List.setIfInBounds_toArray, List.set_cons_zero, List.set_cons_succ, r0, r1, r2, r3, r4, r5, r6, r7, r8, r9, r10, r11]
   clear r0 r1 r2 r3 r4 r5 r6 r7 r8 r9 r10 r11 hv
   go_wp2_with fail
   go_ret
   exact ⟨ret_bool (by simp [Dt.has, HM.out]), ((Below.refl _ _).alloc (Nat.le_refl _) _).trans (hb2.mono (by simp))⟩
 ·have HM := Lib.hid hm; clear hm
  go_enter Tryz.func19, Tryz.ntmps19
  go_wp2_with fail
  refine Reg.region_list (by kernel_rfl) [fun v _ => v = dotV ((r, i), s), fun v _ => v = .bool true, fun v _ => v = .bool true, fun v _ => v = .pointer (some ⟨W.heap.size, 2, none⟩), fun v _ => v = .int .u64 (s : Int), fun v _ => v = .slice a n cap, fun v _ => v = .pointer (some ⟨W.heap.size, 0, none⟩), fun v _ => v = acV (r, i), fun v _ => v = .int .u64 (Dt.get l (r, i) : Nat), fun v _ => v = .bool (decide (s ≤ Dt.get l (r, i))), fun v _ => v = .bool (decide (s ≤ Dt.get l (r, i))), fun v _ => v = .bool (decide (s ≤ Dt.get l (r, i)))] (by kernel_rfl) ?_ ?_ ?_
  ·refine ⟨k4, k4, k4, k4, k4, k4, k4, k4, k4, k4, k4, k4, trivial⟩
  ·refine ⟨?_, ?_, ?_, ?_, ?_, ?_, ?_, ?_, ?_, ?_, ?_, ?_, trivial⟩
   ·intro ev w hc hf hg hfix hdep hbel
    have e3 : ev (.tmp 3) = _ := hfix 3 (by decide)
    obtain ⟨hc0, hc1, hc2⟩ := HC.out w hbel
    exact okb trivial rfl (by go_simp)
   ·intro ev w hc hf hg hfix hdep hbel
    have e5 : ev (.tmp 5) = _ := hdep 0 (by decide)
    refine Or.inl ⟨trivial, Or.inr ⟨42, #[dotV ((r, i), s)], w, by go_simp, ?_⟩⟩
    refine (may_any r i s w).mono ?_
    rintro e w1 ⟨rfl, hb1⟩
    exact ⟨_, rfl, by rw [HM.out], hb1⟩
   ·intro ev w hc hf hg hfix hdep hbel
    have e6 : ev (.tmp 6) = _ := hdep 1 (by decide)
    exact okb trivial rfl (by go_simp)
   ·intro ev w hc hf hg hfix hdep hbel
    have fg : ev (.tmp 7) = _ := hdep 2 (by decide)
    have e3 : ev (.tmp 3) = _ := hfix 3 (by decide)
    exact okb fg rfl (by go_simp)
   ·intro ev w hc hf hg hfix hdep hbel
    have fg : ev (.tmp 7) = _ := hdep 2 (by decide)
    have e8 : ev (.tmp 8) = _ := hdep 3 (by decide)
    obtain ⟨hc0, hc1, hc2⟩ := HC.out w hbel
    exact okb fg rfl (by go_simp)
   ·intro ev w hc hf hg hfix hdep hbel
    have fg : ev (.tmp 7) = _ := hdep 2 (by decide)
    have e0 : ev (.tmp 0) = _ := hfix 0 (by decide)
    exact okb fg rfl (by go_simp)
   ·intro ev w hc hf hg hfix hdep hbel
    have fg : ev (.tmp 7) = _ := hdep 2 (by decide)
    have e3 : ev (.tmp 3) = _ := hfix 3 (by decide)
    exact okb fg rfl (by go_simp)
   ·intro ev w hc hf hg hfix hdep hbel
    have fg : ev (.tmp 7) = _ := hdep 2 (by decide)
    have e11 : ev (.tmp 11) = _ := hdep 6 (by decide)
    obtain ⟨hc0, hc1, hc2⟩ := HC.out w hbel
    exact okb fg rfl (by go_simp)
   ·intro ev w hc hf hg hfix hdep hbel
    have fg : ev (.tmp 7) = _ := hdep 2 (by decide)
    have e10 : ev (.tmp 10) = _ := hdep 5 (by decide)
    have e12 : ev (.tmp 12) = _ := hdep 7 (by decide)
    refine Or.inl ⟨fg, Or.inr ⟨43, #[.slice a n cap, acV (r, i)], w, by go_simp, ?_⟩⟩
    refine (get_any a n cap r i l w (HR.out.below (((Below.refl _ _).alloc (Nat.le_refl _) _).drew.trans (hbel.mono (by simp)))) HL.out).mono ?_
    rintro e w1 ⟨rfl, hb1⟩
    exact ⟨_, rfl, rfl, hb1⟩
   ·intro ev w hc hf hg hfix hdep hbel
    have fg : ev (.tmp 7) = _ := hdep 2 (by decide)
    have e9 : ev (.tmp 9) = _ := hdep 4 (by decide)
    have e13 : ev (.tmp 13) = _ := hdep 8 (by decide)
    exact okb fg rfl (by go_simp)
   ·intro ev w hc hf hg hfix hdep hbel
    have e7 : ev (.tmp 7) = _ := hdep 2 (by decide)
    have e14 : ev (.tmp 14) = _ := hdep 9 (by decide)
    exact okb trivial rfl (by go_simp)
   ·intro ev w hc hf hg hfix hdep hbel
    have e15 : ev (.tmp 15) = _ := hdep 10 (by decide)
    exact okb trivial rfl (by go_simp)
  ·intro v w2 hv hb2
   have r0 : v 0 = _ := hv 0 (by decide)
   have r1 : v 1 = _ := hv 1 (by decide)
   have r2 : v 2 = _ := hv 2 (by decide)
   have r3 : v 3 = _ := hv 3 (by decide)
   have r4 : v 4 = _ := hv 4 (by decide)
   have r5 : v 5 = _ := hv 5 (by decide)
   have r6 : v 6 = _ := hv 6 (by decide)
   have r7 : v 7 = _ := hv 7 (by decide)
   have r8 : v 8 = _ := hv 8 (by decide)
   have r9 : v 9 = _ := hv 9 (by decide)
   have r10 : v 10 = _ := hv 10 (by decide)
   have r11 : v 11 = _ := hv 11 (by decide)
   simp only [Reg.putAll, Act.put, List.setIfInBounds_toArray, List.set_cons_zero, List.set_cons_succ, r0, r1, r2, r3, r4, r5, r6, r7, r8, r9, r10, r11]
   clear r0 r1 r2 r3 r4 r5 r6 r7 r8 r9 r10 r11 hv
   go_wp2_with fail
   go_ret
   exact ⟨ret_bool (by simp [Dt.has, HM.out]), ((Below.refl _ _).alloc (Nat.le_refl _) _).trans (hb2.mono (by simp))⟩
def nextV (l : List Dt.Dot) (a : Dt.Ac) : Value := if Dt.mayA a = false then .tuple #[dotV ((0, 0), 0), .int .i64 2] else if Dt.get l a = 1048576 then .tuple #[dotV ((0, 0), 0), .int .i64 14] else .tuple #[dotV (a, Dt.get l a + 1), .int .i64 0]
end Go.Proofs.YtiiidmphmojlgaaGreat
namespace Go.Proofs.YtiiidmphmojlgaaGreat
open Go.RowKit Go.Buf Go.LB Go.Lib
set_option linter.unusedSimpArgs false
set_option linter.unusedVariables false
abbrev base0 : Value := .agg #[.int .u64 0, .slice none 0 0, .slice none 0 0, .int .u64 0, .slice none 0 0]
def GAt (w : World) (p : Option Addr) (mb : Option Nat) : Prop := (p = none ∧ mb = none) ∨ ∃ gb, p = some ⟨gb, 0, none⟩ ∧ Blk w gb 42 [.int .u64 0, .slice none 0 0, .slice none 0 0, .int .u64 0, .slice none 0 0, .map mb]
theorem GAt.below {w w' : World} {p : Option Addr} {mb : Option Nat} (h : GAt w p mb) (hb : Below w.heap.size w w') : GAt w' p mb := by
 rcases h with h | ⟨gb, h1, h2⟩
 ·exact Or.inl h
 ·exact Or.inr ⟨gb, h1, h2.below hb⟩
theorem res_base2 {fn : Func} {k e : Tmp} {tmps : Array Value} {w : World} {b : Nat} {c0 c1 c2 c3 c4 x : Value} (hr : fn.results = #[.cell k 38, .tmp e]) (ht : tmps.getD k undef = .pointer (some ⟨b, 0, none⟩)) (he : tmps.getD e undef = x) (h : Blk w b 38 [c0, c1, c2, c3, c4]) :
  (results fn tmps).run Tryz.prog w = .ok (.tuple #[.agg #[c0, c1, c2, c3, c4], x]) w := by
 have h0 := h.cell 0; have h1 := h.cell 1; have h2 := h.cell 2; have h3 := h.cell 3; have h4 := h.cell 4
 simp at h0 h1 h2 h3 h4
 have ht2 : tmps[k]?.getD undef = .pointer (some ⟨b, 0, none⟩) := by simpa using ht
 have he2 : tmps[e]?.getD undef = x := by simpa using he
 simp [results, hr, go_sem, ht2, he2, h0, h1, h2, h3, h4]
theorem res_base {fn : Func} {k : Tmp} {tmps : Array Value} {w : World} {b : Nat} {c0 c1 c2 c3 c4 : Value} (hr : fn.results = #[.cell k 38]) (ht : tmps.getD k undef = .pointer (some ⟨b, 0, none⟩)) (h : Blk w b 38 [c0, c1, c2, c3, c4]) :
  (results fn tmps).run Tryz.prog w = .ok (.agg #[c0, c1, c2, c3, c4]) w := by
 have h0 := h.cell 0; have h1 := h.cell 1; have h2 := h.cell 2; have h3 := h.cell 3; have h4 := h.cell 4
 simp at h0 h1 h2 h3 h4
 have ht2 : tmps[k]?.getD undef = .pointer (some ⟨b, 0, none⟩) := by simpa using ht
 simp [results, hr, go_sem, ht2, h0, h1, h2, h3, h4]
set_option maxHeartbeats 3200000 in
theorem parts_any (p : Option Addr) (mb : Option Nat) (W : World) (h : GAt W p mb) :
  Calls Tryz.prog 15 #[.pointer p] W fun e w' => e = .returned (.tuple #[base0, .map mb]) ∧ Below W.heap.size W w' := by
 rcases h with ⟨rfl, rfl⟩ | ⟨gb, rfl, hG⟩
 ·go_enter Tryz.func15, Tryz.ntmps15
  go_wp2_with fail
  refine bodyPost_ret (v := .tuple #[base0, .map none]) (res_base2 (b := W.heap.size) Tryz.results15 (by simp) (by simp) (Blk.new W _ _)) rfl ⟨rfl, (Below.refl _ _).alloc (Nat.le_refl _) _⟩
 ·have up : Below W.heap.size W (W.alloc (.cells #[.int .u64 0, .slice none 0 0, .slice none 0 0, .int .u64 0, .slice none 0 0] 38)) := (Below.refl _ _).alloc (Nat.le_refl _) _
  have hG2 := hG.below up
  have d0 := hG2.cell 0; have d1 := hG2.cell 1; have d2 := hG2.cell 2; have d3 := hG2.cell 3; have d4 := hG2.cell 4; have d5 := hG2.cell 5
  simp only [List.getElem?_cons_succ, List.getElem?_cons_zero] at d0 d1 d2 d3 d4 d5
  have hlt := hG.lt
  have HU := Lib.hid up
  clear hG hG2 up
  go_enter Tryz.func15, Tryz.ntmps15
  go_wp2_with fail
  go_region
  all_goals
   go_wp2_with fail
   have hN : Blk ((W.alloc (.cells #[.int .u64 0, .slice none 0 0, .slice none 0 0, .int .u64 0, .slice none 0 0] 38)).drew) W.heap.size 38 [.int .u64 0, .slice none 0 0, .slice none 0 0, .int .u64 0, .slice none 0 0] := Blk.new W _ _
   exact bodyPost_ret (v := .tuple #[base0, .map mb]) (res_base2 (b := W.heap.size) Tryz.results15 (by simp) (by simp) hN) rfl ⟨rfl, HU.out.drew⟩
def cm0 : Cm.C := ⟨((0, 0), 0), [], [], 0, ⟨0, [], 0, ⟨#[]⟩, []⟩⟩
abbrev cm0V : Value := cmV 0 0 0 none 0 0 none 0 0 0 0 none 0 0 0 ⟨#[]⟩ none 0 0
def CMap (w : World) (mb : Option Nat) (cs : List Cm.C) : Prop := (mb = none ∧ cs = []) ∨ ∃ b es clock, mb = some b ∧ w.heap[b]? = some (.map es clock) ∧ es.size = cs.length ∧ (∀ (i : Nat) c, cs[i]? = some c → ∃ e : MapEntry, es[i]? = some e ∧ e.key = dotV c.dot ∧ IsC w e.val c ∧ Dt.okD c.dot) ∧ (es.toList.map (·.born)).Nodup ∧ (∀ e ∈ es.toList, e.born < clock) ∧ (cs.map (·.dot)).Nodup
theorem CMap.keys {w : World} {cs : List Cm.C} {es : Array MapEntry} (hs : es.size = cs.length) (h : ∀ (i : Nat) c, cs[i]? = some c → ∃ e : MapEntry, es[i]? = some e ∧ e.key = dotV c.dot ∧ IsC w e.val c ∧ Dt.okD c.dot) : ∀ e ∈ es.toList, ∃ c ∈ cs, e.key = dotV c.dot ∧ IsC w e.val c ∧ Dt.okD c.dot := by
 intro e he
 obtain ⟨i, hi⟩ := List.getElem?_of_mem he
 have hlt := (List.getElem?_eq_some_iff.1 hi).1
 have hc : cs[i]? = some cs[i] := List.getElem?_eq_getElem (by simpa [hs] using hlt)
 obtain ⟨e2, h1, h2, h3, h4⟩ := h i _ hc
 have : e2 = e := by simp at hi; rw [h1] at hi; exact Option.some.inj hi
 subst this
 exact ⟨_, List.mem_of_getElem? hc, h2, h3, h4⟩
theorem dotV_inj {a b : Dt.Dot} (h : dotV a = dotV b) : a = b := by
 obtain ⟨⟨a1, a2⟩, a3⟩ := a; obtain ⟨⟨b1, b2⟩, b3⟩ := b
 simp only [Value.agg.injEq, Array.mk.injEq, List.cons.injEq, Value.int.injEq, true_and, and_true] at h
 simp only [Prod.mk.injEq]; omega
theorem zeroC (w : World) : (zeroValue 34).run Tryz.prog w = .ok cm0V w := by kernel_rfl
theorem CMap.look {w : World} {mb : Option Nat} {cs : List Cm.C} (h : CMap w mb cs) {d : Dt.Dot} (hd : Dt.okD d) :
  (∃ x c, c ∈ cs ∧ c.dot = d ∧ IsC w x c ∧ (Instr.lookup 40 (.map mb) (dotV d) true).run Tryz.prog w = .ok (.tuple #[x, .bool true]) w) ∨
  ((∀ c ∈ cs, c.dot ≠ d) ∧ (Instr.lookup 40 (.map mb) (dotV d) true).run Tryz.prog w = .ok (.tuple #[cm0V, .bool false]) w) := by
 rcases h with ⟨rfl, rfl⟩ | ⟨b, es, clock, rfl, hb, hs, hat, hbn, hbc, hnd⟩
 ·right
  refine ⟨by simp, ?_⟩
  simp [Instr.lookup, run_underlying Tryz.underlying40, dotKeyLaw.check w true (keyOf_dot hd), Instr.findKey, Instr.findNow, run_underlying Tryz.underlying27, zeroC, Result.andThen]
 ·have hk := CMap.keys hs hat
  rcases dotKeyLaw.find w (keyOf_dot hd) es.toList (fun e he => by obtain ⟨c, _, h1, _, h3⟩ := hk e he; rw [h1]; exact ⟨_, keyOf_dot h3⟩) with ⟨f1, f2⟩ | ⟨j, e, f1, f2, f3⟩
  ·right
   refine ⟨fun c hc hcd => ?_, ?_⟩
   ·obtain ⟨i, hi⟩ := List.getElem?_of_mem hc
    obtain ⟨e, h1, h2, _⟩ := hat i c hi
    exact f2 e (by have := List.mem_of_getElem? (l := es.toList) (i := i) (by simpa using h1); exact this) (by rw [h2, hcd])
   ·simp [Instr.lookup, run_underlying Tryz.underlying40, MapKept.run_getObj_map hb, dotKeyLaw.check w es.isEmpty (keyOf_dot hd), f1, zeroC, Result.andThen]
  ·left
   obtain ⟨c, hc, h1, h2, _⟩ := hk e (List.mem_of_getElem? f2)
   refine ⟨e.val, c, hc, (dotV_inj (h1.symm.trans f3)), h2, ?_⟩
   simp [Instr.lookup, run_underlying Tryz.underlying40, MapKept.run_getObj_map hb, dotKeyLaw.check w es.isEmpty (keyOf_dot hd), f1, Result.andThen]
end Go.Proofs.YtiiidmphmojlgaaGreat
namespace Go.Proofs.YtiiidmphmojlgaaGreat
open Go.RowKit Go.Buf Go.LB Go.Lib
set_option linter.unusedSimpArgs false
set_option linter.unusedVariables false
theorem CMap.below {w w' : World} {mb : Option Nat} {cs : List Cm.C} (h : CMap w mb cs) (hb : Below w.heap.size w w') : CMap w' mb cs := by
 rcases h with h | ⟨b, es, clock, h1, h2, h3, h4, h5⟩
 ·exact Or.inl h
 ·refine Or.inr ⟨b, es, clock, h1, (hb.block b (Array.getElem?_eq_some_iff.1 h2).1).trans h2, h3, fun i c hc => ?_, h5⟩
  obtain ⟨e, g1, g2, g3, g4⟩ := h4 i c hc
  exact ⟨e, g1, g2, g3.below hb, g4⟩
def gin (cs : List Cm.C) (d : Dt.Dot) : Bool := cs.any fun c => decide (c.dot = d)
theorem gin_yes {cs : List Cm.C} {d : Dt.Dot} {c : Cm.C} (hc : c ∈ cs) (h : c.dot = d) : gin cs d = true := by
 unfold gin; rw [List.any_eq_true]; exact ⟨c, hc, by simp [h]⟩
theorem gin_no {cs : List Cm.C} {d : Dt.Dot} (h : ∀ c ∈ cs, c.dot ≠ d) : gin cs d = false := by
 unfold gin; rw [List.any_eq_false]; intro c hc; simp [h c hc]
theorem has_nil (d : Dt.Dot) : Dt.has [] d = false := by
 cases hm : Dt.may d
 ·simp [Dt.has, hm]
 ·have h1 : 1 ≤ d.2 := by unfold Dt.may at hm; simp at hm; omega
  have hg : Dt.get [] d.1 = 0 := by simp [Dt.get]
  simp [Dt.has, hg]; omega
set_option maxRecDepth 100000 in
set_option maxHeartbeats 3200000 in
theorem isMade_any (p : Option Addr) (mb : Option Nat) (W : World) (h : GAt W p mb) :
  Calls Tryz.prog 17 #[.pointer p] W fun e w' => e = .returned (.bool mb.isSome) ∧ Below W.heap.size W w' := by
 rcases h with ⟨rfl, rfl⟩ | ⟨gb, rfl, hG⟩
 ·go_enter Tryz.func17, Tryz.ntmps17
  go_wp2_with fail
  go_ret
  exact ⟨rfl, Below.refl _ _⟩
 ·have d5 := hG.cell 5
  simp only [List.getElem?_cons_succ, List.getElem?_cons_zero] at d5
  clear hG
  have hq := fun m => run_neq_map_nil (P := Tryz.prog) W 40 _ _ m Tryz.underlying40
  cases mb
  all_goals
   go_enter Tryz.func17, Tryz.ntmps17
   go_wp2_with fail
   go_ret
   exact ⟨rfl, Below.refl _ _⟩
set_option maxRecDepth 100000 in
set_option maxHeartbeats 6400000 in
theorem ghas_any (p : Option Addr) (mb : Option Nat) (r i s : Nat) (cs : List Cm.C) (W : World) (hG : GAt W p mb) (hM : CMap W mb cs) (hd : Dt.okD ((r, i), s)) :
  Calls Tryz.prog 6 #[.pointer p, dotV ((r, i), s)] W fun e w' => e = .returned (.bool (gin cs ((r, i), s))) ∧ Below W.heap.size W w' := by
 have HG := Lib.hid hG; have HM := Lib.hid hM; have HD := Lib.hid hd
 have HB0 := Lib.hid (show Below W.heap.size W (W.alloc (.cells #[.int .u8 (r : Int), .int .u32 (i : Int), .int .u64 (s : Int)] 27)) from (Below.refl _ _).alloc (Nat.le_refl _) _)
 have hE := Blk.new W #[.int .u8 (r : Int), .int .u32 (i : Int), .int .u64 (s : Int)] 27
 have HE := Lib.hid hE
 clear hG hM hd hE
 go_enter Tryz.func6, Tryz.ntmps6
 go_wp2_with fail
 refine (parts_any p mb _ (HG.out.below HB0.out)).mono ?_
 rintro e w1 ⟨rfl, hb⟩
 have up : Below w1.heap.size w1 (w1.alloc (.cells #[.int .u64 0, .slice none 0 0, .slice none 0 0, .int .u64 0, .slice none 0 0] 38)) := (Below.refl _ _).alloc (Nat.le_refl _) _
 have hb1 : Below W.heap.size W w1 := HB0.out.trans (hb.mono HB0.out.size)
 have hE1 := (HE.out.below hb).below up
 have hF := Blk.new w1 #[.int .u64 0, .slice none 0 0, .slice none 0 0, .int .u64 0, .slice none 0 0] 38
 have a0 := hE1.cell 0; have a1 := hE1.cell 1; have a2 := hE1.cell 2
 simp only [List.getElem?_cons_succ, List.getElem?_cons_zero] at a0 a1 a2
 have hlt := (HE.out.below hb).lt
 have HM1 := Lib.hid ((HM.out.below hb1).below up)
 have HB1 := Lib.hid (hb1.trans (up.mono hb1.size))
 have HF := Lib.hid hF
 have HE1 := Lib.hid hE1
 clear hb up hb1 hE1 hF
 rcases HM1.out.look HD.out with ⟨x, c, hc, hcd, hx, hl⟩ | ⟨hno, hl⟩
 ·have HR := Lib.hid (gin_yes hc hcd)
  obtain ⟨r', i', s', qa, ql, qc, va, vl, vc, tm, k, pa, pl, pc, n, t, da, dl, dc, q, v, pp, d, rfl, _⟩ := hx
  clear hc hcd
  go_wp2_with fail
  go_ret
  exact ⟨ret_bool (by rw [HR.out]), HB1.out.alloc HB1.out.size _⟩
 ·have HR := Lib.hid (gin_no hno)
  clear hno
  have hF2 := HF.out.below ((Below.refl _ _).alloc (Nat.le_refl _) (.cells #[.int .u8 0, .int .u32 0, .int .u64 0, .slice none 0 0, .slice none 0 0, .int .u64 0, .int .u8 0, .slice none 0 0, .int .i64 0, .string ⟨#[]⟩, .slice none 0 0] 34))
  have f1 := hF2.cell 1
  simp only [List.getElem?_cons_succ, List.getElem?_cons_zero] at f1
  have hE2 := HE1.out.below ((Below.refl _ _).alloc (Nat.le_refl _) (.cells #[.int .u8 0, .int .u32 0, .int .u64 0, .slice none 0 0, .slice none 0 0, .int .u64 0, .int .u8 0, .slice none 0 0, .int .i64 0, .string ⟨#[]⟩, .slice none 0 0] 34))
  have g0 := hE2.cell 0; have g1 := hE2.cell 1; have g2 := hE2.cell 2
  simp only [List.getElem?_cons_succ, List.getElem?_cons_zero] at g0 g1 g2
  clear hF2 hE2
  go_wp2_with fail
  refine (has_any none 0 0 r i s [] _ (VRow.nil _) rfl).mono ?_
  rintro e w2 ⟨rfl, hb⟩
  have h0 : Dt.has [] ((r, i), s) = false := has_nil _
  rw [h0]
  have HW2 := Lib.hid ((HB1.out.alloc HB1.out.size (.cells #[.int .u8 0, .int .u32 0, .int .u64 0, .slice none 0 0, .slice none 0 0, .int .u64 0, .int .u8 0, .slice none 0 0, .int .i64 0, .string ⟨#[]⟩, .slice none 0 0] 34)).trans (hb.mono (HB1.out.alloc HB1.out.size (.cells #[.int .u8 0, .int .u32 0, .int .u64 0, .slice none 0 0, .slice none 0 0, .int .u64 0, .int .u8 0, .slice none 0 0, .int .i64 0, .string ⟨#[]⟩, .slice none 0 0] 34)).size))
  clear hb
  go_wp2_with fail
  go_ret
  exact ⟨ret_bool (by rw [HR.out]), HW2.out⟩
end Go.Proofs.YtiiidmphmojlgaaGreat
namespace Go.Proofs.YtiiidmphmojlgaaGreat
open Go.RowKit Go.Buf Go.LB Go.Lib
set_option linter.unusedSimpArgs false
set_option linter.unusedVariables false
theorem srcV {w : World} {a : Option Addr} {cap : Nat} {l : List Dt.Dot} (h : VRow w a cap l) : Src Tryz.prog 3 29 (.slice a l.length cap) l.length (l.flatMap encT) w := by
 cases a with
 | none =>
  have := h.2.2.2.1 rfl
  have hle := h.le
  have hl : l = [] := List.eq_nil_of_length_eq_zero (by omega)
  subst hl
  exact Src.ofNil w Tryz.underlying29 cap
 | some p => exact Src.ofSlice w Tryz.underlying29 p l.length cap _ (enc_length encT_len l) h.holdsX (encT_len_one l)
set_option maxRecDepth 100000 in
set_option maxHeartbeats 1000000 in
theorem cloneV_x (a : Option Addr) (n cap : Nat) (l : List Dt.Dot) (W : World) (hr : VRow W a cap l) (hl : l.length = n) (hn : n ≤ 1000000000) :
  Calls Tryz.prog 32 #[.slice a n cap] W fun e w' => (∃ a' c' row, e = .returned (.slice a' n c') ∧ Own 27 3 encT W.heap.size w' (.slice a' n c') l row) ∧ Below W.heap.size W w' := by
 have ke := fun (w : World) (a : Option Addr) (n c : Nat) => Lib.run_eql_slice_nil (P := Tryz.prog) w 29 27 a n c 0 0 Tryz.underlying29
 cases a with
 | none =>
  have h1 := hr.2.2.2.1 rfl
  have hle := hr.le
  obtain rfl : l = [] := List.eq_nil_of_length_eq_zero (by omega)
  simp at hl
  subst hl
  subst h1
  have HR := Lib.hid hr
  clear hr hle
  go_enter Tryz.func32, Tryz.ntmps32
  go_wp2_with fail
  go_ret
  exact ⟨⟨none, 0, none, rfl, Own.empty (Nat.le_refl _) none⟩, Below.refl _ _⟩
 | some p =>
  have HR := Lib.hid hr; have HL := Lib.hid hl
  clear hr hl
  obtain ⟨i0, hi, hz0, hz1, hz2⟩ := info_parts infoDot
  have hrun : ∀ ty, ∃ v' w' row', (Builtin.append_ #[29, 29] ty #[.slice (some ⟨W.heap.size, 0, none⟩) 0 0, .slice (some p) n cap]).run Tryz.prog (W.alloc (.cells #[] 27)) = .ok v' w' ∧ Own 27 3 encT (W.alloc (.cells #[] 27)).heap.size w' v' l row' ∧ (W.alloc (.cells #[] 27)).grownBy w' none ∧ New (W.alloc (.cells #[] 27)) none row' := fun ty => by
   have hs := srcV (HR.out.below ((Below.refl _ _).alloc (Nat.le_refl _) (.cells #[] 27)))
   rw [HL.out] at hs
   have := LB.run_append_owned (P := Tryz.prog) encT_len (W.alloc (.cells #[] 27)) (W.alloc (.cells #[] 27)).heap.size 29 29 ty i0 _ 16 Tryz.underlying29 hi hz0 hz1 hz2 rfl (Own.empty (Nat.le_refl _) (some ⟨W.heap.size, 0, none⟩)) (.slice (some p) n cap) l (by rw [HL.out]; exact hs) (by simp [maxLen]; have := HL.out; omega) (by simp; have := HL.out; omega)
   simpa using this
  have HRun := Lib.hid hrun; clear hrun hi hz0 hz1 hz2
  obtain ⟨v, w1, row, h1, h2, h3, h4⟩ := HRun.out 29
  have hok : ∀ x ∈ l, Dt.okD x := HR.out.2.2.1
  obtain ⟨a', c', rfl, hrow⟩ := cloneD_x_row h2 hok
  rw [HL.out] at h1 h2
  have H2 := Lib.hid h2; have H3 := Lib.hid h3
  clear h2 h3 h4 hrow hok
  go_enter Tryz.func32, Tryz.ntmps32
  go_wp2_with (at_builtin; refine Lib.wpList_append_run _ rfl _ _ _ _ rfl _ _ rfl rfl _ _ h1 ?_)
  go_ret
  refine ⟨⟨a', c', row, rfl, H2.out.base (by simp)⟩, ?_⟩
  exact ((Below.refl W.heap.size W).alloc (Nat.le_refl _) _).trans ((below_of_grown H3.out (Nat.le_refl _) (fun k e => by cases e)).mono (by simp))
end Go.Proofs.YtiiidmphmojlgaaGreat
