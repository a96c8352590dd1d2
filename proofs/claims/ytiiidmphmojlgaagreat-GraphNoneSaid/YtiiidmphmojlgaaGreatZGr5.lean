import Derived.Test.YtiiidmphmojlgaaGreatZGr4
import Derived.Test.YtiiidmphmojlgaaGreatZLeaf6
import Derived.Laws.IdiomRangeMap
import Derived.Test.YtiiidmphmojlgaaGreatZDot7
namespace Go.Proofs.YtiiidmphmojlgaaGreat
open Go.RowKit Go.Buf Go.LB Go.Lib
set_option linter.unusedSimpArgs false
set_option linter.unusedVariables false
theorem range_none (w : World) : (Instr.range 40 (.map none)).run Tryz.prog w = .ok (.pointer (some ⟨w.heap.size, 0, none⟩)) (w.alloc (.mapIter none 0 #[] 0)) := run_range_nilMap w _ _ _ Tryz.underlying40
theorem next_none (w : World) (n : Nat) (hn : n = w.heap.size) (ty : TypeId) : (Instr.next (.pointer (some ⟨n, 0, none⟩)) false ty).run Tryz.prog (w.alloc (.mapIter none 0 #[] 0)) = .ok (.tuple #[.bool false]) (w.alloc (.mapIter none 0 #[] 0)) := by subst hn; exact run_next_nilMap w ty 0 0 #[]
abbrev b0C : Obj := .cells #[.int .u64 0, .slice none 0 0, .slice none 0 0, .int .u64 0, .slice none 0 0] 38
set_option maxRecDepth 100000 in
set_option maxHeartbeats 6400000 in
theorem time_none (p : Option Addr) (W : World) (hG : GAt W p none) :
  Calls Tryz.prog 10 #[.pointer p] W fun e w' => e = .returned (.int .u64 0) ∧ Below W.heap.size W w' := by
 have HG := Lib.hid hG
 clear hG
 have hr := range_none
 go_enter Tryz.func10, Tryz.ntmps10
 go_wp2_with fail
 refine (parts_any p none _ HG.out).mono ?_
 rintro e w1 ⟨rfl, hb⟩
 have hB := hb.alloc hb.size b0C
 have HB := Lib.hid (hB.alloc hB.size (.mapIter none 0 #[] 0))
 have hn := fun ty => next_none (w1.alloc b0C) (w1.heap.size + 1) (by simp) ty
 clear hb hB
 go_wp2_with fail
 go_loopw [5, 7] (fun u _ wr => u = .int .u64 0 ∧ wr = (w1.alloc b0C).alloc (.mapIter none 0 #[] 0)) (fun _ _ _ => 0)
 case atStart => exact ⟨rfl, rfl⟩
 case round =>
  obtain ⟨rfl, rfl⟩ := hrel
  go_wp2_with fail
  go_ret
  exact ⟨rfl, HB.out⟩
theorem res_cm2 {fn : Func} {k e : Tmp} {tmps : Array Value} {w : World} {b : Nat} {c0 c1 c2 c3 c4 c5 c6 c7 c8 c9 c10 x : Value} (hr : fn.results = #[.cell k 34, .tmp e]) (ht : tmps.getD k undef = .pointer (some ⟨b, 0, none⟩)) (he : tmps.getD e undef = x) (h : Blk w b 34 [c0, c1, c2, c3, c4, c5, c6, c7, c8, c9, c10]) :
  (results fn tmps).run Tryz.prog w = .ok (.tuple #[.agg #[c0, c1, c2, c3, c4, c5, c6, c7, c8, c9, c10], x]) w := by
 have h0 := h.cell 0; have h1 := h.cell 1; have h2 := h.cell 2; have h3 := h.cell 3; have h4 := h.cell 4; have h5 := h.cell 5; have h6 := h.cell 6; have h7 := h.cell 7; have h8 := h.cell 8; have h9 := h.cell 9; have h10 := h.cell 10
 simp at h0 h1 h2 h3 h4 h5 h6 h7 h8 h9 h10
 have ht2 : tmps[k]?.getD undef = .pointer (some ⟨b, 0, none⟩) := by simpa using ht
 have he2 : tmps[e]?.getD undef = x := by simpa using he
 simp [results, hr, go_sem, ht2, he2, h0, h1, h2, h3, h4, h5, h6, h7, h8, h9, h10]
theorem canon_empty : Dt.canon [] = [] := by decide
set_option maxRecDepth 100000 in
set_option maxHeartbeats 6400000 in
theorem vv_none (p : Option Addr) (W : World) (hG : GAt W p none) :
  Calls Tryz.prog 9 #[.pointer p] W fun e w' => (∃ a c, e = .returned (.slice a 0 c)) ∧ Below W.heap.size W w' := by
 have HG := Lib.hid hG
 clear hG
 have hr := range_none
 go_enter Tryz.func9, Tryz.ntmps9
 go_wp2_with fail
 refine (parts_any p none _ HG.out).mono ?_
 rintro e w1 ⟨rfl, hb⟩
 have HB := Lib.hid (hb.alloc hb.size b0C)
 clear hb
 go_wp2_with fail
 refine (cloneV_x none 0 0 [] _ (VRow.nil _) rfl (by omega)).mono ?_
 rintro e w2 ⟨⟨a, c, row, rfl, ho⟩, hb⟩
 have hv := ownT_vrow ho (by simp)
 have hB := HB.out.trans (hb.mono HB.out.size)
 have HV := Lib.hid (hv.below ((Below.refl w2.heap.size w2).alloc (Nat.le_refl _) (.mapIter none 0 #[] 0)))
 have HB2 := Lib.hid (hB.alloc hB.size (.mapIter none 0 #[] 0))
 have hn := fun ty => next_none w2 w2.heap.size rfl ty
 clear hb hB hv ho
 go_wp2_with fail
 go_loopw [5, 7] (fun u _ wr => u = .slice a 0 c ∧ wr = w2.alloc (.mapIter none 0 #[] 0)) (fun _ _ _ => 0)
 case atStart => exact ⟨rfl, rfl⟩
 case round =>
  obtain ⟨rfl, rfl⟩ := hrel
  go_wp2_with fail
  refine (canon_any a 0 c [] _ HV.out rfl (by omega)).mono ?_
  rintro e w3 ⟨a3, c3, rfl, _, hb⟩
  rw [canon_empty]
  have HB3 := Lib.hid (HB2.out.trans (hb.mono HB2.out.size))
  clear hb
  go_wp2_with fail
  go_ret
  exact ⟨⟨_, _, rfl⟩, HB3.out⟩
set_option maxRecDepth 100000 in
set_option maxHeartbeats 6400000 in
theorem ownCommits_none (W : World) :
  Calls Tryz.prog 20 #[.map none] W fun e w' => e = .returned (.slice none 0 0) ∧ Below W.heap.size W w' := by
 have hr := range_none
 have hn := fun ty => next_none W W.heap.size rfl ty
 go_enter Tryz.func20, Tryz.ntmps20
 go_wp2_with fail
 go_loopw [3, 5] (fun u _ wr => u = .slice none 0 0 ∧ wr = W.alloc (.mapIter none 0 #[] 0)) (fun _ _ _ => 0)
 case atStart => exact ⟨rfl, rfl⟩
 case round =>
  obtain ⟨rfl, rfl⟩ := hrel
  go_wp2_with fail
  go_ret
  exact ⟨rfl, (Below.refl _ _).alloc (Nat.le_refl _) _⟩
set_option maxRecDepth 100000 in
set_option maxHeartbeats 6400000 in
theorem copy_none (p : Option Addr) (W : World) (hG : GAt W p none) :
  Calls Tryz.prog 13 #[.pointer p] W fun e w' => e = .returned (.pointer none) ∧ Below W.heap.size W w' := by
 have HG := Lib.hid hG
 clear hG
 go_enter Tryz.func13, Tryz.ntmps13
 go_wp2_with fail
 refine (isMade_any p none _ HG.out).mono ?_
 rintro e w1 ⟨rfl, hb⟩
 have HB := Lib.hid hb
 clear hb
 go_wp2_with fail
 go_ret
 exact ⟨rfl, HB.out⟩
set_option maxRecDepth 100000 in
set_option maxHeartbeats 6400000 in
theorem insert_none (p : Option Addr) (W : World) (hG : GAt W p none) (r i s : Nat) (qa : Option Addr) (ql qc : Nat) (va : Option Addr) (vl vc : Nat) (tm k : Nat) (pa : Option Addr) (pl pc : Nat) (n : Int) (t : ByteArray) (da : Option Addr) (dl dc : Nat) :
  Calls Tryz.prog 5 #[.pointer p, cmV r i s qa ql qc va vl vc tm k pa pl pc n t da dl dc] W fun e w' => e = .returned (.int .i64 1) ∧ Below W.heap.size W w' := by
 have HG := Lib.hid hG
 clear hG
 have HB0 := Lib.hid (show Below W.heap.size W (W.alloc (.cells #[.int .u8 (r : Int), .int .u32 (i : Int), .int .u64 (s : Int), .slice qa ql qc, .slice va vl vc, .int .u64 (tm : Int), .int .u8 (k : Int), .slice pa pl pc, .int .i64 n, .string t, .slice da dl dc] 34)) from (Below.refl _ _).alloc (Nat.le_refl _) _)
 go_enter Tryz.func5, Tryz.ntmps5
 go_wp2_with fail
 refine (isMade_any p none _ (HG.out.below HB0.out)).mono ?_
 rintro e w1 ⟨rfl, hb⟩
 have HB := Lib.hid (HB0.out.trans (hb.mono HB0.out.size))
 clear hb
 go_wp2_with fail
 go_ret
 exact ⟨rfl, HB.out⟩
set_option maxRecDepth 100000 in
set_option maxHeartbeats 6400000 in
theorem get_none (p : Option Addr) (W : World) (hG : GAt W p none) (r i s : Nat) (hd : Dt.okD ((r, i), s)) :
  Calls Tryz.prog 4 #[.pointer p, dotV ((r, i), s)] W fun e w' => (∃ qa' qc' va' vc' pa' pc' da' dc', e = .returned (.tuple #[cmV 0 0 0 qa' 0 qc' va' 0 vc' 0 0 pa' 0 pc' 0 ⟨#[]⟩ da' 0 dc', .bool false])) ∧ Below W.heap.size W w' := by
 have HG := Lib.hid hG; have HD := Lib.hid hd
 have hM : CMap W none [] := Or.inl ⟨rfl, rfl⟩
 clear hG hd
 have HB0 := Lib.hid (show Below W.heap.size W ((W.alloc (.cells #[.int .u8 (r : Int), .int .u32 (i : Int), .int .u64 (s : Int)] 27)).alloc (.cells #[.int .u8 0, .int .u32 0, .int .u64 0, .slice none 0 0, .slice none 0 0, .int .u64 0, .int .u8 0, .slice none 0 0, .int .i64 0, .string ⟨#[]⟩, .slice none 0 0] 34)) from ((Below.refl _ _).alloc (Nat.le_refl _) _).alloc (by simp) _)
 have hE := (Blk.new W #[.int .u8 (r : Int), .int .u32 (i : Int), .int .u64 (s : Int)] 27).below ((Below.refl _ _).alloc (Nat.le_refl _) (.cells #[.int .u8 0, .int .u32 0, .int .u64 0, .slice none 0 0, .slice none 0 0, .int .u64 0, .int .u8 0, .slice none 0 0, .int .i64 0, .string ⟨#[]⟩, .slice none 0 0] 34))
 have hZ := Blk.new (W.alloc (.cells #[.int .u8 (r : Int), .int .u32 (i : Int), .int .u64 (s : Int)] 27)) #[.int .u8 0, .int .u32 0, .int .u64 0, .slice none 0 0, .slice none 0 0, .int .u64 0, .int .u8 0, .slice none 0 0, .int .i64 0, .string ⟨#[]⟩, .slice none 0 0] 34
 rw [World.size_alloc] at hZ
 have HE := Lib.hid hE; have HZ := Lib.hid hZ
 clear hE hZ
 go_enter Tryz.func4, Tryz.ntmps4
 go_wp2_with fail
 refine (parts_any p none _ (HG.out.below HB0.out)).mono ?_
 rintro e w1 ⟨rfl, hb⟩
 have up : Below w1.heap.size w1 (w1.alloc b0C) := (Below.refl _ _).alloc (Nat.le_refl _) _
 have hE1 := (HE.out.below hb).below up
 have hb1 := HB0.out.trans (hb.mono HB0.out.size)
 have HZ1 := Lib.hid ((HZ.out.below hb).below up)
 have a0 := hE1.cell 0; have a1 := hE1.cell 1; have a2 := hE1.cell 2
 simp only [List.getElem?_cons_succ, List.getElem?_cons_zero] at a0 a1 a2
 have hlt := (HE.out.below hb).lt
 have HB1 := Lib.hid (hb1.alloc hb1.size b0C)
 rcases (CMap.look (w := w1.alloc b0C) (mb := none) (Or.inl ⟨rfl, rfl⟩) HD.out) with ⟨x, c, hc, _⟩ | ⟨_, hl⟩
 ·simp at hc
 clear hb up hE1 hb1
 go_wp2_with fail
 have hB2 := HB1.out.alloc HB1.out.size (.cells #[.int .u8 0, .int .u32 0, .int .u64 0, .slice none 0 0, .slice none 0 0, .int .u64 0, .int .u8 0, .slice none 0 0, .int .i64 0, .string ⟨#[]⟩, .slice none 0 0] 34)
 have HZ2 := Lib.hid (HZ1.out.below ((Below.refl _ _).alloc (Nat.le_refl _) (.cells #[.int .u8 0, .int .u32 0, .int .u64 0, .slice none 0 0, .slice none 0 0, .int .u64 0, .int .u8 0, .slice none 0 0, .int .i64 0, .string ⟨#[]⟩, .slice none 0 0] 34)))
 refine (ownCommit_any 0 0 0 none 0 0 none 0 0 0 0 none 0 0 0 ⟨#[]⟩ none 0 0 [] [] [] [] _ (VRow.nil _) rfl (VRow.nil _) rfl (SRow.nil _) rfl (VRow.nil _) rfl (by omega) (by omega) (by omega) (by omega)).mono ?_
 rintro e w2 ⟨qa', qc', va', vc', pa', pc', da', dc', rfl, _, hb⟩
 have HB3 := Lib.hid (hB2.trans (hb.mono hB2.size))
 have hZ3 := HZ2.out.below hb
 have HZ3 := Lib.hid hZ3
 have hl3 := hZ3.lt
 have y0 := hZ3.frozen 0; have y1 := hZ3.frozen 1; have y2 := hZ3.frozen 2; have y3 := hZ3.frozen 3; have y4 := hZ3.frozen 4; have y5 := hZ3.frozen 5; have y6 := hZ3.frozen 6; have y7 := hZ3.frozen 7; have y8 := hZ3.frozen 8; have y9 := hZ3.frozen 9; have y10 := hZ3.frozen 10
 have z0 := hZ3.cell 0; have z1 := hZ3.cell 1; have z2 := hZ3.cell 2; have z3 := hZ3.cell 3; have z4 := hZ3.cell 4; have z5 := hZ3.cell 5; have z6 := hZ3.cell 6; have z7 := hZ3.cell 7; have z8 := hZ3.cell 8; have z9 := hZ3.cell 9; have z10 := hZ3.cell 10
 simp only [List.getElem?_cons_succ, List.getElem?_cons_zero] at z0 z1 z2 z3 z4 z5 z6 z7 z8 z9 z10
 clear hb hB2 hZ3
 go_wp2_with fail
 exact bodyPost_ret (v := .tuple #[cmV 0 0 0 qa' 0 qc' va' 0 vc' 0 0 pa' 0 pc' 0 ⟨#[]⟩ da' 0 dc', .bool false]) (res_cm2 (b := W.heap.size + 1) Tryz.results4 (by simp) (by simp) (HZ3.out.set11 (.int .u8 0) (.int .u32 0) (.int .u64 0) (.slice qa' 0 qc') (.slice va' 0 vc') (.int .u64 0) (.int .u8 0) (.slice pa' 0 pc') (.int .i64 0) (.string ⟨#[]⟩) (.slice da' 0 dc'))) rfl ⟨⟨_, _, _, _, _, _, _, _, rfl⟩, below11 HB3.out (by omega) (.int .u8 0) (.int .u32 0) (.int .u64 0) (.slice qa' 0 qc') (.slice va' 0 vc') (.int .u64 0) (.int .u8 0) (.slice pa' 0 pc') (.int .i64 0) (.string ⟨#[]⟩) (.slice da' 0 dc')⟩
end Go.Proofs.YtiiidmphmojlgaaGreat
namespace Go.Proofs.YtiiidmphmojlgaaGreat
open Go.Shelf Go.Sort Go.RowKit Go.Buf Go.LB Go.Lib
set_option linter.unusedSimpArgs false
set_option linter.unusedVariables false
set_option maxHeartbeats 2000000 in
theorem insertionC_none (p : Option Addr) (cap : Nat) (fv : Value) (w : World) :
  Calls Tryz.prog 71 #[.slice p 0 cap, .int .i64 0, .int .i64 0, fv] w fun e w' => e = .returned (.tuple #[]) ∧ w = w' := by
 go_enter Tryz.func71, Tryz.ntmps71
 go_wp2
 refine wp_loop_rounds 1 ?_
 rw [rounds_succ]
 go_wp2
 go_end0
 exact ⟨rfl, rfl⟩
set_option maxHeartbeats 2000000 in
theorem pdqC_none (p : Option Addr) (cap : Nat) (lim : Int) (fv : Value) (w : World) :
  Calls Tryz.prog 44 #[.slice p 0 cap, .int .i64 0, .int .i64 0, .int .i64 lim, fv] w fun e w' => e = .returned (.tuple #[]) ∧ w = w' := by
 go_enter Tryz.func44, Tryz.ntmps44
 go_wp2
 refine wp_loop_rounds 1 ?_
 rw [rounds_succ]
 go_wp2_with (go_at_call 71; refine (insertionC_none _ _ _ _).mono ?_; rintro e w' ⟨rfl, rfl⟩)
 (try simp only [Exit.inBlock, Exit.then])
 first | go_end0 | (refine bodyPost_ret (results_none rfl _ _ _) rfl ?_)
 exact ⟨rfl, rfl⟩
set_option maxHeartbeats 400000 in
theorem sortC_none (p : Option Addr) (cap : Nat) (fv : Value) (w : World) :
  Calls Tryz.prog 21 #[.slice p 0 cap, fv] w fun e w' => e = .returned (.tuple #[]) ∧ w = w' := by
 have hl : Calls Tryz.prog 45 #[.int .u64 0] w fun e w' => e = .returned (.int .i64 (Lib.bitLen 0 : Nat)) ∧ w = w' :=
  (Any.bits_Len (SlLaysF0.n15.bits Tryz.lenU) 0 w (by omega) (by omega)).mono fun _ _ ⟨h1, h2⟩ => ⟨h1, h2.symm⟩
 have Hl := Lib.hid hl; clear hl
 go_enter Tryz.func21, Tryz.ntmps21
 go_wp2_with fail
 refine Hl.out.mono ?_
 rintro e w' ⟨rfl, rfl⟩
 go_wp2_with fail
 refine (pdqC_none _ _ _ _ _).mono ?_
 rintro e w' ⟨rfl, rfl⟩
 go_wp2_with fail
 go_end0
 exact ⟨rfl, rfl⟩
set_option maxHeartbeats 400000 in
theorem sortD_none (p : Option Addr) (cap : Nat) (fv : Value) (w : World) :
  Calls Tryz.prog 31 #[.slice p 0 cap, fv] w fun e w' => e = .returned (.tuple #[]) ∧ w = w' := by
 have hl : Calls Tryz.prog 45 #[.int .u64 0] w fun e w' => e = .returned (.int .i64 (Lib.bitLen 0 : Nat)) ∧ w = w' :=
  (Any.bits_Len (SlLaysF0.n15.bits Tryz.lenU) 0 w (by omega) (by omega)).mono fun _ _ ⟨h1, h2⟩ => ⟨h1, h2.symm⟩
 have Hl := Lib.hid hl; clear hl
 go_enter Tryz.func31, Tryz.ntmps31
 go_wp2_with fail
 refine Hl.out.mono ?_
 rintro e w' ⟨rfl, rfl⟩
 go_wp2_with fail
 refine (pdq_none _ _ _ _ _).mono ?_
 rintro e w' ⟨rfl, rfl⟩
 go_wp2_with fail
 go_end0
 exact ⟨rfl, rfl⟩
set_option maxRecDepth 100000 in
set_option maxHeartbeats 6400000 in
theorem commits_none (p : Option Addr) (W : World) (hG : GAt W p none) :
  Calls Tryz.prog 7 #[.pointer p] W fun e w' => (∃ a c, e = .returned (.slice a 0 c)) ∧ Below W.heap.size W w' := by
 have HG := Lib.hid hG
 clear hG
 go_enter Tryz.func7, Tryz.ntmps7
 go_wp2_with fail
 refine (parts_any p none _ HG.out).mono ?_
 rintro e w1 ⟨rfl, hb⟩
 have HB := Lib.hid (hb.alloc hb.size b0C)
 clear hb
 go_wp2_with fail
 refine (ownCommits_none _).mono ?_
 rintro e w2 ⟨rfl, hb⟩
 have HB2 := Lib.hid (HB.out.trans (hb.mono HB.out.size))
 clear hb
 go_wp2_with fail
 refine (sortC_none _ _ _ _).mono ?_
 rintro e w3 ⟨rfl, rfl⟩
 go_wp2_with fail
 go_ret
 exact ⟨⟨_, _, rfl⟩, HB2.out⟩
end Go.Proofs.YtiiidmphmojlgaaGreat
