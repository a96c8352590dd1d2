import Derived.Test.YtmnblimnoaockaaZFuse12
namespace Go.Proofs.Ytmnblimnoaockaa
open Go.RowKit Go.Buf Go.LB Go.Lib
set_option linter.unusedSimpArgs false
set_option linter.unusedVariables false
set_option maxRecDepth 100000 in
set_option maxHeartbeats 12800000 in
theorem rmerge_a (kk : Nat) (n : Int) (t r i s : Nat) (x : ByteArray) (ia : Option Addr) (il ic : Nat) (da : Option Addr) (dl dc : Nat) (li : List Lm.It) (ld : List Dt.Dot) (kk' : Nat) (n' : Int) (t' r' i' s' : Nat) (x' : ByteArray) (ia' : Option Addr) (il' ic' : Nat) (da' : Option Addr) (dl' dc' : Nat) (li' : List Lm.It) (ld' : List Dt.Dot) (kk'' : Nat) (n'' : Int) (t'' r'' i'' s'' : Nat) (x'' : ByteArray) (ia'' : Option Addr) (il'' ic'' : Nat) (da'' : Option Addr) (dl'' dc'' : Nat) (li'' : List Lm.It) (ld'' : List Dt.Dot) (W : World) (hi : IRow W ia ic li) (hil : li.length = il) (hd : VRow W da dc ld) (hdl : ld.length = dl) (hn : il ≤ 1000) (hm : dl ≤ 1000) (hx : x.size ≤ 9223372036854775807) (hi' : IRow W ia' ic' li') (hil' : li'.length = il') (hd' : VRow W da' dc' ld') (hdl' : ld'.length = dl') (hn' : il' ≤ 1000) (hm' : dl' ≤ 1000) (hx' : x'.size ≤ 9223372036854775807) (hi'' : IRow W ia'' ic'' li'') (hil'' : li''.length = il'') (hd'' : VRow W da'' dc'' ld'') (hdl'' : ld''.length = dl'') (hn'' : il'' ≤ 1000) (hm'' : dl'' ≤ 1000) (hx'' : x''.size ≤ 9223372036854775807) (hml : Lm.may ⟨kk, n, t, ((r, i), s), x, li, ld⟩ = false) :
  Calls Try.prog 8 #[leafV kk n t r i s x ia il ic da dl dc, leafV kk' n' t' r' i' s' x' ia' il' ic' da' dl' dc', leafV kk'' n'' t'' r'' i'' s'' x'' ia'' il'' ic'' da'' dl'' dc''] W fun e w' => RE6 w' Lm.zeroL 2 e ∧ Below W.heap.size W w' := by
 have Hml := Lib.hid hml; clear hml
 have HI := Lib.hid hi; have HIl := Lib.hid hil; have HD := Lib.hid hd; have HDl := Lib.hid hdl
 have HI' := Lib.hid hi'; have HIl' := Lib.hid hil'; have HD' := Lib.hid hd'; have HDl' := Lib.hid hdl'
 have HI'' := Lib.hid hi''; have HIl'' := Lib.hid hil''; have HD'' := Lib.hid hd''; have HDl'' := Lib.hid hdl''
 clear hi hil hd hdl hi' hil' hd' hdl' hi'' hil'' hd'' hdl''
 have hW := below_box4 W #[.int .u8 (kk : Int), .int .i64 n, .int .u64 (t : Int), .int .u8 (r : Int), .int .u32 (i : Int), .int .u64 (s : Int), .string x, .slice ia il ic, .slice da dl dc] #[.int .u8 (kk' : Int), .int .i64 n', .int .u64 (t' : Int), .int .u8 (r' : Int), .int .u32 (i' : Int), .int .u64 (s' : Int), .string x', .slice ia' il' ic', .slice da' dl' dc'] #[.int .u8 (kk'' : Int), .int .i64 n'', .int .u64 (t'' : Int), .int .u8 (r'' : Int), .int .u32 (i'' : Int), .int .u64 (s'' : Int), .string x'', .slice ia'' il'' ic'', .slice da'' dl'' dc''] #[.int .u8 0, .int .i64 0, .int .u64 0, .int .u8 0, .int .u32 0, .int .u64 0, .string ⟨#[]⟩, .slice none 0 0, .slice none 0 0] 31 31 31 31
 obtain ⟨hL, hA, hB, hR⟩ := blks4 (Below.refl ((((W.alloc (.cells #[.int .u8 (kk : Int), .int .i64 n, .int .u64 (t : Int), .int .u8 (r : Int), .int .u32 (i : Int), .int .u64 (s : Int), .string x, .slice ia il ic, .slice da dl dc] 31)).alloc (.cells #[.int .u8 (kk' : Int), .int .i64 n', .int .u64 (t' : Int), .int .u8 (r' : Int), .int .u32 (i' : Int), .int .u64 (s' : Int), .string x', .slice ia' il' ic', .slice da' dl' dc'] 31)).alloc (.cells #[.int .u8 (kk'' : Int), .int .i64 n'', .int .u64 (t'' : Int), .int .u8 (r'' : Int), .int .u32 (i'' : Int), .int .u64 (s'' : Int), .string x'', .slice ia'' il'' ic'', .slice da'' dl'' dc''] 31)).alloc (.cells #[.int .u8 0, .int .i64 0, .int .u64 0, .int .u8 0, .int .u32 0, .int .u64 0, .string ⟨#[]⟩, .slice none 0 0, .slice none 0 0] 31)).heap.size ((((W.alloc (.cells #[.int .u8 (kk : Int), .int .i64 n, .int .u64 (t : Int), .int .u8 (r : Int), .int .u32 (i : Int), .int .u64 (s : Int), .string x, .slice ia il ic, .slice da dl dc] 31)).alloc (.cells #[.int .u8 (kk' : Int), .int .i64 n', .int .u64 (t' : Int), .int .u8 (r' : Int), .int .u32 (i' : Int), .int .u64 (s' : Int), .string x', .slice ia' il' ic', .slice da' dl' dc'] 31)).alloc (.cells #[.int .u8 (kk'' : Int), .int .i64 n'', .int .u64 (t'' : Int), .int .u8 (r'' : Int), .int .u32 (i'' : Int), .int .u64 (s'' : Int), .string x'', .slice ia'' il'' ic'', .slice da'' dl'' dc''] 31)).alloc (.cells #[.int .u8 0, .int .i64 0, .int .u64 0, .int .u8 0, .int .u32 0, .int .u64 0, .string ⟨#[]⟩, .slice none 0 0, .slice none 0 0] 31)))
 go_enter Try.func8, Try.ntmps8
 go_wp2_with fail
 obtain ⟨X, hX⟩ : ∃ X, X = ((((W.alloc (.cells #[.int .u8 (kk : Int), .int .i64 n, .int .u64 (t : Int), .int .u8 (r : Int), .int .u32 (i : Int), .int .u64 (s : Int), .string x, .slice ia il ic, .slice da dl dc] 31)).alloc (.cells #[.int .u8 (kk' : Int), .int .i64 n', .int .u64 (t' : Int), .int .u8 (r' : Int), .int .u32 (i' : Int), .int .u64 (s' : Int), .string x', .slice ia' il' ic', .slice da' dl' dc'] 31)).alloc (.cells #[.int .u8 (kk'' : Int), .int .i64 n'', .int .u64 (t'' : Int), .int .u8 (r'' : Int), .int .u32 (i'' : Int), .int .u64 (s'' : Int), .string x'', .slice ia'' il'' ic'', .slice da'' dl'' dc''] 31)).alloc (.cells #[.int .u8 0, .int .i64 0, .int .u64 0, .int .u8 0, .int .u32 0, .int .u64 0, .string ⟨#[]⟩, .slice none 0 0, .slice none 0 0] 31)) := ⟨_, rfl⟩
 rw [← hX] at hW hL hA hB hR ⊢
 have HW := Lib.hid hW; have HL := Lib.hid hL; have HA := Lib.hid hA; have HB := Lib.hid hB; have HR := Lib.hid hR
 clear hX hW hL hA hB hR
 refine (refmay05_any kk n t r i s x ia il ic da dl dc li ld _ (HI.out.below HW.out) HIl.out (HD.out.below HW.out) HDl.out hx (by omega) (by omega)).mono ?_
 rintro e w1 ⟨rfl, hb⟩
 rw [Hml.out]
 have hW := HW.out.trans (hb.mono HW.out.size)
 have hL := HL.out.below hb; have hA := HA.out.below hb; have hB := HB.out.below hb; have hR := HR.out.below hb
 clear HW HL HA HB HR hb
 have HW := Lib.hid hW; have HL := Lib.hid hL; have HA := Lib.hid hA; have HB := Lib.hid hB; have HR := Lib.hid hR
 clear hW hL hA hB hR
 obtain ⟨q0, q1, q2, q3, q4, q5, q6, q7, q8⟩ := leafblk HR.out
 have hfq : ∀ j, w1.frozen? ⟨W.heap.size + 1 + 1 + 1, j, none⟩ = false := fun j => HR.out.frozen j
 go_wp2_with fail
 have hc9 := chg9 w1 (W.heap.size + 1 + 1 + 1) (.int .u8 0) (.int .i64 0) (.int .u64 0) (.int .u8 0) (.int .u32 0) (.int .u64 0) (.string ⟨#[]⟩) (.slice none 0 0) (.slice none 0 0)
 have hfin := Chg.belowTrans HW.out hc9 (fun k hk e => by have : k = W.heap.size + 1 + 1 + 1 := e; omega) HW.out.size
 have HFin := Lib.hid hfin
 refine bodyPost_ret (v := .tuple #[.agg #[.int .u8 0, .int .i64 0, .int .u64 0, .int .u8 0, .int .u32 0, .int .u64 0, .string ⟨#[]⟩, .slice none 0 0, .slice none 0 0], .int .i64 2]) (res_leaf2 (b := W.heap.size + 1 + 1 + 1) Try.results8 (by simp) (by simp) (blk9 HR.out _ _ _ _ _ _ _ _ _)) rfl ⟨⟨_, _, _, _, rfl, IRow.nil _, VRow.nil _⟩, HFin.out⟩
set_option maxRecDepth 100000 in
set_option maxHeartbeats 12800000 in
theorem rmerge_b (kk : Nat) (n : Int) (t r i s : Nat) (x : ByteArray) (ia : Option Addr) (il ic : Nat) (da : Option Addr) (dl dc : Nat) (li : List Lm.It) (ld : List Dt.Dot) (kk' : Nat) (n' : Int) (t' r' i' s' : Nat) (x' : ByteArray) (ia' : Option Addr) (il' ic' : Nat) (da' : Option Addr) (dl' dc' : Nat) (li' : List Lm.It) (ld' : List Dt.Dot) (kk'' : Nat) (n'' : Int) (t'' r'' i'' s'' : Nat) (x'' : ByteArray) (ia'' : Option Addr) (il'' ic'' : Nat) (da'' : Option Addr) (dl'' dc'' : Nat) (li'' : List Lm.It) (ld'' : List Dt.Dot) (W : World) (hi : IRow W ia ic li) (hil : li.length = il) (hd : VRow W da dc ld) (hdl : ld.length = dl) (hn : il ≤ 1000) (hm : dl ≤ 1000) (hx : x.size ≤ 9223372036854775807) (hi' : IRow W ia' ic' li') (hil' : li'.length = il') (hd' : VRow W da' dc' ld') (hdl' : ld'.length = dl') (hn' : il' ≤ 1000) (hm' : dl' ≤ 1000) (hx' : x'.size ≤ 9223372036854775807) (hi'' : IRow W ia'' ic'' li'') (hil'' : li''.length = il'') (hd'' : VRow W da'' dc'' ld'') (hdl'' : ld''.length = dl'') (hn'' : il'' ≤ 1000) (hm'' : dl'' ≤ 1000) (hx'' : x''.size ≤ 9223372036854775807) (hml : Lm.may ⟨kk, n, t, ((r, i), s), x, li, ld⟩ = true) (hma : Lm.may ⟨kk', n', t', ((r', i'), s'), x', li', ld'⟩ = false) :
  Calls Try.prog 8 #[leafV kk n t r i s x ia il ic da dl dc, leafV kk' n' t' r' i' s' x' ia' il' ic' da' dl' dc', leafV kk'' n'' t'' r'' i'' s'' x'' ia'' il'' ic'' da'' dl'' dc''] W fun e w' => RE6 w' Lm.zeroL 2 e ∧ Below W.heap.size W w' := by
 have Hml := Lib.hid hml; clear hml
 have Hma := Lib.hid hma; clear hma
 have HI := Lib.hid hi; have HIl := Lib.hid hil; have HD := Lib.hid hd; have HDl := Lib.hid hdl
 have HI' := Lib.hid hi'; have HIl' := Lib.hid hil'; have HD' := Lib.hid hd'; have HDl' := Lib.hid hdl'
 have HI'' := Lib.hid hi''; have HIl'' := Lib.hid hil''; have HD'' := Lib.hid hd''; have HDl'' := Lib.hid hdl''
 clear hi hil hd hdl hi' hil' hd' hdl' hi'' hil'' hd'' hdl''
 have hW := below_box4 W #[.int .u8 (kk : Int), .int .i64 n, .int .u64 (t : Int), .int .u8 (r : Int), .int .u32 (i : Int), .int .u64 (s : Int), .string x, .slice ia il ic, .slice da dl dc] #[.int .u8 (kk' : Int), .int .i64 n', .int .u64 (t' : Int), .int .u8 (r' : Int), .int .u32 (i' : Int), .int .u64 (s' : Int), .string x', .slice ia' il' ic', .slice da' dl' dc'] #[.int .u8 (kk'' : Int), .int .i64 n'', .int .u64 (t'' : Int), .int .u8 (r'' : Int), .int .u32 (i'' : Int), .int .u64 (s'' : Int), .string x'', .slice ia'' il'' ic'', .slice da'' dl'' dc''] #[.int .u8 0, .int .i64 0, .int .u64 0, .int .u8 0, .int .u32 0, .int .u64 0, .string ⟨#[]⟩, .slice none 0 0, .slice none 0 0] 31 31 31 31
 obtain ⟨hL, hA, hB, hR⟩ := blks4 (Below.refl ((((W.alloc (.cells #[.int .u8 (kk : Int), .int .i64 n, .int .u64 (t : Int), .int .u8 (r : Int), .int .u32 (i : Int), .int .u64 (s : Int), .string x, .slice ia il ic, .slice da dl dc] 31)).alloc (.cells #[.int .u8 (kk' : Int), .int .i64 n', .int .u64 (t' : Int), .int .u8 (r' : Int), .int .u32 (i' : Int), .int .u64 (s' : Int), .string x', .slice ia' il' ic', .slice da' dl' dc'] 31)).alloc (.cells #[.int .u8 (kk'' : Int), .int .i64 n'', .int .u64 (t'' : Int), .int .u8 (r'' : Int), .int .u32 (i'' : Int), .int .u64 (s'' : Int), .string x'', .slice ia'' il'' ic'', .slice da'' dl'' dc''] 31)).alloc (.cells #[.int .u8 0, .int .i64 0, .int .u64 0, .int .u8 0, .int .u32 0, .int .u64 0, .string ⟨#[]⟩, .slice none 0 0, .slice none 0 0] 31)).heap.size ((((W.alloc (.cells #[.int .u8 (kk : Int), .int .i64 n, .int .u64 (t : Int), .int .u8 (r : Int), .int .u32 (i : Int), .int .u64 (s : Int), .string x, .slice ia il ic, .slice da dl dc] 31)).alloc (.cells #[.int .u8 (kk' : Int), .int .i64 n', .int .u64 (t' : Int), .int .u8 (r' : Int), .int .u32 (i' : Int), .int .u64 (s' : Int), .string x', .slice ia' il' ic', .slice da' dl' dc'] 31)).alloc (.cells #[.int .u8 (kk'' : Int), .int .i64 n'', .int .u64 (t'' : Int), .int .u8 (r'' : Int), .int .u32 (i'' : Int), .int .u64 (s'' : Int), .string x'', .slice ia'' il'' ic'', .slice da'' dl'' dc''] 31)).alloc (.cells #[.int .u8 0, .int .i64 0, .int .u64 0, .int .u8 0, .int .u32 0, .int .u64 0, .string ⟨#[]⟩, .slice none 0 0, .slice none 0 0] 31)))
 go_enter Try.func8, Try.ntmps8
 go_wp2_with fail
 obtain ⟨X, hX⟩ : ∃ X, X = ((((W.alloc (.cells #[.int .u8 (kk : Int), .int .i64 n, .int .u64 (t : Int), .int .u8 (r : Int), .int .u32 (i : Int), .int .u64 (s : Int), .string x, .slice ia il ic, .slice da dl dc] 31)).alloc (.cells #[.int .u8 (kk' : Int), .int .i64 n', .int .u64 (t' : Int), .int .u8 (r' : Int), .int .u32 (i' : Int), .int .u64 (s' : Int), .string x', .slice ia' il' ic', .slice da' dl' dc'] 31)).alloc (.cells #[.int .u8 (kk'' : Int), .int .i64 n'', .int .u64 (t'' : Int), .int .u8 (r'' : Int), .int .u32 (i'' : Int), .int .u64 (s'' : Int), .string x'', .slice ia'' il'' ic'', .slice da'' dl'' dc''] 31)).alloc (.cells #[.int .u8 0, .int .i64 0, .int .u64 0, .int .u8 0, .int .u32 0, .int .u64 0, .string ⟨#[]⟩, .slice none 0 0, .slice none 0 0] 31)) := ⟨_, rfl⟩
 rw [← hX] at hW hL hA hB hR ⊢
 have HW := Lib.hid hW; have HL := Lib.hid hL; have HA := Lib.hid hA; have HB := Lib.hid hB; have HR := Lib.hid hR
 clear hX hW hL hA hB hR
 refine (refmay05_any kk n t r i s x ia il ic da dl dc li ld _ (HI.out.below HW.out) HIl.out (HD.out.below HW.out) HDl.out hx (by omega) (by omega)).mono ?_
 rintro e w1 ⟨rfl, hb⟩
 rw [Hml.out]
 have hW := HW.out.trans (hb.mono HW.out.size)
 have hL := HL.out.below hb; have hA := HA.out.below hb; have hB := HB.out.below hb; have hR := HR.out.below hb
 clear HW HL HA HB HR hb
 have HW := Lib.hid hW; have HL := Lib.hid hL; have HA := Lib.hid hA; have HB := Lib.hid hB; have HR := Lib.hid hR
 clear hW hL hA hB hR
 obtain ⟨p0, p1, p2, p3, p4, p5, p6, p7, p8⟩ := leafblk HA.out
 go_wp2_with fail
 clear p0 p1 p2 p3 p4 p5 p6 p7 p8
 refine (refmay05_any kk' n' t' r' i' s' x' ia' il' ic' da' dl' dc' li' ld' _ (HI'.out.below HW.out) HIl'.out (HD'.out.below HW.out) HDl'.out hx' (by omega) (by omega)).mono ?_
 rintro e w2 ⟨rfl, hb⟩
 rw [Hma.out]
 have hW := HW.out.trans (hb.mono HW.out.size)
 have hL := HL.out.below hb; have hA := HA.out.below hb; have hB := HB.out.below hb; have hR := HR.out.below hb
 clear HW HL HA HB HR hb
 have HW := Lib.hid hW; have HL := Lib.hid hL; have HA := Lib.hid hA; have HB := Lib.hid hB; have HR := Lib.hid hR
 clear hW hL hA hB hR
 obtain ⟨q0, q1, q2, q3, q4, q5, q6, q7, q8⟩ := leafblk HR.out
 have hfq : ∀ j, w2.frozen? ⟨W.heap.size + 1 + 1 + 1, j, none⟩ = false := fun j => HR.out.frozen j
 go_wp2_with fail
 have hc9 := chg9 w2 (W.heap.size + 1 + 1 + 1) (.int .u8 0) (.int .i64 0) (.int .u64 0) (.int .u8 0) (.int .u32 0) (.int .u64 0) (.string ⟨#[]⟩) (.slice none 0 0) (.slice none 0 0)
 have hfin := Chg.belowTrans HW.out hc9 (fun k hk e => by have : k = W.heap.size + 1 + 1 + 1 := e; omega) HW.out.size
 have HFin := Lib.hid hfin
 refine bodyPost_ret (v := .tuple #[.agg #[.int .u8 0, .int .i64 0, .int .u64 0, .int .u8 0, .int .u32 0, .int .u64 0, .string ⟨#[]⟩, .slice none 0 0, .slice none 0 0], .int .i64 2]) (res_leaf2 (b := W.heap.size + 1 + 1 + 1) Try.results8 (by simp) (by simp) (blk9 HR.out _ _ _ _ _ _ _ _ _)) rfl ⟨⟨_, _, _, _, rfl, IRow.nil _, VRow.nil _⟩, HFin.out⟩
set_option maxRecDepth 100000 in
set_option maxHeartbeats 12800000 in
theorem rmerge_c (kk : Nat) (n : Int) (t r i s : Nat) (x : ByteArray) (ia : Option Addr) (il ic : Nat) (da : Option Addr) (dl dc : Nat) (li : List Lm.It) (ld : List Dt.Dot) (kk' : Nat) (n' : Int) (t' r' i' s' : Nat) (x' : ByteArray) (ia' : Option Addr) (il' ic' : Nat) (da' : Option Addr) (dl' dc' : Nat) (li' : List Lm.It) (ld' : List Dt.Dot) (kk'' : Nat) (n'' : Int) (t'' r'' i'' s'' : Nat) (x'' : ByteArray) (ia'' : Option Addr) (il'' ic'' : Nat) (da'' : Option Addr) (dl'' dc'' : Nat) (li'' : List Lm.It) (ld'' : List Dt.Dot) (W : World) (hi : IRow W ia ic li) (hil : li.length = il) (hd : VRow W da dc ld) (hdl : ld.length = dl) (hn : il ≤ 1000) (hm : dl ≤ 1000) (hx : x.size ≤ 9223372036854775807) (hi' : IRow W ia' ic' li') (hil' : li'.length = il') (hd' : VRow W da' dc' ld') (hdl' : ld'.length = dl') (hn' : il' ≤ 1000) (hm' : dl' ≤ 1000) (hx' : x'.size ≤ 9223372036854775807) (hi'' : IRow W ia'' ic'' li'') (hil'' : li''.length = il'') (hd'' : VRow W da'' dc'' ld'') (hdl'' : ld''.length = dl'') (hn'' : il'' ≤ 1000) (hm'' : dl'' ≤ 1000) (hx'' : x''.size ≤ 9223372036854775807) (hml : Lm.may ⟨kk, n, t, ((r, i), s), x, li, ld⟩ = true) (hma : Lm.may ⟨kk', n', t', ((r', i'), s'), x', li', ld'⟩ = true) (hmb : Lm.may ⟨kk'', n'', t'', ((r'', i''), s''), x'', li'', ld''⟩ = false) :
  Calls Try.prog 8 #[leafV kk n t r i s x ia il ic da dl dc, leafV kk' n' t' r' i' s' x' ia' il' ic' da' dl' dc', leafV kk'' n'' t'' r'' i'' s'' x'' ia'' il'' ic'' da'' dl'' dc''] W fun e w' => RE6 w' Lm.zeroL 2 e ∧ Below W.heap.size W w' := by
 have Hml := Lib.hid hml; clear hml
 have Hma := Lib.hid hma; clear hma
 have Hmb := Lib.hid hmb; clear hmb
 have HI := Lib.hid hi; have HIl := Lib.hid hil; have HD := Lib.hid hd; have HDl := Lib.hid hdl
 have HI' := Lib.hid hi'; have HIl' := Lib.hid hil'; have HD' := Lib.hid hd'; have HDl' := Lib.hid hdl'
 have HI'' := Lib.hid hi''; have HIl'' := Lib.hid hil''; have HD'' := Lib.hid hd''; have HDl'' := Lib.hid hdl''
 clear hi hil hd hdl hi' hil' hd' hdl' hi'' hil'' hd'' hdl''
 have hW := below_box4 W #[.int .u8 (kk : Int), .int .i64 n, .int .u64 (t : Int), .int .u8 (r : Int), .int .u32 (i : Int), .int .u64 (s : Int), .string x, .slice ia il ic, .slice da dl dc] #[.int .u8 (kk' : Int), .int .i64 n', .int .u64 (t' : Int), .int .u8 (r' : Int), .int .u32 (i' : Int), .int .u64 (s' : Int), .string x', .slice ia' il' ic', .slice da' dl' dc'] #[.int .u8 (kk'' : Int), .int .i64 n'', .int .u64 (t'' : Int), .int .u8 (r'' : Int), .int .u32 (i'' : Int), .int .u64 (s'' : Int), .string x'', .slice ia'' il'' ic'', .slice da'' dl'' dc''] #[.int .u8 0, .int .i64 0, .int .u64 0, .int .u8 0, .int .u32 0, .int .u64 0, .string ⟨#[]⟩, .slice none 0 0, .slice none 0 0] 31 31 31 31
 obtain ⟨hL, hA, hB, hR⟩ := blks4 (Below.refl ((((W.alloc (.cells #[.int .u8 (kk : Int), .int .i64 n, .int .u64 (t : Int), .int .u8 (r : Int), .int .u32 (i : Int), .int .u64 (s : Int), .string x, .slice ia il ic, .slice da dl dc] 31)).alloc (.cells #[.int .u8 (kk' : Int), .int .i64 n', .int .u64 (t' : Int), .int .u8 (r' : Int), .int .u32 (i' : Int), .int .u64 (s' : Int), .string x', .slice ia' il' ic', .slice da' dl' dc'] 31)).alloc (.cells #[.int .u8 (kk'' : Int), .int .i64 n'', .int .u64 (t'' : Int), .int .u8 (r'' : Int), .int .u32 (i'' : Int), .int .u64 (s'' : Int), .string x'', .slice ia'' il'' ic'', .slice da'' dl'' dc''] 31)).alloc (.cells #[.int .u8 0, .int .i64 0, .int .u64 0, .int .u8 0, .int .u32 0, .int .u64 0, .string ⟨#[]⟩, .slice none 0 0, .slice none 0 0] 31)).heap.size ((((W.alloc (.cells #[.int .u8 (kk : Int), .int .i64 n, .int .u64 (t : Int), .int .u8 (r : Int), .int .u32 (i : Int), .int .u64 (s : Int), .string x, .slice ia il ic, .slice da dl dc] 31)).alloc (.cells #[.int .u8 (kk' : Int), .int .i64 n', .int .u64 (t' : Int), .int .u8 (r' : Int), .int .u32 (i' : Int), .int .u64 (s' : Int), .string x', .slice ia' il' ic', .slice da' dl' dc'] 31)).alloc (.cells #[.int .u8 (kk'' : Int), .int .i64 n'', .int .u64 (t'' : Int), .int .u8 (r'' : Int), .int .u32 (i'' : Int), .int .u64 (s'' : Int), .string x'', .slice ia'' il'' ic'', .slice da'' dl'' dc''] 31)).alloc (.cells #[.int .u8 0, .int .i64 0, .int .u64 0, .int .u8 0, .int .u32 0, .int .u64 0, .string ⟨#[]⟩, .slice none 0 0, .slice none 0 0] 31)))
 go_enter Try.func8, Try.ntmps8
 go_wp2_with fail
 obtain ⟨X, hX⟩ : ∃ X, X = ((((W.alloc (.cells #[.int .u8 (kk : Int), .int .i64 n, .int .u64 (t : Int), .int .u8 (r : Int), .int .u32 (i : Int), .int .u64 (s : Int), .string x, .slice ia il ic, .slice da dl dc] 31)).alloc (.cells #[.int .u8 (kk' : Int), .int .i64 n', .int .u64 (t' : Int), .int .u8 (r' : Int), .int .u32 (i' : Int), .int .u64 (s' : Int), .string x', .slice ia' il' ic', .slice da' dl' dc'] 31)).alloc (.cells #[.int .u8 (kk'' : Int), .int .i64 n'', .int .u64 (t'' : Int), .int .u8 (r'' : Int), .int .u32 (i'' : Int), .int .u64 (s'' : Int), .string x'', .slice ia'' il'' ic'', .slice da'' dl'' dc''] 31)).alloc (.cells #[.int .u8 0, .int .i64 0, .int .u64 0, .int .u8 0, .int .u32 0, .int .u64 0, .string ⟨#[]⟩, .slice none 0 0, .slice none 0 0] 31)) := ⟨_, rfl⟩
 rw [← hX] at hW hL hA hB hR ⊢
 have HW := Lib.hid hW; have HL := Lib.hid hL; have HA := Lib.hid hA; have HB := Lib.hid hB; have HR := Lib.hid hR
 clear hX hW hL hA hB hR
 refine (refmay05_any kk n t r i s x ia il ic da dl dc li ld _ (HI.out.below HW.out) HIl.out (HD.out.below HW.out) HDl.out hx (by omega) (by omega)).mono ?_
 rintro e w1 ⟨rfl, hb⟩
 rw [Hml.out]
 have hW := HW.out.trans (hb.mono HW.out.size)
 have hL := HL.out.below hb; have hA := HA.out.below hb; have hB := HB.out.below hb; have hR := HR.out.below hb
 clear HW HL HA HB HR hb
 have HW := Lib.hid hW; have HL := Lib.hid hL; have HA := Lib.hid hA; have HB := Lib.hid hB; have HR := Lib.hid hR
 clear hW hL hA hB hR
 obtain ⟨p0, p1, p2, p3, p4, p5, p6, p7, p8⟩ := leafblk HA.out
 go_wp2_with fail
 clear p0 p1 p2 p3 p4 p5 p6 p7 p8
 refine (refmay05_any kk' n' t' r' i' s' x' ia' il' ic' da' dl' dc' li' ld' _ (HI'.out.below HW.out) HIl'.out (HD'.out.below HW.out) HDl'.out hx' (by omega) (by omega)).mono ?_
 rintro e w2 ⟨rfl, hb⟩
 rw [Hma.out]
 have hW := HW.out.trans (hb.mono HW.out.size)
 have hL := HL.out.below hb; have hA := HA.out.below hb; have hB := HB.out.below hb; have hR := HR.out.below hb
 clear HW HL HA HB HR hb
 have HW := Lib.hid hW; have HL := Lib.hid hL; have HA := Lib.hid hA; have HB := Lib.hid hB; have HR := Lib.hid hR
 clear hW hL hA hB hR
 obtain ⟨p0, p1, p2, p3, p4, p5, p6, p7, p8⟩ := leafblk HB.out
 go_wp2_with fail
 clear p0 p1 p2 p3 p4 p5 p6 p7 p8
 refine (refmay05_any kk'' n'' t'' r'' i'' s'' x'' ia'' il'' ic'' da'' dl'' dc'' li'' ld'' _ (HI''.out.below HW.out) HIl''.out (HD''.out.below HW.out) HDl''.out hx'' (by omega) (by omega)).mono ?_
 rintro e w3 ⟨rfl, hb⟩
 rw [Hmb.out]
 have hW := HW.out.trans (hb.mono HW.out.size)
 have hL := HL.out.below hb; have hA := HA.out.below hb; have hB := HB.out.below hb; have hR := HR.out.below hb
 clear HW HL HA HB HR hb
 have HW := Lib.hid hW; have HL := Lib.hid hL; have HA := Lib.hid hA; have HB := Lib.hid hB; have HR := Lib.hid hR
 clear hW hL hA hB hR
 obtain ⟨q0, q1, q2, q3, q4, q5, q6, q7, q8⟩ := leafblk HR.out
 have hfq : ∀ j, w3.frozen? ⟨W.heap.size + 1 + 1 + 1, j, none⟩ = false := fun j => HR.out.frozen j
 go_wp2_with fail
 have hc9 := chg9 w3 (W.heap.size + 1 + 1 + 1) (.int .u8 0) (.int .i64 0) (.int .u64 0) (.int .u8 0) (.int .u32 0) (.int .u64 0) (.string ⟨#[]⟩) (.slice none 0 0) (.slice none 0 0)
 have hfin := Chg.belowTrans HW.out hc9 (fun k hk e => by have : k = W.heap.size + 1 + 1 + 1 := e; omega) HW.out.size
 have HFin := Lib.hid hfin
 refine bodyPost_ret (v := .tuple #[.agg #[.int .u8 0, .int .i64 0, .int .u64 0, .int .u8 0, .int .u32 0, .int .u64 0, .string ⟨#[]⟩, .slice none 0 0, .slice none 0 0], .int .i64 2]) (res_leaf2 (b := W.heap.size + 1 + 1 + 1) Try.results8 (by simp) (by simp) (blk9 HR.out _ _ _ _ _ _ _ _ _)) rfl ⟨⟨_, _, _, _, rfl, IRow.nil _, VRow.nil _⟩, HFin.out⟩
set_option maxRecDepth 100000 in
set_option maxHeartbeats 12800000 in
theorem rmerge_d (kk : Nat) (n : Int) (t r i s : Nat) (x : ByteArray) (ia : Option Addr) (il ic : Nat) (da : Option Addr) (dl dc : Nat) (li : List Lm.It) (ld : List Dt.Dot) (kk' : Nat) (n' : Int) (t' r' i' s' : Nat) (x' : ByteArray) (ia' : Option Addr) (il' ic' : Nat) (da' : Option Addr) (dl' dc' : Nat) (li' : List Lm.It) (ld' : List Dt.Dot) (kk'' : Nat) (n'' : Int) (t'' r'' i'' s'' : Nat) (x'' : ByteArray) (ia'' : Option Addr) (il'' ic'' : Nat) (da'' : Option Addr) (dl'' dc'' : Nat) (li'' : List Lm.It) (ld'' : List Dt.Dot) (W : World) (hi : IRow W ia ic li) (hil : li.length = il) (hd : VRow W da dc ld) (hdl : ld.length = dl) (hn : il ≤ 1000) (hm : dl ≤ 1000) (hx : x.size ≤ 9223372036854775807) (hi' : IRow W ia' ic' li') (hil' : li'.length = il') (hd' : VRow W da' dc' ld') (hdl' : ld'.length = dl') (hn' : il' ≤ 1000) (hm' : dl' ≤ 1000) (hx' : x'.size ≤ 9223372036854775807) (hi'' : IRow W ia'' ic'' li'') (hil'' : li''.length = il'') (hd'' : VRow W da'' dc'' ld'') (hdl'' : ld''.length = dl'') (hn'' : il'' ≤ 1000) (hm'' : dl'' ≤ 1000) (hx'' : x''.size ≤ 9223372036854775807) (hml : Lm.may ⟨kk, n, t, ((r, i), s), x, li, ld⟩ = true) (hma : Lm.may ⟨kk', n', t', ((r', i'), s'), x', li', ld'⟩ = true) (hmb : Lm.may ⟨kk'', n'', t'', ((r'', i''), s''), x'', li'', ld''⟩ = true) (hne : kk' ≠ kk) :
  Calls Try.prog 8 #[leafV kk n t r i s x ia il ic da dl dc, leafV kk' n' t' r' i' s' x' ia' il' ic' da' dl' dc', leafV kk'' n'' t'' r'' i'' s'' x'' ia'' il'' ic'' da'' dl'' dc''] W fun e w' => RE6 w' Lm.zeroL 15 e ∧ Below W.heap.size W w' := by
 have Hml := Lib.hid hml; clear hml
 have Hma := Lib.hid hma; clear hma
 have Hmb := Lib.hid hmb; clear hmb
 have HI := Lib.hid hi; have HIl := Lib.hid hil; have HD := Lib.hid hd; have HDl := Lib.hid hdl
 have HI' := Lib.hid hi'; have HIl' := Lib.hid hil'; have HD' := Lib.hid hd'; have HDl' := Lib.hid hdl'
 have HI'' := Lib.hid hi''; have HIl'' := Lib.hid hil''; have HD'' := Lib.hid hd''; have HDl'' := Lib.hid hdl''
 clear hi hil hd hdl hi' hil' hd' hdl' hi'' hil'' hd'' hdl''
 have hW := below_box4 W #[.int .u8 (kk : Int), .int .i64 n, .int .u64 (t : Int), .int .u8 (r : Int), .int .u32 (i : Int), .int .u64 (s : Int), .string x, .slice ia il ic, .slice da dl dc] #[.int .u8 (kk' : Int), .int .i64 n', .int .u64 (t' : Int), .int .u8 (r' : Int), .int .u32 (i' : Int), .int .u64 (s' : Int), .string x', .slice ia' il' ic', .slice da' dl' dc'] #[.int .u8 (kk'' : Int), .int .i64 n'', .int .u64 (t'' : Int), .int .u8 (r'' : Int), .int .u32 (i'' : Int), .int .u64 (s'' : Int), .string x'', .slice ia'' il'' ic'', .slice da'' dl'' dc''] #[.int .u8 0, .int .i64 0, .int .u64 0, .int .u8 0, .int .u32 0, .int .u64 0, .string ⟨#[]⟩, .slice none 0 0, .slice none 0 0] 31 31 31 31
 obtain ⟨hL, hA, hB, hR⟩ := blks4 (Below.refl ((((W.alloc (.cells #[.int .u8 (kk : Int), .int .i64 n, .int .u64 (t : Int), .int .u8 (r : Int), .int .u32 (i : Int), .int .u64 (s : Int), .string x, .slice ia il ic, .slice da dl dc] 31)).alloc (.cells #[.int .u8 (kk' : Int), .int .i64 n', .int .u64 (t' : Int), .int .u8 (r' : Int), .int .u32 (i' : Int), .int .u64 (s' : Int), .string x', .slice ia' il' ic', .slice da' dl' dc'] 31)).alloc (.cells #[.int .u8 (kk'' : Int), .int .i64 n'', .int .u64 (t'' : Int), .int .u8 (r'' : Int), .int .u32 (i'' : Int), .int .u64 (s'' : Int), .string x'', .slice ia'' il'' ic'', .slice da'' dl'' dc''] 31)).alloc (.cells #[.int .u8 0, .int .i64 0, .int .u64 0, .int .u8 0, .int .u32 0, .int .u64 0, .string ⟨#[]⟩, .slice none 0 0, .slice none 0 0] 31)).heap.size ((((W.alloc (.cells #[.int .u8 (kk : Int), .int .i64 n, .int .u64 (t : Int), .int .u8 (r : Int), .int .u32 (i : Int), .int .u64 (s : Int), .string x, .slice ia il ic, .slice da dl dc] 31)).alloc (.cells #[.int .u8 (kk' : Int), .int .i64 n', .int .u64 (t' : Int), .int .u8 (r' : Int), .int .u32 (i' : Int), .int .u64 (s' : Int), .string x', .slice ia' il' ic', .slice da' dl' dc'] 31)).alloc (.cells #[.int .u8 (kk'' : Int), .int .i64 n'', .int .u64 (t'' : Int), .int .u8 (r'' : Int), .int .u32 (i'' : Int), .int .u64 (s'' : Int), .string x'', .slice ia'' il'' ic'', .slice da'' dl'' dc''] 31)).alloc (.cells #[.int .u8 0, .int .i64 0, .int .u64 0, .int .u8 0, .int .u32 0, .int .u64 0, .string ⟨#[]⟩, .slice none 0 0, .slice none 0 0] 31)))
 go_enter Try.func8, Try.ntmps8
 go_wp2_with fail
 obtain ⟨X, hX⟩ : ∃ X, X = ((((W.alloc (.cells #[.int .u8 (kk : Int), .int .i64 n, .int .u64 (t : Int), .int .u8 (r : Int), .int .u32 (i : Int), .int .u64 (s : Int), .string x, .slice ia il ic, .slice da dl dc] 31)).alloc (.cells #[.int .u8 (kk' : Int), .int .i64 n', .int .u64 (t' : Int), .int .u8 (r' : Int), .int .u32 (i' : Int), .int .u64 (s' : Int), .string x', .slice ia' il' ic', .slice da' dl' dc'] 31)).alloc (.cells #[.int .u8 (kk'' : Int), .int .i64 n'', .int .u64 (t'' : Int), .int .u8 (r'' : Int), .int .u32 (i'' : Int), .int .u64 (s'' : Int), .string x'', .slice ia'' il'' ic'', .slice da'' dl'' dc''] 31)).alloc (.cells #[.int .u8 0, .int .i64 0, .int .u64 0, .int .u8 0, .int .u32 0, .int .u64 0, .string ⟨#[]⟩, .slice none 0 0, .slice none 0 0] 31)) := ⟨_, rfl⟩
 rw [← hX] at hW hL hA hB hR ⊢
 have HW := Lib.hid hW; have HL := Lib.hid hL; have HA := Lib.hid hA; have HB := Lib.hid hB; have HR := Lib.hid hR
 clear hX hW hL hA hB hR
 refine (refmay05_any kk n t r i s x ia il ic da dl dc li ld _ (HI.out.below HW.out) HIl.out (HD.out.below HW.out) HDl.out hx (by omega) (by omega)).mono ?_
 rintro e w1 ⟨rfl, hb⟩
 rw [Hml.out]
 have hW := HW.out.trans (hb.mono HW.out.size)
 have hL := HL.out.below hb; have hA := HA.out.below hb; have hB := HB.out.below hb; have hR := HR.out.below hb
 clear HW HL HA HB HR hb
 have HW := Lib.hid hW; have HL := Lib.hid hL; have HA := Lib.hid hA; have HB := Lib.hid hB; have HR := Lib.hid hR
 clear hW hL hA hB hR
 obtain ⟨p0, p1, p2, p3, p4, p5, p6, p7, p8⟩ := leafblk HA.out
 go_wp2_with fail
 clear p0 p1 p2 p3 p4 p5 p6 p7 p8
 refine (refmay05_any kk' n' t' r' i' s' x' ia' il' ic' da' dl' dc' li' ld' _ (HI'.out.below HW.out) HIl'.out (HD'.out.below HW.out) HDl'.out hx' (by omega) (by omega)).mono ?_
 rintro e w2 ⟨rfl, hb⟩
 rw [Hma.out]
 have hW := HW.out.trans (hb.mono HW.out.size)
 have hL := HL.out.below hb; have hA := HA.out.below hb; have hB := HB.out.below hb; have hR := HR.out.below hb
 clear HW HL HA HB HR hb
 have HW := Lib.hid hW; have HL := Lib.hid hL; have HA := Lib.hid hA; have HB := Lib.hid hB; have HR := Lib.hid hR
 clear hW hL hA hB hR
 obtain ⟨p0, p1, p2, p3, p4, p5, p6, p7, p8⟩ := leafblk HB.out
 go_wp2_with fail
 clear p0 p1 p2 p3 p4 p5 p6 p7 p8
 refine (refmay05_any kk'' n'' t'' r'' i'' s'' x'' ia'' il'' ic'' da'' dl'' dc'' li'' ld'' _ (HI''.out.below HW.out) HIl''.out (HD''.out.below HW.out) HDl''.out hx'' (by omega) (by omega)).mono ?_
 rintro e w3 ⟨rfl, hb⟩
 rw [Hmb.out]
 have hW := HW.out.trans (hb.mono HW.out.size)
 have hL := HL.out.below hb; have hA := HA.out.below hb; have hB := HB.out.below hb; have hR := HR.out.below hb
 clear HW HL HA HB HR hb
 have HW := Lib.hid hW; have HL := Lib.hid hL; have HA := Lib.hid hA; have HB := Lib.hid hB; have HR := Lib.hid hR
 clear hW hL hA hB hR
 have k0 := (leafblk HL.out).1; have k1 := (leafblk HA.out).1; have k2 := (leafblk HB.out).1
 obtain ⟨q0, q1, q2, q3, q4, q5, q6, q7, q8⟩ := leafblk HR.out
 have hfq : ∀ j, w3.frozen? ⟨W.heap.size + 1 + 1 + 1, j, none⟩ = false := fun j => HR.out.frozen j
 have hne1 : ¬ ((kk : Int) = (kk' : Int)) := by omega
 go_wp2_with fail
 have hc9 := chg9 w3 (W.heap.size + 1 + 1 + 1) (.int .u8 0) (.int .i64 0) (.int .u64 0) (.int .u8 0) (.int .u32 0) (.int .u64 0) (.string ⟨#[]⟩) (.slice none 0 0) (.slice none 0 0)
 have hfin := Chg.belowTrans HW.out hc9 (fun k hk e => by have : k = W.heap.size + 1 + 1 + 1 := e; omega) HW.out.size
 have HFin := Lib.hid hfin
 refine bodyPost_ret (v := .tuple #[.agg #[.int .u8 0, .int .i64 0, .int .u64 0, .int .u8 0, .int .u32 0, .int .u64 0, .string ⟨#[]⟩, .slice none 0 0, .slice none 0 0], .int .i64 15]) (res_leaf2 (b := W.heap.size + 1 + 1 + 1) Try.results8 (by simp) (by simp) (blk9 HR.out _ _ _ _ _ _ _ _ _)) rfl ⟨⟨_, _, _, _, rfl, IRow.nil _, VRow.nil _⟩, HFin.out⟩
set_option maxRecDepth 100000 in
set_option maxHeartbeats 12800000 in
theorem rmerge_e (kk : Nat) (n : Int) (t r i s : Nat) (x : ByteArray) (ia : Option Addr) (il ic : Nat) (da : Option Addr) (dl dc : Nat) (li : List Lm.It) (ld : List Dt.Dot) (kk' : Nat) (n' : Int) (t' r' i' s' : Nat) (x' : ByteArray) (ia' : Option Addr) (il' ic' : Nat) (da' : Option Addr) (dl' dc' : Nat) (li' : List Lm.It) (ld' : List Dt.Dot) (kk'' : Nat) (n'' : Int) (t'' r'' i'' s'' : Nat) (x'' : ByteArray) (ia'' : Option Addr) (il'' ic'' : Nat) (da'' : Option Addr) (dl'' dc'' : Nat) (li'' : List Lm.It) (ld'' : List Dt.Dot) (W : World) (hi : IRow W ia ic li) (hil : li.length = il) (hd : VRow W da dc ld) (hdl : ld.length = dl) (hn : il ≤ 1000) (hm : dl ≤ 1000) (hx : x.size ≤ 9223372036854775807) (hi' : IRow W ia' ic' li') (hil' : li'.length = il') (hd' : VRow W da' dc' ld') (hdl' : ld'.length = dl') (hn' : il' ≤ 1000) (hm' : dl' ≤ 1000) (hx' : x'.size ≤ 9223372036854775807) (hi'' : IRow W ia'' ic'' li'') (hil'' : li''.length = il'') (hd'' : VRow W da'' dc'' ld'') (hdl'' : ld''.length = dl'') (hn'' : il'' ≤ 1000) (hm'' : dl'' ≤ 1000) (hx'' : x''.size ≤ 9223372036854775807) (hml : Lm.may ⟨kk, n, t, ((r, i), s), x, li, ld⟩ = true) (hma : Lm.may ⟨kk', n', t', ((r', i'), s'), x', li', ld'⟩ = true) (hmb : Lm.may ⟨kk'', n'', t'', ((r'', i''), s''), x'', li'', ld''⟩ = true) (heq : kk' = kk) (hne : kk'' ≠ kk) :
  Calls Try.prog 8 #[leafV kk n t r i s x ia il ic da dl dc, leafV kk' n' t' r' i' s' x' ia' il' ic' da' dl' dc', leafV kk'' n'' t'' r'' i'' s'' x'' ia'' il'' ic'' da'' dl'' dc''] W fun e w' => RE6 w' Lm.zeroL 15 e ∧ Below W.heap.size W w' := by
 have Heq := Lib.hid heq; clear heq
 have Hml := Lib.hid hml; clear hml
 have Hma := Lib.hid hma; clear hma
 have Hmb := Lib.hid hmb; clear hmb
 have HI := Lib.hid hi; have HIl := Lib.hid hil; have HD := Lib.hid hd; have HDl := Lib.hid hdl
 have HI' := Lib.hid hi'; have HIl' := Lib.hid hil'; have HD' := Lib.hid hd'; have HDl' := Lib.hid hdl'
 have HI'' := Lib.hid hi''; have HIl'' := Lib.hid hil''; have HD'' := Lib.hid hd''; have HDl'' := Lib.hid hdl''
 clear hi hil hd hdl hi' hil' hd' hdl' hi'' hil'' hd'' hdl''
 have hW := below_box4 W #[.int .u8 (kk : Int), .int .i64 n, .int .u64 (t : Int), .int .u8 (r : Int), .int .u32 (i : Int), .int .u64 (s : Int), .string x, .slice ia il ic, .slice da dl dc] #[.int .u8 (kk' : Int), .int .i64 n', .int .u64 (t' : Int), .int .u8 (r' : Int), .int .u32 (i' : Int), .int .u64 (s' : Int), .string x', .slice ia' il' ic', .slice da' dl' dc'] #[.int .u8 (kk'' : Int), .int .i64 n'', .int .u64 (t'' : Int), .int .u8 (r'' : Int), .int .u32 (i'' : Int), .int .u64 (s'' : Int), .string x'', .slice ia'' il'' ic'', .slice da'' dl'' dc''] #[.int .u8 0, .int .i64 0, .int .u64 0, .int .u8 0, .int .u32 0, .int .u64 0, .string ⟨#[]⟩, .slice none 0 0, .slice none 0 0] 31 31 31 31
 obtain ⟨hL, hA, hB, hR⟩ := blks4 (Below.refl ((((W.alloc (.cells #[.int .u8 (kk : Int), .int .i64 n, .int .u64 (t : Int), .int .u8 (r : Int), .int .u32 (i : Int), .int .u64 (s : Int), .string x, .slice ia il ic, .slice da dl dc] 31)).alloc (.cells #[.int .u8 (kk' : Int), .int .i64 n', .int .u64 (t' : Int), .int .u8 (r' : Int), .int .u32 (i' : Int), .int .u64 (s' : Int), .string x', .slice ia' il' ic', .slice da' dl' dc'] 31)).alloc (.cells #[.int .u8 (kk'' : Int), .int .i64 n'', .int .u64 (t'' : Int), .int .u8 (r'' : Int), .int .u32 (i'' : Int), .int .u64 (s'' : Int), .string x'', .slice ia'' il'' ic'', .slice da'' dl'' dc''] 31)).alloc (.cells #[.int .u8 0, .int .i64 0, .int .u64 0, .int .u8 0, .int .u32 0, .int .u64 0, .string ⟨#[]⟩, .slice none 0 0, .slice none 0 0] 31)).heap.size ((((W.alloc (.cells #[.int .u8 (kk : Int), .int .i64 n, .int .u64 (t : Int), .int .u8 (r : Int), .int .u32 (i : Int), .int .u64 (s : Int), .string x, .slice ia il ic, .slice da dl dc] 31)).alloc (.cells #[.int .u8 (kk' : Int), .int .i64 n', .int .u64 (t' : Int), .int .u8 (r' : Int), .int .u32 (i' : Int), .int .u64 (s' : Int), .string x', .slice ia' il' ic', .slice da' dl' dc'] 31)).alloc (.cells #[.int .u8 (kk'' : Int), .int .i64 n'', .int .u64 (t'' : Int), .int .u8 (r'' : Int), .int .u32 (i'' : Int), .int .u64 (s'' : Int), .string x'', .slice ia'' il'' ic'', .slice da'' dl'' dc''] 31)).alloc (.cells #[.int .u8 0, .int .i64 0, .int .u64 0, .int .u8 0, .int .u32 0, .int .u64 0, .string ⟨#[]⟩, .slice none 0 0, .slice none 0 0] 31)))
 go_enter Try.func8, Try.ntmps8
 go_wp2_with fail
 obtain ⟨X, hX⟩ : ∃ X, X = ((((W.alloc (.cells #[.int .u8 (kk : Int), .int .i64 n, .int .u64 (t : Int), .int .u8 (r : Int), .int .u32 (i : Int), .int .u64 (s : Int), .string x, .slice ia il ic, .slice da dl dc] 31)).alloc (.cells #[.int .u8 (kk' : Int), .int .i64 n', .int .u64 (t' : Int), .int .u8 (r' : Int), .int .u32 (i' : Int), .int .u64 (s' : Int), .string x', .slice ia' il' ic', .slice da' dl' dc'] 31)).alloc (.cells #[.int .u8 (kk'' : Int), .int .i64 n'', .int .u64 (t'' : Int), .int .u8 (r'' : Int), .int .u32 (i'' : Int), .int .u64 (s'' : Int), .string x'', .slice ia'' il'' ic'', .slice da'' dl'' dc''] 31)).alloc (.cells #[.int .u8 0, .int .i64 0, .int .u64 0, .int .u8 0, .int .u32 0, .int .u64 0, .string ⟨#[]⟩, .slice none 0 0, .slice none 0 0] 31)) := ⟨_, rfl⟩
 rw [← hX] at hW hL hA hB hR ⊢
 have HW := Lib.hid hW; have HL := Lib.hid hL; have HA := Lib.hid hA; have HB := Lib.hid hB; have HR := Lib.hid hR
 clear hX hW hL hA hB hR
 refine (refmay05_any kk n t r i s x ia il ic da dl dc li ld _ (HI.out.below HW.out) HIl.out (HD.out.below HW.out) HDl.out hx (by omega) (by omega)).mono ?_
 rintro e w1 ⟨rfl, hb⟩
 rw [Hml.out]
 have hW := HW.out.trans (hb.mono HW.out.size)
 have hL := HL.out.below hb; have hA := HA.out.below hb; have hB := HB.out.below hb; have hR := HR.out.below hb
 clear HW HL HA HB HR hb
 have HW := Lib.hid hW; have HL := Lib.hid hL; have HA := Lib.hid hA; have HB := Lib.hid hB; have HR := Lib.hid hR
 clear hW hL hA hB hR
 obtain ⟨p0, p1, p2, p3, p4, p5, p6, p7, p8⟩ := leafblk HA.out
 go_wp2_with fail
 clear p0 p1 p2 p3 p4 p5 p6 p7 p8
 refine (refmay05_any kk' n' t' r' i' s' x' ia' il' ic' da' dl' dc' li' ld' _ (HI'.out.below HW.out) HIl'.out (HD'.out.below HW.out) HDl'.out hx' (by omega) (by omega)).mono ?_
 rintro e w2 ⟨rfl, hb⟩
 rw [Hma.out]
 have hW := HW.out.trans (hb.mono HW.out.size)
 have hL := HL.out.below hb; have hA := HA.out.below hb; have hB := HB.out.below hb; have hR := HR.out.below hb
 clear HW HL HA HB HR hb
 have HW := Lib.hid hW; have HL := Lib.hid hL; have HA := Lib.hid hA; have HB := Lib.hid hB; have HR := Lib.hid hR
 clear hW hL hA hB hR
 obtain ⟨p0, p1, p2, p3, p4, p5, p6, p7, p8⟩ := leafblk HB.out
 go_wp2_with fail
 clear p0 p1 p2 p3 p4 p5 p6 p7 p8
 refine (refmay05_any kk'' n'' t'' r'' i'' s'' x'' ia'' il'' ic'' da'' dl'' dc'' li'' ld'' _ (HI''.out.below HW.out) HIl''.out (HD''.out.below HW.out) HDl''.out hx'' (by omega) (by omega)).mono ?_
 rintro e w3 ⟨rfl, hb⟩
 rw [Hmb.out]
 have hW := HW.out.trans (hb.mono HW.out.size)
 have hL := HL.out.below hb; have hA := HA.out.below hb; have hB := HB.out.below hb; have hR := HR.out.below hb
 clear HW HL HA HB HR hb
 have HW := Lib.hid hW; have HL := Lib.hid hL; have HA := Lib.hid hA; have HB := Lib.hid hB; have HR := Lib.hid hR
 clear hW hL hA hB hR
 have k0 := (leafblk HL.out).1; have k1 := (leafblk HA.out).1; have k2 := (leafblk HB.out).1
 obtain ⟨q0, q1, q2, q3, q4, q5, q6, q7, q8⟩ := leafblk HR.out
 have hfq : ∀ j, w3.frozen? ⟨W.heap.size + 1 + 1 + 1, j, none⟩ = false := fun j => HR.out.frozen j
 have heq1 : (kk : Int) = (kk' : Int) := by have := Heq.out; omega
 have hne1 : ¬ ((kk' : Int) = (kk'' : Int)) := by have := Heq.out; omega
 go_wp2_with fail
 have hc9 := chg9 w3 (W.heap.size + 1 + 1 + 1) (.int .u8 0) (.int .i64 0) (.int .u64 0) (.int .u8 0) (.int .u32 0) (.int .u64 0) (.string ⟨#[]⟩) (.slice none 0 0) (.slice none 0 0)
 have hfin := Chg.belowTrans HW.out hc9 (fun k hk e => by have : k = W.heap.size + 1 + 1 + 1 := e; omega) HW.out.size
 have HFin := Lib.hid hfin
 refine bodyPost_ret (v := .tuple #[.agg #[.int .u8 0, .int .i64 0, .int .u64 0, .int .u8 0, .int .u32 0, .int .u64 0, .string ⟨#[]⟩, .slice none 0 0, .slice none 0 0], .int .i64 15]) (res_leaf2 (b := W.heap.size + 1 + 1 + 1) Try.results8 (by simp) (by simp) (blk9 HR.out _ _ _ _ _ _ _ _ _)) rfl ⟨⟨_, _, _, _, rfl, IRow.nil _, VRow.nil _⟩, HFin.out⟩
set_option maxRecDepth 100000 in
set_option maxHeartbeats 12800000 in
theorem rmerge_k1 (kk : Nat) (n : Int) (t r i s : Nat) (x : ByteArray) (ia : Option Addr) (il ic : Nat) (da : Option Addr) (dl dc : Nat) (li : List Lm.It) (ld : List Dt.Dot) (kk' : Nat) (n' : Int) (t' r' i' s' : Nat) (x' : ByteArray) (ia' : Option Addr) (il' ic' : Nat) (da' : Option Addr) (dl' dc' : Nat) (li' : List Lm.It) (ld' : List Dt.Dot) (kk'' : Nat) (n'' : Int) (t'' r'' i'' s'' : Nat) (x'' : ByteArray) (ia'' : Option Addr) (il'' ic'' : Nat) (da'' : Option Addr) (dl'' dc'' : Nat) (li'' : List Lm.It) (ld'' : List Dt.Dot) (W : World) (hi : IRow W ia ic li) (hil : li.length = il) (hd : VRow W da dc ld) (hdl : ld.length = dl) (hn : il ≤ 1000) (hm : dl ≤ 1000) (hx : x.size ≤ 9223372036854775807) (hi' : IRow W ia' ic' li') (hil' : li'.length = il') (hd' : VRow W da' dc' ld') (hdl' : ld'.length = dl') (hn' : il' ≤ 1000) (hm' : dl' ≤ 1000) (hx' : x'.size ≤ 9223372036854775807) (hi'' : IRow W ia'' ic'' li'') (hil'' : li''.length = il'') (hd'' : VRow W da'' dc'' ld'') (hdl'' : ld''.length = dl'') (hn'' : il'' ≤ 1000) (hm'' : dl'' ≤ 1000) (hx'' : x''.size ≤ 9223372036854775807) (hml : Lm.may ⟨kk, n, t, ((r, i), s), x, li, ld⟩ = true) (hma : Lm.may ⟨kk', n', t', ((r', i'), s'), x', li', ld'⟩ = true) (hmb : Lm.may ⟨kk'', n'', t'', ((r'', i''), s''), x'', li'', ld''⟩ = true) (heq : kk' = kk) (heq2 : kk'' = kk) (hk : kk = 1) :
  Calls Try.prog 8 #[leafV kk n t r i s x ia il ic da dl dc, leafV kk' n' t' r' i' s' x' ia' il' ic' da' dl' dc', leafV kk'' n'' t'' r'' i'' s'' x'' ia'' il'' ic'' da'' dl'' dc''] W fun e w' => RE6 w' (Lm.merged ⟨kk, n, t, ((r, i), s), x, li, ld⟩ ⟨kk', n', t', ((r', i'), s'), x', li', ld'⟩ ⟨kk'', n'', t'', ((r'', i''), s''), x'', li'', ld''⟩) 0 e ∧ Below W.heap.size W w' := by
 have HK := Lib.hid hk; have HK1 := Lib.hid heq; have HK2 := Lib.hid heq2
 have HMa := Lib.hid hma; have HMb := Lib.hid hmb
 clear hk heq heq2
 have Hml := Lib.hid hml; clear hml
 have Hma := Lib.hid hma; clear hma
 have Hmb := Lib.hid hmb; clear hmb
 have HI := Lib.hid hi; have HIl := Lib.hid hil; have HD := Lib.hid hd; have HDl := Lib.hid hdl
 have HI' := Lib.hid hi'; have HIl' := Lib.hid hil'; have HD' := Lib.hid hd'; have HDl' := Lib.hid hdl'
 have HI'' := Lib.hid hi''; have HIl'' := Lib.hid hil''; have HD'' := Lib.hid hd''; have HDl'' := Lib.hid hdl''
 clear hi hil hd hdl hi' hil' hd' hdl' hi'' hil'' hd'' hdl''
 have hW := below_box4 W #[.int .u8 (kk : Int), .int .i64 n, .int .u64 (t : Int), .int .u8 (r : Int), .int .u32 (i : Int), .int .u64 (s : Int), .string x, .slice ia il ic, .slice da dl dc] #[.int .u8 (kk' : Int), .int .i64 n', .int .u64 (t' : Int), .int .u8 (r' : Int), .int .u32 (i' : Int), .int .u64 (s' : Int), .string x', .slice ia' il' ic', .slice da' dl' dc'] #[.int .u8 (kk'' : Int), .int .i64 n'', .int .u64 (t'' : Int), .int .u8 (r'' : Int), .int .u32 (i'' : Int), .int .u64 (s'' : Int), .string x'', .slice ia'' il'' ic'', .slice da'' dl'' dc''] #[.int .u8 0, .int .i64 0, .int .u64 0, .int .u8 0, .int .u32 0, .int .u64 0, .string ⟨#[]⟩, .slice none 0 0, .slice none 0 0] 31 31 31 31
 obtain ⟨hL, hA, hB, hR⟩ := blks4 (Below.refl ((((W.alloc (.cells #[.int .u8 (kk : Int), .int .i64 n, .int .u64 (t : Int), .int .u8 (r : Int), .int .u32 (i : Int), .int .u64 (s : Int), .string x, .slice ia il ic, .slice da dl dc] 31)).alloc (.cells #[.int .u8 (kk' : Int), .int .i64 n', .int .u64 (t' : Int), .int .u8 (r' : Int), .int .u32 (i' : Int), .int .u64 (s' : Int), .string x', .slice ia' il' ic', .slice da' dl' dc'] 31)).alloc (.cells #[.int .u8 (kk'' : Int), .int .i64 n'', .int .u64 (t'' : Int), .int .u8 (r'' : Int), .int .u32 (i'' : Int), .int .u64 (s'' : Int), .string x'', .slice ia'' il'' ic'', .slice da'' dl'' dc''] 31)).alloc (.cells #[.int .u8 0, .int .i64 0, .int .u64 0, .int .u8 0, .int .u32 0, .int .u64 0, .string ⟨#[]⟩, .slice none 0 0, .slice none 0 0] 31)).heap.size ((((W.alloc (.cells #[.int .u8 (kk : Int), .int .i64 n, .int .u64 (t : Int), .int .u8 (r : Int), .int .u32 (i : Int), .int .u64 (s : Int), .string x, .slice ia il ic, .slice da dl dc] 31)).alloc (.cells #[.int .u8 (kk' : Int), .int .i64 n', .int .u64 (t' : Int), .int .u8 (r' : Int), .int .u32 (i' : Int), .int .u64 (s' : Int), .string x', .slice ia' il' ic', .slice da' dl' dc'] 31)).alloc (.cells #[.int .u8 (kk'' : Int), .int .i64 n'', .int .u64 (t'' : Int), .int .u8 (r'' : Int), .int .u32 (i'' : Int), .int .u64 (s'' : Int), .string x'', .slice ia'' il'' ic'', .slice da'' dl'' dc''] 31)).alloc (.cells #[.int .u8 0, .int .i64 0, .int .u64 0, .int .u8 0, .int .u32 0, .int .u64 0, .string ⟨#[]⟩, .slice none 0 0, .slice none 0 0] 31)))
 go_enter Try.func8, Try.ntmps8
 go_wp2_with fail
 obtain ⟨X, hX⟩ : ∃ X, X = ((((W.alloc (.cells #[.int .u8 (kk : Int), .int .i64 n, .int .u64 (t : Int), .int .u8 (r : Int), .int .u32 (i : Int), .int .u64 (s : Int), .string x, .slice ia il ic, .slice da dl dc] 31)).alloc (.cells #[.int .u8 (kk' : Int), .int .i64 n', .int .u64 (t' : Int), .int .u8 (r' : Int), .int .u32 (i' : Int), .int .u64 (s' : Int), .string x', .slice ia' il' ic', .slice da' dl' dc'] 31)).alloc (.cells #[.int .u8 (kk'' : Int), .int .i64 n'', .int .u64 (t'' : Int), .int .u8 (r'' : Int), .int .u32 (i'' : Int), .int .u64 (s'' : Int), .string x'', .slice ia'' il'' ic'', .slice da'' dl'' dc''] 31)).alloc (.cells #[.int .u8 0, .int .i64 0, .int .u64 0, .int .u8 0, .int .u32 0, .int .u64 0, .string ⟨#[]⟩, .slice none 0 0, .slice none 0 0] 31)) := ⟨_, rfl⟩
 rw [← hX] at hW hL hA hB hR ⊢
 have HW := Lib.hid hW; have HL := Lib.hid hL; have HA := Lib.hid hA; have HB := Lib.hid hB; have HR := Lib.hid hR
 clear hX hW hL hA hB hR
 refine (refmay05_any kk n t r i s x ia il ic da dl dc li ld _ (HI.out.below HW.out) HIl.out (HD.out.below HW.out) HDl.out hx (by omega) (by omega)).mono ?_
 rintro e w1 ⟨rfl, hb⟩
 rw [Hml.out]
 have hW := HW.out.trans (hb.mono HW.out.size)
 have hL := HL.out.below hb; have hA := HA.out.below hb; have hB := HB.out.below hb; have hR := HR.out.below hb
 clear HW HL HA HB HR hb
 have HW := Lib.hid hW; have HL := Lib.hid hL; have HA := Lib.hid hA; have HB := Lib.hid hB; have HR := Lib.hid hR
 clear hW hL hA hB hR
 obtain ⟨p0, p1, p2, p3, p4, p5, p6, p7, p8⟩ := leafblk HA.out
 go_wp2_with fail
 clear p0 p1 p2 p3 p4 p5 p6 p7 p8
 refine (refmay05_any kk' n' t' r' i' s' x' ia' il' ic' da' dl' dc' li' ld' _ (HI'.out.below HW.out) HIl'.out (HD'.out.below HW.out) HDl'.out hx' (by omega) (by omega)).mono ?_
 rintro e w2 ⟨rfl, hb⟩
 rw [Hma.out]
 have hW := HW.out.trans (hb.mono HW.out.size)
 have hL := HL.out.below hb; have hA := HA.out.below hb; have hB := HB.out.below hb; have hR := HR.out.below hb
 clear HW HL HA HB HR hb
 have HW := Lib.hid hW; have HL := Lib.hid hL; have HA := Lib.hid hA; have HB := Lib.hid hB; have HR := Lib.hid hR
 clear hW hL hA hB hR
 obtain ⟨p0, p1, p2, p3, p4, p5, p6, p7, p8⟩ := leafblk HB.out
 go_wp2_with fail
 clear p0 p1 p2 p3 p4 p5 p6 p7 p8
 refine (refmay05_any kk'' n'' t'' r'' i'' s'' x'' ia'' il'' ic'' da'' dl'' dc'' li'' ld'' _ (HI''.out.below HW.out) HIl''.out (HD''.out.below HW.out) HDl''.out hx'' (by omega) (by omega)).mono ?_
 rintro e w3 ⟨rfl, hb⟩
 rw [Hmb.out]
 have hW := HW.out.trans (hb.mono HW.out.size)
 have hL := HL.out.below hb; have hA := HA.out.below hb; have hB := HB.out.below hb; have hR := HR.out.below hb
 clear HW HL HA HB HR hb
 have HW := Lib.hid hW; have HL := Lib.hid hL; have HA := Lib.hid hA; have HB := Lib.hid hB; have HR := Lib.hid hR
 clear hW hL hA hB hR
 obtain ⟨k0, k1, k2, k3, k4, k5, k6, k7, k8⟩ := leafblk (HL.out.below (Below.refl _ _))
 obtain ⟨p0, p1, p2, p3, p4, p5, p6, p7, p8⟩ := leafblk (HA.out.below (Below.refl _ _))
 obtain ⟨o0, o1, o2, o3, o4, o5, o6, o7, o8⟩ := leafblk (HB.out.below (Below.refl _ _))
 obtain ⟨q0, q1, q2, q3, q4, q5, q6, q7, q8⟩ := leafblk (HR.out.below (Below.refl _ _))
 have hfq : ∀ j, (w3).frozen? ⟨W.heap.size + 1 + 1 + 1, j, none⟩ = false := fun j => (HR.out.below (Below.refl _ _)).frozen j
 have heq1 : (kk : Int) = (kk' : Int) := by have := HK1.out; omega
 have heq3 : (kk' : Int) = (kk'' : Int) := by have := HK1.out; have := HK2.out; omega
 have hkz : (kk'' : Int) = 1 := by have := HK.out; have := HK2.out; omega
 have hup : Below w3.heap.size w3 (w3.alloc (.cells #[.int .u8 1, .int .i64 0, .int .u64 0, .int .u8 0, .int .u32 0, .int .u64 0, .string ⟨#[]⟩, .slice none 0 0, .slice none 0 0] 31)) := (Below.refl _ _).alloc (Nat.le_refl _) _
 obtain ⟨ku0, ku1, ku2, ku3, ku4, ku5, ku6, ku7, ku8⟩ := leafblk (HL.out.below hup)
 obtain ⟨pu0, pu1, pu2, pu3, pu4, pu5, pu6, pu7, pu8⟩ := leafblk (HA.out.below hup)
 obtain ⟨ou0, ou1, ou2, ou3, ou4, ou5, ou6, ou7, ou8⟩ := leafblk (HB.out.below hup)
 obtain ⟨qu0, qu1, qu2, qu3, qu4, qu5, qu6, qu7, qu8⟩ := leafblk (HR.out.below hup)
 have hfqu : ∀ j, (w3.alloc (.cells #[.int .u8 1, .int .i64 0, .int .u64 0, .int .u8 0, .int .u32 0, .int .u64 0, .string ⟨#[]⟩, .slice none 0 0, .slice none 0 0] 31)).frozen? ⟨W.heap.size + 1 + 1 + 1, j, none⟩ = false := fun j => (HR.out.below hup).frozen j
 have hlt3 := HR.out.lt
 have n00a : ¬ (W.heap.size = w3.heap.size) := by omega
 have n00b : ¬ (w3.heap.size = W.heap.size) := by omega
 have n01a : ¬ (W.heap.size = w3.heap.size + 1) := by omega
 have n01b : ¬ (w3.heap.size + 1 = W.heap.size) := by omega
 have n10a : ¬ (W.heap.size + 1 = w3.heap.size) := by omega
 have n10b : ¬ (w3.heap.size = W.heap.size + 1) := by omega
 have n11a : ¬ (W.heap.size + 1 = w3.heap.size + 1) := by omega
 have n11b : ¬ (w3.heap.size + 1 = W.heap.size + 1) := by omega
 have n20a : ¬ (W.heap.size + 1 + 1 = w3.heap.size) := by omega
 have n20b : ¬ (w3.heap.size = W.heap.size + 1 + 1) := by omega
 have n21a : ¬ (W.heap.size + 1 + 1 = w3.heap.size + 1) := by omega
 have n21b : ¬ (w3.heap.size + 1 = W.heap.size + 1 + 1) := by omega
 have n30a : ¬ (W.heap.size + 1 + 1 + 1 = w3.heap.size) := by omega
 have n30b : ¬ (w3.heap.size = W.heap.size + 1 + 1 + 1) := by omega
 have n31a : ¬ (W.heap.size + 1 + 1 + 1 = w3.heap.size + 1) := by omega
 have n31b : ¬ (w3.heap.size + 1 = W.heap.size + 1 + 1 + 1) := by omega
 go_wp2_with fail
 have hc9 := chg9 w3 (W.heap.size + 1 + 1 + 1) (.int .u8 1) (.int .i64 (wrap64 (wrap64 (n' - n) + n''))) (.int .u64 0) (.int .u8 0) (.int .u32 0) (.int .u64 0) (.string ⟨#[]⟩) (.slice none 0 0) (.slice none 0 0)
 have hfin := Chg.belowTrans HW.out hc9 (fun k hk e => by have : k = W.heap.size + 1 + 1 + 1 := e; omega) HW.out.size
 have hfin2 := hfin.alloc hfin.size (.cells #[.int .u8 1, .int .i64 (wrap64 (wrap64 (n' - n) + n'')), .int .u64 0, .int .u8 0, .int .u32 0, .int .u64 0, .string ⟨#[]⟩, .slice none 0 0, .slice none 0 0] 31)
 have hR := (blk9 HR.out (.int .u8 1) (.int .i64 (wrap64 (wrap64 (n' - n) + n''))) (.int .u64 0) (.int .u8 0) (.int .u32 0) (.int .u64 0) (.string ⟨#[]⟩) (.slice none 0 0) (.slice none 0 0)).below ((Below.refl _ _).alloc (Nat.le_refl _) (.cells #[.int .u8 1, .int .i64 (wrap64 (wrap64 (n' - n) + n'')), .int .u64 0, .int .u8 0, .int .u32 0, .int .u64 0, .string ⟨#[]⟩, .slice none 0 0, .slice none 0 0] 31))
 refine bodyPost_ret (v := .tuple #[.agg #[.int .u8 1, .int .i64 (wrap64 (wrap64 (n' - n) + n'')), .int .u64 0, .int .u8 0, .int .u32 0, .int .u64 0, .string ⟨#[]⟩, .slice none 0 0, .slice none 0 0], .int .i64 0]) (res_leaf2 (b := W.heap.size + 1 + 1 + 1) Try.results8 (by simp) (by simp) hR) rfl ⟨?_, hfin2⟩
 have e1 : wrap64 (wrap64 (n' - n) + n'') = IntKind.i64.wrap (n' + n'' - n) := by rw [← Lm.wrap_out2, IntWalk.i64_left, IntWalk.i64_left]
 rw [e1]
 have hk1 := HK.out
 subst hk1
 exact ⟨none, 0, none, 0, rfl, IRow.nil _, VRow.nil _⟩
end Go.Proofs.Ytmnblimnoaockaa
