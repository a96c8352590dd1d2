import Derived.Test.YtbciopieciglmaaZFuse10
namespace Go.Proofs.Ytbciopieciglmaa
open Go.RowKit Go.Buf Go.LB Go.Lib
set_option linter.unusedSimpArgs false
set_option linter.unusedVariables false
theorem index_m1 (w : World) : (Instr.index 56 (.agg #[Value.nilFunc, .func (.func 25) #[] #[], .func (.func 26) #[] #[], .func (.func 27) #[] #[], .func (.func 28) #[] #[]]) (.int .u8 1)).run Try.prog w = .ok (.func (.func 25) #[] #[]) w := by kernel_rfl
theorem index_m2 (w : World) : (Instr.index 56 (.agg #[Value.nilFunc, .func (.func 25) #[] #[], .func (.func 26) #[] #[], .func (.func 27) #[] #[], .func (.func 28) #[] #[]]) (.int .u8 2)).run Try.prog w = .ok (.func (.func 26) #[] #[]) w := by kernel_rfl
theorem index_m3 (w : World) : (Instr.index 56 (.agg #[Value.nilFunc, .func (.func 25) #[] #[], .func (.func 26) #[] #[], .func (.func 27) #[] #[], .func (.func 28) #[] #[]]) (.int .u8 3)).run Try.prog w = .ok (.func (.func 27) #[] #[]) w := by kernel_rfl
theorem index_m4 (w : World) : (Instr.index 56 (.agg #[Value.nilFunc, .func (.func 25) #[] #[], .func (.func 26) #[] #[], .func (.func 27) #[] #[], .func (.func 28) #[] #[]]) (.int .u8 4)).run Try.prog w = .ok (.func (.func 28) #[] #[]) w := by kernel_rfl
set_option maxRecDepth 100000 in
set_option maxHeartbeats 12800000 in
theorem fmerge_a (kk : Nat) (n : Int) (t r i s : Nat) (x : ByteArray) (ia : Option Addr) (il ic : Nat) (da : Option Addr) (dl dc : Nat) (li : List Lm.It) (ld : List Dt.Dot) (kk' : Nat) (n' : Int) (t' r' i' s' : Nat) (x' : ByteArray) (ia' : Option Addr) (il' ic' : Nat) (da' : Option Addr) (dl' dc' : Nat) (li' : List Lm.It) (ld' : List Dt.Dot) (kk'' : Nat) (n'' : Int) (t'' r'' i'' s'' : Nat) (x'' : ByteArray) (ia'' : Option Addr) (il'' ic'' : Nat) (da'' : Option Addr) (dl'' dc'' : Nat) (li'' : List Lm.It) (ld'' : List Dt.Dot) (W : World) (hi : IRow W ia ic li) (hil : li.length = il) (hd : VRow W da dc ld) (hdl : ld.length = dl) (hn : il ≤ 4000) (hm : dl ≤ 4000) (hx : x.size ≤ 9223372036854775807) (hi' : IRow W ia' ic' li') (hil' : li'.length = il') (hd' : VRow W da' dc' ld') (hdl' : ld'.length = dl') (hn' : il' ≤ 4000) (hm' : dl' ≤ 4000) (hx' : x'.size ≤ 9223372036854775807) (hi'' : IRow W ia'' ic'' li'') (hil'' : li''.length = il'') (hd'' : VRow W da'' dc'' ld'') (hdl'' : ld''.length = dl'') (hn'' : il'' ≤ 4000) (hm'' : dl'' ≤ 4000) (hx'' : x''.size ≤ 9223372036854775807) (hml : Lm.may ⟨kk, n, t, ((r, i), s), x, li, ld⟩ = false) :
  Calls Try.prog 6 #[leafV kk n t r i s x ia il ic da dl dc, leafV kk' n' t' r' i' s' x' ia' il' ic' da' dl' dc', leafV kk'' n'' t'' r'' i'' s'' x'' ia'' il'' ic'' da'' dl'' dc''] W fun e w' => AE W.heap.size w' Lm.zeroL 2 e ∧ Below W.heap.size W w' := by
 have Hml := Lib.hid hml; clear hml
 have HI := Lib.hid hi; have HIl := Lib.hid hil; have HD := Lib.hid hd; have HDl := Lib.hid hdl
 have HI' := Lib.hid hi'; have HIl' := Lib.hid hil'; have HD' := Lib.hid hd'; have HDl' := Lib.hid hdl'
 have HI'' := Lib.hid hi''; have HIl'' := Lib.hid hil''; have HD'' := Lib.hid hd''; have HDl'' := Lib.hid hdl''
 clear hi hil hd hdl hi' hil' hd' hdl' hi'' hil'' hd'' hdl''
 have hW := below_box4 W #[.int .u8 (kk : Int), .int .i64 n, .int .u64 (t : Int), .int .u8 (r : Int), .int .u32 (i : Int), .int .u64 (s : Int), .string x, .slice ia il ic, .slice da dl dc] #[.int .u8 (kk' : Int), .int .i64 n', .int .u64 (t' : Int), .int .u8 (r' : Int), .int .u32 (i' : Int), .int .u64 (s' : Int), .string x', .slice ia' il' ic', .slice da' dl' dc'] #[.int .u8 (kk'' : Int), .int .i64 n'', .int .u64 (t'' : Int), .int .u8 (r'' : Int), .int .u32 (i'' : Int), .int .u64 (s'' : Int), .string x'', .slice ia'' il'' ic'', .slice da'' dl'' dc''] #[.int .u8 0, .int .i64 0, .int .u64 0, .int .u8 0, .int .u32 0, .int .u64 0, .string ⟨#[]⟩, .slice none 0 0, .slice none 0 0] 40 40 40 40
 obtain ⟨hL, hA, hB, hR⟩ := blks4 (Below.refl ((((W.alloc (.cells #[.int .u8 (kk : Int), .int .i64 n, .int .u64 (t : Int), .int .u8 (r : Int), .int .u32 (i : Int), .int .u64 (s : Int), .string x, .slice ia il ic, .slice da dl dc] 40)).alloc (.cells #[.int .u8 (kk' : Int), .int .i64 n', .int .u64 (t' : Int), .int .u8 (r' : Int), .int .u32 (i' : Int), .int .u64 (s' : Int), .string x', .slice ia' il' ic', .slice da' dl' dc'] 40)).alloc (.cells #[.int .u8 (kk'' : Int), .int .i64 n'', .int .u64 (t'' : Int), .int .u8 (r'' : Int), .int .u32 (i'' : Int), .int .u64 (s'' : Int), .string x'', .slice ia'' il'' ic'', .slice da'' dl'' dc''] 40)).alloc (.cells #[.int .u8 0, .int .i64 0, .int .u64 0, .int .u8 0, .int .u32 0, .int .u64 0, .string ⟨#[]⟩, .slice none 0 0, .slice none 0 0] 40)).heap.size ((((W.alloc (.cells #[.int .u8 (kk : Int), .int .i64 n, .int .u64 (t : Int), .int .u8 (r : Int), .int .u32 (i : Int), .int .u64 (s : Int), .string x, .slice ia il ic, .slice da dl dc] 40)).alloc (.cells #[.int .u8 (kk' : Int), .int .i64 n', .int .u64 (t' : Int), .int .u8 (r' : Int), .int .u32 (i' : Int), .int .u64 (s' : Int), .string x', .slice ia' il' ic', .slice da' dl' dc'] 40)).alloc (.cells #[.int .u8 (kk'' : Int), .int .i64 n'', .int .u64 (t'' : Int), .int .u8 (r'' : Int), .int .u32 (i'' : Int), .int .u64 (s'' : Int), .string x'', .slice ia'' il'' ic'', .slice da'' dl'' dc''] 40)).alloc (.cells #[.int .u8 0, .int .i64 0, .int .u64 0, .int .u8 0, .int .u32 0, .int .u64 0, .string ⟨#[]⟩, .slice none 0 0, .slice none 0 0] 40)))
 go_enter Try.func6, Try.ntmps6
 go_wp2_with fail
 obtain ⟨X, hX⟩ : ∃ X, X = ((((W.alloc (.cells #[.int .u8 (kk : Int), .int .i64 n, .int .u64 (t : Int), .int .u8 (r : Int), .int .u32 (i : Int), .int .u64 (s : Int), .string x, .slice ia il ic, .slice da dl dc] 40)).alloc (.cells #[.int .u8 (kk' : Int), .int .i64 n', .int .u64 (t' : Int), .int .u8 (r' : Int), .int .u32 (i' : Int), .int .u64 (s' : Int), .string x', .slice ia' il' ic', .slice da' dl' dc'] 40)).alloc (.cells #[.int .u8 (kk'' : Int), .int .i64 n'', .int .u64 (t'' : Int), .int .u8 (r'' : Int), .int .u32 (i'' : Int), .int .u64 (s'' : Int), .string x'', .slice ia'' il'' ic'', .slice da'' dl'' dc''] 40)).alloc (.cells #[.int .u8 0, .int .i64 0, .int .u64 0, .int .u8 0, .int .u32 0, .int .u64 0, .string ⟨#[]⟩, .slice none 0 0, .slice none 0 0] 40)) := ⟨_, rfl⟩
 rw [← hX] at hW hL hA hB hR ⊢
 have HW := Lib.hid hW; have HL := Lib.hid hL; have HA := Lib.hid hA; have HB := Lib.hid hB; have HR := Lib.hid hR
 clear hX hW hL hA hB hR
 refine (leafmay_any kk n t r i s x ia il ic da dl dc li ld _ (HI.out.below HW.out) HIl.out (HD.out.below HW.out) HDl.out hx (by omega)).mono ?_
 rintro e w1 ⟨rfl, hb⟩
 rw [Hml.out]
 have hW := HW.out.trans (hb.mono HW.out.size)
 have hL := HL.out.below hb; have hA := HA.out.below hb; have hB := HB.out.below hb; have hR := HR.out.below hb
 clear HW HL HA HB HR hb
 have HW := Lib.hid hW; have HL := Lib.hid hL; have HA := Lib.hid hA; have HB := Lib.hid hB; have HR := Lib.hid hR
 clear hW hL hA hB hR
 obtain ⟨q0, q1, q2, q3, q4, q5, q6, q7, q8⟩ := leafblk HR.out
 have hfq : ∀ j, w1.frozen? ⟨W.heap.size + 1 + 1 + 1, j, none⟩ = false := fun j => HR.out.frozen j
 go_wp2_with fail
 have hc9 := chg9 w1 (W.heap.size + 1 + 1 + 1) (.int .u8 0) (.int .i64 0) (.int .u64 0) (.int .u8 0) (.int .u32 0) (.int .u64 0) (.string ⟨#[]⟩) (.slice none 0 0) (.slice none 0 0)
 have hfin := Chg.belowTrans HW.out hc9 (fun k hk e => by have : k = W.heap.size + 1 + 1 + 1 := e; omega) HW.out.size
 have HFin := Lib.hid hfin
 refine bodyPost_ret (v := .tuple #[.agg #[.int .u8 0, .int .i64 0, .int .u64 0, .int .u8 0, .int .u32 0, .int .u64 0, .string ⟨#[]⟩, .slice none 0 0, .slice none 0 0], .int .i64 2]) (res_leaf2 (b := W.heap.size + 1 + 1 + 1) Try.results6 (by simp) (by simp) (blk9 HR.out _ _ _ _ _ _ _ _ _)) rfl ⟨⟨_, none, _, none, rfl, Own.empty hfin.size none, Own.empty hfin.size none⟩, HFin.out⟩
set_option maxRecDepth 100000 in
set_option maxHeartbeats 12800000 in
theorem fmerge_b (kk : Nat) (n : Int) (t r i s : Nat) (x : ByteArray) (ia : Option Addr) (il ic : Nat) (da : Option Addr) (dl dc : Nat) (li : List Lm.It) (ld : List Dt.Dot) (kk' : Nat) (n' : Int) (t' r' i' s' : Nat) (x' : ByteArray) (ia' : Option Addr) (il' ic' : Nat) (da' : Option Addr) (dl' dc' : Nat) (li' : List Lm.It) (ld' : List Dt.Dot) (kk'' : Nat) (n'' : Int) (t'' r'' i'' s'' : Nat) (x'' : ByteArray) (ia'' : Option Addr) (il'' ic'' : Nat) (da'' : Option Addr) (dl'' dc'' : Nat) (li'' : List Lm.It) (ld'' : List Dt.Dot) (W : World) (hi : IRow W ia ic li) (hil : li.length = il) (hd : VRow W da dc ld) (hdl : ld.length = dl) (hn : il ≤ 4000) (hm : dl ≤ 4000) (hx : x.size ≤ 9223372036854775807) (hi' : IRow W ia' ic' li') (hil' : li'.length = il') (hd' : VRow W da' dc' ld') (hdl' : ld'.length = dl') (hn' : il' ≤ 4000) (hm' : dl' ≤ 4000) (hx' : x'.size ≤ 9223372036854775807) (hi'' : IRow W ia'' ic'' li'') (hil'' : li''.length = il'') (hd'' : VRow W da'' dc'' ld'') (hdl'' : ld''.length = dl'') (hn'' : il'' ≤ 4000) (hm'' : dl'' ≤ 4000) (hx'' : x''.size ≤ 9223372036854775807) (hml : Lm.may ⟨kk, n, t, ((r, i), s), x, li, ld⟩ = true) (hma : Lm.may ⟨kk', n', t', ((r', i'), s'), x', li', ld'⟩ = false) :
  Calls Try.prog 6 #[leafV kk n t r i s x ia il ic da dl dc, leafV kk' n' t' r' i' s' x' ia' il' ic' da' dl' dc', leafV kk'' n'' t'' r'' i'' s'' x'' ia'' il'' ic'' da'' dl'' dc''] W fun e w' => AE W.heap.size w' Lm.zeroL 2 e ∧ Below W.heap.size W w' := by
 have Hml := Lib.hid hml; clear hml
 have Hma := Lib.hid hma; clear hma
 have HI := Lib.hid hi; have HIl := Lib.hid hil; have HD := Lib.hid hd; have HDl := Lib.hid hdl
 have HI' := Lib.hid hi'; have HIl' := Lib.hid hil'; have HD' := Lib.hid hd'; have HDl' := Lib.hid hdl'
 have HI'' := Lib.hid hi''; have HIl'' := Lib.hid hil''; have HD'' := Lib.hid hd''; have HDl'' := Lib.hid hdl''
 clear hi hil hd hdl hi' hil' hd' hdl' hi'' hil'' hd'' hdl''
 have hW := below_box4 W #[.int .u8 (kk : Int), .int .i64 n, .int .u64 (t : Int), .int .u8 (r : Int), .int .u32 (i : Int), .int .u64 (s : Int), .string x, .slice ia il ic, .slice da dl dc] #[.int .u8 (kk' : Int), .int .i64 n', .int .u64 (t' : Int), .int .u8 (r' : Int), .int .u32 (i' : Int), .int .u64 (s' : Int), .string x', .slice ia' il' ic', .slice da' dl' dc'] #[.int .u8 (kk'' : Int), .int .i64 n'', .int .u64 (t'' : Int), .int .u8 (r'' : Int), .int .u32 (i'' : Int), .int .u64 (s'' : Int), .string x'', .slice ia'' il'' ic'', .slice da'' dl'' dc''] #[.int .u8 0, .int .i64 0, .int .u64 0, .int .u8 0, .int .u32 0, .int .u64 0, .string ⟨#[]⟩, .slice none 0 0, .slice none 0 0] 40 40 40 40
 obtain ⟨hL, hA, hB, hR⟩ := blks4 (Below.refl ((((W.alloc (.cells #[.int .u8 (kk : Int), .int .i64 n, .int .u64 (t : Int), .int .u8 (r : Int), .int .u32 (i : Int), .int .u64 (s : Int), .string x, .slice ia il ic, .slice da dl dc] 40)).alloc (.cells #[.int .u8 (kk' : Int), .int .i64 n', .int .u64 (t' : Int), .int .u8 (r' : Int), .int .u32 (i' : Int), .int .u64 (s' : Int), .string x', .slice ia' il' ic', .slice da' dl' dc'] 40)).alloc (.cells #[.int .u8 (kk'' : Int), .int .i64 n'', .int .u64 (t'' : Int), .int .u8 (r'' : Int), .int .u32 (i'' : Int), .int .u64 (s'' : Int), .string x'', .slice ia'' il'' ic'', .slice da'' dl'' dc''] 40)).alloc (.cells #[.int .u8 0, .int .i64 0, .int .u64 0, .int .u8 0, .int .u32 0, .int .u64 0, .string ⟨#[]⟩, .slice none 0 0, .slice none 0 0] 40)).heap.size ((((W.alloc (.cells #[.int .u8 (kk : Int), .int .i64 n, .int .u64 (t : Int), .int .u8 (r : Int), .int .u32 (i : Int), .int .u64 (s : Int), .string x, .slice ia il ic, .slice da dl dc] 40)).alloc (.cells #[.int .u8 (kk' : Int), .int .i64 n', .int .u64 (t' : Int), .int .u8 (r' : Int), .int .u32 (i' : Int), .int .u64 (s' : Int), .string x', .slice ia' il' ic', .slice da' dl' dc'] 40)).alloc (.cells #[.int .u8 (kk'' : Int), .int .i64 n'', .int .u64 (t'' : Int), .int .u8 (r'' : Int), .int .u32 (i'' : Int), .int .u64 (s'' : Int), .string x'', .slice ia'' il'' ic'', .slice da'' dl'' dc''] 40)).alloc (.cells #[.int .u8 0, .int .i64 0, .int .u64 0, .int .u8 0, .int .u32 0, .int .u64 0, .string ⟨#[]⟩, .slice none 0 0, .slice none 0 0] 40)))
 go_enter Try.func6, Try.ntmps6
 go_wp2_with fail
 obtain ⟨X, hX⟩ : ∃ X, X = ((((W.alloc (.cells #[.int .u8 (kk : Int), .int .i64 n, .int .u64 (t : Int), .int .u8 (r : Int), .int .u32 (i : Int), .int .u64 (s : Int), .string x, .slice ia il ic, .slice da dl dc] 40)).alloc (.cells #[.int .u8 (kk' : Int), .int .i64 n', .int .u64 (t' : Int), .int .u8 (r' : Int), .int .u32 (i' : Int), .int .u64 (s' : Int), .string x', .slice ia' il' ic', .slice da' dl' dc'] 40)).alloc (.cells #[.int .u8 (kk'' : Int), .int .i64 n'', .int .u64 (t'' : Int), .int .u8 (r'' : Int), .int .u32 (i'' : Int), .int .u64 (s'' : Int), .string x'', .slice ia'' il'' ic'', .slice da'' dl'' dc''] 40)).alloc (.cells #[.int .u8 0, .int .i64 0, .int .u64 0, .int .u8 0, .int .u32 0, .int .u64 0, .string ⟨#[]⟩, .slice none 0 0, .slice none 0 0] 40)) := ⟨_, rfl⟩
 rw [← hX] at hW hL hA hB hR ⊢
 have HW := Lib.hid hW; have HL := Lib.hid hL; have HA := Lib.hid hA; have HB := Lib.hid hB; have HR := Lib.hid hR
 clear hX hW hL hA hB hR
 refine (leafmay_any kk n t r i s x ia il ic da dl dc li ld _ (HI.out.below HW.out) HIl.out (HD.out.below HW.out) HDl.out hx (by omega)).mono ?_
 rintro e w1 ⟨rfl, hb⟩
 rw [Hml.out]
 have hW := HW.out.trans (hb.mono HW.out.size)
 have hL := HL.out.below hb; have hA := HA.out.below hb; have hB := HB.out.below hb; have hR := HR.out.below hb
 clear HW HL HA HB HR hb
 have HW := Lib.hid hW; have HL := Lib.hid hL; have HA := Lib.hid hA; have HB := Lib.hid hB; have HR := Lib.hid hR
 clear hW hL hA hB hR
 obtain ⟨p0, p1, p2, p3, p4, p5, p6, p7, p8⟩ := leafblk HA.out
 go_wp2_with fail
 clear p0 p1 p2 p3 p4 p5 p6 p7 p8
 refine (leafmay_any kk' n' t' r' i' s' x' ia' il' ic' da' dl' dc' li' ld' _ (HI'.out.below HW.out) HIl'.out (HD'.out.below HW.out) HDl'.out hx' (by omega)).mono ?_
 rintro e w2 ⟨rfl, hb⟩
 rw [Hma.out]
 have hW := HW.out.trans (hb.mono HW.out.size)
 have hL := HL.out.below hb; have hA := HA.out.below hb; have hB := HB.out.below hb; have hR := HR.out.below hb
 clear HW HL HA HB HR hb
 have HW := Lib.hid hW; have HL := Lib.hid hL; have HA := Lib.hid hA; have HB := Lib.hid hB; have HR := Lib.hid hR
 clear hW hL hA hB hR
 obtain ⟨q0, q1, q2, q3, q4, q5, q6, q7, q8⟩ := leafblk HR.out
 have hfq : ∀ j, w2.frozen? ⟨W.heap.size + 1 + 1 + 1, j, none⟩ = false := fun j => HR.out.frozen j
 go_wp2_with fail
 have hc9 := chg9 w2 (W.heap.size + 1 + 1 + 1) (.int .u8 0) (.int .i64 0) (.int .u64 0) (.int .u8 0) (.int .u32 0) (.int .u64 0) (.string ⟨#[]⟩) (.slice none 0 0) (.slice none 0 0)
 have hfin := Chg.belowTrans HW.out hc9 (fun k hk e => by have : k = W.heap.size + 1 + 1 + 1 := e; omega) HW.out.size
 have HFin := Lib.hid hfin
 refine bodyPost_ret (v := .tuple #[.agg #[.int .u8 0, .int .i64 0, .int .u64 0, .int .u8 0, .int .u32 0, .int .u64 0, .string ⟨#[]⟩, .slice none 0 0, .slice none 0 0], .int .i64 2]) (res_leaf2 (b := W.heap.size + 1 + 1 + 1) Try.results6 (by simp) (by simp) (blk9 HR.out _ _ _ _ _ _ _ _ _)) rfl ⟨⟨_, none, _, none, rfl, Own.empty hfin.size none, Own.empty hfin.size none⟩, HFin.out⟩
set_option maxRecDepth 100000 in
set_option maxHeartbeats 12800000 in
theorem fmerge_c (kk : Nat) (n : Int) (t r i s : Nat) (x : ByteArray) (ia : Option Addr) (il ic : Nat) (da : Option Addr) (dl dc : Nat) (li : List Lm.It) (ld : List Dt.Dot) (kk' : Nat) (n' : Int) (t' r' i' s' : Nat) (x' : ByteArray) (ia' : Option Addr) (il' ic' : Nat) (da' : Option Addr) (dl' dc' : Nat) (li' : List Lm.It) (ld' : List Dt.Dot) (kk'' : Nat) (n'' : Int) (t'' r'' i'' s'' : Nat) (x'' : ByteArray) (ia'' : Option Addr) (il'' ic'' : Nat) (da'' : Option Addr) (dl'' dc'' : Nat) (li'' : List Lm.It) (ld'' : List Dt.Dot) (W : World) (hi : IRow W ia ic li) (hil : li.length = il) (hd : VRow W da dc ld) (hdl : ld.length = dl) (hn : il ≤ 4000) (hm : dl ≤ 4000) (hx : x.size ≤ 9223372036854775807) (hi' : IRow W ia' ic' li') (hil' : li'.length = il') (hd' : VRow W da' dc' ld') (hdl' : ld'.length = dl') (hn' : il' ≤ 4000) (hm' : dl' ≤ 4000) (hx' : x'.size ≤ 9223372036854775807) (hi'' : IRow W ia'' ic'' li'') (hil'' : li''.length = il'') (hd'' : VRow W da'' dc'' ld'') (hdl'' : ld''.length = dl'') (hn'' : il'' ≤ 4000) (hm'' : dl'' ≤ 4000) (hx'' : x''.size ≤ 9223372036854775807) (hml : Lm.may ⟨kk, n, t, ((r, i), s), x, li, ld⟩ = true) (hma : Lm.may ⟨kk', n', t', ((r', i'), s'), x', li', ld'⟩ = true) (hmb : Lm.may ⟨kk'', n'', t'', ((r'', i''), s''), x'', li'', ld''⟩ = false) :
  Calls Try.prog 6 #[leafV kk n t r i s x ia il ic da dl dc, leafV kk' n' t' r' i' s' x' ia' il' ic' da' dl' dc', leafV kk'' n'' t'' r'' i'' s'' x'' ia'' il'' ic'' da'' dl'' dc''] W fun e w' => AE W.heap.size w' Lm.zeroL 2 e ∧ Below W.heap.size W w' := by
 have Hml := Lib.hid hml; clear hml
 have Hma := Lib.hid hma; clear hma
 have Hmb := Lib.hid hmb; clear hmb
 have HI := Lib.hid hi; have HIl := Lib.hid hil; have HD := Lib.hid hd; have HDl := Lib.hid hdl
 have HI' := Lib.hid hi'; have HIl' := Lib.hid hil'; have HD' := Lib.hid hd'; have HDl' := Lib.hid hdl'
 have HI'' := Lib.hid hi''; have HIl'' := Lib.hid hil''; have HD'' := Lib.hid hd''; have HDl'' := Lib.hid hdl''
 clear hi hil hd hdl hi' hil' hd' hdl' hi'' hil'' hd'' hdl''
 have hW := below_box4 W #[.int .u8 (kk : Int), .int .i64 n, .int .u64 (t : Int), .int .u8 (r : Int), .int .u32 (i : Int), .int .u64 (s : Int), .string x, .slice ia il ic, .slice da dl dc] #[.int .u8 (kk' : Int), .int .i64 n', .int .u64 (t' : Int), .int .u8 (r' : Int), .int .u32 (i' : Int), .int .u64 (s' : Int), .string x', .slice ia' il' ic', .slice da' dl' dc'] #[.int .u8 (kk'' : Int), .int .i64 n'', .int .u64 (t'' : Int), .int .u8 (r'' : Int), .int .u32 (i'' : Int), .int .u64 (s'' : Int), .string x'', .slice ia'' il'' ic'', .slice da'' dl'' dc''] #[.int .u8 0, .int .i64 0, .int .u64 0, .int .u8 0, .int .u32 0, .int .u64 0, .string ⟨#[]⟩, .slice none 0 0, .slice none 0 0] 40 40 40 40
 obtain ⟨hL, hA, hB, hR⟩ := blks4 (Below.refl ((((W.alloc (.cells #[.int .u8 (kk : Int), .int .i64 n, .int .u64 (t : Int), .int .u8 (r : Int), .int .u32 (i : Int), .int .u64 (s : Int), .string x, .slice ia il ic, .slice da dl dc] 40)).alloc (.cells #[.int .u8 (kk' : Int), .int .i64 n', .int .u64 (t' : Int), .int .u8 (r' : Int), .int .u32 (i' : Int), .int .u64 (s' : Int), .string x', .slice ia' il' ic', .slice da' dl' dc'] 40)).alloc (.cells #[.int .u8 (kk'' : Int), .int .i64 n'', .int .u64 (t'' : Int), .int .u8 (r'' : Int), .int .u32 (i'' : Int), .int .u64 (s'' : Int), .string x'', .slice ia'' il'' ic'', .slice da'' dl'' dc''] 40)).alloc (.cells #[.int .u8 0, .int .i64 0, .int .u64 0, .int .u8 0, .int .u32 0, .int .u64 0, .string ⟨#[]⟩, .slice none 0 0, .slice none 0 0] 40)).heap.size ((((W.alloc (.cells #[.int .u8 (kk : Int), .int .i64 n, .int .u64 (t : Int), .int .u8 (r : Int), .int .u32 (i : Int), .int .u64 (s : Int), .string x, .slice ia il ic, .slice da dl dc] 40)).alloc (.cells #[.int .u8 (kk' : Int), .int .i64 n', .int .u64 (t' : Int), .int .u8 (r' : Int), .int .u32 (i' : Int), .int .u64 (s' : Int), .string x', .slice ia' il' ic', .slice da' dl' dc'] 40)).alloc (.cells #[.int .u8 (kk'' : Int), .int .i64 n'', .int .u64 (t'' : Int), .int .u8 (r'' : Int), .int .u32 (i'' : Int), .int .u64 (s'' : Int), .string x'', .slice ia'' il'' ic'', .slice da'' dl'' dc''] 40)).alloc (.cells #[.int .u8 0, .int .i64 0, .int .u64 0, .int .u8 0, .int .u32 0, .int .u64 0, .string ⟨#[]⟩, .slice none 0 0, .slice none 0 0] 40)))
 go_enter Try.func6, Try.ntmps6
 go_wp2_with fail
 obtain ⟨X, hX⟩ : ∃ X, X = ((((W.alloc (.cells #[.int .u8 (kk : Int), .int .i64 n, .int .u64 (t : Int), .int .u8 (r : Int), .int .u32 (i : Int), .int .u64 (s : Int), .string x, .slice ia il ic, .slice da dl dc] 40)).alloc (.cells #[.int .u8 (kk' : Int), .int .i64 n', .int .u64 (t' : Int), .int .u8 (r' : Int), .int .u32 (i' : Int), .int .u64 (s' : Int), .string x', .slice ia' il' ic', .slice da' dl' dc'] 40)).alloc (.cells #[.int .u8 (kk'' : Int), .int .i64 n'', .int .u64 (t'' : Int), .int .u8 (r'' : Int), .int .u32 (i'' : Int), .int .u64 (s'' : Int), .string x'', .slice ia'' il'' ic'', .slice da'' dl'' dc''] 40)).alloc (.cells #[.int .u8 0, .int .i64 0, .int .u64 0, .int .u8 0, .int .u32 0, .int .u64 0, .string ⟨#[]⟩, .slice none 0 0, .slice none 0 0] 40)) := ⟨_, rfl⟩
 rw [← hX] at hW hL hA hB hR ⊢
 have HW := Lib.hid hW; have HL := Lib.hid hL; have HA := Lib.hid hA; have HB := Lib.hid hB; have HR := Lib.hid hR
 clear hX hW hL hA hB hR
 refine (leafmay_any kk n t r i s x ia il ic da dl dc li ld _ (HI.out.below HW.out) HIl.out (HD.out.below HW.out) HDl.out hx (by omega)).mono ?_
 rintro e w1 ⟨rfl, hb⟩
 rw [Hml.out]
 have hW := HW.out.trans (hb.mono HW.out.size)
 have hL := HL.out.below hb; have hA := HA.out.below hb; have hB := HB.out.below hb; have hR := HR.out.below hb
 clear HW HL HA HB HR hb
 have HW := Lib.hid hW; have HL := Lib.hid hL; have HA := Lib.hid hA; have HB := Lib.hid hB; have HR := Lib.hid hR
 clear hW hL hA hB hR
 obtain ⟨p0, p1, p2, p3, p4, p5, p6, p7, p8⟩ := leafblk HA.out
 go_wp2_with fail
 clear p0 p1 p2 p3 p4 p5 p6 p7 p8
 refine (leafmay_any kk' n' t' r' i' s' x' ia' il' ic' da' dl' dc' li' ld' _ (HI'.out.below HW.out) HIl'.out (HD'.out.below HW.out) HDl'.out hx' (by omega)).mono ?_
 rintro e w2 ⟨rfl, hb⟩
 rw [Hma.out]
 have hW := HW.out.trans (hb.mono HW.out.size)
 have hL := HL.out.below hb; have hA := HA.out.below hb; have hB := HB.out.below hb; have hR := HR.out.below hb
 clear HW HL HA HB HR hb
 have HW := Lib.hid hW; have HL := Lib.hid hL; have HA := Lib.hid hA; have HB := Lib.hid hB; have HR := Lib.hid hR
 clear hW hL hA hB hR
 obtain ⟨p0, p1, p2, p3, p4, p5, p6, p7, p8⟩ := leafblk HB.out
 go_wp2_with fail
 clear p0 p1 p2 p3 p4 p5 p6 p7 p8
 refine (leafmay_any kk'' n'' t'' r'' i'' s'' x'' ia'' il'' ic'' da'' dl'' dc'' li'' ld'' _ (HI''.out.below HW.out) HIl''.out (HD''.out.below HW.out) HDl''.out hx'' (by omega)).mono ?_
 rintro e w3 ⟨rfl, hb⟩
 rw [Hmb.out]
 have hW := HW.out.trans (hb.mono HW.out.size)
 have hL := HL.out.below hb; have hA := HA.out.below hb; have hB := HB.out.below hb; have hR := HR.out.below hb
 clear HW HL HA HB HR hb
 have HW := Lib.hid hW; have HL := Lib.hid hL; have HA := Lib.hid hA; have HB := Lib.hid hB; have HR := Lib.hid hR
 clear hW hL hA hB hR
 obtain ⟨q0, q1, q2, q3, q4, q5, q6, q7, q8⟩ := leafblk HR.out
 have hfq : ∀ j, w3.frozen? ⟨W.heap.size + 1 + 1 + 1, j, none⟩ = false := fun j => HR.out.frozen j
 go_wp2_with fail
 have hc9 := chg9 w3 (W.heap.size + 1 + 1 + 1) (.int .u8 0) (.int .i64 0) (.int .u64 0) (.int .u8 0) (.int .u32 0) (.int .u64 0) (.string ⟨#[]⟩) (.slice none 0 0) (.slice none 0 0)
 have hfin := Chg.belowTrans HW.out hc9 (fun k hk e => by have : k = W.heap.size + 1 + 1 + 1 := e; omega) HW.out.size
 have HFin := Lib.hid hfin
 refine bodyPost_ret (v := .tuple #[.agg #[.int .u8 0, .int .i64 0, .int .u64 0, .int .u8 0, .int .u32 0, .int .u64 0, .string ⟨#[]⟩, .slice none 0 0, .slice none 0 0], .int .i64 2]) (res_leaf2 (b := W.heap.size + 1 + 1 + 1) Try.results6 (by simp) (by simp) (blk9 HR.out _ _ _ _ _ _ _ _ _)) rfl ⟨⟨_, none, _, none, rfl, Own.empty hfin.size none, Own.empty hfin.size none⟩, HFin.out⟩
set_option maxRecDepth 100000 in
set_option maxHeartbeats 12800000 in
theorem fmerge_d (kk : Nat) (n : Int) (t r i s : Nat) (x : ByteArray) (ia : Option Addr) (il ic : Nat) (da : Option Addr) (dl dc : Nat) (li : List Lm.It) (ld : List Dt.Dot) (kk' : Nat) (n' : Int) (t' r' i' s' : Nat) (x' : ByteArray) (ia' : Option Addr) (il' ic' : Nat) (da' : Option Addr) (dl' dc' : Nat) (li' : List Lm.It) (ld' : List Dt.Dot) (kk'' : Nat) (n'' : Int) (t'' r'' i'' s'' : Nat) (x'' : ByteArray) (ia'' : Option Addr) (il'' ic'' : Nat) (da'' : Option Addr) (dl'' dc'' : Nat) (li'' : List Lm.It) (ld'' : List Dt.Dot) (W : World) (hi : IRow W ia ic li) (hil : li.length = il) (hd : VRow W da dc ld) (hdl : ld.length = dl) (hn : il ≤ 4000) (hm : dl ≤ 4000) (hx : x.size ≤ 9223372036854775807) (hi' : IRow W ia' ic' li') (hil' : li'.length = il') (hd' : VRow W da' dc' ld') (hdl' : ld'.length = dl') (hn' : il' ≤ 4000) (hm' : dl' ≤ 4000) (hx' : x'.size ≤ 9223372036854775807) (hi'' : IRow W ia'' ic'' li'') (hil'' : li''.length = il'') (hd'' : VRow W da'' dc'' ld'') (hdl'' : ld''.length = dl'') (hn'' : il'' ≤ 4000) (hm'' : dl'' ≤ 4000) (hx'' : x''.size ≤ 9223372036854775807) (hml : Lm.may ⟨kk, n, t, ((r, i), s), x, li, ld⟩ = true) (hma : Lm.may ⟨kk', n', t', ((r', i'), s'), x', li', ld'⟩ = true) (hmb : Lm.may ⟨kk'', n'', t'', ((r'', i''), s''), x'', li'', ld''⟩ = true) (hne : kk' ≠ kk) :
  Calls Try.prog 6 #[leafV kk n t r i s x ia il ic da dl dc, leafV kk' n' t' r' i' s' x' ia' il' ic' da' dl' dc', leafV kk'' n'' t'' r'' i'' s'' x'' ia'' il'' ic'' da'' dl'' dc''] W fun e w' => AE W.heap.size w' Lm.zeroL 15 e ∧ Below W.heap.size W w' := by
 have Hml := Lib.hid hml; clear hml
 have Hma := Lib.hid hma; clear hma
 have Hmb := Lib.hid hmb; clear hmb
 have HI := Lib.hid hi; have HIl := Lib.hid hil; have HD := Lib.hid hd; have HDl := Lib.hid hdl
 have HI' := Lib.hid hi'; have HIl' := Lib.hid hil'; have HD' := Lib.hid hd'; have HDl' := Lib.hid hdl'
 have HI'' := Lib.hid hi''; have HIl'' := Lib.hid hil''; have HD'' := Lib.hid hd''; have HDl'' := Lib.hid hdl''
 clear hi hil hd hdl hi' hil' hd' hdl' hi'' hil'' hd'' hdl''
 have hW := below_box4 W #[.int .u8 (kk : Int), .int .i64 n, .int .u64 (t : Int), .int .u8 (r : Int), .int .u32 (i : Int), .int .u64 (s : Int), .string x, .slice ia il ic, .slice da dl dc] #[.int .u8 (kk' : Int), .int .i64 n', .int .u64 (t' : Int), .int .u8 (r' : Int), .int .u32 (i' : Int), .int .u64 (s' : Int), .string x', .slice ia' il' ic', .slice da' dl' dc'] #[.int .u8 (kk'' : Int), .int .i64 n'', .int .u64 (t'' : Int), .int .u8 (r'' : Int), .int .u32 (i'' : Int), .int .u64 (s'' : Int), .string x'', .slice ia'' il'' ic'', .slice da'' dl'' dc''] #[.int .u8 0, .int .i64 0, .int .u64 0, .int .u8 0, .int .u32 0, .int .u64 0, .string ⟨#[]⟩, .slice none 0 0, .slice none 0 0] 40 40 40 40
 obtain ⟨hL, hA, hB, hR⟩ := blks4 (Below.refl ((((W.alloc (.cells #[.int .u8 (kk : Int), .int .i64 n, .int .u64 (t : Int), .int .u8 (r : Int), .int .u32 (i : Int), .int .u64 (s : Int), .string x, .slice ia il ic, .slice da dl dc] 40)).alloc (.cells #[.int .u8 (kk' : Int), .int .i64 n', .int .u64 (t' : Int), .int .u8 (r' : Int), .int .u32 (i' : Int), .int .u64 (s' : Int), .string x', .slice ia' il' ic', .slice da' dl' dc'] 40)).alloc (.cells #[.int .u8 (kk'' : Int), .int .i64 n'', .int .u64 (t'' : Int), .int .u8 (r'' : Int), .int .u32 (i'' : Int), .int .u64 (s'' : Int), .string x'', .slice ia'' il'' ic'', .slice da'' dl'' dc''] 40)).alloc (.cells #[.int .u8 0, .int .i64 0, .int .u64 0, .int .u8 0, .int .u32 0, .int .u64 0, .string ⟨#[]⟩, .slice none 0 0, .slice none 0 0] 40)).heap.size ((((W.alloc (.cells #[.int .u8 (kk : Int), .int .i64 n, .int .u64 (t : Int), .int .u8 (r : Int), .int .u32 (i : Int), .int .u64 (s : Int), .string x, .slice ia il ic, .slice da dl dc] 40)).alloc (.cells #[.int .u8 (kk' : Int), .int .i64 n', .int .u64 (t' : Int), .int .u8 (r' : Int), .int .u32 (i' : Int), .int .u64 (s' : Int), .string x', .slice ia' il' ic', .slice da' dl' dc'] 40)).alloc (.cells #[.int .u8 (kk'' : Int), .int .i64 n'', .int .u64 (t'' : Int), .int .u8 (r'' : Int), .int .u32 (i'' : Int), .int .u64 (s'' : Int), .string x'', .slice ia'' il'' ic'', .slice da'' dl'' dc''] 40)).alloc (.cells #[.int .u8 0, .int .i64 0, .int .u64 0, .int .u8 0, .int .u32 0, .int .u64 0, .string ⟨#[]⟩, .slice none 0 0, .slice none 0 0] 40)))
 go_enter Try.func6, Try.ntmps6
 go_wp2_with fail
 obtain ⟨X, hX⟩ : ∃ X, X = ((((W.alloc (.cells #[.int .u8 (kk : Int), .int .i64 n, .int .u64 (t : Int), .int .u8 (r : Int), .int .u32 (i : Int), .int .u64 (s : Int), .string x, .slice ia il ic, .slice da dl dc] 40)).alloc (.cells #[.int .u8 (kk' : Int), .int .i64 n', .int .u64 (t' : Int), .int .u8 (r' : Int), .int .u32 (i' : Int), .int .u64 (s' : Int), .string x', .slice ia' il' ic', .slice da' dl' dc'] 40)).alloc (.cells #[.int .u8 (kk'' : Int), .int .i64 n'', .int .u64 (t'' : Int), .int .u8 (r'' : Int), .int .u32 (i'' : Int), .int .u64 (s'' : Int), .string x'', .slice ia'' il'' ic'', .slice da'' dl'' dc''] 40)).alloc (.cells #[.int .u8 0, .int .i64 0, .int .u64 0, .int .u8 0, .int .u32 0, .int .u64 0, .string ⟨#[]⟩, .slice none 0 0, .slice none 0 0] 40)) := ⟨_, rfl⟩
 rw [← hX] at hW hL hA hB hR ⊢
 have HW := Lib.hid hW; have HL := Lib.hid hL; have HA := Lib.hid hA; have HB := Lib.hid hB; have HR := Lib.hid hR
 clear hX hW hL hA hB hR
 refine (leafmay_any kk n t r i s x ia il ic da dl dc li ld _ (HI.out.below HW.out) HIl.out (HD.out.below HW.out) HDl.out hx (by omega)).mono ?_
 rintro e w1 ⟨rfl, hb⟩
 rw [Hml.out]
 have hW := HW.out.trans (hb.mono HW.out.size)
 have hL := HL.out.below hb; have hA := HA.out.below hb; have hB := HB.out.below hb; have hR := HR.out.below hb
 clear HW HL HA HB HR hb
 have HW := Lib.hid hW; have HL := Lib.hid hL; have HA := Lib.hid hA; have HB := Lib.hid hB; have HR := Lib.hid hR
 clear hW hL hA hB hR
 obtain ⟨p0, p1, p2, p3, p4, p5, p6, p7, p8⟩ := leafblk HA.out
 go_wp2_with fail
 clear p0 p1 p2 p3 p4 p5 p6 p7 p8
 refine (leafmay_any kk' n' t' r' i' s' x' ia' il' ic' da' dl' dc' li' ld' _ (HI'.out.below HW.out) HIl'.out (HD'.out.below HW.out) HDl'.out hx' (by omega)).mono ?_
 rintro e w2 ⟨rfl, hb⟩
 rw [Hma.out]
 have hW := HW.out.trans (hb.mono HW.out.size)
 have hL := HL.out.below hb; have hA := HA.out.below hb; have hB := HB.out.below hb; have hR := HR.out.below hb
 clear HW HL HA HB HR hb
 have HW := Lib.hid hW; have HL := Lib.hid hL; have HA := Lib.hid hA; have HB := Lib.hid hB; have HR := Lib.hid hR
 clear hW hL hA hB hR
 obtain ⟨p0, p1, p2, p3, p4, p5, p6, p7, p8⟩ := leafblk HB.out
 go_wp2_with fail
 clear p0 p1 p2 p3 p4 p5 p6 p7 p8
 refine (leafmay_any kk'' n'' t'' r'' i'' s'' x'' ia'' il'' ic'' da'' dl'' dc'' li'' ld'' _ (HI''.out.below HW.out) HIl''.out (HD''.out.below HW.out) HDl''.out hx'' (by omega)).mono ?_
 rintro e w3 ⟨rfl, hb⟩
 rw [Hmb.out]
 have hW := HW.out.trans (hb.mono HW.out.size)
 have hL := HL.out.below hb; have hA := HA.out.below hb; have hB := HB.out.below hb; have hR := HR.out.below hb
 clear HW HL HA HB HR hb
 have HW := Lib.hid hW; have HL := Lib.hid hL; have HA := Lib.hid hA; have HB := Lib.hid hB; have HR := Lib.hid hR
 clear hW hL hA hB hR
 have k0 := (leafblk HL.out).1; have k1 := (leafblk HA.out).1; have k2 := (leafblk HB.out).1
 obtain ⟨q0, q1, q2, q3, q4, q5, q6, q7, q8⟩ := leafblk HR.out
 have hfq : ∀ j, w3.frozen? ⟨W.heap.size + 1 + 1 + 1, j, none⟩ = false := fun j => HR.out.frozen j
 have hne1 : ¬ ((kk' : Int) = (kk : Int)) := by omega
 go_wp2_with fail
 have hc9 := chg9 w3 (W.heap.size + 1 + 1 + 1) (.int .u8 0) (.int .i64 0) (.int .u64 0) (.int .u8 0) (.int .u32 0) (.int .u64 0) (.string ⟨#[]⟩) (.slice none 0 0) (.slice none 0 0)
 have hfin := Chg.belowTrans HW.out hc9 (fun k hk e => by have : k = W.heap.size + 1 + 1 + 1 := e; omega) HW.out.size
 have HFin := Lib.hid hfin
 refine bodyPost_ret (v := .tuple #[.agg #[.int .u8 0, .int .i64 0, .int .u64 0, .int .u8 0, .int .u32 0, .int .u64 0, .string ⟨#[]⟩, .slice none 0 0, .slice none 0 0], .int .i64 15]) (res_leaf2 (b := W.heap.size + 1 + 1 + 1) Try.results6 (by simp) (by simp) (blk9 HR.out _ _ _ _ _ _ _ _ _)) rfl ⟨⟨_, none, _, none, rfl, Own.empty hfin.size none, Own.empty hfin.size none⟩, HFin.out⟩
set_option maxRecDepth 100000 in
set_option maxHeartbeats 12800000 in
theorem fmerge_e (kk : Nat) (n : Int) (t r i s : Nat) (x : ByteArray) (ia : Option Addr) (il ic : Nat) (da : Option Addr) (dl dc : Nat) (li : List Lm.It) (ld : List Dt.Dot) (kk' : Nat) (n' : Int) (t' r' i' s' : Nat) (x' : ByteArray) (ia' : Option Addr) (il' ic' : Nat) (da' : Option Addr) (dl' dc' : Nat) (li' : List Lm.It) (ld' : List Dt.Dot) (kk'' : Nat) (n'' : Int) (t'' r'' i'' s'' : Nat) (x'' : ByteArray) (ia'' : Option Addr) (il'' ic'' : Nat) (da'' : Option Addr) (dl'' dc'' : Nat) (li'' : List Lm.It) (ld'' : List Dt.Dot) (W : World) (hi : IRow W ia ic li) (hil : li.length = il) (hd : VRow W da dc ld) (hdl : ld.length = dl) (hn : il ≤ 4000) (hm : dl ≤ 4000) (hx : x.size ≤ 9223372036854775807) (hi' : IRow W ia' ic' li') (hil' : li'.length = il') (hd' : VRow W da' dc' ld') (hdl' : ld'.length = dl') (hn' : il' ≤ 4000) (hm' : dl' ≤ 4000) (hx' : x'.size ≤ 9223372036854775807) (hi'' : IRow W ia'' ic'' li'') (hil'' : li''.length = il'') (hd'' : VRow W da'' dc'' ld'') (hdl'' : ld''.length = dl'') (hn'' : il'' ≤ 4000) (hm'' : dl'' ≤ 4000) (hx'' : x''.size ≤ 9223372036854775807) (hml : Lm.may ⟨kk, n, t, ((r, i), s), x, li, ld⟩ = true) (hma : Lm.may ⟨kk', n', t', ((r', i'), s'), x', li', ld'⟩ = true) (hmb : Lm.may ⟨kk'', n'', t'', ((r'', i''), s''), x'', li'', ld''⟩ = true) (heq : kk' = kk) (hne : kk'' ≠ kk) :
  Calls Try.prog 6 #[leafV kk n t r i s x ia il ic da dl dc, leafV kk' n' t' r' i' s' x' ia' il' ic' da' dl' dc', leafV kk'' n'' t'' r'' i'' s'' x'' ia'' il'' ic'' da'' dl'' dc''] W fun e w' => AE W.heap.size w' Lm.zeroL 15 e ∧ Below W.heap.size W w' := by
 have Heq := Lib.hid heq; clear heq
 have Hml := Lib.hid hml; clear hml
 have Hma := Lib.hid hma; clear hma
 have Hmb := Lib.hid hmb; clear hmb
 have HI := Lib.hid hi; have HIl := Lib.hid hil; have HD := Lib.hid hd; have HDl := Lib.hid hdl
 have HI' := Lib.hid hi'; have HIl' := Lib.hid hil'; have HD' := Lib.hid hd'; have HDl' := Lib.hid hdl'
 have HI'' := Lib.hid hi''; have HIl'' := Lib.hid hil''; have HD'' := Lib.hid hd''; have HDl'' := Lib.hid hdl''
 clear hi hil hd hdl hi' hil' hd' hdl' hi'' hil'' hd'' hdl''
 have hW := below_box4 W #[.int .u8 (kk : Int), .int .i64 n, .int .u64 (t : Int), .int .u8 (r : Int), .int .u32 (i : Int), .int .u64 (s : Int), .string x, .slice ia il ic, .slice da dl dc] #[.int .u8 (kk' : Int), .int .i64 n', .int .u64 (t' : Int), .int .u8 (r' : Int), .int .u32 (i' : Int), .int .u64 (s' : Int), .string x', .slice ia' il' ic', .slice da' dl' dc'] #[.int .u8 (kk'' : Int), .int .i64 n'', .int .u64 (t'' : Int), .int .u8 (r'' : Int), .int .u32 (i'' : Int), .int .u64 (s'' : Int), .string x'', .slice ia'' il'' ic'', .slice da'' dl'' dc''] #[.int .u8 0, .int .i64 0, .int .u64 0, .int .u8 0, .int .u32 0, .int .u64 0, .string ⟨#[]⟩, .slice none 0 0, .slice none 0 0] 40 40 40 40
 obtain ⟨hL, hA, hB, hR⟩ := blks4 (Below.refl ((((W.alloc (.cells #[.int .u8 (kk : Int), .int .i64 n, .int .u64 (t : Int), .int .u8 (r : Int), .int .u32 (i : Int), .int .u64 (s : Int), .string x, .slice ia il ic, .slice da dl dc] 40)).alloc (.cells #[.int .u8 (kk' : Int), .int .i64 n', .int .u64 (t' : Int), .int .u8 (r' : Int), .int .u32 (i' : Int), .int .u64 (s' : Int), .string x', .slice ia' il' ic', .slice da' dl' dc'] 40)).alloc (.cells #[.int .u8 (kk'' : Int), .int .i64 n'', .int .u64 (t'' : Int), .int .u8 (r'' : Int), .int .u32 (i'' : Int), .int .u64 (s'' : Int), .string x'', .slice ia'' il'' ic'', .slice da'' dl'' dc''] 40)).alloc (.cells #[.int .u8 0, .int .i64 0, .int .u64 0, .int .u8 0, .int .u32 0, .int .u64 0, .string ⟨#[]⟩, .slice none 0 0, .slice none 0 0] 40)).heap.size ((((W.alloc (.cells #[.int .u8 (kk : Int), .int .i64 n, .int .u64 (t : Int), .int .u8 (r : Int), .int .u32 (i : Int), .int .u64 (s : Int), .string x, .slice ia il ic, .slice da dl dc] 40)).alloc (.cells #[.int .u8 (kk' : Int), .int .i64 n', .int .u64 (t' : Int), .int .u8 (r' : Int), .int .u32 (i' : Int), .int .u64 (s' : Int), .string x', .slice ia' il' ic', .slice da' dl' dc'] 40)).alloc (.cells #[.int .u8 (kk'' : Int), .int .i64 n'', .int .u64 (t'' : Int), .int .u8 (r'' : Int), .int .u32 (i'' : Int), .int .u64 (s'' : Int), .string x'', .slice ia'' il'' ic'', .slice da'' dl'' dc''] 40)).alloc (.cells #[.int .u8 0, .int .i64 0, .int .u64 0, .int .u8 0, .int .u32 0, .int .u64 0, .string ⟨#[]⟩, .slice none 0 0, .slice none 0 0] 40)))
 go_enter Try.func6, Try.ntmps6
 go_wp2_with fail
 obtain ⟨X, hX⟩ : ∃ X, X = ((((W.alloc (.cells #[.int .u8 (kk : Int), .int .i64 n, .int .u64 (t : Int), .int .u8 (r : Int), .int .u32 (i : Int), .int .u64 (s : Int), .string x, .slice ia il ic, .slice da dl dc] 40)).alloc (.cells #[.int .u8 (kk' : Int), .int .i64 n', .int .u64 (t' : Int), .int .u8 (r' : Int), .int .u32 (i' : Int), .int .u64 (s' : Int), .string x', .slice ia' il' ic', .slice da' dl' dc'] 40)).alloc (.cells #[.int .u8 (kk'' : Int), .int .i64 n'', .int .u64 (t'' : Int), .int .u8 (r'' : Int), .int .u32 (i'' : Int), .int .u64 (s'' : Int), .string x'', .slice ia'' il'' ic'', .slice da'' dl'' dc''] 40)).alloc (.cells #[.int .u8 0, .int .i64 0, .int .u64 0, .int .u8 0, .int .u32 0, .int .u64 0, .string ⟨#[]⟩, .slice none 0 0, .slice none 0 0] 40)) := ⟨_, rfl⟩
 rw [← hX] at hW hL hA hB hR ⊢
 have HW := Lib.hid hW; have HL := Lib.hid hL; have HA := Lib.hid hA; have HB := Lib.hid hB; have HR := Lib.hid hR
 clear hX hW hL hA hB hR
 refine (leafmay_any kk n t r i s x ia il ic da dl dc li ld _ (HI.out.below HW.out) HIl.out (HD.out.below HW.out) HDl.out hx (by omega)).mono ?_
 rintro e w1 ⟨rfl, hb⟩
 rw [Hml.out]
 have hW := HW.out.trans (hb.mono HW.out.size)
 have hL := HL.out.below hb; have hA := HA.out.below hb; have hB := HB.out.below hb; have hR := HR.out.below hb
 clear HW HL HA HB HR hb
 have HW := Lib.hid hW; have HL := Lib.hid hL; have HA := Lib.hid hA; have HB := Lib.hid hB; have HR := Lib.hid hR
 clear hW hL hA hB hR
 obtain ⟨p0, p1, p2, p3, p4, p5, p6, p7, p8⟩ := leafblk HA.out
 go_wp2_with fail
 clear p0 p1 p2 p3 p4 p5 p6 p7 p8
 refine (leafmay_any kk' n' t' r' i' s' x' ia' il' ic' da' dl' dc' li' ld' _ (HI'.out.below HW.out) HIl'.out (HD'.out.below HW.out) HDl'.out hx' (by omega)).mono ?_
 rintro e w2 ⟨rfl, hb⟩
 rw [Hma.out]
 have hW := HW.out.trans (hb.mono HW.out.size)
 have hL := HL.out.below hb; have hA := HA.out.below hb; have hB := HB.out.below hb; have hR := HR.out.below hb
 clear HW HL HA HB HR hb
 have HW := Lib.hid hW; have HL := Lib.hid hL; have HA := Lib.hid hA; have HB := Lib.hid hB; have HR := Lib.hid hR
 clear hW hL hA hB hR
 obtain ⟨p0, p1, p2, p3, p4, p5, p6, p7, p8⟩ := leafblk HB.out
 go_wp2_with fail
 clear p0 p1 p2 p3 p4 p5 p6 p7 p8
 refine (leafmay_any kk'' n'' t'' r'' i'' s'' x'' ia'' il'' ic'' da'' dl'' dc'' li'' ld'' _ (HI''.out.below HW.out) HIl''.out (HD''.out.below HW.out) HDl''.out hx'' (by omega)).mono ?_
 rintro e w3 ⟨rfl, hb⟩
 rw [Hmb.out]
 have hW := HW.out.trans (hb.mono HW.out.size)
 have hL := HL.out.below hb; have hA := HA.out.below hb; have hB := HB.out.below hb; have hR := HR.out.below hb
 clear HW HL HA HB HR hb
 have HW := Lib.hid hW; have HL := Lib.hid hL; have HA := Lib.hid hA; have HB := Lib.hid hB; have HR := Lib.hid hR
 clear hW hL hA hB hR
 have k0 := (leafblk HL.out).1; have k1 := (leafblk HA.out).1; have k2 := (leafblk HB.out).1
 obtain ⟨q0, q1, q2, q3, q4, q5, q6, q7, q8⟩ := leafblk HR.out
 have hfq : ∀ j, w3.frozen? ⟨W.heap.size + 1 + 1 + 1, j, none⟩ = false := fun j => HR.out.frozen j
 have heq1 : (kk' : Int) = (kk : Int) := by have := Heq.out; omega
 have hne1 : ¬ ((kk'' : Int) = (kk : Int)) := by omega
 go_wp2_with fail
 have hc9 := chg9 w3 (W.heap.size + 1 + 1 + 1) (.int .u8 0) (.int .i64 0) (.int .u64 0) (.int .u8 0) (.int .u32 0) (.int .u64 0) (.string ⟨#[]⟩) (.slice none 0 0) (.slice none 0 0)
 have hfin := Chg.belowTrans HW.out hc9 (fun k hk e => by have : k = W.heap.size + 1 + 1 + 1 := e; omega) HW.out.size
 have HFin := Lib.hid hfin
 refine bodyPost_ret (v := .tuple #[.agg #[.int .u8 0, .int .i64 0, .int .u64 0, .int .u8 0, .int .u32 0, .int .u64 0, .string ⟨#[]⟩, .slice none 0 0, .slice none 0 0], .int .i64 15]) (res_leaf2 (b := W.heap.size + 1 + 1 + 1) Try.results6 (by simp) (by simp) (blk9 HR.out _ _ _ _ _ _ _ _ _)) rfl ⟨⟨_, none, _, none, rfl, Own.empty hfin.size none, Own.empty hfin.size none⟩, HFin.out⟩
set_option maxRecDepth 100000 in
set_option maxHeartbeats 12800000 in
theorem fmerge_k1 (kk : Nat) (n : Int) (t r i s : Nat) (x : ByteArray) (ia : Option Addr) (il ic : Nat) (da : Option Addr) (dl dc : Nat) (li : List Lm.It) (ld : List Dt.Dot) (kk' : Nat) (n' : Int) (t' r' i' s' : Nat) (x' : ByteArray) (ia' : Option Addr) (il' ic' : Nat) (da' : Option Addr) (dl' dc' : Nat) (li' : List Lm.It) (ld' : List Dt.Dot) (kk'' : Nat) (n'' : Int) (t'' r'' i'' s'' : Nat) (x'' : ByteArray) (ia'' : Option Addr) (il'' ic'' : Nat) (da'' : Option Addr) (dl'' dc'' : Nat) (li'' : List Lm.It) (ld'' : List Dt.Dot) (W : World) (hi : IRow W ia ic li) (hil : li.length = il) (hd : VRow W da dc ld) (hdl : ld.length = dl) (hn : il ≤ 4000) (hm : dl ≤ 4000) (hx : x.size ≤ 9223372036854775807) (hi' : IRow W ia' ic' li') (hil' : li'.length = il') (hd' : VRow W da' dc' ld') (hdl' : ld'.length = dl') (hn' : il' ≤ 4000) (hm' : dl' ≤ 4000) (hx' : x'.size ≤ 9223372036854775807) (hi'' : IRow W ia'' ic'' li'') (hil'' : li''.length = il'') (hd'' : VRow W da'' dc'' ld'') (hdl'' : ld''.length = dl'') (hn'' : il'' ≤ 4000) (hm'' : dl'' ≤ 4000) (hx'' : x''.size ≤ 9223372036854775807) (hml : Lm.may ⟨kk, n, t, ((r, i), s), x, li, ld⟩ = true) (hma : Lm.may ⟨kk', n', t', ((r', i'), s'), x', li', ld'⟩ = true) (hmb : Lm.may ⟨kk'', n'', t'', ((r'', i''), s''), x'', li'', ld''⟩ = true) (heq : kk' = kk) (heq2 : kk'' = kk) (hk : kk = 1) :
  Calls Try.prog 6 #[leafV kk n t r i s x ia il ic da dl dc, leafV kk' n' t' r' i' s' x' ia' il' ic' da' dl' dc', leafV kk'' n'' t'' r'' i'' s'' x'' ia'' il'' ic'' da'' dl'' dc''] W fun e w' => AE W.heap.size w' (Lm.merged ⟨kk, n, t, ((r, i), s), x, li, ld⟩ ⟨kk', n', t', ((r', i'), s'), x', li', ld'⟩ ⟨kk'', n'', t'', ((r'', i''), s''), x'', li'', ld''⟩) 0 e ∧ Below W.heap.size W w' := by
 obtain ⟨M, hM⟩ : ∃ M, M = Lm.merged ⟨kk, n, t, ((r, i), s), x, li, ld⟩ ⟨kk', n', t', ((r', i'), s'), x', li', ld'⟩ ⟨kk'', n'', t'', ((r'', i''), s''), x'', li'', ld''⟩ := ⟨_, rfl⟩
 rw [← hM]
 have HM := Lib.hid hM; have HK := Lib.hid hk; have HK1 := Lib.hid heq; have HK2 := Lib.hid heq2; have HKZ := Lib.hid (show (kk : Int) = 1 by omega)
 clear hM hk heq heq2
 have Hml := Lib.hid hml; clear hml
 have Hma := Lib.hid hma; clear hma
 have Hmb := Lib.hid hmb; clear hmb
 have HI := Lib.hid hi; have HIl := Lib.hid hil; have HD := Lib.hid hd; have HDl := Lib.hid hdl
 have HI' := Lib.hid hi'; have HIl' := Lib.hid hil'; have HD' := Lib.hid hd'; have HDl' := Lib.hid hdl'
 have HI'' := Lib.hid hi''; have HIl'' := Lib.hid hil''; have HD'' := Lib.hid hd''; have HDl'' := Lib.hid hdl''
 clear hi hil hd hdl hi' hil' hd' hdl' hi'' hil'' hd'' hdl''
 have hW := below_box4 W #[.int .u8 (kk : Int), .int .i64 n, .int .u64 (t : Int), .int .u8 (r : Int), .int .u32 (i : Int), .int .u64 (s : Int), .string x, .slice ia il ic, .slice da dl dc] #[.int .u8 (kk' : Int), .int .i64 n', .int .u64 (t' : Int), .int .u8 (r' : Int), .int .u32 (i' : Int), .int .u64 (s' : Int), .string x', .slice ia' il' ic', .slice da' dl' dc'] #[.int .u8 (kk'' : Int), .int .i64 n'', .int .u64 (t'' : Int), .int .u8 (r'' : Int), .int .u32 (i'' : Int), .int .u64 (s'' : Int), .string x'', .slice ia'' il'' ic'', .slice da'' dl'' dc''] #[.int .u8 0, .int .i64 0, .int .u64 0, .int .u8 0, .int .u32 0, .int .u64 0, .string ⟨#[]⟩, .slice none 0 0, .slice none 0 0] 40 40 40 40
 obtain ⟨hL, hA, hB, hR⟩ := blks4 (Below.refl ((((W.alloc (.cells #[.int .u8 (kk : Int), .int .i64 n, .int .u64 (t : Int), .int .u8 (r : Int), .int .u32 (i : Int), .int .u64 (s : Int), .string x, .slice ia il ic, .slice da dl dc] 40)).alloc (.cells #[.int .u8 (kk' : Int), .int .i64 n', .int .u64 (t' : Int), .int .u8 (r' : Int), .int .u32 (i' : Int), .int .u64 (s' : Int), .string x', .slice ia' il' ic', .slice da' dl' dc'] 40)).alloc (.cells #[.int .u8 (kk'' : Int), .int .i64 n'', .int .u64 (t'' : Int), .int .u8 (r'' : Int), .int .u32 (i'' : Int), .int .u64 (s'' : Int), .string x'', .slice ia'' il'' ic'', .slice da'' dl'' dc''] 40)).alloc (.cells #[.int .u8 0, .int .i64 0, .int .u64 0, .int .u8 0, .int .u32 0, .int .u64 0, .string ⟨#[]⟩, .slice none 0 0, .slice none 0 0] 40)).heap.size ((((W.alloc (.cells #[.int .u8 (kk : Int), .int .i64 n, .int .u64 (t : Int), .int .u8 (r : Int), .int .u32 (i : Int), .int .u64 (s : Int), .string x, .slice ia il ic, .slice da dl dc] 40)).alloc (.cells #[.int .u8 (kk' : Int), .int .i64 n', .int .u64 (t' : Int), .int .u8 (r' : Int), .int .u32 (i' : Int), .int .u64 (s' : Int), .string x', .slice ia' il' ic', .slice da' dl' dc'] 40)).alloc (.cells #[.int .u8 (kk'' : Int), .int .i64 n'', .int .u64 (t'' : Int), .int .u8 (r'' : Int), .int .u32 (i'' : Int), .int .u64 (s'' : Int), .string x'', .slice ia'' il'' ic'', .slice da'' dl'' dc''] 40)).alloc (.cells #[.int .u8 0, .int .i64 0, .int .u64 0, .int .u8 0, .int .u32 0, .int .u64 0, .string ⟨#[]⟩, .slice none 0 0, .slice none 0 0] 40)))
 go_enter Try.func6, Try.ntmps6
 go_wp2_with fail
 obtain ⟨X, hX⟩ : ∃ X, X = ((((W.alloc (.cells #[.int .u8 (kk : Int), .int .i64 n, .int .u64 (t : Int), .int .u8 (r : Int), .int .u32 (i : Int), .int .u64 (s : Int), .string x, .slice ia il ic, .slice da dl dc] 40)).alloc (.cells #[.int .u8 (kk' : Int), .int .i64 n', .int .u64 (t' : Int), .int .u8 (r' : Int), .int .u32 (i' : Int), .int .u64 (s' : Int), .string x', .slice ia' il' ic', .slice da' dl' dc'] 40)).alloc (.cells #[.int .u8 (kk'' : Int), .int .i64 n'', .int .u64 (t'' : Int), .int .u8 (r'' : Int), .int .u32 (i'' : Int), .int .u64 (s'' : Int), .string x'', .slice ia'' il'' ic'', .slice da'' dl'' dc''] 40)).alloc (.cells #[.int .u8 0, .int .i64 0, .int .u64 0, .int .u8 0, .int .u32 0, .int .u64 0, .string ⟨#[]⟩, .slice none 0 0, .slice none 0 0] 40)) := ⟨_, rfl⟩
 rw [← hX] at hW hL hA hB hR ⊢
 have HW := Lib.hid hW; have HL := Lib.hid hL; have HA := Lib.hid hA; have HB := Lib.hid hB; have HR := Lib.hid hR
 clear hX hW hL hA hB hR
 refine (leafmay_any kk n t r i s x ia il ic da dl dc li ld _ (HI.out.below HW.out) HIl.out (HD.out.below HW.out) HDl.out hx (by omega)).mono ?_
 rintro e w1 ⟨rfl, hb⟩
 rw [Hml.out]
 have hW := HW.out.trans (hb.mono HW.out.size)
 have hL := HL.out.below hb; have hA := HA.out.below hb; have hB := HB.out.below hb; have hR := HR.out.below hb
 clear HW HL HA HB HR hb
 have HW := Lib.hid hW; have HL := Lib.hid hL; have HA := Lib.hid hA; have HB := Lib.hid hB; have HR := Lib.hid hR
 clear hW hL hA hB hR
 obtain ⟨p0, p1, p2, p3, p4, p5, p6, p7, p8⟩ := leafblk HA.out
 go_wp2_with fail
 clear p0 p1 p2 p3 p4 p5 p6 p7 p8
 refine (leafmay_any kk' n' t' r' i' s' x' ia' il' ic' da' dl' dc' li' ld' _ (HI'.out.below HW.out) HIl'.out (HD'.out.below HW.out) HDl'.out hx' (by omega)).mono ?_
 rintro e w2 ⟨rfl, hb⟩
 rw [Hma.out]
 have hW := HW.out.trans (hb.mono HW.out.size)
 have hL := HL.out.below hb; have hA := HA.out.below hb; have hB := HB.out.below hb; have hR := HR.out.below hb
 clear HW HL HA HB HR hb
 have HW := Lib.hid hW; have HL := Lib.hid hL; have HA := Lib.hid hA; have HB := Lib.hid hB; have HR := Lib.hid hR
 clear hW hL hA hB hR
 obtain ⟨p0, p1, p2, p3, p4, p5, p6, p7, p8⟩ := leafblk HB.out
 go_wp2_with fail
 clear p0 p1 p2 p3 p4 p5 p6 p7 p8
 refine (leafmay_any kk'' n'' t'' r'' i'' s'' x'' ia'' il'' ic'' da'' dl'' dc'' li'' ld'' _ (HI''.out.below HW.out) HIl''.out (HD''.out.below HW.out) HDl''.out hx'' (by omega)).mono ?_
 rintro e w3 ⟨rfl, hb⟩
 rw [Hmb.out]
 have hW := HW.out.trans (hb.mono HW.out.size)
 have hL := HL.out.below hb; have hA := HA.out.below hb; have hB := HB.out.below hb; have hR := HR.out.below hb
 clear HW HL HA HB HR hb
 have HW := Lib.hid hW; have HL := Lib.hid hL; have HA := Lib.hid hA; have HB := Lib.hid hB; have HR := Lib.hid hR
 clear hW hL hA hB hR
 have k0 := (leafblk HL.out).1; have k1 := (leafblk HA.out).1; have k2 := (leafblk HB.out).1
 have heq1 : (kk' : Int) = (kk : Int) := by have := HK1.out; omega
 have heq3 : (kk'' : Int) = (kk : Int) := by have := HK2.out; omega
 obtain ⟨Y, hY⟩ : ∃ Y, Y = w3 := ⟨_, rfl⟩
 rw [← hY] at k0 k1 k2 ⊢
 have hW := HW.out; have hL := HL.out; have hA := HA.out; have hB := HB.out; have hR := HR.out
 rw [← hY] at hW hL hA hB hR
 clear HW HL HA HB HR
 have HW := Lib.hid hW; have HL := Lib.hid hL; have HA := Lib.hid hA; have HB := Lib.hid hB; have HR := Lib.hid hR
 clear hW hL hA hB hR hY
 go_wp2_with fail
 clear k0 k1 k2 heq1 heq3
 refine RegC.region_list (by kernel_rfl) [8] [RegC.plain (fun v _ => v = .agg #[Value.nilFunc, .func (.func 25) #[] #[], .func (.func 26) #[] #[], .func (.func 27) #[] #[], .func (.func 28) #[] #[]]), RegC.plain (fun v _ => v = .pointer (some ⟨W.heap.size, 0, none⟩)), RegC.plain (fun v _ => v = .int .u8 (kk : Int)), RegC.plain (fun v _ => v = .func (.func 25) #[] #[]), RegC.plain (fun v _ => v = .agg #[.int .u8 (kk : Int), .int .i64 n, .int .u64 (t : Int), .int .u8 (r : Int), .int .u32 (i : Int), .int .u64 (s : Int), .string x, .slice ia il ic, .slice da dl dc]), RegC.plain (fun v _ => v = .agg #[.int .u8 (kk' : Int), .int .i64 n', .int .u64 (t' : Int), .int .u8 (r' : Int), .int .u32 (i' : Int), .int .u64 (s' : Int), .string x', .slice ia' il' ic', .slice da' dl' dc']), RegC.plain (fun v _ => v = .agg #[.int .u8 (kk'' : Int), .int .i64 n'', .int .u64 (t'' : Int), .int .u8 (r'' : Int), .int .u32 (i'' : Int), .int .u64 (s'' : Int), .string x'', .slice ia'' il'' ic'', .slice da'' dl'' dc'']), RegC.plain (fun v w => MR Y.heap.size w M v), RegC.change (fun v w => ∃ a m c a2 m2 c2, Blk w (W.heap.size + 1 + 1 + 1) 40 [.int .u8 (M.kind : Int), .int .i64 M.n, .int .u64 (M.time : Int), .int .u8 (M.dot.1.1 : Int), .int .u32 (M.dot.1.2 : Int), .int .u64 (M.dot.2 : Int), .string M.text, .slice a m c, .slice a2 m2 c2] ∧ MR Y.heap.size w M (.agg #[.int .u8 (M.kind : Int), .int .i64 M.n, .int .u64 (M.time : Int), .int .u8 (M.dot.1.1 : Int), .int .u32 (M.dot.1.2 : Int), .int .u64 (M.dot.2 : Int), .string M.text, .slice a m c, .slice a2 m2 c2])) (fun k => k = W.heap.size + 1 + 1 + 1), RegC.plain (fun v _ => v = .int .i64 0)] (by kernel_rfl) ?_ ?_ ?_ ?_ ?_
 ·exact ⟨Or.inr (fun _ h => h), Or.inr (fun _ h => h), Or.inr (fun _ h => h), Or.inr (fun _ h => h), Or.inr (fun _ h => h), Or.inr (fun _ h => h), Or.inr (fun _ h => h), Or.inr (fun _ h => h), Or.inl (by decide), Or.inr (fun _ h => h), trivial⟩
 ·refine ⟨k4, k4, k4, k4, k4, k4, k4, (fun v wa wb hb h => by exact MR.below h hb), (fun v wa wb hb h => by obtain ⟨a, m, c, a2, m2, c2, h1, h2⟩ := h; exact ⟨a, m, c, a2, m2, c2, h1.below hb, h2.below hb⟩), k4, trivial⟩
 ·refine ⟨⟨Or.inr (Or.inr k4), Or.inr (Or.inr k4), Or.inr (Or.inr k4), Or.inr (Or.inr k4), Or.inr (Or.inr k4), Or.inr (Or.inr k4), Or.inr (Or.inr k4), Or.inr (Or.inr (fun v wa wb hr h => by exact MR.past h hr HR.out.lt)), Or.inl rfl, Or.inr (Or.inr k4), trivial⟩, trivial⟩
 ·refine ⟨?_, ?_, ?_, ?_, ?_, ?_, ?_, ?_, ?_, ?_, trivial⟩
  ·intro ev w hc hf hg hfix hdep hchg
   refine Or.inl ⟨trivial, Or.inr (Or.inl ⟨12, #[], w, by go_simp, ?_⟩)⟩
   refine (merges_any w).mono ?_
   rintro e w9 ⟨rfl, hb⟩
   exact ⟨_, rfl, rfl, Chg.of_below hb⟩
  ·intro ev w hc hf hg hfix hdep hchg
   have e3 : ev (.tmp 3) = _ := hfix 3 (by decide)
   exact Or.inl ⟨trivial, Or.inl ⟨_, w, by go_simp, rfl, Chg.refl _ _⟩⟩
  ·intro ev w hc hf hg hfix hdep hchg
   have e36 : ev (.tmp 36) = _ := hdep 1 (by decide)
   obtain ⟨c0, c1, c2, c3, c4, c5, c6, c7, c8⟩ := leafblk (HL.out.below (RegC.chg0 (hchg [] (by kernel_rfl))))
   exact Or.inl ⟨trivial, Or.inl ⟨_, w, by go_simp, rfl, Chg.refl _ _⟩⟩
  ·intro ev w hc hf hg hfix hdep hchg
   have e35 : ev (.tmp 35) = _ := hdep 0 (by decide)
   have e37 : ev (.tmp 37) = _ := hdep 2 (by decide)
   have hkZ := HKZ.out
   rw [hkZ] at e37
   have hix := index_m1 w
   exact Or.inl ⟨trivial, Or.inl ⟨_, w, by go_simp, rfl, Chg.refl _ _⟩⟩
  ·intro ev w hc hf hg hfix hdep hchg
   have e3 : ev (.tmp 3) = _ := hfix 3 (by decide)
   obtain ⟨c0, c1, c2, c3, c4, c5, c6, c7, c8⟩ := leafblk (HL.out.below (RegC.chg0 (hchg [] (by kernel_rfl))))
   exact Or.inl ⟨trivial, Or.inl ⟨_, w, by go_simp, rfl, Chg.refl _ _⟩⟩
  ·intro ev w hc hf hg hfix hdep hchg
   have e4 : ev (.tmp 4) = _ := hfix 4 (by decide)
   obtain ⟨c0, c1, c2, c3, c4, c5, c6, c7, c8⟩ := leafblk (HA.out.below (RegC.chg0 (hchg [] (by kernel_rfl))))
   exact Or.inl ⟨trivial, Or.inl ⟨_, w, by go_simp, rfl, Chg.refl _ _⟩⟩
  ·intro ev w hc hf hg hfix hdep hchg
   have e5 : ev (.tmp 5) = _ := hfix 5 (by decide)
   obtain ⟨c0, c1, c2, c3, c4, c5, c6, c7, c8⟩ := leafblk (HB.out.below (RegC.chg0 (hchg [] (by kernel_rfl))))
   exact Or.inl ⟨trivial, Or.inl ⟨_, w, by go_simp, rfl, Chg.refl _ _⟩⟩
  ·intro ev w hc hf hg hfix hdep hchg
   have e38 : ev (.tmp 38) = _ := hdep 3 (by decide)
   have e39 : ev (.tmp 39) = _ := hdep 4 (by decide)
   have e40 : ev (.tmp 40) = _ := hdep 5 (by decide)
   have e41 : ev (.tmp 41) = _ := hdep 6 (by decide)
   refine Or.inl ⟨trivial, Or.inr (Or.inl ⟨25, #[.agg #[.int .u8 (kk : Int), .int .i64 n, .int .u64 (t : Int), .int .u8 (r : Int), .int .u32 (i : Int), .int .u64 (s : Int), .string x, .slice ia il ic, .slice da dl dc], .agg #[.int .u8 (kk' : Int), .int .i64 n', .int .u64 (t' : Int), .int .u8 (r' : Int), .int .u32 (i' : Int), .int .u64 (s' : Int), .string x', .slice ia' il' ic', .slice da' dl' dc'], .agg #[.int .u8 (kk'' : Int), .int .i64 n'', .int .u64 (t'' : Int), .int .u8 (r'' : Int), .int .u32 (i'' : Int), .int .u64 (s'' : Int), .string x'', .slice ia'' il'' ic'', .slice da'' dl'' dc'']], w, by go_simp, ?_⟩)⟩
   have hb0 := RegC.chg0 (hchg [] (by kernel_rfl))
   have hbw := HW.out.trans (hb0.mono HW.out.size)
   refine (merge_k1 kk n t r i s x ia il ic da dl dc li ld kk' n' t' r' i' s' x' ia' il' ic' da' dl' dc' li' ld' kk'' n'' t'' r'' i'' s'' x'' ia'' il'' ic'' da'' dl'' dc'' li'' ld'' w (HI'.out.below hbw) HIl'.out (HD'.out.below hbw) HDl'.out hn' hm' (HI''.out.below hbw) HIl''.out (HD''.out.below hbw) HDl''.out hn'' hm'' HK.out HK1.out HK2.out Hml.out Hma.out Hmb.out).mono ?_
   rintro e w9 ⟨⟨v9, rfl, h9⟩, hb⟩
   rw [← HM.out] at h9
   exact ⟨_, rfl, h9.base hb0.size, Chg.of_below hb⟩
  ·intro ev w hc hf hg hfix hdep hchg
   have e6 : ev (.tmp 6) = _ := hfix 6 (by decide)
   have e42 := hdep 7 (by decide)
   obtain ⟨a, m, c, a2, m2, c2, hv⟩ := MR.cells e42
   have hG := e42
   rw [hv] at hG
   have e42 : ev (.tmp 42) = .agg #[.int .u8 (M.kind : Int), .int .i64 M.n, .int .u64 (M.time : Int), .int .u8 (M.dot.1.1 : Int), .int .u32 (M.dot.1.2 : Int), .int .u64 (M.dot.2 : Int), .string M.text, .slice a m c, .slice a2 m2 c2] := hv
   have hR := HR.out.below (RegC.chg0 (hchg [] (by kernel_rfl)))
   obtain ⟨d0, d1, d2, d3, d4, d5, d6, d7, d8⟩ := leafblk hR
   obtain ⟨y0, y1, y2, y3, y4, y5, y6, y7, y8⟩ := hR.froz9
   have hc9 := chg9 w (W.heap.size + 1 + 1 + 1) (.int .u8 (M.kind : Int)) (.int .i64 M.n) (.int .u64 (M.time : Int)) (.int .u8 (M.dot.1.1 : Int)) (.int .u32 (M.dot.1.2 : Int)) (.int .u64 (M.dot.2 : Int)) (.string M.text) (.slice a m c) (.slice a2 m2 c2)
   exact Or.inl ⟨trivial, Or.inr (Or.inr ⟨(((((((((w.setCell ⟨W.heap.size + 1 + 1 + 1, 0, none⟩ (.int .u8 (M.kind : Int))).setCell ⟨W.heap.size + 1 + 1 + 1, 1, none⟩ (.int .i64 M.n)).setCell ⟨W.heap.size + 1 + 1 + 1, 2, none⟩ (.int .u64 (M.time : Int))).setCell ⟨W.heap.size + 1 + 1 + 1, 3, none⟩ (.int .u8 (M.dot.1.1 : Int))).setCell ⟨W.heap.size + 1 + 1 + 1, 4, none⟩ (.int .u32 (M.dot.1.2 : Int))).setCell ⟨W.heap.size + 1 + 1 + 1, 5, none⟩ (.int .u64 (M.dot.2 : Int))).setCell ⟨W.heap.size + 1 + 1 + 1, 6, none⟩ (.string M.text)).setCell ⟨W.heap.size + 1 + 1 + 1, 7, none⟩ (.slice a m c)).setCell ⟨W.heap.size + 1 + 1 + 1, 8, none⟩ (.slice a2 m2 c2)), by go_simp, ⟨_, _, _, _, _, _, blk9 hR _ _ _ _ _ _ _ _ _, MR.past hG hc9 HR.out.lt⟩, hc9⟩)⟩
  ·intro ev w hc hf hg hfix hdep hchg
   exact Or.inl ⟨trivial, Or.inl ⟨_, w, by go_simp, rfl, Chg.refl _ _⟩⟩
 ·intro v w2 hv hb2
  have r0 : v 0 = _ := hv 0 (by decide)
  have r1 : v 1 = _ := hv 1 (by decide)
  have r2 : v 2 = _ := hv 2 (by decide)
  have r3 : v 3 = _ := hv 3 (by decide)
  have r4 : v 4 = _ := hv 4 (by decide)
  have r5 : v 5 = _ := hv 5 (by decide)
  have r6 : v 6 = _ := hv 6 (by decide)
  have r7 := hv 7 (by decide)
  have r8 := hv 8 (by decide)
  have r9 : v 9 = _ := hv 9 (by decide)
  simp only [Reg.putAll, Act.put, List.setIfInBounds_toArray, List.set_cons_zero, List.set_cons_succ, r0, r1, r2, r3, r4, r5, r6, r9]
  clear r0 r1 r2 r3 r4 r5 r6 r9 hv
  obtain ⟨a, m, c, a2, m2, c2, hbk, hG⟩ := r8
  have HWF := Lib.hid (Chg.belowTrans HW.out (RegC.end1 hb2) (fun k _ e => by have : k = W.heap.size + 1 + 1 + 1 := e; omega) HW.out.size)
  have HBk := Lib.hid hbk; have HG := Lib.hid hG
  clear r7 hb2 hbk hG
  go_wp2_with fail
  refine bodyPost_ret (v := .tuple #[.agg #[.int .u8 (M.kind : Int), .int .i64 M.n, .int .u64 (M.time : Int), .int .u8 (M.dot.1.1 : Int), .int .u32 (M.dot.1.2 : Int), .int .u64 (M.dot.2 : Int), .string M.text, .slice a m c, .slice a2 m2 c2], .int .i64 0]) (res_leaf2 (b := W.heap.size + 1 + 1 + 1) Try.results6 (by simp) (by simp) HBk.out) rfl ⟨?_, HWF.out⟩
  obtain ⟨vI, rI, vD, rD, h1, h2, h3⟩ := HG.out.base HW.out.size
  exact ⟨vI, rI, vD, rD, by rw [h1], h2, h3⟩
set_option maxRecDepth 100000 in
set_option maxHeartbeats 12800000 in
theorem fmerge_k2 (kk : Nat) (n : Int) (t r i s : Nat) (x : ByteArray) (ia : Option Addr) (il ic : Nat) (da : Option Addr) (dl dc : Nat) (li : List Lm.It) (ld : List Dt.Dot) (kk' : Nat) (n' : Int) (t' r' i' s' : Nat) (x' : ByteArray) (ia' : Option Addr) (il' ic' : Nat) (da' : Option Addr) (dl' dc' : Nat) (li' : List Lm.It) (ld' : List Dt.Dot) (kk'' : Nat) (n'' : Int) (t'' r'' i'' s'' : Nat) (x'' : ByteArray) (ia'' : Option Addr) (il'' ic'' : Nat) (da'' : Option Addr) (dl'' dc'' : Nat) (li'' : List Lm.It) (ld'' : List Dt.Dot) (W : World) (hi : IRow W ia ic li) (hil : li.length = il) (hd : VRow W da dc ld) (hdl : ld.length = dl) (hn : il ≤ 4000) (hm : dl ≤ 4000) (hx : x.size ≤ 9223372036854775807) (hi' : IRow W ia' ic' li') (hil' : li'.length = il') (hd' : VRow W da' dc' ld') (hdl' : ld'.length = dl') (hn' : il' ≤ 4000) (hm' : dl' ≤ 4000) (hx' : x'.size ≤ 9223372036854775807) (hi'' : IRow W ia'' ic'' li'') (hil'' : li''.length = il'') (hd'' : VRow W da'' dc'' ld'') (hdl'' : ld''.length = dl'') (hn'' : il'' ≤ 4000) (hm'' : dl'' ≤ 4000) (hx'' : x''.size ≤ 9223372036854775807) (hml : Lm.may ⟨kk, n, t, ((r, i), s), x, li, ld⟩ = true) (hma : Lm.may ⟨kk', n', t', ((r', i'), s'), x', li', ld'⟩ = true) (hmb : Lm.may ⟨kk'', n'', t'', ((r'', i''), s''), x'', li'', ld''⟩ = true) (heq : kk' = kk) (heq2 : kk'' = kk) (hk : kk = 2) :
  Calls Try.prog 6 #[leafV kk n t r i s x ia il ic da dl dc, leafV kk' n' t' r' i' s' x' ia' il' ic' da' dl' dc', leafV kk'' n'' t'' r'' i'' s'' x'' ia'' il'' ic'' da'' dl'' dc''] W fun e w' => AE W.heap.size w' (Lm.merged ⟨kk, n, t, ((r, i), s), x, li, ld⟩ ⟨kk', n', t', ((r', i'), s'), x', li', ld'⟩ ⟨kk'', n'', t'', ((r'', i''), s''), x'', li'', ld''⟩) 0 e ∧ Below W.heap.size W w' := by
 obtain ⟨M, hM⟩ : ∃ M, M = Lm.merged ⟨kk, n, t, ((r, i), s), x, li, ld⟩ ⟨kk', n', t', ((r', i'), s'), x', li', ld'⟩ ⟨kk'', n'', t'', ((r'', i''), s''), x'', li'', ld''⟩ := ⟨_, rfl⟩
 rw [← hM]
 have HM := Lib.hid hM; have HK := Lib.hid hk; have HK1 := Lib.hid heq; have HK2 := Lib.hid heq2; have HKZ := Lib.hid (show (kk : Int) = 2 by omega)
 clear hM hk heq heq2
 have Hml := Lib.hid hml; clear hml
 have Hma := Lib.hid hma; clear hma
 have Hmb := Lib.hid hmb; clear hmb
 have HI := Lib.hid hi; have HIl := Lib.hid hil; have HD := Lib.hid hd; have HDl := Lib.hid hdl
 have HI' := Lib.hid hi'; have HIl' := Lib.hid hil'; have HD' := Lib.hid hd'; have HDl' := Lib.hid hdl'
 have HI'' := Lib.hid hi''; have HIl'' := Lib.hid hil''; have HD'' := Lib.hid hd''; have HDl'' := Lib.hid hdl''
 clear hi hil hd hdl hi' hil' hd' hdl' hi'' hil'' hd'' hdl''
 have hW := below_box4 W #[.int .u8 (kk : Int), .int .i64 n, .int .u64 (t : Int), .int .u8 (r : Int), .int .u32 (i : Int), .int .u64 (s : Int), .string x, .slice ia il ic, .slice da dl dc] #[.int .u8 (kk' : Int), .int .i64 n', .int .u64 (t' : Int), .int .u8 (r' : Int), .int .u32 (i' : Int), .int .u64 (s' : Int), .string x', .slice ia' il' ic', .slice da' dl' dc'] #[.int .u8 (kk'' : Int), .int .i64 n'', .int .u64 (t'' : Int), .int .u8 (r'' : Int), .int .u32 (i'' : Int), .int .u64 (s'' : Int), .string x'', .slice ia'' il'' ic'', .slice da'' dl'' dc''] #[.int .u8 0, .int .i64 0, .int .u64 0, .int .u8 0, .int .u32 0, .int .u64 0, .string ⟨#[]⟩, .slice none 0 0, .slice none 0 0] 40 40 40 40
 obtain ⟨hL, hA, hB, hR⟩ := blks4 (Below.refl ((((W.alloc (.cells #[.int .u8 (kk : Int), .int .i64 n, .int .u64 (t : Int), .int .u8 (r : Int), .int .u32 (i : Int), .int .u64 (s : Int), .string x, .slice ia il ic, .slice da dl dc] 40)).alloc (.cells #[.int .u8 (kk' : Int), .int .i64 n', .int .u64 (t' : Int), .int .u8 (r' : Int), .int .u32 (i' : Int), .int .u64 (s' : Int), .string x', .slice ia' il' ic', .slice da' dl' dc'] 40)).alloc (.cells #[.int .u8 (kk'' : Int), .int .i64 n'', .int .u64 (t'' : Int), .int .u8 (r'' : Int), .int .u32 (i'' : Int), .int .u64 (s'' : Int), .string x'', .slice ia'' il'' ic'', .slice da'' dl'' dc''] 40)).alloc (.cells #[.int .u8 0, .int .i64 0, .int .u64 0, .int .u8 0, .int .u32 0, .int .u64 0, .string ⟨#[]⟩, .slice none 0 0, .slice none 0 0] 40)).heap.size ((((W.alloc (.cells #[.int .u8 (kk : Int), .int .i64 n, .int .u64 (t : Int), .int .u8 (r : Int), .int .u32 (i : Int), .int .u64 (s : Int), .string x, .slice ia il ic, .slice da dl dc] 40)).alloc (.cells #[.int .u8 (kk' : Int), .int .i64 n', .int .u64 (t' : Int), .int .u8 (r' : Int), .int .u32 (i' : Int), .int .u64 (s' : Int), .string x', .slice ia' il' ic', .slice da' dl' dc'] 40)).alloc (.cells #[.int .u8 (kk'' : Int), .int .i64 n'', .int .u64 (t'' : Int), .int .u8 (r'' : Int), .int .u32 (i'' : Int), .int .u64 (s'' : Int), .string x'', .slice ia'' il'' ic'', .slice da'' dl'' dc''] 40)).alloc (.cells #[.int .u8 0, .int .i64 0, .int .u64 0, .int .u8 0, .int .u32 0, .int .u64 0, .string ⟨#[]⟩, .slice none 0 0, .slice none 0 0] 40)))
 go_enter Try.func6, Try.ntmps6
 go_wp2_with fail
 obtain ⟨X, hX⟩ : ∃ X, X = ((((W.alloc (.cells #[.int .u8 (kk : Int), .int .i64 n, .int .u64 (t : Int), .int .u8 (r : Int), .int .u32 (i : Int), .int .u64 (s : Int), .string x, .slice ia il ic, .slice da dl dc] 40)).alloc (.cells #[.int .u8 (kk' : Int), .int .i64 n', .int .u64 (t' : Int), .int .u8 (r' : Int), .int .u32 (i' : Int), .int .u64 (s' : Int), .string x', .slice ia' il' ic', .slice da' dl' dc'] 40)).alloc (.cells #[.int .u8 (kk'' : Int), .int .i64 n'', .int .u64 (t'' : Int), .int .u8 (r'' : Int), .int .u32 (i'' : Int), .int .u64 (s'' : Int), .string x'', .slice ia'' il'' ic'', .slice da'' dl'' dc''] 40)).alloc (.cells #[.int .u8 0, .int .i64 0, .int .u64 0, .int .u8 0, .int .u32 0, .int .u64 0, .string ⟨#[]⟩, .slice none 0 0, .slice none 0 0] 40)) := ⟨_, rfl⟩
 rw [← hX] at hW hL hA hB hR ⊢
 have HW := Lib.hid hW; have HL := Lib.hid hL; have HA := Lib.hid hA; have HB := Lib.hid hB; have HR := Lib.hid hR
 clear hX hW hL hA hB hR
 refine (leafmay_any kk n t r i s x ia il ic da dl dc li ld _ (HI.out.below HW.out) HIl.out (HD.out.below HW.out) HDl.out hx (by omega)).mono ?_
 rintro e w1 ⟨rfl, hb⟩
 rw [Hml.out]
 have hW := HW.out.trans (hb.mono HW.out.size)
 have hL := HL.out.below hb; have hA := HA.out.below hb; have hB := HB.out.below hb; have hR := HR.out.below hb
 clear HW HL HA HB HR hb
 have HW := Lib.hid hW; have HL := Lib.hid hL; have HA := Lib.hid hA; have HB := Lib.hid hB; have HR := Lib.hid hR
 clear hW hL hA hB hR
 obtain ⟨p0, p1, p2, p3, p4, p5, p6, p7, p8⟩ := leafblk HA.out
 go_wp2_with fail
 clear p0 p1 p2 p3 p4 p5 p6 p7 p8
 refine (leafmay_any kk' n' t' r' i' s' x' ia' il' ic' da' dl' dc' li' ld' _ (HI'.out.below HW.out) HIl'.out (HD'.out.below HW.out) HDl'.out hx' (by omega)).mono ?_
 rintro e w2 ⟨rfl, hb⟩
 rw [Hma.out]
 have hW := HW.out.trans (hb.mono HW.out.size)
 have hL := HL.out.below hb; have hA := HA.out.below hb; have hB := HB.out.below hb; have hR := HR.out.below hb
 clear HW HL HA HB HR hb
 have HW := Lib.hid hW; have HL := Lib.hid hL; have HA := Lib.hid hA; have HB := Lib.hid hB; have HR := Lib.hid hR
 clear hW hL hA hB hR
 obtain ⟨p0, p1, p2, p3, p4, p5, p6, p7, p8⟩ := leafblk HB.out
 go_wp2_with fail
 clear p0 p1 p2 p3 p4 p5 p6 p7 p8
 refine (leafmay_any kk'' n'' t'' r'' i'' s'' x'' ia'' il'' ic'' da'' dl'' dc'' li'' ld'' _ (HI''.out.below HW.out) HIl''.out (HD''.out.below HW.out) HDl''.out hx'' (by omega)).mono ?_
 rintro e w3 ⟨rfl, hb⟩
 rw [Hmb.out]
 have hW := HW.out.trans (hb.mono HW.out.size)
 have hL := HL.out.below hb; have hA := HA.out.below hb; have hB := HB.out.below hb; have hR := HR.out.below hb
 clear HW HL HA HB HR hb
 have HW := Lib.hid hW; have HL := Lib.hid hL; have HA := Lib.hid hA; have HB := Lib.hid hB; have HR := Lib.hid hR
 clear hW hL hA hB hR
 have k0 := (leafblk HL.out).1; have k1 := (leafblk HA.out).1; have k2 := (leafblk HB.out).1
 have heq1 : (kk' : Int) = (kk : Int) := by have := HK1.out; omega
 have heq3 : (kk'' : Int) = (kk : Int) := by have := HK2.out; omega
 obtain ⟨Y, hY⟩ : ∃ Y, Y = w3 := ⟨_, rfl⟩
 rw [← hY] at k0 k1 k2 ⊢
 have hW := HW.out; have hL := HL.out; have hA := HA.out; have hB := HB.out; have hR := HR.out
 rw [← hY] at hW hL hA hB hR
 clear HW HL HA HB HR
 have HW := Lib.hid hW; have HL := Lib.hid hL; have HA := Lib.hid hA; have HB := Lib.hid hB; have HR := Lib.hid hR
 clear hW hL hA hB hR hY
 go_wp2_with fail
 clear k0 k1 k2 heq1 heq3
 refine RegC.region_list (by kernel_rfl) [8] [RegC.plain (fun v _ => v = .agg #[Value.nilFunc, .func (.func 25) #[] #[], .func (.func 26) #[] #[], .func (.func 27) #[] #[], .func (.func 28) #[] #[]]), RegC.plain (fun v _ => v = .pointer (some ⟨W.heap.size, 0, none⟩)), RegC.plain (fun v _ => v = .int .u8 (kk : Int)), RegC.plain (fun v _ => v = .func (.func 26) #[] #[]), RegC.plain (fun v _ => v = .agg #[.int .u8 (kk : Int), .int .i64 n, .int .u64 (t : Int), .int .u8 (r : Int), .int .u32 (i : Int), .int .u64 (s : Int), .string x, .slice ia il ic, .slice da dl dc]), RegC.plain (fun v _ => v = .agg #[.int .u8 (kk' : Int), .int .i64 n', .int .u64 (t' : Int), .int .u8 (r' : Int), .int .u32 (i' : Int), .int .u64 (s' : Int), .string x', .slice ia' il' ic', .slice da' dl' dc']), RegC.plain (fun v _ => v = .agg #[.int .u8 (kk'' : Int), .int .i64 n'', .int .u64 (t'' : Int), .int .u8 (r'' : Int), .int .u32 (i'' : Int), .int .u64 (s'' : Int), .string x'', .slice ia'' il'' ic'', .slice da'' dl'' dc'']), RegC.plain (fun v w => MR Y.heap.size w M v), RegC.change (fun v w => ∃ a m c a2 m2 c2, Blk w (W.heap.size + 1 + 1 + 1) 40 [.int .u8 (M.kind : Int), .int .i64 M.n, .int .u64 (M.time : Int), .int .u8 (M.dot.1.1 : Int), .int .u32 (M.dot.1.2 : Int), .int .u64 (M.dot.2 : Int), .string M.text, .slice a m c, .slice a2 m2 c2] ∧ MR Y.heap.size w M (.agg #[.int .u8 (M.kind : Int), .int .i64 M.n, .int .u64 (M.time : Int), .int .u8 (M.dot.1.1 : Int), .int .u32 (M.dot.1.2 : Int), .int .u64 (M.dot.2 : Int), .string M.text, .slice a m c, .slice a2 m2 c2])) (fun k => k = W.heap.size + 1 + 1 + 1), RegC.plain (fun v _ => v = .int .i64 0)] (by kernel_rfl) ?_ ?_ ?_ ?_ ?_
 ·exact ⟨Or.inr (fun _ h => h), Or.inr (fun _ h => h), Or.inr (fun _ h => h), Or.inr (fun _ h => h), Or.inr (fun _ h => h), Or.inr (fun _ h => h), Or.inr (fun _ h => h), Or.inr (fun _ h => h), Or.inl (by decide), Or.inr (fun _ h => h), trivial⟩
 ·refine ⟨k4, k4, k4, k4, k4, k4, k4, (fun v wa wb hb h => by exact MR.below h hb), (fun v wa wb hb h => by obtain ⟨a, m, c, a2, m2, c2, h1, h2⟩ := h; exact ⟨a, m, c, a2, m2, c2, h1.below hb, h2.below hb⟩), k4, trivial⟩
 ·refine ⟨⟨Or.inr (Or.inr k4), Or.inr (Or.inr k4), Or.inr (Or.inr k4), Or.inr (Or.inr k4), Or.inr (Or.inr k4), Or.inr (Or.inr k4), Or.inr (Or.inr k4), Or.inr (Or.inr (fun v wa wb hr h => by exact MR.past h hr HR.out.lt)), Or.inl rfl, Or.inr (Or.inr k4), trivial⟩, trivial⟩
 ·refine ⟨?_, ?_, ?_, ?_, ?_, ?_, ?_, ?_, ?_, ?_, trivial⟩
  ·intro ev w hc hf hg hfix hdep hchg
   refine Or.inl ⟨trivial, Or.inr (Or.inl ⟨12, #[], w, by go_simp, ?_⟩)⟩
   refine (merges_any w).mono ?_
   rintro e w9 ⟨rfl, hb⟩
   exact ⟨_, rfl, rfl, Chg.of_below hb⟩
  ·intro ev w hc hf hg hfix hdep hchg
   have e3 : ev (.tmp 3) = _ := hfix 3 (by decide)
   exact Or.inl ⟨trivial, Or.inl ⟨_, w, by go_simp, rfl, Chg.refl _ _⟩⟩
  ·intro ev w hc hf hg hfix hdep hchg
   have e36 : ev (.tmp 36) = _ := hdep 1 (by decide)
   obtain ⟨c0, c1, c2, c3, c4, c5, c6, c7, c8⟩ := leafblk (HL.out.below (RegC.chg0 (hchg [] (by kernel_rfl))))
   exact Or.inl ⟨trivial, Or.inl ⟨_, w, by go_simp, rfl, Chg.refl _ _⟩⟩
  ·intro ev w hc hf hg hfix hdep hchg
   have e35 : ev (.tmp 35) = _ := hdep 0 (by decide)
   have e37 : ev (.tmp 37) = _ := hdep 2 (by decide)
   have hkZ := HKZ.out
   rw [hkZ] at e37
   have hix := index_m2 w
   exact Or.inl ⟨trivial, Or.inl ⟨_, w, by go_simp, rfl, Chg.refl _ _⟩⟩
  ·intro ev w hc hf hg hfix hdep hchg
   have e3 : ev (.tmp 3) = _ := hfix 3 (by decide)
   obtain ⟨c0, c1, c2, c3, c4, c5, c6, c7, c8⟩ := leafblk (HL.out.below (RegC.chg0 (hchg [] (by kernel_rfl))))
   exact Or.inl ⟨trivial, Or.inl ⟨_, w, by go_simp, rfl, Chg.refl _ _⟩⟩
  ·intro ev w hc hf hg hfix hdep hchg
   have e4 : ev (.tmp 4) = _ := hfix 4 (by decide)
   obtain ⟨c0, c1, c2, c3, c4, c5, c6, c7, c8⟩ := leafblk (HA.out.below (RegC.chg0 (hchg [] (by kernel_rfl))))
   exact Or.inl ⟨trivial, Or.inl ⟨_, w, by go_simp, rfl, Chg.refl _ _⟩⟩
  ·intro ev w hc hf hg hfix hdep hchg
   have e5 : ev (.tmp 5) = _ := hfix 5 (by decide)
   obtain ⟨c0, c1, c2, c3, c4, c5, c6, c7, c8⟩ := leafblk (HB.out.below (RegC.chg0 (hchg [] (by kernel_rfl))))
   exact Or.inl ⟨trivial, Or.inl ⟨_, w, by go_simp, rfl, Chg.refl _ _⟩⟩
  ·intro ev w hc hf hg hfix hdep hchg
   have e38 : ev (.tmp 38) = _ := hdep 3 (by decide)
   have e39 : ev (.tmp 39) = _ := hdep 4 (by decide)
   have e40 : ev (.tmp 40) = _ := hdep 5 (by decide)
   have e41 : ev (.tmp 41) = _ := hdep 6 (by decide)
   refine Or.inl ⟨trivial, Or.inr (Or.inl ⟨26, #[.agg #[.int .u8 (kk : Int), .int .i64 n, .int .u64 (t : Int), .int .u8 (r : Int), .int .u32 (i : Int), .int .u64 (s : Int), .string x, .slice ia il ic, .slice da dl dc], .agg #[.int .u8 (kk' : Int), .int .i64 n', .int .u64 (t' : Int), .int .u8 (r' : Int), .int .u32 (i' : Int), .int .u64 (s' : Int), .string x', .slice ia' il' ic', .slice da' dl' dc'], .agg #[.int .u8 (kk'' : Int), .int .i64 n'', .int .u64 (t'' : Int), .int .u8 (r'' : Int), .int .u32 (i'' : Int), .int .u64 (s'' : Int), .string x'', .slice ia'' il'' ic'', .slice da'' dl'' dc'']], w, by go_simp, ?_⟩)⟩
   have hb0 := RegC.chg0 (hchg [] (by kernel_rfl))
   have hbw := HW.out.trans (hb0.mono HW.out.size)
   refine (merge_k2 kk n t r i s x ia il ic da dl dc li ld kk' n' t' r' i' s' x' ia' il' ic' da' dl' dc' li' ld' kk'' n'' t'' r'' i'' s'' x'' ia'' il'' ic'' da'' dl'' dc'' li'' ld'' w (HI'.out.below hbw) HIl'.out (HD'.out.below hbw) HDl'.out hn' hm' (HI''.out.below hbw) HIl''.out (HD''.out.below hbw) HDl''.out hn'' hm'' HK.out HK1.out HK2.out Hml.out Hma.out Hmb.out).mono ?_
   rintro e w9 ⟨⟨v9, rfl, h9⟩, hb⟩
   rw [← HM.out] at h9
   exact ⟨_, rfl, h9.base hb0.size, Chg.of_below hb⟩
  ·intro ev w hc hf hg hfix hdep hchg
   have e6 : ev (.tmp 6) = _ := hfix 6 (by decide)
   have e42 := hdep 7 (by decide)
   obtain ⟨a, m, c, a2, m2, c2, hv⟩ := MR.cells e42
   have hG := e42
   rw [hv] at hG
   have e42 : ev (.tmp 42) = .agg #[.int .u8 (M.kind : Int), .int .i64 M.n, .int .u64 (M.time : Int), .int .u8 (M.dot.1.1 : Int), .int .u32 (M.dot.1.2 : Int), .int .u64 (M.dot.2 : Int), .string M.text, .slice a m c, .slice a2 m2 c2] := hv
   have hR := HR.out.below (RegC.chg0 (hchg [] (by kernel_rfl)))
   obtain ⟨d0, d1, d2, d3, d4, d5, d6, d7, d8⟩ := leafblk hR
   obtain ⟨y0, y1, y2, y3, y4, y5, y6, y7, y8⟩ := hR.froz9
   have hc9 := chg9 w (W.heap.size + 1 + 1 + 1) (.int .u8 (M.kind : Int)) (.int .i64 M.n) (.int .u64 (M.time : Int)) (.int .u8 (M.dot.1.1 : Int)) (.int .u32 (M.dot.1.2 : Int)) (.int .u64 (M.dot.2 : Int)) (.string M.text) (.slice a m c) (.slice a2 m2 c2)
   exact Or.inl ⟨trivial, Or.inr (Or.inr ⟨(((((((((w.setCell ⟨W.heap.size + 1 + 1 + 1, 0, none⟩ (.int .u8 (M.kind : Int))).setCell ⟨W.heap.size + 1 + 1 + 1, 1, none⟩ (.int .i64 M.n)).setCell ⟨W.heap.size + 1 + 1 + 1, 2, none⟩ (.int .u64 (M.time : Int))).setCell ⟨W.heap.size + 1 + 1 + 1, 3, none⟩ (.int .u8 (M.dot.1.1 : Int))).setCell ⟨W.heap.size + 1 + 1 + 1, 4, none⟩ (.int .u32 (M.dot.1.2 : Int))).setCell ⟨W.heap.size + 1 + 1 + 1, 5, none⟩ (.int .u64 (M.dot.2 : Int))).setCell ⟨W.heap.size + 1 + 1 + 1, 6, none⟩ (.string M.text)).setCell ⟨W.heap.size + 1 + 1 + 1, 7, none⟩ (.slice a m c)).setCell ⟨W.heap.size + 1 + 1 + 1, 8, none⟩ (.slice a2 m2 c2)), by go_simp, ⟨_, _, _, _, _, _, blk9 hR _ _ _ _ _ _ _ _ _, MR.past hG hc9 HR.out.lt⟩, hc9⟩)⟩
  ·intro ev w hc hf hg hfix hdep hchg
   exact Or.inl ⟨trivial, Or.inl ⟨_, w, by go_simp, rfl, Chg.refl _ _⟩⟩
 ·intro v w2 hv hb2
  have r0 : v 0 = _ := hv 0 (by decide)
  have r1 : v 1 = _ := hv 1 (by decide)
  have r2 : v 2 = _ := hv 2 (by decide)
  have r3 : v 3 = _ := hv 3 (by decide)
  have r4 : v 4 = _ := hv 4 (by decide)
  have r5 : v 5 = _ := hv 5 (by decide)
  have r6 : v 6 = _ := hv 6 (by decide)
  have r7 := hv 7 (by decide)
  have r8 := hv 8 (by decide)
  have r9 : v 9 = _ := hv 9 (by decide)
  simp only [Reg.putAll, Act.put, List.setIfInBounds_toArray, List.set_cons_zero, List.set_cons_succ, r0, r1, r2, r3, r4, r5, r6, r9]
  clear r0 r1 r2 r3 r4 r5 r6 r9 hv
  obtain ⟨a, m, c, a2, m2, c2, hbk, hG⟩ := r8
  have HWF := Lib.hid (Chg.belowTrans HW.out (RegC.end1 hb2) (fun k _ e => by have : k = W.heap.size + 1 + 1 + 1 := e; omega) HW.out.size)
  have HBk := Lib.hid hbk; have HG := Lib.hid hG
  clear r7 hb2 hbk hG
  go_wp2_with fail
  refine bodyPost_ret (v := .tuple #[.agg #[.int .u8 (M.kind : Int), .int .i64 M.n, .int .u64 (M.time : Int), .int .u8 (M.dot.1.1 : Int), .int .u32 (M.dot.1.2 : Int), .int .u64 (M.dot.2 : Int), .string M.text, .slice a m c, .slice a2 m2 c2], .int .i64 0]) (res_leaf2 (b := W.heap.size + 1 + 1 + 1) Try.results6 (by simp) (by simp) HBk.out) rfl ⟨?_, HWF.out⟩
  obtain ⟨vI, rI, vD, rD, h1, h2, h3⟩ := HG.out.base HW.out.size
  exact ⟨vI, rI, vD, rD, by rw [h1], h2, h3⟩
set_option maxRecDepth 100000 in
set_option maxHeartbeats 12800000 in
theorem fmerge_k3 (kk : Nat) (n : Int) (t r i s : Nat) (x : ByteArray) (ia : Option Addr) (il ic : Nat) (da : Option Addr) (dl dc : Nat) (li : List Lm.It) (ld : List Dt.Dot) (kk' : Nat) (n' : Int) (t' r' i' s' : Nat) (x' : ByteArray) (ia' : Option Addr) (il' ic' : Nat) (da' : Option Addr) (dl' dc' : Nat) (li' : List Lm.It) (ld' : List Dt.Dot) (kk'' : Nat) (n'' : Int) (t'' r'' i'' s'' : Nat) (x'' : ByteArray) (ia'' : Option Addr) (il'' ic'' : Nat) (da'' : Option Addr) (dl'' dc'' : Nat) (li'' : List Lm.It) (ld'' : List Dt.Dot) (W : World) (hi : IRow W ia ic li) (hil : li.length = il) (hd : VRow W da dc ld) (hdl : ld.length = dl) (hn : il ≤ 4000) (hm : dl ≤ 4000) (hx : x.size ≤ 9223372036854775807) (hi' : IRow W ia' ic' li') (hil' : li'.length = il') (hd' : VRow W da' dc' ld') (hdl' : ld'.length = dl') (hn' : il' ≤ 4000) (hm' : dl' ≤ 4000) (hx' : x'.size ≤ 9223372036854775807) (hi'' : IRow W ia'' ic'' li'') (hil'' : li''.length = il'') (hd'' : VRow W da'' dc'' ld'') (hdl'' : ld''.length = dl'') (hn'' : il'' ≤ 4000) (hm'' : dl'' ≤ 4000) (hx'' : x''.size ≤ 9223372036854775807) (hml : Lm.may ⟨kk, n, t, ((r, i), s), x, li, ld⟩ = true) (hma : Lm.may ⟨kk', n', t', ((r', i'), s'), x', li', ld'⟩ = true) (hmb : Lm.may ⟨kk'', n'', t'', ((r'', i''), s''), x'', li'', ld''⟩ = true) (heq : kk' = kk) (heq2 : kk'' = kk) (hk : kk = 3) :
  Calls Try.prog 6 #[leafV kk n t r i s x ia il ic da dl dc, leafV kk' n' t' r' i' s' x' ia' il' ic' da' dl' dc', leafV kk'' n'' t'' r'' i'' s'' x'' ia'' il'' ic'' da'' dl'' dc''] W fun e w' => AE W.heap.size w' (Lm.merged ⟨kk, n, t, ((r, i), s), x, li, ld⟩ ⟨kk', n', t', ((r', i'), s'), x', li', ld'⟩ ⟨kk'', n'', t'', ((r'', i''), s''), x'', li'', ld''⟩) 0 e ∧ Below W.heap.size W w' := by
 obtain ⟨M, hM⟩ : ∃ M, M = Lm.merged ⟨kk, n, t, ((r, i), s), x, li, ld⟩ ⟨kk', n', t', ((r', i'), s'), x', li', ld'⟩ ⟨kk'', n'', t'', ((r'', i''), s''), x'', li'', ld''⟩ := ⟨_, rfl⟩
 rw [← hM]
 have HM := Lib.hid hM; have HK := Lib.hid hk; have HK1 := Lib.hid heq; have HK2 := Lib.hid heq2; have HKZ := Lib.hid (show (kk : Int) = 3 by omega)
 clear hM hk heq heq2
 have Hml := Lib.hid hml; clear hml
 have Hma := Lib.hid hma; clear hma
 have Hmb := Lib.hid hmb; clear hmb
 have HI := Lib.hid hi; have HIl := Lib.hid hil; have HD := Lib.hid hd; have HDl := Lib.hid hdl
 have HI' := Lib.hid hi'; have HIl' := Lib.hid hil'; have HD' := Lib.hid hd'; have HDl' := Lib.hid hdl'
 have HI'' := Lib.hid hi''; have HIl'' := Lib.hid hil''; have HD'' := Lib.hid hd''; have HDl'' := Lib.hid hdl''
 clear hi hil hd hdl hi' hil' hd' hdl' hi'' hil'' hd'' hdl''
 have hW := below_box4 W #[.int .u8 (kk : Int), .int .i64 n, .int .u64 (t : Int), .int .u8 (r : Int), .int .u32 (i : Int), .int .u64 (s : Int), .string x, .slice ia il ic, .slice da dl dc] #[.int .u8 (kk' : Int), .int .i64 n', .int .u64 (t' : Int), .int .u8 (r' : Int), .int .u32 (i' : Int), .int .u64 (s' : Int), .string x', .slice ia' il' ic', .slice da' dl' dc'] #[.int .u8 (kk'' : Int), .int .i64 n'', .int .u64 (t'' : Int), .int .u8 (r'' : Int), .int .u32 (i'' : Int), .int .u64 (s'' : Int), .string x'', .slice ia'' il'' ic'', .slice da'' dl'' dc''] #[.int .u8 0, .int .i64 0, .int .u64 0, .int .u8 0, .int .u32 0, .int .u64 0, .string ⟨#[]⟩, .slice none 0 0, .slice none 0 0] 40 40 40 40
 obtain ⟨hL, hA, hB, hR⟩ := blks4 (Below.refl ((((W.alloc (.cells #[.int .u8 (kk : Int), .int .i64 n, .int .u64 (t : Int), .int .u8 (r : Int), .int .u32 (i : Int), .int .u64 (s : Int), .string x, .slice ia il ic, .slice da dl dc] 40)).alloc (.cells #[.int .u8 (kk' : Int), .int .i64 n', .int .u64 (t' : Int), .int .u8 (r' : Int), .int .u32 (i' : Int), .int .u64 (s' : Int), .string x', .slice ia' il' ic', .slice da' dl' dc'] 40)).alloc (.cells #[.int .u8 (kk'' : Int), .int .i64 n'', .int .u64 (t'' : Int), .int .u8 (r'' : Int), .int .u32 (i'' : Int), .int .u64 (s'' : Int), .string x'', .slice ia'' il'' ic'', .slice da'' dl'' dc''] 40)).alloc (.cells #[.int .u8 0, .int .i64 0, .int .u64 0, .int .u8 0, .int .u32 0, .int .u64 0, .string ⟨#[]⟩, .slice none 0 0, .slice none 0 0] 40)).heap.size ((((W.alloc (.cells #[.int .u8 (kk : Int), .int .i64 n, .int .u64 (t : Int), .int .u8 (r : Int), .int .u32 (i : Int), .int .u64 (s : Int), .string x, .slice ia il ic, .slice da dl dc] 40)).alloc (.cells #[.int .u8 (kk' : Int), .int .i64 n', .int .u64 (t' : Int), .int .u8 (r' : Int), .int .u32 (i' : Int), .int .u64 (s' : Int), .string x', .slice ia' il' ic', .slice da' dl' dc'] 40)).alloc (.cells #[.int .u8 (kk'' : Int), .int .i64 n'', .int .u64 (t'' : Int), .int .u8 (r'' : Int), .int .u32 (i'' : Int), .int .u64 (s'' : Int), .string x'', .slice ia'' il'' ic'', .slice da'' dl'' dc''] 40)).alloc (.cells #[.int .u8 0, .int .i64 0, .int .u64 0, .int .u8 0, .int .u32 0, .int .u64 0, .string ⟨#[]⟩, .slice none 0 0, .slice none 0 0] 40)))
 go_enter Try.func6, Try.ntmps6
 go_wp2_with fail
 obtain ⟨X, hX⟩ : ∃ X, X = ((((W.alloc (.cells #[.int .u8 (kk : Int), .int .i64 n, .int .u64 (t : Int), .int .u8 (r : Int), .int .u32 (i : Int), .int .u64 (s : Int), .string x, .slice ia il ic, .slice da dl dc] 40)).alloc (.cells #[.int .u8 (kk' : Int), .int .i64 n', .int .u64 (t' : Int), .int .u8 (r' : Int), .int .u32 (i' : Int), .int .u64 (s' : Int), .string x', .slice ia' il' ic', .slice da' dl' dc'] 40)).alloc (.cells #[.int .u8 (kk'' : Int), .int .i64 n'', .int .u64 (t'' : Int), .int .u8 (r'' : Int), .int .u32 (i'' : Int), .int .u64 (s'' : Int), .string x'', .slice ia'' il'' ic'', .slice da'' dl'' dc''] 40)).alloc (.cells #[.int .u8 0, .int .i64 0, .int .u64 0, .int .u8 0, .int .u32 0, .int .u64 0, .string ⟨#[]⟩, .slice none 0 0, .slice none 0 0] 40)) := ⟨_, rfl⟩
 rw [← hX] at hW hL hA hB hR ⊢
 have HW := Lib.hid hW; have HL := Lib.hid hL; have HA := Lib.hid hA; have HB := Lib.hid hB; have HR := Lib.hid hR
 clear hX hW hL hA hB hR
 refine (leafmay_any kk n t r i s x ia il ic da dl dc li ld _ (HI.out.below HW.out) HIl.out (HD.out.below HW.out) HDl.out hx (by omega)).mono ?_
 rintro e w1 ⟨rfl, hb⟩
 rw [Hml.out]
 have hW := HW.out.trans (hb.mono HW.out.size)
 have hL := HL.out.below hb; have hA := HA.out.below hb; have hB := HB.out.below hb; have hR := HR.out.below hb
 clear HW HL HA HB HR hb
 have HW := Lib.hid hW; have HL := Lib.hid hL; have HA := Lib.hid hA; have HB := Lib.hid hB; have HR := Lib.hid hR
 clear hW hL hA hB hR
 obtain ⟨p0, p1, p2, p3, p4, p5, p6, p7, p8⟩ := leafblk HA.out
 go_wp2_with fail
 clear p0 p1 p2 p3 p4 p5 p6 p7 p8
 refine (leafmay_any kk' n' t' r' i' s' x' ia' il' ic' da' dl' dc' li' ld' _ (HI'.out.below HW.out) HIl'.out (HD'.out.below HW.out) HDl'.out hx' (by omega)).mono ?_
 rintro e w2 ⟨rfl, hb⟩
 rw [Hma.out]
 have hW := HW.out.trans (hb.mono HW.out.size)
 have hL := HL.out.below hb; have hA := HA.out.below hb; have hB := HB.out.below hb; have hR := HR.out.below hb
 clear HW HL HA HB HR hb
 have HW := Lib.hid hW; have HL := Lib.hid hL; have HA := Lib.hid hA; have HB := Lib.hid hB; have HR := Lib.hid hR
 clear hW hL hA hB hR
 obtain ⟨p0, p1, p2, p3, p4, p5, p6, p7, p8⟩ := leafblk HB.out
 go_wp2_with fail
 clear p0 p1 p2 p3 p4 p5 p6 p7 p8
 refine (leafmay_any kk'' n'' t'' r'' i'' s'' x'' ia'' il'' ic'' da'' dl'' dc'' li'' ld'' _ (HI''.out.below HW.out) HIl''.out (HD''.out.below HW.out) HDl''.out hx'' (by omega)).mono ?_
 rintro e w3 ⟨rfl, hb⟩
 rw [Hmb.out]
 have hW := HW.out.trans (hb.mono HW.out.size)
 have hL := HL.out.below hb; have hA := HA.out.below hb; have hB := HB.out.below hb; have hR := HR.out.below hb
 clear HW HL HA HB HR hb
 have HW := Lib.hid hW; have HL := Lib.hid hL; have HA := Lib.hid hA; have HB := Lib.hid hB; have HR := Lib.hid hR
 clear hW hL hA hB hR
 have k0 := (leafblk HL.out).1; have k1 := (leafblk HA.out).1; have k2 := (leafblk HB.out).1
 have heq1 : (kk' : Int) = (kk : Int) := by have := HK1.out; omega
 have heq3 : (kk'' : Int) = (kk : Int) := by have := HK2.out; omega
 obtain ⟨Y, hY⟩ : ∃ Y, Y = w3 := ⟨_, rfl⟩
 rw [← hY] at k0 k1 k2 ⊢
 have hW := HW.out; have hL := HL.out; have hA := HA.out; have hB := HB.out; have hR := HR.out
 rw [← hY] at hW hL hA hB hR
 clear HW HL HA HB HR
 have HW := Lib.hid hW; have HL := Lib.hid hL; have HA := Lib.hid hA; have HB := Lib.hid hB; have HR := Lib.hid hR
 clear hW hL hA hB hR hY
 go_wp2_with fail
 clear k0 k1 k2 heq1 heq3
 refine RegC.region_list (by kernel_rfl) [8] [RegC.plain (fun v _ => v = .agg #[Value.nilFunc, .func (.func 25) #[] #[], .func (.func 26) #[] #[], .func (.func 27) #[] #[], .func (.func 28) #[] #[]]), RegC.plain (fun v _ => v = .pointer (some ⟨W.heap.size, 0, none⟩)), RegC.plain (fun v _ => v = .int .u8 (kk : Int)), RegC.plain (fun v _ => v = .func (.func 27) #[] #[]), RegC.plain (fun v _ => v = .agg #[.int .u8 (kk : Int), .int .i64 n, .int .u64 (t : Int), .int .u8 (r : Int), .int .u32 (i : Int), .int .u64 (s : Int), .string x, .slice ia il ic, .slice da dl dc]), RegC.plain (fun v _ => v = .agg #[.int .u8 (kk' : Int), .int .i64 n', .int .u64 (t' : Int), .int .u8 (r' : Int), .int .u32 (i' : Int), .int .u64 (s' : Int), .string x', .slice ia' il' ic', .slice da' dl' dc']), RegC.plain (fun v _ => v = .agg #[.int .u8 (kk'' : Int), .int .i64 n'', .int .u64 (t'' : Int), .int .u8 (r'' : Int), .int .u32 (i'' : Int), .int .u64 (s'' : Int), .string x'', .slice ia'' il'' ic'', .slice da'' dl'' dc'']), RegC.plain (fun v w => MR Y.heap.size w M v), RegC.change (fun v w => ∃ a m c a2 m2 c2, Blk w (W.heap.size + 1 + 1 + 1) 40 [.int .u8 (M.kind : Int), .int .i64 M.n, .int .u64 (M.time : Int), .int .u8 (M.dot.1.1 : Int), .int .u32 (M.dot.1.2 : Int), .int .u64 (M.dot.2 : Int), .string M.text, .slice a m c, .slice a2 m2 c2] ∧ MR Y.heap.size w M (.agg #[.int .u8 (M.kind : Int), .int .i64 M.n, .int .u64 (M.time : Int), .int .u8 (M.dot.1.1 : Int), .int .u32 (M.dot.1.2 : Int), .int .u64 (M.dot.2 : Int), .string M.text, .slice a m c, .slice a2 m2 c2])) (fun k => k = W.heap.size + 1 + 1 + 1), RegC.plain (fun v _ => v = .int .i64 0)] (by kernel_rfl) ?_ ?_ ?_ ?_ ?_
 ·exact ⟨Or.inr (fun _ h => h), Or.inr (fun _ h => h), Or.inr (fun _ h => h), Or.inr (fun _ h => h), Or.inr (fun _ h => h), Or.inr (fun _ h => h), Or.inr (fun _ h => h), Or.inr (fun _ h => h), Or.inl (by decide), Or.inr (fun _ h => h), trivial⟩
 ·refine ⟨k4, k4, k4, k4, k4, k4, k4, (fun v wa wb hb h => by exact MR.below h hb), (fun v wa wb hb h => by obtain ⟨a, m, c, a2, m2, c2, h1, h2⟩ := h; exact ⟨a, m, c, a2, m2, c2, h1.below hb, h2.below hb⟩), k4, trivial⟩
 ·refine ⟨⟨Or.inr (Or.inr k4), Or.inr (Or.inr k4), Or.inr (Or.inr k4), Or.inr (Or.inr k4), Or.inr (Or.inr k4), Or.inr (Or.inr k4), Or.inr (Or.inr k4), Or.inr (Or.inr (fun v wa wb hr h => by exact MR.past h hr HR.out.lt)), Or.inl rfl, Or.inr (Or.inr k4), trivial⟩, trivial⟩
 ·refine ⟨?_, ?_, ?_, ?_, ?_, ?_, ?_, ?_, ?_, ?_, trivial⟩
  ·intro ev w hc hf hg hfix hdep hchg
   refine Or.inl ⟨trivial, Or.inr (Or.inl ⟨12, #[], w, by go_simp, ?_⟩)⟩
   refine (merges_any w).mono ?_
   rintro e w9 ⟨rfl, hb⟩
   exact ⟨_, rfl, rfl, Chg.of_below hb⟩
  ·intro ev w hc hf hg hfix hdep hchg
   have e3 : ev (.tmp 3) = _ := hfix 3 (by decide)
   exact Or.inl ⟨trivial, Or.inl ⟨_, w, by go_simp, rfl, Chg.refl _ _⟩⟩
  ·intro ev w hc hf hg hfix hdep hchg
   have e36 : ev (.tmp 36) = _ := hdep 1 (by decide)
   obtain ⟨c0, c1, c2, c3, c4, c5, c6, c7, c8⟩ := leafblk (HL.out.below (RegC.chg0 (hchg [] (by kernel_rfl))))
   exact Or.inl ⟨trivial, Or.inl ⟨_, w, by go_simp, rfl, Chg.refl _ _⟩⟩
  ·intro ev w hc hf hg hfix hdep hchg
   have e35 : ev (.tmp 35) = _ := hdep 0 (by decide)
   have e37 : ev (.tmp 37) = _ := hdep 2 (by decide)
   have hkZ := HKZ.out
   rw [hkZ] at e37
   have hix := index_m3 w
   exact Or.inl ⟨trivial, Or.inl ⟨_, w, by go_simp, rfl, Chg.refl _ _⟩⟩
  ·intro ev w hc hf hg hfix hdep hchg
   have e3 : ev (.tmp 3) = _ := hfix 3 (by decide)
   obtain ⟨c0, c1, c2, c3, c4, c5, c6, c7, c8⟩ := leafblk (HL.out.below (RegC.chg0 (hchg [] (by kernel_rfl))))
   exact Or.inl ⟨trivial, Or.inl ⟨_, w, by go_simp, rfl, Chg.refl _ _⟩⟩
  ·intro ev w hc hf hg hfix hdep hchg
   have e4 : ev (.tmp 4) = _ := hfix 4 (by decide)
   obtain ⟨c0, c1, c2, c3, c4, c5, c6, c7, c8⟩ := leafblk (HA.out.below (RegC.chg0 (hchg [] (by kernel_rfl))))
   exact Or.inl ⟨trivial, Or.inl ⟨_, w, by go_simp, rfl, Chg.refl _ _⟩⟩
  ·intro ev w hc hf hg hfix hdep hchg
   have e5 : ev (.tmp 5) = _ := hfix 5 (by decide)
   obtain ⟨c0, c1, c2, c3, c4, c5, c6, c7, c8⟩ := leafblk (HB.out.below (RegC.chg0 (hchg [] (by kernel_rfl))))
   exact Or.inl ⟨trivial, Or.inl ⟨_, w, by go_simp, rfl, Chg.refl _ _⟩⟩
  ·intro ev w hc hf hg hfix hdep hchg
   have e38 : ev (.tmp 38) = _ := hdep 3 (by decide)
   have e39 : ev (.tmp 39) = _ := hdep 4 (by decide)
   have e40 : ev (.tmp 40) = _ := hdep 5 (by decide)
   have e41 : ev (.tmp 41) = _ := hdep 6 (by decide)
   refine Or.inl ⟨trivial, Or.inr (Or.inl ⟨27, #[.agg #[.int .u8 (kk : Int), .int .i64 n, .int .u64 (t : Int), .int .u8 (r : Int), .int .u32 (i : Int), .int .u64 (s : Int), .string x, .slice ia il ic, .slice da dl dc], .agg #[.int .u8 (kk' : Int), .int .i64 n', .int .u64 (t' : Int), .int .u8 (r' : Int), .int .u32 (i' : Int), .int .u64 (s' : Int), .string x', .slice ia' il' ic', .slice da' dl' dc'], .agg #[.int .u8 (kk'' : Int), .int .i64 n'', .int .u64 (t'' : Int), .int .u8 (r'' : Int), .int .u32 (i'' : Int), .int .u64 (s'' : Int), .string x'', .slice ia'' il'' ic'', .slice da'' dl'' dc'']], w, by go_simp, ?_⟩)⟩
   have hb0 := RegC.chg0 (hchg [] (by kernel_rfl))
   have hbw := HW.out.trans (hb0.mono HW.out.size)
   refine (merge_k3 kk n t r i s x ia il ic da dl dc li ld kk' n' t' r' i' s' x' ia' il' ic' da' dl' dc' li' ld' kk'' n'' t'' r'' i'' s'' x'' ia'' il'' ic'' da'' dl'' dc'' li'' ld'' w (HI'.out.below hbw) HIl'.out (HD'.out.below hbw) HDl'.out hn' hm' (HI''.out.below hbw) HIl''.out (HD''.out.below hbw) HDl''.out hn'' hm'' HK.out HK1.out HK2.out Hml.out Hma.out Hmb.out).mono ?_
   rintro e w9 ⟨⟨v9, rfl, h9⟩, hb⟩
   rw [← HM.out] at h9
   exact ⟨_, rfl, h9.base hb0.size, Chg.of_below hb⟩
  ·intro ev w hc hf hg hfix hdep hchg
   have e6 : ev (.tmp 6) = _ := hfix 6 (by decide)
   have e42 := hdep 7 (by decide)
   obtain ⟨a, m, c, a2, m2, c2, hv⟩ := MR.cells e42
   have hG := e42
   rw [hv] at hG
   have e42 : ev (.tmp 42) = .agg #[.int .u8 (M.kind : Int), .int .i64 M.n, .int .u64 (M.time : Int), .int .u8 (M.dot.1.1 : Int), .int .u32 (M.dot.1.2 : Int), .int .u64 (M.dot.2 : Int), .string M.text, .slice a m c, .slice a2 m2 c2] := hv
   have hR := HR.out.below (RegC.chg0 (hchg [] (by kernel_rfl)))
   obtain ⟨d0, d1, d2, d3, d4, d5, d6, d7, d8⟩ := leafblk hR
   obtain ⟨y0, y1, y2, y3, y4, y5, y6, y7, y8⟩ := hR.froz9
   have hc9 := chg9 w (W.heap.size + 1 + 1 + 1) (.int .u8 (M.kind : Int)) (.int .i64 M.n) (.int .u64 (M.time : Int)) (.int .u8 (M.dot.1.1 : Int)) (.int .u32 (M.dot.1.2 : Int)) (.int .u64 (M.dot.2 : Int)) (.string M.text) (.slice a m c) (.slice a2 m2 c2)
   exact Or.inl ⟨trivial, Or.inr (Or.inr ⟨(((((((((w.setCell ⟨W.heap.size + 1 + 1 + 1, 0, none⟩ (.int .u8 (M.kind : Int))).setCell ⟨W.heap.size + 1 + 1 + 1, 1, none⟩ (.int .i64 M.n)).setCell ⟨W.heap.size + 1 + 1 + 1, 2, none⟩ (.int .u64 (M.time : Int))).setCell ⟨W.heap.size + 1 + 1 + 1, 3, none⟩ (.int .u8 (M.dot.1.1 : Int))).setCell ⟨W.heap.size + 1 + 1 + 1, 4, none⟩ (.int .u32 (M.dot.1.2 : Int))).setCell ⟨W.heap.size + 1 + 1 + 1, 5, none⟩ (.int .u64 (M.dot.2 : Int))).setCell ⟨W.heap.size + 1 + 1 + 1, 6, none⟩ (.string M.text)).setCell ⟨W.heap.size + 1 + 1 + 1, 7, none⟩ (.slice a m c)).setCell ⟨W.heap.size + 1 + 1 + 1, 8, none⟩ (.slice a2 m2 c2)), by go_simp, ⟨_, _, _, _, _, _, blk9 hR _ _ _ _ _ _ _ _ _, MR.past hG hc9 HR.out.lt⟩, hc9⟩)⟩
  ·intro ev w hc hf hg hfix hdep hchg
   exact Or.inl ⟨trivial, Or.inl ⟨_, w, by go_simp, rfl, Chg.refl _ _⟩⟩
 ·intro v w2 hv hb2
  have r0 : v 0 = _ := hv 0 (by decide)
  have r1 : v 1 = _ := hv 1 (by decide)
  have r2 : v 2 = _ := hv 2 (by decide)
  have r3 : v 3 = _ := hv 3 (by decide)
  have r4 : v 4 = _ := hv 4 (by decide)
  have r5 : v 5 = _ := hv 5 (by decide)
  have r6 : v 6 = _ := hv 6 (by decide)
  have r7 := hv 7 (by decide)
  have r8 := hv 8 (by decide)
  have r9 : v 9 = _ := hv 9 (by decide)
  simp only [Reg.putAll, Act.put, List.setIfInBounds_toArray, List.set_cons_zero, List.set_cons_succ, r0, r1, r2, r3, r4, r5, r6, r9]
  clear r0 r1 r2 r3 r4 r5 r6 r9 hv
  obtain ⟨a, m, c, a2, m2, c2, hbk, hG⟩ := r8
  have HWF := Lib.hid (Chg.belowTrans HW.out (RegC.end1 hb2) (fun k _ e => by have : k = W.heap.size + 1 + 1 + 1 := e; omega) HW.out.size)
  have HBk := Lib.hid hbk; have HG := Lib.hid hG
  clear r7 hb2 hbk hG
  go_wp2_with fail
  refine bodyPost_ret (v := .tuple #[.agg #[.int .u8 (M.kind : Int), .int .i64 M.n, .int .u64 (M.time : Int), .int .u8 (M.dot.1.1 : Int), .int .u32 (M.dot.1.2 : Int), .int .u64 (M.dot.2 : Int), .string M.text, .slice a m c, .slice a2 m2 c2], .int .i64 0]) (res_leaf2 (b := W.heap.size + 1 + 1 + 1) Try.results6 (by simp) (by simp) HBk.out) rfl ⟨?_, HWF.out⟩
  obtain ⟨vI, rI, vD, rD, h1, h2, h3⟩ := HG.out.base HW.out.size
  exact ⟨vI, rI, vD, rD, by rw [h1], h2, h3⟩
set_option maxRecDepth 100000 in
set_option maxHeartbeats 12800000 in
theorem fmerge_k4 (kk : Nat) (n : Int) (t r i s : Nat) (x : ByteArray) (ia : Option Addr) (il ic : Nat) (da : Option Addr) (dl dc : Nat) (li : List Lm.It) (ld : List Dt.Dot) (kk' : Nat) (n' : Int) (t' r' i' s' : Nat) (x' : ByteArray) (ia' : Option Addr) (il' ic' : Nat) (da' : Option Addr) (dl' dc' : Nat) (li' : List Lm.It) (ld' : List Dt.Dot) (kk'' : Nat) (n'' : Int) (t'' r'' i'' s'' : Nat) (x'' : ByteArray) (ia'' : Option Addr) (il'' ic'' : Nat) (da'' : Option Addr) (dl'' dc'' : Nat) (li'' : List Lm.It) (ld'' : List Dt.Dot) (W : World) (hi : IRow W ia ic li) (hil : li.length = il) (hd : VRow W da dc ld) (hdl : ld.length = dl) (hn : il ≤ 4000) (hm : dl ≤ 4000) (hx : x.size ≤ 9223372036854775807) (hi' : IRow W ia' ic' li') (hil' : li'.length = il') (hd' : VRow W da' dc' ld') (hdl' : ld'.length = dl') (hn' : il' ≤ 4000) (hm' : dl' ≤ 4000) (hx' : x'.size ≤ 9223372036854775807) (hi'' : IRow W ia'' ic'' li'') (hil'' : li''.length = il'') (hd'' : VRow W da'' dc'' ld'') (hdl'' : ld''.length = dl'') (hn'' : il'' ≤ 4000) (hm'' : dl'' ≤ 4000) (hx'' : x''.size ≤ 9223372036854775807) (hml : Lm.may ⟨kk, n, t, ((r, i), s), x, li, ld⟩ = true) (hma : Lm.may ⟨kk', n', t', ((r', i'), s'), x', li', ld'⟩ = true) (hmb : Lm.may ⟨kk'', n'', t'', ((r'', i''), s''), x'', li'', ld''⟩ = true) (heq : kk' = kk) (heq2 : kk'' = kk) (hk : kk = 4) :
  Calls Try.prog 6 #[leafV kk n t r i s x ia il ic da dl dc, leafV kk' n' t' r' i' s' x' ia' il' ic' da' dl' dc', leafV kk'' n'' t'' r'' i'' s'' x'' ia'' il'' ic'' da'' dl'' dc''] W fun e w' => AE W.heap.size w' (Lm.merged ⟨kk, n, t, ((r, i), s), x, li, ld⟩ ⟨kk', n', t', ((r', i'), s'), x', li', ld'⟩ ⟨kk'', n'', t'', ((r'', i''), s''), x'', li'', ld''⟩) 0 e ∧ Below W.heap.size W w' := by
 obtain ⟨M, hM⟩ : ∃ M, M = Lm.merged ⟨kk, n, t, ((r, i), s), x, li, ld⟩ ⟨kk', n', t', ((r', i'), s'), x', li', ld'⟩ ⟨kk'', n'', t'', ((r'', i''), s''), x'', li'', ld''⟩ := ⟨_, rfl⟩
 rw [← hM]
 have HM := Lib.hid hM; have HK := Lib.hid hk; have HK1 := Lib.hid heq; have HK2 := Lib.hid heq2; have HKZ := Lib.hid (show (kk : Int) = 4 by omega)
 clear hM hk heq heq2
 have Hml := Lib.hid hml; clear hml
 have Hma := Lib.hid hma; clear hma
 have Hmb := Lib.hid hmb; clear hmb
 have HI := Lib.hid hi; have HIl := Lib.hid hil; have HD := Lib.hid hd; have HDl := Lib.hid hdl
 have HI' := Lib.hid hi'; have HIl' := Lib.hid hil'; have HD' := Lib.hid hd'; have HDl' := Lib.hid hdl'
 have HI'' := Lib.hid hi''; have HIl'' := Lib.hid hil''; have HD'' := Lib.hid hd''; have HDl'' := Lib.hid hdl''
 clear hi hil hd hdl hi' hil' hd' hdl' hi'' hil'' hd'' hdl''
 have hW := below_box4 W #[.int .u8 (kk : Int), .int .i64 n, .int .u64 (t : Int), .int .u8 (r : Int), .int .u32 (i : Int), .int .u64 (s : Int), .string x, .slice ia il ic, .slice da dl dc] #[.int .u8 (kk' : Int), .int .i64 n', .int .u64 (t' : Int), .int .u8 (r' : Int), .int .u32 (i' : Int), .int .u64 (s' : Int), .string x', .slice ia' il' ic', .slice da' dl' dc'] #[.int .u8 (kk'' : Int), .int .i64 n'', .int .u64 (t'' : Int), .int .u8 (r'' : Int), .int .u32 (i'' : Int), .int .u64 (s'' : Int), .string x'', .slice ia'' il'' ic'', .slice da'' dl'' dc''] #[.int .u8 0, .int .i64 0, .int .u64 0, .int .u8 0, .int .u32 0, .int .u64 0, .string ⟨#[]⟩, .slice none 0 0, .slice none 0 0] 40 40 40 40
 obtain ⟨hL, hA, hB, hR⟩ := blks4 (Below.refl ((((W.alloc (.cells #[.int .u8 (kk : Int), .int .i64 n, .int .u64 (t : Int), .int .u8 (r : Int), .int .u32 (i : Int), .int .u64 (s : Int), .string x, .slice ia il ic, .slice da dl dc] 40)).alloc (.cells #[.int .u8 (kk' : Int), .int .i64 n', .int .u64 (t' : Int), .int .u8 (r' : Int), .int .u32 (i' : Int), .int .u64 (s' : Int), .string x', .slice ia' il' ic', .slice da' dl' dc'] 40)).alloc (.cells #[.int .u8 (kk'' : Int), .int .i64 n'', .int .u64 (t'' : Int), .int .u8 (r'' : Int), .int .u32 (i'' : Int), .int .u64 (s'' : Int), .string x'', .slice ia'' il'' ic'', .slice da'' dl'' dc''] 40)).alloc (.cells #[.int .u8 0, .int .i64 0, .int .u64 0, .int .u8 0, .int .u32 0, .int .u64 0, .string ⟨#[]⟩, .slice none 0 0, .slice none 0 0] 40)).heap.size ((((W.alloc (.cells #[.int .u8 (kk : Int), .int .i64 n, .int .u64 (t : Int), .int .u8 (r : Int), .int .u32 (i : Int), .int .u64 (s : Int), .string x, .slice ia il ic, .slice da dl dc] 40)).alloc (.cells #[.int .u8 (kk' : Int), .int .i64 n', .int .u64 (t' : Int), .int .u8 (r' : Int), .int .u32 (i' : Int), .int .u64 (s' : Int), .string x', .slice ia' il' ic', .slice da' dl' dc'] 40)).alloc (.cells #[.int .u8 (kk'' : Int), .int .i64 n'', .int .u64 (t'' : Int), .int .u8 (r'' : Int), .int .u32 (i'' : Int), .int .u64 (s'' : Int), .string x'', .slice ia'' il'' ic'', .slice da'' dl'' dc''] 40)).alloc (.cells #[.int .u8 0, .int .i64 0, .int .u64 0, .int .u8 0, .int .u32 0, .int .u64 0, .string ⟨#[]⟩, .slice none 0 0, .slice none 0 0] 40)))
 go_enter Try.func6, Try.ntmps6
 go_wp2_with fail
 obtain ⟨X, hX⟩ : ∃ X, X = ((((W.alloc (.cells #[.int .u8 (kk : Int), .int .i64 n, .int .u64 (t : Int), .int .u8 (r : Int), .int .u32 (i : Int), .int .u64 (s : Int), .string x, .slice ia il ic, .slice da dl dc] 40)).alloc (.cells #[.int .u8 (kk' : Int), .int .i64 n', .int .u64 (t' : Int), .int .u8 (r' : Int), .int .u32 (i' : Int), .int .u64 (s' : Int), .string x', .slice ia' il' ic', .slice da' dl' dc'] 40)).alloc (.cells #[.int .u8 (kk'' : Int), .int .i64 n'', .int .u64 (t'' : Int), .int .u8 (r'' : Int), .int .u32 (i'' : Int), .int .u64 (s'' : Int), .string x'', .slice ia'' il'' ic'', .slice da'' dl'' dc''] 40)).alloc (.cells #[.int .u8 0, .int .i64 0, .int .u64 0, .int .u8 0, .int .u32 0, .int .u64 0, .string ⟨#[]⟩, .slice none 0 0, .slice none 0 0] 40)) := ⟨_, rfl⟩
 rw [← hX] at hW hL hA hB hR ⊢
 have HW := Lib.hid hW; have HL := Lib.hid hL; have HA := Lib.hid hA; have HB := Lib.hid hB; have HR := Lib.hid hR
 clear hX hW hL hA hB hR
 refine (leafmay_any kk n t r i s x ia il ic da dl dc li ld _ (HI.out.below HW.out) HIl.out (HD.out.below HW.out) HDl.out hx (by omega)).mono ?_
 rintro e w1 ⟨rfl, hb⟩
 rw [Hml.out]
 have hW := HW.out.trans (hb.mono HW.out.size)
 have hL := HL.out.below hb; have hA := HA.out.below hb; have hB := HB.out.below hb; have hR := HR.out.below hb
 clear HW HL HA HB HR hb
 have HW := Lib.hid hW; have HL := Lib.hid hL; have HA := Lib.hid hA; have HB := Lib.hid hB; have HR := Lib.hid hR
 clear hW hL hA hB hR
 obtain ⟨p0, p1, p2, p3, p4, p5, p6, p7, p8⟩ := leafblk HA.out
 go_wp2_with fail
 clear p0 p1 p2 p3 p4 p5 p6 p7 p8
 refine (leafmay_any kk' n' t' r' i' s' x' ia' il' ic' da' dl' dc' li' ld' _ (HI'.out.below HW.out) HIl'.out (HD'.out.below HW.out) HDl'.out hx' (by omega)).mono ?_
 rintro e w2 ⟨rfl, hb⟩
 rw [Hma.out]
 have hW := HW.out.trans (hb.mono HW.out.size)
 have hL := HL.out.below hb; have hA := HA.out.below hb; have hB := HB.out.below hb; have hR := HR.out.below hb
 clear HW HL HA HB HR hb
 have HW := Lib.hid hW; have HL := Lib.hid hL; have HA := Lib.hid hA; have HB := Lib.hid hB; have HR := Lib.hid hR
 clear hW hL hA hB hR
 obtain ⟨p0, p1, p2, p3, p4, p5, p6, p7, p8⟩ := leafblk HB.out
 go_wp2_with fail
 clear p0 p1 p2 p3 p4 p5 p6 p7 p8
 refine (leafmay_any kk'' n'' t'' r'' i'' s'' x'' ia'' il'' ic'' da'' dl'' dc'' li'' ld'' _ (HI''.out.below HW.out) HIl''.out (HD''.out.below HW.out) HDl''.out hx'' (by omega)).mono ?_
 rintro e w3 ⟨rfl, hb⟩
 rw [Hmb.out]
 have hW := HW.out.trans (hb.mono HW.out.size)
 have hL := HL.out.below hb; have hA := HA.out.below hb; have hB := HB.out.below hb; have hR := HR.out.below hb
 clear HW HL HA HB HR hb
 have HW := Lib.hid hW; have HL := Lib.hid hL; have HA := Lib.hid hA; have HB := Lib.hid hB; have HR := Lib.hid hR
 clear hW hL hA hB hR
 have k0 := (leafblk HL.out).1; have k1 := (leafblk HA.out).1; have k2 := (leafblk HB.out).1
 have heq1 : (kk' : Int) = (kk : Int) := by have := HK1.out; omega
 have heq3 : (kk'' : Int) = (kk : Int) := by have := HK2.out; omega
 obtain ⟨Y, hY⟩ : ∃ Y, Y = w3 := ⟨_, rfl⟩
 rw [← hY] at k0 k1 k2 ⊢
 have hW := HW.out; have hL := HL.out; have hA := HA.out; have hB := HB.out; have hR := HR.out
 rw [← hY] at hW hL hA hB hR
 clear HW HL HA HB HR
 have HW := Lib.hid hW; have HL := Lib.hid hL; have HA := Lib.hid hA; have HB := Lib.hid hB; have HR := Lib.hid hR
 clear hW hL hA hB hR hY
 go_wp2_with fail
 clear k0 k1 k2 heq1 heq3
 refine RegC.region_list (by kernel_rfl) [8] [RegC.plain (fun v _ => v = .agg #[Value.nilFunc, .func (.func 25) #[] #[], .func (.func 26) #[] #[], .func (.func 27) #[] #[], .func (.func 28) #[] #[]]), RegC.plain (fun v _ => v = .pointer (some ⟨W.heap.size, 0, none⟩)), RegC.plain (fun v _ => v = .int .u8 (kk : Int)), RegC.plain (fun v _ => v = .func (.func 28) #[] #[]), RegC.plain (fun v _ => v = .agg #[.int .u8 (kk : Int), .int .i64 n, .int .u64 (t : Int), .int .u8 (r : Int), .int .u32 (i : Int), .int .u64 (s : Int), .string x, .slice ia il ic, .slice da dl dc]), RegC.plain (fun v _ => v = .agg #[.int .u8 (kk' : Int), .int .i64 n', .int .u64 (t' : Int), .int .u8 (r' : Int), .int .u32 (i' : Int), .int .u64 (s' : Int), .string x', .slice ia' il' ic', .slice da' dl' dc']), RegC.plain (fun v _ => v = .agg #[.int .u8 (kk'' : Int), .int .i64 n'', .int .u64 (t'' : Int), .int .u8 (r'' : Int), .int .u32 (i'' : Int), .int .u64 (s'' : Int), .string x'', .slice ia'' il'' ic'', .slice da'' dl'' dc'']), RegC.plain (fun v w => MR Y.heap.size w M v), RegC.change (fun v w => ∃ a m c a2 m2 c2, Blk w (W.heap.size + 1 + 1 + 1) 40 [.int .u8 (M.kind : Int), .int .i64 M.n, .int .u64 (M.time : Int), .int .u8 (M.dot.1.1 : Int), .int .u32 (M.dot.1.2 : Int), .int .u64 (M.dot.2 : Int), .string M.text, .slice a m c, .slice a2 m2 c2] ∧ MR Y.heap.size w M (.agg #[.int .u8 (M.kind : Int), .int .i64 M.n, .int .u64 (M.time : Int), .int .u8 (M.dot.1.1 : Int), .int .u32 (M.dot.1.2 : Int), .int .u64 (M.dot.2 : Int), .string M.text, .slice a m c, .slice a2 m2 c2])) (fun k => k = W.heap.size + 1 + 1 + 1), RegC.plain (fun v _ => v = .int .i64 0)] (by kernel_rfl) ?_ ?_ ?_ ?_ ?_
 ·exact ⟨Or.inr (fun _ h => h), Or.inr (fun _ h => h), Or.inr (fun _ h => h), Or.inr (fun _ h => h), Or.inr (fun _ h => h), Or.inr (fun _ h => h), Or.inr (fun _ h => h), Or.inr (fun _ h => h), Or.inl (by decide), Or.inr (fun _ h => h), trivial⟩
 ·refine ⟨k4, k4, k4, k4, k4, k4, k4, (fun v wa wb hb h => by exact MR.below h hb), (fun v wa wb hb h => by obtain ⟨a, m, c, a2, m2, c2, h1, h2⟩ := h; exact ⟨a, m, c, a2, m2, c2, h1.below hb, h2.below hb⟩), k4, trivial⟩
 ·refine ⟨⟨Or.inr (Or.inr k4), Or.inr (Or.inr k4), Or.inr (Or.inr k4), Or.inr (Or.inr k4), Or.inr (Or.inr k4), Or.inr (Or.inr k4), Or.inr (Or.inr k4), Or.inr (Or.inr (fun v wa wb hr h => by exact MR.past h hr HR.out.lt)), Or.inl rfl, Or.inr (Or.inr k4), trivial⟩, trivial⟩
 ·refine ⟨?_, ?_, ?_, ?_, ?_, ?_, ?_, ?_, ?_, ?_, trivial⟩
  ·intro ev w hc hf hg hfix hdep hchg
   refine Or.inl ⟨trivial, Or.inr (Or.inl ⟨12, #[], w, by go_simp, ?_⟩)⟩
   refine (merges_any w).mono ?_
   rintro e w9 ⟨rfl, hb⟩
   exact ⟨_, rfl, rfl, Chg.of_below hb⟩
  ·intro ev w hc hf hg hfix hdep hchg
   have e3 : ev (.tmp 3) = _ := hfix 3 (by decide)
   exact Or.inl ⟨trivial, Or.inl ⟨_, w, by go_simp, rfl, Chg.refl _ _⟩⟩
  ·intro ev w hc hf hg hfix hdep hchg
   have e36 : ev (.tmp 36) = _ := hdep 1 (by decide)
   obtain ⟨c0, c1, c2, c3, c4, c5, c6, c7, c8⟩ := leafblk (HL.out.below (RegC.chg0 (hchg [] (by kernel_rfl))))
   exact Or.inl ⟨trivial, Or.inl ⟨_, w, by go_simp, rfl, Chg.refl _ _⟩⟩
  ·intro ev w hc hf hg hfix hdep hchg
   have e35 : ev (.tmp 35) = _ := hdep 0 (by decide)
   have e37 : ev (.tmp 37) = _ := hdep 2 (by decide)
   have hkZ := HKZ.out
   rw [hkZ] at e37
   have hix := index_m4 w
   exact Or.inl ⟨trivial, Or.inl ⟨_, w, by go_simp, rfl, Chg.refl _ _⟩⟩
  ·intro ev w hc hf hg hfix hdep hchg
   have e3 : ev (.tmp 3) = _ := hfix 3 (by decide)
   obtain ⟨c0, c1, c2, c3, c4, c5, c6, c7, c8⟩ := leafblk (HL.out.below (RegC.chg0 (hchg [] (by kernel_rfl))))
   exact Or.inl ⟨trivial, Or.inl ⟨_, w, by go_simp, rfl, Chg.refl _ _⟩⟩
  ·intro ev w hc hf hg hfix hdep hchg
   have e4 : ev (.tmp 4) = _ := hfix 4 (by decide)
   obtain ⟨c0, c1, c2, c3, c4, c5, c6, c7, c8⟩ := leafblk (HA.out.below (RegC.chg0 (hchg [] (by kernel_rfl))))
   exact Or.inl ⟨trivial, Or.inl ⟨_, w, by go_simp, rfl, Chg.refl _ _⟩⟩
  ·intro ev w hc hf hg hfix hdep hchg
   have e5 : ev (.tmp 5) = _ := hfix 5 (by decide)
   obtain ⟨c0, c1, c2, c3, c4, c5, c6, c7, c8⟩ := leafblk (HB.out.below (RegC.chg0 (hchg [] (by kernel_rfl))))
   exact Or.inl ⟨trivial, Or.inl ⟨_, w, by go_simp, rfl, Chg.refl _ _⟩⟩
  ·intro ev w hc hf hg hfix hdep hchg
   have e38 : ev (.tmp 38) = _ := hdep 3 (by decide)
   have e39 : ev (.tmp 39) = _ := hdep 4 (by decide)
   have e40 : ev (.tmp 40) = _ := hdep 5 (by decide)
   have e41 : ev (.tmp 41) = _ := hdep 6 (by decide)
   refine Or.inl ⟨trivial, Or.inr (Or.inl ⟨28, #[.agg #[.int .u8 (kk : Int), .int .i64 n, .int .u64 (t : Int), .int .u8 (r : Int), .int .u32 (i : Int), .int .u64 (s : Int), .string x, .slice ia il ic, .slice da dl dc], .agg #[.int .u8 (kk' : Int), .int .i64 n', .int .u64 (t' : Int), .int .u8 (r' : Int), .int .u32 (i' : Int), .int .u64 (s' : Int), .string x', .slice ia' il' ic', .slice da' dl' dc'], .agg #[.int .u8 (kk'' : Int), .int .i64 n'', .int .u64 (t'' : Int), .int .u8 (r'' : Int), .int .u32 (i'' : Int), .int .u64 (s'' : Int), .string x'', .slice ia'' il'' ic'', .slice da'' dl'' dc'']], w, by go_simp, ?_⟩)⟩
   have hb0 := RegC.chg0 (hchg [] (by kernel_rfl))
   have hbw := HW.out.trans (hb0.mono HW.out.size)
   refine (merge_k4 kk n t r i s x ia il ic da dl dc li ld kk' n' t' r' i' s' x' ia' il' ic' da' dl' dc' li' ld' kk'' n'' t'' r'' i'' s'' x'' ia'' il'' ic'' da'' dl'' dc'' li'' ld'' w (HI'.out.below hbw) HIl'.out (HD'.out.below hbw) HDl'.out hn' hm' (HI''.out.below hbw) HIl''.out (HD''.out.below hbw) HDl''.out hn'' hm'' HK.out HK1.out HK2.out Hml.out Hma.out Hmb.out).mono ?_
   rintro e w9 ⟨⟨v9, rfl, h9⟩, hb⟩
   rw [← HM.out] at h9
   exact ⟨_, rfl, h9.base hb0.size, Chg.of_below hb⟩
  ·intro ev w hc hf hg hfix hdep hchg
   have e6 : ev (.tmp 6) = _ := hfix 6 (by decide)
   have e42 := hdep 7 (by decide)
   obtain ⟨a, m, c, a2, m2, c2, hv⟩ := MR.cells e42
   have hG := e42
   rw [hv] at hG
   have e42 : ev (.tmp 42) = .agg #[.int .u8 (M.kind : Int), .int .i64 M.n, .int .u64 (M.time : Int), .int .u8 (M.dot.1.1 : Int), .int .u32 (M.dot.1.2 : Int), .int .u64 (M.dot.2 : Int), .string M.text, .slice a m c, .slice a2 m2 c2] := hv
   have hR := HR.out.below (RegC.chg0 (hchg [] (by kernel_rfl)))
   obtain ⟨d0, d1, d2, d3, d4, d5, d6, d7, d8⟩ := leafblk hR
   obtain ⟨y0, y1, y2, y3, y4, y5, y6, y7, y8⟩ := hR.froz9
   have hc9 := chg9 w (W.heap.size + 1 + 1 + 1) (.int .u8 (M.kind : Int)) (.int .i64 M.n) (.int .u64 (M.time : Int)) (.int .u8 (M.dot.1.1 : Int)) (.int .u32 (M.dot.1.2 : Int)) (.int .u64 (M.dot.2 : Int)) (.string M.text) (.slice a m c) (.slice a2 m2 c2)
   exact Or.inl ⟨trivial, Or.inr (Or.inr ⟨(((((((((w.setCell ⟨W.heap.size + 1 + 1 + 1, 0, none⟩ (.int .u8 (M.kind : Int))).setCell ⟨W.heap.size + 1 + 1 + 1, 1, none⟩ (.int .i64 M.n)).setCell ⟨W.heap.size + 1 + 1 + 1, 2, none⟩ (.int .u64 (M.time : Int))).setCell ⟨W.heap.size + 1 + 1 + 1, 3, none⟩ (.int .u8 (M.dot.1.1 : Int))).setCell ⟨W.heap.size + 1 + 1 + 1, 4, none⟩ (.int .u32 (M.dot.1.2 : Int))).setCell ⟨W.heap.size + 1 + 1 + 1, 5, none⟩ (.int .u64 (M.dot.2 : Int))).setCell ⟨W.heap.size + 1 + 1 + 1, 6, none⟩ (.string M.text)).setCell ⟨W.heap.size + 1 + 1 + 1, 7, none⟩ (.slice a m c)).setCell ⟨W.heap.size + 1 + 1 + 1, 8, none⟩ (.slice a2 m2 c2)), by go_simp, ⟨_, _, _, _, _, _, blk9 hR _ _ _ _ _ _ _ _ _, MR.past hG hc9 HR.out.lt⟩, hc9⟩)⟩
  ·intro ev w hc hf hg hfix hdep hchg
   exact Or.inl ⟨trivial, Or.inl ⟨_, w, by go_simp, rfl, Chg.refl _ _⟩⟩
 ·intro v w2 hv hb2
  have r0 : v 0 = _ := hv 0 (by decide)
  have r1 : v 1 = _ := hv 1 (by decide)
  have r2 : v 2 = _ := hv 2 (by decide)
  have r3 : v 3 = _ := hv 3 (by decide)
  have r4 : v 4 = _ := hv 4 (by decide)
  have r5 : v 5 = _ := hv 5 (by decide)
  have r6 : v 6 = _ := hv 6 (by decide)
  have r7 := hv 7 (by decide)
  have r8 := hv 8 (by decide)
  have r9 : v 9 = _ := hv 9 (by decide)
  simp only [Reg.putAll, Act.put, List.setIfInBounds_toArray, List.set_cons_zero, List.set_cons_succ, r0, r1, r2, r3, r4, r5, r6, r9]
  clear r0 r1 r2 r3 r4 r5 r6 r9 hv
  obtain ⟨a, m, c, a2, m2, c2, hbk, hG⟩ := r8
  have HWF := Lib.hid (Chg.belowTrans HW.out (RegC.end1 hb2) (fun k _ e => by have : k = W.heap.size + 1 + 1 + 1 := e; omega) HW.out.size)
  have HBk := Lib.hid hbk; have HG := Lib.hid hG
  clear r7 hb2 hbk hG
  go_wp2_with fail
  refine bodyPost_ret (v := .tuple #[.agg #[.int .u8 (M.kind : Int), .int .i64 M.n, .int .u64 (M.time : Int), .int .u8 (M.dot.1.1 : Int), .int .u32 (M.dot.1.2 : Int), .int .u64 (M.dot.2 : Int), .string M.text, .slice a m c, .slice a2 m2 c2], .int .i64 0]) (res_leaf2 (b := W.heap.size + 1 + 1 + 1) Try.results6 (by simp) (by simp) HBk.out) rfl ⟨?_, HWF.out⟩
  obtain ⟨vI, rI, vD, rD, h1, h2, h3⟩ := HG.out.base HW.out.size
  exact ⟨vI, rI, vD, rD, by rw [h1], h2, h3⟩
theorem may_kind {l : Lm.L} (h : Lm.may l = true) : l.kind = 1 ∨ l.kind = 2 ∨ l.kind = 3 ∨ l.kind = 4 := by
 by_cases hk : 1 ≤ l.kind ∧ l.kind ≤ 4
 ·omega
 ·rw [Lm.may0 hk] at h; cases h
set_option maxRecDepth 100000 in
set_option maxHeartbeats 12800000 in
theorem fmerge_any (kk : Nat) (n : Int) (t r i s : Nat) (x : ByteArray) (ia : Option Addr) (il ic : Nat) (da : Option Addr) (dl dc : Nat) (li : List Lm.It) (ld : List Dt.Dot) (kk' : Nat) (n' : Int) (t' r' i' s' : Nat) (x' : ByteArray) (ia' : Option Addr) (il' ic' : Nat) (da' : Option Addr) (dl' dc' : Nat) (li' : List Lm.It) (ld' : List Dt.Dot) (kk'' : Nat) (n'' : Int) (t'' r'' i'' s'' : Nat) (x'' : ByteArray) (ia'' : Option Addr) (il'' ic'' : Nat) (da'' : Option Addr) (dl'' dc'' : Nat) (li'' : List Lm.It) (ld'' : List Dt.Dot) (W : World) (hi : IRow W ia ic li) (hil : li.length = il) (hd : VRow W da dc ld) (hdl : ld.length = dl) (hn : il ≤ 4000) (hm : dl ≤ 4000) (hx : x.size ≤ 9223372036854775807) (hi' : IRow W ia' ic' li') (hil' : li'.length = il') (hd' : VRow W da' dc' ld') (hdl' : ld'.length = dl') (hn' : il' ≤ 4000) (hm' : dl' ≤ 4000) (hx' : x'.size ≤ 9223372036854775807) (hi'' : IRow W ia'' ic'' li'') (hil'' : li''.length = il'') (hd'' : VRow W da'' dc'' ld'') (hdl'' : ld''.length = dl'') (hn'' : il'' ≤ 4000) (hm'' : dl'' ≤ 4000) (hx'' : x''.size ≤ 9223372036854775807)  :
  Calls Try.prog 6 #[leafV kk n t r i s x ia il ic da dl dc, leafV kk' n' t' r' i' s' x' ia' il' ic' da' dl' dc', leafV kk'' n'' t'' r'' i'' s'' x'' ia'' il'' ic'' da'' dl'' dc''] W fun e w' => AE W.heap.size w' (Lm.merge ⟨kk, n, t, ((r, i), s), x, li, ld⟩ ⟨kk', n', t', ((r', i'), s'), x', li', ld'⟩ ⟨kk'', n'', t'', ((r'', i''), s''), x'', li'', ld''⟩).1 (Lm.merge ⟨kk, n, t, ((r, i), s), x, li, ld⟩ ⟨kk', n', t', ((r', i'), s'), x', li', ld'⟩ ⟨kk'', n'', t'', ((r'', i''), s''), x'', li'', ld''⟩).2 e ∧ Below W.heap.size W w' := by
 have go : ∀ (L2 : Lm.L) (z : Int), Lm.merge ⟨kk, n, t, ((r, i), s), x, li, ld⟩ ⟨kk', n', t', ((r', i'), s'), x', li', ld'⟩ ⟨kk'', n'', t'', ((r'', i''), s''), x'', li'', ld''⟩ = (L2, z) → (Calls Try.prog 6 #[leafV kk n t r i s x ia il ic da dl dc, leafV kk' n' t' r' i' s' x' ia' il' ic' da' dl' dc', leafV kk'' n'' t'' r'' i'' s'' x'' ia'' il'' ic'' da'' dl'' dc''] W fun e w' => AE W.heap.size w' L2 z e ∧ Below W.heap.size W w') → Calls Try.prog 6 #[leafV kk n t r i s x ia il ic da dl dc, leafV kk' n' t' r' i' s' x' ia' il' ic' da' dl' dc', leafV kk'' n'' t'' r'' i'' s'' x'' ia'' il'' ic'' da'' dl'' dc''] W fun e w' => AE W.heap.size w' (Lm.merge ⟨kk, n, t, ((r, i), s), x, li, ld⟩ ⟨kk', n', t', ((r', i'), s'), x', li', ld'⟩ ⟨kk'', n'', t'', ((r'', i''), s''), x'', li'', ld''⟩).1 (Lm.merge ⟨kk, n, t, ((r, i), s), x, li, ld⟩ ⟨kk', n', t', ((r', i'), s'), x', li', ld'⟩ ⟨kk'', n'', t'', ((r'', i''), s''), x'', li'', ld''⟩).2 e ∧ Below W.heap.size W w' := fun L2 z h g => by rw [h]; exact g
 cases hml : Lm.may ⟨kk, n, t, ((r, i), s), x, li, ld⟩ with
 | false => exact go _ _ (by unfold Lm.merge; rw [if_pos (Or.inl hml)]) (fmerge_a kk n t r i s x ia il ic da dl dc li ld kk' n' t' r' i' s' x' ia' il' ic' da' dl' dc' li' ld' kk'' n'' t'' r'' i'' s'' x'' ia'' il'' ic'' da'' dl'' dc'' li'' ld'' W hi hil hd hdl hn hm hx hi' hil' hd' hdl' hn' hm' hx' hi'' hil'' hd'' hdl'' hn'' hm'' hx'' hml)
 | true =>
 cases hma : Lm.may ⟨kk', n', t', ((r', i'), s'), x', li', ld'⟩ with
 | false => exact go _ _ (by unfold Lm.merge; rw [if_pos (Or.inr (Or.inl hma))]) (fmerge_b kk n t r i s x ia il ic da dl dc li ld kk' n' t' r' i' s' x' ia' il' ic' da' dl' dc' li' ld' kk'' n'' t'' r'' i'' s'' x'' ia'' il'' ic'' da'' dl'' dc'' li'' ld'' W hi hil hd hdl hn hm hx hi' hil' hd' hdl' hn' hm' hx' hi'' hil'' hd'' hdl'' hn'' hm'' hx'' hml hma)
 | true =>
 cases hmb : Lm.may ⟨kk'', n'', t'', ((r'', i''), s''), x'', li'', ld''⟩ with
 | false => exact go _ _ (by unfold Lm.merge; rw [if_pos (Or.inr (Or.inr hmb))]) (fmerge_c kk n t r i s x ia il ic da dl dc li ld kk' n' t' r' i' s' x' ia' il' ic' da' dl' dc' li' ld' kk'' n'' t'' r'' i'' s'' x'' ia'' il'' ic'' da'' dl'' dc'' li'' ld'' W hi hil hd hdl hn hm hx hi' hil' hd' hdl' hn' hm' hx' hi'' hil'' hd'' hdl'' hn'' hm'' hx'' hml hma hmb)
 | true =>
 have hno : ¬ (Lm.may ⟨kk, n, t, ((r, i), s), x, li, ld⟩ = false ∨ Lm.may ⟨kk', n', t', ((r', i'), s'), x', li', ld'⟩ = false ∨ Lm.may ⟨kk'', n'', t'', ((r'', i''), s''), x'', li'', ld''⟩ = false) := by rw [hml, hma, hmb]; simp
 by_cases h1 : kk' = kk
 case neg => exact go _ _ (by unfold Lm.merge; rw [if_neg hno, if_pos (Or.inl h1)]) (fmerge_d kk n t r i s x ia il ic da dl dc li ld kk' n' t' r' i' s' x' ia' il' ic' da' dl' dc' li' ld' kk'' n'' t'' r'' i'' s'' x'' ia'' il'' ic'' da'' dl'' dc'' li'' ld'' W hi hil hd hdl hn hm hx hi' hil' hd' hdl' hn' hm' hx' hi'' hil'' hd'' hdl'' hn'' hm'' hx'' hml hma hmb h1)
 by_cases h2 : kk'' = kk
 case neg => exact go _ _ (by unfold Lm.merge; rw [if_neg hno, if_pos (Or.inr h2)]) (fmerge_e kk n t r i s x ia il ic da dl dc li ld kk' n' t' r' i' s' x' ia' il' ic' da' dl' dc' li' ld' kk'' n'' t'' r'' i'' s'' x'' ia'' il'' ic'' da'' dl'' dc'' li'' ld'' W hi hil hd hdl hn hm hx hi' hil' hd' hdl' hn' hm' hx' hi'' hil'' hd'' hdl'' hn'' hm'' hx'' hml hma hmb h1 h2)
 refine go _ _ (by unfold Lm.merge; rw [if_neg hno, if_neg (by simp [h1, h2])]) ?_
 rcases may_kind hml with hk | hk | hk | hk
 ·exact fmerge_k1 kk n t r i s x ia il ic da dl dc li ld kk' n' t' r' i' s' x' ia' il' ic' da' dl' dc' li' ld' kk'' n'' t'' r'' i'' s'' x'' ia'' il'' ic'' da'' dl'' dc'' li'' ld'' W hi hil hd hdl hn hm hx hi' hil' hd' hdl' hn' hm' hx' hi'' hil'' hd'' hdl'' hn'' hm'' hx'' hml hma hmb h1 h2 hk
 ·exact fmerge_k2 kk n t r i s x ia il ic da dl dc li ld kk' n' t' r' i' s' x' ia' il' ic' da' dl' dc' li' ld' kk'' n'' t'' r'' i'' s'' x'' ia'' il'' ic'' da'' dl'' dc'' li'' ld'' W hi hil hd hdl hn hm hx hi' hil' hd' hdl' hn' hm' hx' hi'' hil'' hd'' hdl'' hn'' hm'' hx'' hml hma hmb h1 h2 hk
 ·exact fmerge_k3 kk n t r i s x ia il ic da dl dc li ld kk' n' t' r' i' s' x' ia' il' ic' da' dl' dc' li' ld' kk'' n'' t'' r'' i'' s'' x'' ia'' il'' ic'' da'' dl'' dc'' li'' ld'' W hi hil hd hdl hn hm hx hi' hil' hd' hdl' hn' hm' hx' hi'' hil'' hd'' hdl'' hn'' hm'' hx'' hml hma hmb h1 h2 hk
 ·exact fmerge_k4 kk n t r i s x ia il ic da dl dc li ld kk' n' t' r' i' s' x' ia' il' ic' da' dl' dc' li' ld' kk'' n'' t'' r'' i'' s'' x'' ia'' il'' ic'' da'' dl'' dc'' li'' ld'' W hi hil hd hdl hn hm hx hi' hil' hd' hdl' hn' hm' hx' hi'' hil'' hd'' hdl'' hn'' hm'' hx'' hml hma hmb h1 h2 hk
end Go.Proofs.Ytbciopieciglmaa
