import Derived.Test.YtmnblimnoaockaaZFuse13
import Derived.Test.YtmnblimnoaockaaZLeaf30
namespace Go.Proofs.Ytmnblimnoaockaa
open Go.RowKit Go.Buf Go.LB Go.Lib
set_option linter.unusedSimpArgs false
set_option linter.unusedVariables false
set_option maxRecDepth 100000 in
set_option maxHeartbeats 12800000 in
theorem rmerge_k2e (kk : Nat) (n : Int) (t r i s : Nat) (x : ByteArray) (ia : Option Addr) (il ic : Nat) (da : Option Addr) (dl dc : Nat) (li : List Lm.It) (ld : List Dt.Dot) (kk' : Nat) (n' : Int) (t' r' i' s' : Nat) (x' : ByteArray) (ia' : Option Addr) (il' ic' : Nat) (da' : Option Addr) (dl' dc' : Nat) (li' : List Lm.It) (ld' : List Dt.Dot) (kk'' : Nat) (n'' : Int) (t'' r'' i'' s'' : Nat) (x'' : ByteArray) (ia'' : Option Addr) (il'' ic'' : Nat) (da'' : Option Addr) (dl'' dc'' : Nat) (li'' : List Lm.It) (ld'' : List Dt.Dot) (W : World) (hi : IRow W ia ic li) (hil : li.length = il) (hd : VRow W da dc ld) (hdl : ld.length = dl) (hn : il ≤ 1000) (hm : dl ≤ 1000) (hx : x.size ≤ 9223372036854775807) (hi' : IRow W ia' ic' li') (hil' : li'.length = il') (hd' : VRow W da' dc' ld') (hdl' : ld'.length = dl') (hn' : il' ≤ 1000) (hm' : dl' ≤ 1000) (hx' : x'.size ≤ 9223372036854775807) (hi'' : IRow W ia'' ic'' li'') (hil'' : li''.length = il'') (hd'' : VRow W da'' dc'' ld'') (hdl'' : ld''.length = dl'') (hn'' : il'' ≤ 1000) (hm'' : dl'' ≤ 1000) (hx'' : x''.size ≤ 9223372036854775807) (hml : Lm.may ⟨kk, n, t, ((r, i), s), x, li, ld⟩ = true) (hma : Lm.may ⟨kk', n', t', ((r', i'), s'), x', li', ld'⟩ = true) (hmb : Lm.may ⟨kk'', n'', t'', ((r'', i''), s''), x'', li'', ld''⟩ = true) (heq : kk' = kk) (heq2 : kk'' = kk) (hk : kk = 2) (hb0 : t'' ≠ 0) (ha0 : t' ≠ 0) (hz : Lm.ahead t'' ((r'', i''), s'') t' ((r', i'), s') = false) :
  Calls Try.prog 8 #[leafV kk n t r i s x ia il ic da dl dc, leafV kk' n' t' r' i' s' x' ia' il' ic' da' dl' dc', leafV kk'' n'' t'' r'' i'' s'' x'' ia'' il'' ic'' da'' dl'' dc''] W fun e w' => RE6 w' (Lm.merged ⟨kk, n, t, ((r, i), s), x, li, ld⟩ ⟨kk', n', t', ((r', i'), s'), x', li', ld'⟩ ⟨kk'', n'', t'', ((r'', i''), s''), x'', li'', ld''⟩) 0 e ∧ Below W.heap.size W w' := by
 have HK := Lib.hid hk; have HK1 := Lib.hid heq; have HK2 := Lib.hid heq2
 have HMa := Lib.hid hma; have HMb := Lib.hid hmb
 clear hk heq heq2
 have Hb0 := Lib.hid hb0; have Ha0 := Lib.hid ha0
 clear hb0 ha0
 have HZ := Lib.hid hz
 clear hz
 have Hml := Lib.hid hml; clear hml
 have Hma := Lib.hid hma; clear hma
 have Hmb := Lib.hid hmb; clear hmb
 have HI := Lib.hid hi; have HIl := Lib.hid hil; have HD := Lib.hid hd; have HDl := Lib.hid hdl
 have HI' := Lib.hid hi'; have HIl' := Lib.hid hil'; have HD' := Lib.hid hd'; have HDl' := Lib.hid hdl'
 have HI'' := Lib.hid hi''; have HIl'' := Lib.hid hil''; have HD'' := Lib.hid hd''; have HDl'' := Lib.hid hdl''
 clear hi hil hd hdl hi' hil' hd' hdl' hi'' hil'' hd'' hdl''
 have hW := below_box4 W #[.int .u8 (kk : Int), .int .i64 n, .int .u64 (t : Int), .int .u8 (r : Int), .int .u32 (i : Int), .int .u64 (s : Int), .string x, .slice ia il ic, .slice da dl dc] #[.int .u8 (kk' : Int), .int .i64 n', .int .u64 (t' : Int), .int .u8 (r' : Int), .int .u32 (i' : Int), .int .u64 (s' : Int), .string x', .slice ia' il' ic', .slice da' dl' dc'] #[.int .u8 (kk'' : Int), .int .i64 n'', .int .u64 (t'' : Int), .int .u8 (r'' : Int), .int .u32 (i'' : Int), .int .u64 (s'' : Int), .string x'', .slice ia'' il'' ic'', .slice da'' dl'' dc''] #[.int .u8 0, .int .i64 0, .int .u64 0, .int .u8 0, .int .u32 0, .int .u64 0, .string ⟨#[]⟩, .slice none 0 0, .slice none 0 0] 31 31 31 31
 obtain ⟨hL, hA, hB, hR⟩ := blks4 (Below.refl ((((W.alloc (.cells #[.int .u8 (kk : Int), .int .i64 n, .int .u64 (t : Int), .int .u8 (r : Int), .int .u32 (i : Int), .int .u64 (s : Int), .string x, .slice ia il ic, .slice da dl dc] 31)).alloc (.cells #[.int .u8 (kk' : Int), .int .i64 n', .int .u64 (t' : Int), .int .u8 (r' : Int), .int .u32 (i' : Int), .int .u64 (s' : Int), .string x', .slice ia' il' ic', .slice da' dl' dc'] 31)).alloc (.cells #[.int .u8 (kk'' : Int), .int .i64 n'', .int .u64 (t'' : Int), .int .u8 (r'' : Int), .int .u32 (i'' : Int), .int .u64 (s'' : Int), .string x'', .slice ia'' il'' ic'', .slice da'' dl'' dc''] 31)).alloc (.cells #[.int .u8 0, .int .i64 0, .int .u64 0, .int .u8 0, .int .u32 0, .int .u64 0, .string ⟨#[]⟩, .slice none 0 0, .slice none 0 0] 31)).heap.size ((((W.alloc (.cells #[.int .u8 (kk : Int), .int .i64 n, .int .u64 (t : Int), .int .u8 (r : Int), .int .u32 (i : Int), .int .u64 (s : Int), .string x, .slice ia il ic, .slice da dl dc] 31)).alloc (.cells #[.int .u8 (kk' : Int), .int .i64 n', .int .u64 (t' : Int), .int .u8 (r' : Int), .int .u32 (i' : Int), .int .u64 (s' : Int), .string x', .slice ia' il' ic', .slice da' dl' dc'] 31)).alloc (.cells #[.int .u8 (kk'' : Int), .int .i64 n'', .int .u64 (t'' : Int), .int .u8 (r'' : Int), .int .u32 (i'' : Int), .int .u64 (s'' : Int), .string x'', .slice ia'' il'' ic'', .slice da'' dl'' dc''] 31)).alloc (.cells #[.int .u8 0, .int .i64 0, .int .u64 0, .int .u8 0, .int .u32 0, .int .u64 0, .string ⟨#[]⟩, .slice none 0 0, .slice none 0 0] 31)))
 go_enter Try.func8, Try.ntmps8
 go_wp2_with fail
 obtain ⟨X, hX⟩ : ∃ X, X = ((((W.alloc (.cells #[.int .u8 (kk : Int), .int .i64 n, .int .u64 (t : Int), .int .u8 (r : Int), .int .u32 (i : Int), .int .u64 (s : Int), .string x, .slice ia il ic, .slice da dl dc] 31)).alloc (.cells #[.int .u8 (kk' : Int), .int .i64 n', .int .u64 (t' : Int), .int .u8 (r' : Int), .int .u32 (i' : Int), .int .u64 (s' : Int), .string x', .slice ia' il' ic', .slice da' dl' dc'] 31)).alloc (.cells #[.int .u8 (kk'' : Int), .int .i64 n'', .int .u64 (t'' : Int), .int .u8 (r'' : Int), .int .u32 (i'' : Int), .int .u64 (s'' : Int), .string x'', .slice ia'' il'' ic'', .slice da'' dl'' dc''] 31)).alloc (.cells #[.int .u8 0, .int .i64 0, .int .u64 0, .int .u8 0, .int .u32 0, .int .u64 0, .string ⟨#[]⟩, .slice none 0 0, .slice none 0 0] 31)) := ⟨_, rfl⟩
 rw [← hX] at hW hL hA hB hR ⊢
 have HW := Lib.hid hW; have HL := Lib.hid hL; have HA := Lib.hid hA; have HB := Lib.hid hB; have HR := Lib.hid hR
 clear hX hW hL hA hB hR
 refine (refmay05_any kk n t r i s x ia il ic da dl dc li ld _ (HI.out.below HW.out) HIl.out (HD.out.below HW.out) HDl.out hx (by omega) (by omega)).mono ?_
 rintro e w1 ⟨rfl, hb⟩
 rw [Hml.out]
 have hW := HW.out.trans (hb.mono HW.out.size)
 have hL := HL.out.below hb; have hA := HA.out.below hb; have hB := HB.out.below hb; have hR := HR.out.below hb
 clear HW HL HA HB HR hb
 have HW := Lib.hid hW; have HL := Lib.hid hL; have HA := Lib.hid hA; have HB := Lib.hid hB; have HR := Lib.hid hR
 clear hW hL hA hB hR
 obtain ⟨p0, p1, p2, p3, p4, p5, p6, p7, p8⟩ := leafblk HA.out
 go_wp2_with fail
 clear p0 p1 p2 p3 p4 p5 p6 p7 p8
 refine (refmay05_any kk' n' t' r' i' s' x' ia' il' ic' da' dl' dc' li' ld' _ (HI'.out.below HW.out) HIl'.out (HD'.out.below HW.out) HDl'.out hx' (by omega) (by omega)).mono ?_
 rintro e w2 ⟨rfl, hb⟩
 rw [Hma.out]
 have hW := HW.out.trans (hb.mono HW.out.size)
 have hL := HL.out.below hb; have hA := HA.out.below hb; have hB := HB.out.below hb; have hR := HR.out.below hb
 clear HW HL HA HB HR hb
 have HW := Lib.hid hW; have HL := Lib.hid hL; have HA := Lib.hid hA; have HB := Lib.hid hB; have HR := Lib.hid hR
 clear hW hL hA hB hR
 obtain ⟨p0, p1, p2, p3, p4, p5, p6, p7, p8⟩ := leafblk HB.out
 go_wp2_with fail
 clear p0 p1 p2 p3 p4 p5 p6 p7 p8
 refine (refmay05_any kk'' n'' t'' r'' i'' s'' x'' ia'' il'' ic'' da'' dl'' dc'' li'' ld'' _ (HI''.out.below HW.out) HIl''.out (HD''.out.below HW.out) HDl''.out hx'' (by omega) (by omega)).mono ?_
 rintro e w3 ⟨rfl, hb⟩
 rw [Hmb.out]
 have hW := HW.out.trans (hb.mono HW.out.size)
 have hL := HL.out.below hb; have hA := HA.out.below hb; have hB := HB.out.below hb; have hR := HR.out.below hb
 clear HW HL HA HB HR hb
 have HW := Lib.hid hW; have HL := Lib.hid hL; have HA := Lib.hid hA; have HB := Lib.hid hB; have HR := Lib.hid hR
 clear hW hL hA hB hR
 obtain ⟨k0, k1, k2, k3, k4, k5, k6, k7, k8⟩ := leafblk (HL.out.below (Below.refl _ _))
 obtain ⟨p0, p1, p2, p3, p4, p5, p6, p7, p8⟩ := leafblk (HA.out.below (Below.refl _ _))
 obtain ⟨o0, o1, o2, o3, o4, o5, o6, o7, o8⟩ := leafblk (HB.out.below (Below.refl _ _))
 have heq1 : (kk : Int) = (kk' : Int) := by have := HK1.out; omega
 have heq3 : (kk' : Int) = (kk'' : Int) := by have := HK1.out; have := HK2.out; omega
 have hkz : (kk'' : Int) = 2 := by have := HK.out; have := HK2.out; omega
 have hup : Below w3.heap.size w3 (w3.alloc (.cells #[.int .u8 2, .int .i64 0, .int .u64 0, .int .u8 0, .int .u32 0, .int .u64 0, .string ⟨#[]⟩, .slice none 0 0, .slice none 0 0] 31)) := (Below.refl _ _).alloc (Nat.le_refl _) _
 obtain ⟨ku0, ku1, ku2, ku3, ku4, ku5, ku6, ku7, ku8⟩ := leafblk (HL.out.below hup)
 obtain ⟨ou0, ou1, ou2, ou3, ou4, ou5, ou6, ou7, ou8⟩ := leafblk (HB.out.below hup)
 have hlt3 := HR.out.lt
 have n00a : ¬ (W.heap.size = w3.heap.size) := by omega
 have n00b : ¬ (w3.heap.size = W.heap.size) := by omega
 have n01a : ¬ (W.heap.size = w3.heap.size + 1) := by omega
 have n01b : ¬ (w3.heap.size + 1 = W.heap.size) := by omega
 have n10a : ¬ (W.heap.size + 1 = w3.heap.size) := by omega
 have n10b : ¬ (w3.heap.size = W.heap.size + 1) := by omega
 have n11a : ¬ (W.heap.size + 1 = w3.heap.size + 1) := by omega
 have n11b : ¬ (w3.heap.size + 1 = W.heap.size + 1) := by omega
 have n20a : ¬ (W.heap.size + 1 + 1 = w3.heap.size) := by omega
 have n20b : ¬ (w3.heap.size = W.heap.size + 1 + 1) := by omega
 have n21a : ¬ (W.heap.size + 1 + 1 = w3.heap.size + 1) := by omega
 have n21b : ¬ (w3.heap.size + 1 = W.heap.size + 1 + 1) := by omega
 have n30a : ¬ (W.heap.size + 1 + 1 + 1 = w3.heap.size) := by omega
 have n30b : ¬ (w3.heap.size = W.heap.size + 1 + 1 + 1) := by omega
 have n31a : ¬ (W.heap.size + 1 + 1 + 1 = w3.heap.size + 1) := by omega
 have n31b : ¬ (w3.heap.size + 1 = W.heap.size + 1 + 1 + 1) := by omega
 have tb1 : ¬ ((t'' : Int) = 0) := by have := Hb0.out; omega
 have tb2 : ((t'' : Int) == 0) = false := by have := Hb0.out; simp; omega
 have ta1 : ¬ ((t' : Int) = 0) := by have := Ha0.out; omega
 have ta2 : ((t' : Int) == 0) = false := by have := Ha0.out; simp; omega
 have ta3 : ((t' : Int) != 0) = true := by have := Ha0.out; simp; omega
 have hupv : Below w3.heap.size w3 ((w3.alloc (.cells #[.int .u8 2, .int .i64 0, .int .u64 0, .int .u8 0, .int .u32 0, .int .u64 0, .string ⟨#[]⟩, .slice none 0 0, .slice none 0 0] 31)).alloc (.cells #[.int .u8 2, .int .i64 n'', .int .u64 (t'' : Int), .int .u8 (r'' : Int), .int .u32 (i'' : Int), .int .u64 (s'' : Int), .string x'', .slice ia'' il'' ic'', .slice da'' dl'' dc''] 31)) := hup.alloc hup.size _
 obtain ⟨pv0, pv1, pv2, pv3, pv4, pv5, pv6, pv7, pv8⟩ := leafblk (HA.out.below hupv)
 obtain ⟨ov0, ov1, ov2, ov3, ov4, ov5, ov6, ov7, ov8⟩ := leafblk (HB.out.below hupv)
 go_wp2_with fail
 clear k0 k1 k2 k3 k4 k5 k6 k7 k8 p0 p1 p2 p3 p4 p5 p6 p7 p8 o0 o1 o2 o3 o4 o5 o6 o7 o8 ku0 ku1 ku2 ku3 ku4 ku5 ku6 ku7 ku8 ou0 ou1 ou2 ou3 ou4 ou5 ou6 ou7 ou8 pv0 pv1 pv2 pv3 pv4 pv5 pv6 pv7 pv8 ov0 ov1 ov2 ov3 ov4 ov5 ov6 ov7 ov8 hup hupv
 refine (refahead_any t'' r'' i'' s'' t' r' i' s' _).mono ?_
 rintro e w4 ⟨rfl, hb⟩
 rw [HZ.out]
 have hU0 : Below w3.heap.size w3 ((w3.alloc (.cells #[.int .u8 2, .int .i64 0, .int .u64 0, .int .u8 0, .int .u32 0, .int .u64 0, .string ⟨#[]⟩, .slice none 0 0, .slice none 0 0] 31)).alloc (.cells #[.int .u8 2, .int .i64 n'', .int .u64 (t'' : Int), .int .u8 (r'' : Int), .int .u32 (i'' : Int), .int .u64 (s'' : Int), .string x'', .slice ia'' il'' ic'', .slice da'' dl'' dc''] 31)) := ((Below.refl _ _).alloc (Nat.le_refl _) _).alloc (by simp) _
 have hU : Below w3.heap.size w3 w4 := hU0.trans (hb.mono hU0.size)
 have bO0 : Blk ((w3.alloc (.cells #[.int .u8 2, .int .i64 0, .int .u64 0, .int .u8 0, .int .u32 0, .int .u64 0, .string ⟨#[]⟩, .slice none 0 0, .slice none 0 0] 31)).alloc (.cells #[.int .u8 2, .int .i64 n'', .int .u64 (t'' : Int), .int .u8 (r'' : Int), .int .u32 (i'' : Int), .int .u64 (s'' : Int), .string x'', .slice ia'' il'' ic'', .slice da'' dl'' dc''] 31)) w3.heap.size 31 [.int .u8 2, .int .i64 0, .int .u64 0, .int .u8 0, .int .u32 0, .int .u64 0, .string ⟨#[]⟩, .slice none 0 0, .slice none 0 0] := (Blk.new w3 #[.int .u8 2, .int .i64 0, .int .u64 0, .int .u8 0, .int .u32 0, .int .u64 0, .string ⟨#[]⟩, .slice none 0 0, .slice none 0 0] 31).below ((Below.refl _ _).alloc (Nat.le_refl _) _)
 have bO := bO0.below hb
 have bX : Blk w4 (w3.heap.size + 1) 31 [.int .u8 2, .int .i64 n'', .int .u64 (t'' : Int), .int .u8 (r'' : Int), .int .u32 (i'' : Int), .int .u64 (s'' : Int), .string x'', .slice ia'' il'' ic'', .slice da'' dl'' dc''] := by
  have h := (Blk.new (w3.alloc (.cells #[.int .u8 2, .int .i64 0, .int .u64 0, .int .u8 0, .int .u32 0, .int .u64 0, .string ⟨#[]⟩, .slice none 0 0, .slice none 0 0] 31)) #[.int .u8 2, .int .i64 n'', .int .u64 (t'' : Int), .int .u8 (r'' : Int), .int .u32 (i'' : Int), .int .u64 (s'' : Int), .string x'', .slice ia'' il'' ic'', .slice da'' dl'' dc''] 31).below hb
  rw [World.size_alloc] at h
  exact h
 obtain ⟨p0, p1, p2, p3, p4, p5, p6, p7, p8⟩ := leafblk (HA.out.below hU)
 obtain ⟨x0, x1, x2, x3, x4, x5, x6, x7, x8⟩ := leafblk bX
 have hfX : ∀ j, w4.frozen? ⟨w3.heap.size + 1, j, none⟩ = false := fun j => bX.frozen j
 have HU := Lib.hid hU; have HBo := Lib.hid bO; have HBx := Lib.hid bX
 clear hU bO bX hb hU0 bO0
 go_wp2_with fail
 clear p0 x0 p1 x1 p2 x2 p3 x3 p4 x4 p5 x5 p6 x6 p7 x7 p8 x8 hfX
 obtain ⟨V, hV⟩ : ∃ V, V = w4 := ⟨_, rfl⟩
 rw [← hV]
 have bO : Blk V w3.heap.size 31 [.int .u8 2, .int .i64 0, .int .u64 0, .int .u8 0, .int .u32 0, .int .u64 0, .string ⟨#[]⟩, .slice none 0 0, .slice none 0 0] := by rw [hV]; exact HBo.out
 have bX : Blk V (w3.heap.size + 1) 31 [.int .u8 2, .int .i64 n'', .int .u64 (t'' : Int), .int .u8 (r'' : Int), .int .u32 (i'' : Int), .int .u64 (s'' : Int), .string x'', .slice ia'' il'' ic'', .slice da'' dl'' dc''] := by
  rw [hV]; exact HBx.out
 have hbV : Below w3.heap.size w3 V := by rw [hV]; exact HU.out
 clear hV
 have hRv := HR.out.below hbV; have hWv := HW.out.trans (hbV.mono HW.out.size)
 obtain ⟨x0, x1, x2, x3, x4, x5, x6, x7, x8⟩ := leafblk bX
 obtain ⟨y0, y1, y2, y3, y4, y5, y6, y7, y8⟩ := leafblk bO
 obtain ⟨q0, q1, q2, q3, q4, q5, q6, q7, q8⟩ := leafblk hRv
 have hfO : ∀ j, V.frozen? ⟨w3.heap.size, j, none⟩ = false := fun j => bO.frozen j
 have HBO := Lib.hid bO; have HBX := Lib.hid bX; have HRv := Lib.hid hRv; have HWv := Lib.hid hWv
 clear bO bX hbV hRv hWv
 go_region
 clear x0 y0 q0 x1 y1 q1 x2 y2 q2 x3 y3 q3 x4 y4 q4 x5 y5 q5 x6 y6 q6 x7 y7 q7 x8 y8 q8 hfO
 have hc5 : Chg (fun k => k = w3.heap.size) V ((((((V.setCell ⟨w3.heap.size, 2, none⟩ (.int .u64 (t'' : Int))).setCell ⟨w3.heap.size, 3, none⟩ (.int .u8 (r'' : Int))).setCell ⟨w3.heap.size, 4, none⟩ (.int .u32 (i'' : Int))).setCell ⟨w3.heap.size, 5, none⟩ (.int .u64 (s'' : Int))).setCell ⟨w3.heap.size, 6, none⟩ (.string x'')).drew) := ((((((Chg.refl (fun k => k = w3.heap.size) V).set (Or.inr rfl) 2 _).set (Or.inr rfl) 3 _).set (Or.inr rfl) 4 _).set (Or.inr rfl) 5 _).set (Or.inr rfl) 6 _).drew
 have bO2 : Blk ((((((V.setCell ⟨w3.heap.size, 2, none⟩ (.int .u64 (t'' : Int))).setCell ⟨w3.heap.size, 3, none⟩ (.int .u8 (r'' : Int))).setCell ⟨w3.heap.size, 4, none⟩ (.int .u32 (i'' : Int))).setCell ⟨w3.heap.size, 5, none⟩ (.int .u64 (s'' : Int))).setCell ⟨w3.heap.size, 6, none⟩ (.string x'')).drew) w3.heap.size 31 [.int .u8 2, .int .i64 0, .int .u64 (t'' : Int), .int .u8 (r'' : Int), .int .u32 (i'' : Int), .int .u64 (s'' : Int), .string x'', .slice none 0 0, .slice none 0 0] := ((((HBO.out.set 2 (.int .u64 (t'' : Int))).set 3 (.int .u8 (r'' : Int))).set 4 (.int .u32 (i'' : Int))).set 5 (.int .u64 (s'' : Int))).set 6 (.string x'')
 obtain ⟨V2, hV2⟩ : ∃ V2, V2 = (((((V.setCell ⟨w3.heap.size, 2, none⟩ (.int .u64 (t'' : Int))).setCell ⟨w3.heap.size, 3, none⟩ (.int .u8 (r'' : Int))).setCell ⟨w3.heap.size, 4, none⟩ (.int .u32 (i'' : Int))).setCell ⟨w3.heap.size, 5, none⟩ (.int .u64 (s'' : Int))).setCell ⟨w3.heap.size, 6, none⟩ (.string x'')).drew := ⟨_, rfl⟩
 rw [← hV2] at hc5 bO2 ⊢
 clear hV2
 have hRv2 := HRv.out.chg hc5 (fun e => by have : W.heap.size + 1 + 1 + 1 = w3.heap.size := e; omega)
 have hWv2 := Chg.belowTrans HWv.out hc5 (fun k hk e => by have : k = w3.heap.size := e; omega) HWv.out.size
 obtain ⟨y0, y1, y2, y3, y4, y5, y6, y7, y8⟩ := leafblk bO2
 obtain ⟨q0, q1, q2, q3, q4, q5, q6, q7, q8⟩ := leafblk hRv2
 have hfQ : ∀ j, V2.frozen? ⟨W.heap.size + 1 + 1 + 1, j, none⟩ = false := fun j => hRv2.frozen j
 have HRv2 := Lib.hid hRv2; have HWv2 := Lib.hid hWv2
 clear hc5 bO2 hRv2 hWv2
 go_wp2_with fail
 have hc9 := chg9 V2 (W.heap.size + 1 + 1 + 1) (.int .u8 2) (.int .i64 0) (.int .u64 (t'' : Int)) (.int .u8 (r'' : Int)) (.int .u32 (i'' : Int)) (.int .u64 (s'' : Int)) (.string x'') (.slice none 0 0) (.slice none 0 0)
 have hfin := Chg.belowTrans HWv2.out hc9 (fun k hk e => by have : k = W.heap.size + 1 + 1 + 1 := e; omega) HWv2.out.size
 have HFin := Lib.hid hfin
 refine bodyPost_ret (v := .tuple #[.agg #[.int .u8 2, .int .i64 0, .int .u64 (t'' : Int), .int .u8 (r'' : Int), .int .u32 (i'' : Int), .int .u64 (s'' : Int), .string x'', .slice none 0 0, .slice none 0 0], .int .i64 0]) (res_leaf2 (b := W.heap.size + 1 + 1 + 1) Try.results8 (by simp) (by simp) (blk9 HRv2.out _ _ _ _ _ _ _ _ _)) rfl ⟨?_, HFin.out⟩
 have hz : Lm.ahead t'' ((r'', i''), s'') t' ((r', i'), s') = false := HZ.out
 have hM : Lm.merged ⟨kk, n, t, ((r, i), s), x, li, ld⟩ ⟨kk', n', t', ((r', i'), s'), x', li', ld'⟩ ⟨kk'', n'', t'', ((r'', i''), s''), x'', li'', ld''⟩ = ⟨2, 0, t'', ((r'', i''), s''), x'', [], []⟩ := by
  have hk1 := HK.out
  simp [Lm.merged, Lm.zeroL, hk1, hz]
 rw [hM]
 exact ⟨none, 0, none, 0, rfl, IRow.nil _, VRow.nil _⟩
end Go.Proofs.Ytmnblimnoaockaa
namespace Go.Proofs.Ytmnblimnoaockaa
open Go.RowKit Go.Buf Go.LB Go.Lib
set_option linter.unusedSimpArgs false
set_option linter.unusedVariables false
def RE (w : World) (L : Lm.L) (err : Int) (e : Ending) : Prop := ∃ ia ic da dc, e = .returned (.tuple #[.agg #[.int .u8 (L.kind : Int), .int .i64 L.n, .int .u64 (L.time : Int), .int .u8 (L.dot.1.1 : Int), .int .u32 (L.dot.1.2 : Int), .int .u64 (L.dot.2 : Int), .string L.text, .slice ia L.items.length ic, .slice da L.tombs.length dc], .int .i64 err]) ∧ IRow w ia ic L.items ∧ VRow w da dc L.tombs
end Go.Proofs.Ytmnblimnoaockaa
namespace Go.Proofs.Ytmnblimnoaockaa
open Go.RowKit Go.Buf Go.LB Go.Lib
set_option linter.unusedSimpArgs false
set_option linter.unusedVariables false
end Go.Proofs.Ytmnblimnoaockaa
namespace Go.Proofs.Ytmnblimnoaockaa
open Go.RowKit Go.Buf Go.LB Go.Lib
set_option linter.unusedSimpArgs false
set_option linter.unusedVariables false
def VRowK (S : Nat → Prop) (w : World) (a : Option Addr) (c : Nat) (l : List Dt.Dot) : Prop := ∀ w', Chg S w w' → VRow w' a c l
theorem VRowK.row {S : Nat → Prop} {w : World} {a : Option Addr} {c : Nat} {l : List Dt.Dot} (h : VRowK S w a c l) : VRow w a c l := h w (Chg.refl _ _)
theorem VRowK.chg {S : Nat → Prop} {w w' : World} {a : Option Addr} {c : Nat} {l : List Dt.Dot} (h : VRowK S w a c l) (hc : Chg S w w') : VRowK S w' a c l := fun w2 h2 => h w2 (hc.trans h2 (fun _ _ e => e))
theorem VRowK.of {S : Nat → Prop} {W w : World} {a : Option Addr} {c : Nat} {l : List Dt.Dot} (h : VRow W a c l) (hb : Below W.heap.size W w) (hS : ∀ k, S k → W.heap.size ≤ k) : VRowK S w a c l := fun w' hc => h.below (Chg.belowTrans hb hc (fun k _ e => hS k e) hb.size)
theorem bury_len (l : List Dt.Dot) (d : Dt.Dot) : (Lm.bury l d).length ≤ l.length + 1 := by
 unfold Lm.bury
 split
 ·omega
 ·have h := List.takeWhile_append_dropWhile (p := fun y => Dt.less y d) (l := l)
  have h2 := congrArg List.length h
  rw [List.length_append] at h2
  rw [List.length_append, List.length_cons]; omega
theorem buried_len : ∀ (m l : List Dt.Dot), (m.foldl Lm.bury l).length ≤ l.length + m.length
 | [], l => by simp
 | d :: m, l => by
  have h1 := buried_len m (Lm.bury l d)
  have h2 := bury_len l d
  simp only [List.foldl_cons, List.length_cons]; omega
theorem foldl_take {α β : Type} (f : β → α → β) (b : β) {l : List α} {i : Nat} {y : α} (h : l[i]? = some y) : (l.take (i + 1)).foldl f b = f ((l.take i).foldl f b) y := by rw [take_one h, List.foldl_append]; rfl
theorem refbury_k (S : Nat → Prop) (a : Option Addr) (n cap : Nat) (z : Dt.Dot) (l : List Dt.Dot) (W : World) (hr : VRowK S W a cap l) (hl : l.length = n) (hz : Dt.okD z) (hn : n ≤ 1000000) (hS : ∀ k, S k → k < W.heap.size) :
  Calls Try.prog 18 #[.slice a n cap, dotV z] W fun e w' => (∃ a' c', e = .returned (.slice a' (Lm.bury l z).length c') ∧ VRowK S w' a' c' (Lm.bury l z)) ∧ Below W.heap.size W w' := by
 cases hh : Lm.hasD l z
 ·refine (refbury_not a n cap z l W hr.row hl hz hn hh).mono ?_
  rintro e w1 ⟨⟨a', c', rfl, hrow⟩, hb⟩
  unfold Lm.bury
  rw [hh, if_neg (by simp)]
  exact ⟨⟨a', c', rfl, fun w2 hc => hrow w2 (hc.mono (fun k _ e => hS k e))⟩, hb⟩
 ·refine (refbury_has a n cap z l W hr.row hl hz hn hh).mono ?_
  rintro e w1 ⟨rfl, hb⟩
  unfold Lm.bury
  rw [hh, if_pos rfl, hl]
  exact ⟨⟨a, cap, rfl, hr.chg (Chg.of_below hb)⟩, hb⟩
set_option maxRecDepth 100000 in
set_option maxHeartbeats 4000000 in
theorem refleft_stay (a : Option Addr) (n cap : Nat) (da : Option Addr) (dl dc : Nat) (l : List Lm.It) (ld : List Dt.Dot) (W : World) (hr : IRow W a cap l) (hl : l.length = n) (hd : VRow W da dc ld) (hdl : ld.length = dl) (hn : n ≤ 1000000) :
  Calls Try.prog 20 #[.slice a n cap, .slice da dl dc] W fun e w' => (∃ a' c', e = .returned (.slice a' (l.filter (fun y => !Lm.hasD ld y.2.1)).length c') ∧ IRowS W.heap.size w' a' c' (l.filter (fun y => !Lm.hasD ld y.2.1))) ∧ Below W.heap.size W w' := by
 have hle := hr.le
 have hcap := hr.cap
 rw [hl] at hle
 have HR := Lib.hid hr; have HL := Lib.hid hl; have HD := Lib.hid hd; have HDl := Lib.hid hdl
 clear hr hl hd hdl
 go_enter Try.func20, Try.ntmps20
 go_wp2_with fail
 go_loopw [5, 6] (fun x v wr => ∃ (k : Nat) (row : Option Nat), v = .int .i64 k ∧ k ≤ n ∧ OwnI W.heap.size wr x ((l.take k).filter (fun y => !Lm.hasD ld y.2.1)) row ∧ Below W.heap.size W wr) (fun _ v _ => n - (intOf v).toNat)
 case atStart => exact ⟨0, none, rfl, by omega, Own.empty (Nat.le_refl _) none, Below.refl _ _⟩
 case round =>
  obtain ⟨k, row, rfl, hkn, hown, hbel⟩ := hrel
  have HO := Lib.hid hown; have HW := Lib.hid hbel
  clear hown
  by_cases hlt : k < n
  ·obtain ⟨d, hd⟩ := geti_some (l := l) (i := k) (by rw [HL.out]; exact hlt)
   obtain ⟨blk, off, rfl, hblk, hcells⟩ := HR.out.at (by rw [HL.out]; omega)
   obtain ⟨g0, g1, g2, g3, g4⟩ := hcells k d hd
   have q0 := (hbel.cell (p := ⟨blk, off + k * 5, none⟩) hblk).trans g0
   have q1 := (hbel.cell (p := ⟨blk, off + k * 5 + 1, none⟩) hblk).trans g1
   have q2 := (hbel.cell (p := ⟨blk, off + k * 5 + 2, none⟩) hblk).trans g2
   have q3 := (hbel.cell (p := ⟨blk, off + k * 5 + 3, none⟩) hblk).trans g3
   have q4 := (hbel.cell (p := ⟨blk, off + k * 5 + 4, none⟩) hblk).trans g4
   have HK := Lib.hid hd
   have k0 : (0 : Int) ≤ (k : Int) := by omega
   have k1 : (k : Int) < (n : Int) := by omega
   have hw1 : IntKind.i64.wrap ((k : Int) + 1) = (k : Int) + 1 := by simp [IntKind.wrap, IntKind.bits, IntKind.signed]; omega
   clear hcells hd hbel g0 g1 g2 g3 g4
   go_wp2_with fail
   refine (reftomb_any da dl dc d.2.1.1.1 d.2.1.1.2 d.2.1.2 ld _ (HD.out.below HW.out) HDl.out).mono ?_
   rintro e w1 ⟨rfl, hb⟩
   have hO1 := HO.out.below hb
   have HW1 := Lib.hid (HW.out.trans (hb.mono HW.out.size))
   have hl1 : ((l.take k).filter (fun y => !Lm.hasD ld y.2.1)).length ≤ 1000000 := by
    have h1 := List.length_filter_le (fun y => !Lm.hasD ld y.2.1) (l.take k)
    rw [List.length_take] at h1
    omega
   obtain ⟨v', w2, row', h1, h2, h3, h4⟩ := app1I u5 row _ d W.heap.size w1 hO1 hl1 28
   have q0' := (hb.cell (World.block_lt_of_cell? _ _ q0)).trans q0
   have q1' := (hb.cell (World.block_lt_of_cell? _ _ q1)).trans q1
   have q2' := (hb.cell (World.block_lt_of_cell? _ _ q2)).trans q2
   have q3' := (hb.cell (World.block_lt_of_cell? _ _ q3)).trans q3
   have q4' := (hb.cell (World.block_lt_of_cell? _ _ q4)).trans q4
   have HO1 := Lib.hid hO1; have H2 := Lib.hid h2; have H3 := Lib.hid h3
   clear q0 q1 q2 q3 q4 hb hO1 h2 h3 h4
   cases hD : Lm.hasD ld d.2.1
   ·have hf : (l.take (k + 1)).filter (fun y => !Lm.hasD ld y.2.1) = (l.take k).filter (fun y => !Lm.hasD ld y.2.1) ++ [d] := by rw [filter_take HK.out]; simp [hD]
    have HF := Lib.hid hf; have HHD := Lib.hid hD
    clear hf
    have e : Lm.hasD ld ((d.2.1.1.1, d.2.1.1.2), d.2.1.2) = false := hD
    try rw [e]
    clear hD e
    go_wp2_with (at_builtin; refine Lib.wpList_append_run _ rfl _ _ _ _ rfl _ _ rfl rfl _ _ h1 ?_)
    clear q0' q1' q2' q3' q4' h1
    go_roundw
    case rel => exact ⟨k + 1, row', by go_num, by omega, by rw [HF.out]; exact H2.out, ((HW1.out.alloc HW1.out.size _).grown H3.out (by simp; have := HW1.out.size; omega) (fun b e => (HO1.out.lt b e).1))⟩
    case measure => simp [intOf]; omega
   ·have hf : (l.take (k + 1)).filter (fun y => !Lm.hasD ld y.2.1) = (l.take k).filter (fun y => !Lm.hasD ld y.2.1) := by rw [filter_take HK.out]; simp [hD]
    have HF := Lib.hid hf
    clear hf
    have e : Lm.hasD ld ((d.2.1.1.1, d.2.1.1.2), d.2.1.2) = true := hD
    try rw [e]
    clear hD e h1
    go_wp2_with fail
    clear q0' q1' q2' q3' q4'
    go_roundw
    case rel => exact ⟨k + 1, row, by go_num, by omega, by rw [HF.out]; exact HO1.out, HW1.out⟩
    case measure => simp [intOf]; omega
  ·obtain rfl : k = n := by omega
   have hfin : (l.take k).filter (fun y => !Lm.hasD ld y.2.1) = l.filter (fun y => !Lm.hasD ld y.2.1) := by rw [List.take_of_length_le (by rw [HL.out]; omega)]
   have ho := HO.out
   rw [hfin] at ho
   obtain ⟨a', c', rfl, hrow⟩ := ownI_rowS ho (fun y hy => HR.out.ok y (List.mem_filter.1 hy).1)
   have HRow := Lib.hid hrow
   clear hrow ho hfin hbel
   go_wp2_with fail
   go_ret
   exact ⟨⟨a', c', rfl, HRow.out⟩, HW.out⟩
end Go.Proofs.Ytmnblimnoaockaa
