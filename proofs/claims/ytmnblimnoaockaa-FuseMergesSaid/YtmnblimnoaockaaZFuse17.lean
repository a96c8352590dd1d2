import Derived.Test.YtmnblimnoaockaaZFuse13
import Derived.Test.YtmnblimnoaockaaZFuse16
namespace Go.Proofs.Ytmnblimnoaockaa
open Go.RowKit Go.Buf Go.LB Go.Lib
set_option linter.unusedSimpArgs false
set_option linter.unusedVariables false
theorem reflay1_any (a : Option Addr) (n cap : Nat) (z : Lm.It) (l : List Lm.It) (W : World) (hr : IRow W a cap l) (hl : l.length = n) (hz : okI z) (hn : n ≤ 1000000) :
  Calls Try.prog 19 #[.slice a n cap, itVd z] W fun e w' => (∃ a' c', e = .returned (.slice a' (Lm.lay1 l z).length c') ∧ IRow w' a' c' (Lm.lay1 l z)) ∧ Below W.heap.size W w' := by
 unfold Lm.lay1
 cases hh : Lm.hasI l z.2.1
 ·refine (reflay_not a n cap z l W hr hl hz hn hh).mono ?_
  rintro e w1 ⟨⟨a', c', rfl, hrow⟩, hb⟩
  rw [if_neg (by simp)]
  exact ⟨⟨a', c', rfl, hrow _ (Chg.refl _ _)⟩, hb⟩
 ·refine (reflay_has a n cap z l W hr hl hz hn hh).mono ?_
  rintro e w1 ⟨⟨a', c', rfl, hrow⟩, hb⟩
  rw [if_pos rfl]
  exact ⟨⟨a', c', rfl, hrow _ (Chg.refl _ _)⟩, hb⟩
theorem lay1_len (l : List Lm.It) (z : Lm.It) : (Lm.lay1 l z).length ≤ l.length + 1 := by
 unfold Lm.lay1
 split
 ·omega
 ·unfold Lm.lay
  have h := List.takeWhile_append_dropWhile (p := fun y => Lm.aheadI y z) (l := l)
  have h2 := congrArg List.length h
  rw [List.length_append] at h2
  rw [List.length_append, List.length_cons]; omega
theorem laid_len : ∀ (m l : List Lm.It), (m.foldl Lm.lay1 l).length ≤ l.length + m.length
 | [], l => by simp
 | d :: m, l => by
  have h1 := laid_len m (Lm.lay1 l d)
  have h2 := lay1_len l d
  simp only [List.foldl_cons, List.length_cons]; omega
theorem VRowK.none0 (S : Nat → Prop) (w : World) : VRowK S w none 0 [] := fun w' _ => VRow.nil w'
set_option maxRecDepth 100000 in
set_option maxHeartbeats 12800000 in
theorem rmerge_k34 (kk : Nat) (n : Int) (t r i s : Nat) (x : ByteArray) (ia : Option Addr) (il ic : Nat) (da : Option Addr) (dl dc : Nat) (li : List Lm.It) (ld : List Dt.Dot) (n' : Int) (t' r' i' s' : Nat) (x' : ByteArray) (ia' : Option Addr) (il' ic' : Nat) (da' : Option Addr) (dl' dc' : Nat) (li' : List Lm.It) (ld' : List Dt.Dot) (n'' : Int) (t'' r'' i'' s'' : Nat) (x'' : ByteArray) (ia'' : Option Addr) (il'' ic'' : Nat) (da'' : Option Addr) (dl'' dc'' : Nat) (li'' : List Lm.It) (ld'' : List Dt.Dot) (W : World) (hi : IRow W ia ic li) (hil : li.length = il) (hd : VRow W da dc ld) (hdl : ld.length = dl) (hn : il ≤ 1000) (hm : dl ≤ 1000) (hx : x.size ≤ 9223372036854775807) (hi' : IRow W ia' ic' li') (hil' : li'.length = il') (hd' : VRow W da' dc' ld') (hdl' : ld'.length = dl') (hn' : il' ≤ 1000) (hm' : dl' ≤ 1000) (hx' : x'.size ≤ 9223372036854775807) (hi'' : IRow W ia'' ic'' li'') (hil'' : li''.length = il'') (hd'' : VRow W da'' dc'' ld'') (hdl'' : ld''.length = dl'') (hn'' : il'' ≤ 1000) (hm'' : dl'' ≤ 1000) (hx'' : x''.size ≤ 9223372036854775807) (hml : Lm.may ⟨kk, n, t, ((r, i), s), x, li, ld⟩ = true) (hma : Lm.may ⟨kk, n', t', ((r', i'), s'), x', li', ld'⟩ = true) (hmb : Lm.may ⟨kk, n'', t'', ((r'', i''), s''), x'', li'', ld''⟩ = true) (hk1 : kk ≠ 1) (hk2 : kk ≠ 2) :
  Calls Try.prog 8 #[leafV kk n t r i s x ia il ic da dl dc, leafV kk n' t' r' i' s' x' ia' il' ic' da' dl' dc', leafV kk n'' t'' r'' i'' s'' x'' ia'' il'' ic'' da'' dl'' dc''] W fun e w' => RE6 w' ⟨kk, 0, 0, ((0, 0), 0), ⟨#[]⟩, Lm.mix (ld''.foldl Lm.bury (ld'.foldl Lm.bury [])) li' li'', (ld''.foldl Lm.bury (ld'.foldl Lm.bury []))⟩ 0 e ∧ Below W.heap.size W w' := by
 have HK1 := Lib.hid hk1; have HK2 := Lib.hid hk2
 clear hk1 hk2
 have Hml := Lib.hid hml; clear hml
 have Hma := Lib.hid hma; clear hma
 have Hmb := Lib.hid hmb; clear hmb
 have HI := Lib.hid hi; have HIl := Lib.hid hil; have HD := Lib.hid hd; have HDl := Lib.hid hdl
 have HI' := Lib.hid hi'; have HIl' := Lib.hid hil'; have HD' := Lib.hid hd'; have HDl' := Lib.hid hdl'
 have HI'' := Lib.hid hi''; have HIl'' := Lib.hid hil''; have HD'' := Lib.hid hd''; have HDl'' := Lib.hid hdl''
 clear hi hil hd hdl hi' hil' hd' hdl' hi'' hil'' hd'' hdl''
 have hW := below_box4 W #[.int .u8 (kk : Int), .int .i64 n, .int .u64 (t : Int), .int .u8 (r : Int), .int .u32 (i : Int), .int .u64 (s : Int), .string x, .slice ia il ic, .slice da dl dc] #[.int .u8 (kk : Int), .int .i64 n', .int .u64 (t' : Int), .int .u8 (r' : Int), .int .u32 (i' : Int), .int .u64 (s' : Int), .string x', .slice ia' il' ic', .slice da' dl' dc'] #[.int .u8 (kk : Int), .int .i64 n'', .int .u64 (t'' : Int), .int .u8 (r'' : Int), .int .u32 (i'' : Int), .int .u64 (s'' : Int), .string x'', .slice ia'' il'' ic'', .slice da'' dl'' dc''] #[.int .u8 0, .int .i64 0, .int .u64 0, .int .u8 0, .int .u32 0, .int .u64 0, .string ⟨#[]⟩, .slice none 0 0, .slice none 0 0] 31 31 31 31
 obtain ⟨hL, hA, hB, hR⟩ := blks4 (Below.refl ((((W.alloc (.cells #[.int .u8 (kk : Int), .int .i64 n, .int .u64 (t : Int), .int .u8 (r : Int), .int .u32 (i : Int), .int .u64 (s : Int), .string x, .slice ia il ic, .slice da dl dc] 31)).alloc (.cells #[.int .u8 (kk : Int), .int .i64 n', .int .u64 (t' : Int), .int .u8 (r' : Int), .int .u32 (i' : Int), .int .u64 (s' : Int), .string x', .slice ia' il' ic', .slice da' dl' dc'] 31)).alloc (.cells #[.int .u8 (kk : Int), .int .i64 n'', .int .u64 (t'' : Int), .int .u8 (r'' : Int), .int .u32 (i'' : Int), .int .u64 (s'' : Int), .string x'', .slice ia'' il'' ic'', .slice da'' dl'' dc''] 31)).alloc (.cells #[.int .u8 0, .int .i64 0, .int .u64 0, .int .u8 0, .int .u32 0, .int .u64 0, .string ⟨#[]⟩, .slice none 0 0, .slice none 0 0] 31)).heap.size ((((W.alloc (.cells #[.int .u8 (kk : Int), .int .i64 n, .int .u64 (t : Int), .int .u8 (r : Int), .int .u32 (i : Int), .int .u64 (s : Int), .string x, .slice ia il ic, .slice da dl dc] 31)).alloc (.cells #[.int .u8 (kk : Int), .int .i64 n', .int .u64 (t' : Int), .int .u8 (r' : Int), .int .u32 (i' : Int), .int .u64 (s' : Int), .string x', .slice ia' il' ic', .slice da' dl' dc'] 31)).alloc (.cells #[.int .u8 (kk : Int), .int .i64 n'', .int .u64 (t'' : Int), .int .u8 (r'' : Int), .int .u32 (i'' : Int), .int .u64 (s'' : Int), .string x'', .slice ia'' il'' ic'', .slice da'' dl'' dc''] 31)).alloc (.cells #[.int .u8 0, .int .i64 0, .int .u64 0, .int .u8 0, .int .u32 0, .int .u64 0, .string ⟨#[]⟩, .slice none 0 0, .slice none 0 0] 31)))
 go_enter Try.func8, Try.ntmps8
 go_wp2_with fail
 obtain ⟨X, hX⟩ : ∃ X, X = ((((W.alloc (.cells #[.int .u8 (kk : Int), .int .i64 n, .int .u64 (t : Int), .int .u8 (r : Int), .int .u32 (i : Int), .int .u64 (s : Int), .string x, .slice ia il ic, .slice da dl dc] 31)).alloc (.cells #[.int .u8 (kk : Int), .int .i64 n', .int .u64 (t' : Int), .int .u8 (r' : Int), .int .u32 (i' : Int), .int .u64 (s' : Int), .string x', .slice ia' il' ic', .slice da' dl' dc'] 31)).alloc (.cells #[.int .u8 (kk : Int), .int .i64 n'', .int .u64 (t'' : Int), .int .u8 (r'' : Int), .int .u32 (i'' : Int), .int .u64 (s'' : Int), .string x'', .slice ia'' il'' ic'', .slice da'' dl'' dc''] 31)).alloc (.cells #[.int .u8 0, .int .i64 0, .int .u64 0, .int .u8 0, .int .u32 0, .int .u64 0, .string ⟨#[]⟩, .slice none 0 0, .slice none 0 0] 31)) := ⟨_, rfl⟩
 rw [← hX] at hW hL hA hB hR ⊢
 have HW := Lib.hid hW; have HL := Lib.hid hL; have HA := Lib.hid hA; have HB := Lib.hid hB; have HR := Lib.hid hR
 clear hX hW hL hA hB hR
 refine (refmay05_any kk n t r i s x ia il ic da dl dc li ld _ (HI.out.below HW.out) HIl.out (HD.out.below HW.out) HDl.out hx (by omega) (by omega)).mono ?_
 rintro e w1 ⟨rfl, hb⟩
 rw [Hml.out]
 have hW := HW.out.trans (hb.mono HW.out.size)
 have hL := HL.out.below hb; have hA := HA.out.below hb; have hB := HB.out.below hb; have hR := HR.out.below hb
 clear HW HL HA HB HR hb
 have HW := Lib.hid hW; have HL := Lib.hid hL; have HA := Lib.hid hA; have HB := Lib.hid hB; have HR := Lib.hid hR
 clear hW hL hA hB hR
 obtain ⟨p0, p1, p2, p3, p4, p5, p6, p7, p8⟩ := leafblk HA.out
 go_wp2_with fail
 clear p0 p1 p2 p3 p4 p5 p6 p7 p8
 refine (refmay05_any kk n' t' r' i' s' x' ia' il' ic' da' dl' dc' li' ld' _ (HI'.out.below HW.out) HIl'.out (HD'.out.below HW.out) HDl'.out hx' (by omega) (by omega)).mono ?_
 rintro e w2 ⟨rfl, hb⟩
 rw [Hma.out]
 have hW := HW.out.trans (hb.mono HW.out.size)
 have hL := HL.out.below hb; have hA := HA.out.below hb; have hB := HB.out.below hb; have hR := HR.out.below hb
 clear HW HL HA HB HR hb
 have HW := Lib.hid hW; have HL := Lib.hid hL; have HA := Lib.hid hA; have HB := Lib.hid hB; have HR := Lib.hid hR
 clear hW hL hA hB hR
 obtain ⟨p0, p1, p2, p3, p4, p5, p6, p7, p8⟩ := leafblk HB.out
 go_wp2_with fail
 clear p0 p1 p2 p3 p4 p5 p6 p7 p8
 refine (refmay05_any kk n'' t'' r'' i'' s'' x'' ia'' il'' ic'' da'' dl'' dc'' li'' ld'' _ (HI''.out.below HW.out) HIl''.out (HD''.out.below HW.out) HDl''.out hx'' (by omega) (by omega)).mono ?_
 rintro e w3 ⟨rfl, hb⟩
 rw [Hmb.out]
 have hW := HW.out.trans (hb.mono HW.out.size)
 have hL := HL.out.below hb; have hA := HA.out.below hb; have hB := HB.out.below hb; have hR := HR.out.below hb
 clear HW HL HA HB HR hb
 have HW := Lib.hid hW; have HL := Lib.hid hL; have HA := Lib.hid hA; have HB := Lib.hid hB; have HR := Lib.hid hR
 clear hW hL hA hB hR
 obtain ⟨k0, k1, k2, k3, k4, k5, k6, k7, k8⟩ := leafblk (HL.out.below (Below.refl _ _))
 obtain ⟨p0, p1, p2, p3, p4, p5, p6, p7, p8⟩ := leafblk (HA.out.below (Below.refl _ _))
 obtain ⟨o0, o1, o2, o3, o4, o5, o6, o7, o8⟩ := leafblk (HB.out.below (Below.refl _ _))
 have hkz1 : ¬ ((kk : Int) = 1) := by have := HK1.out; omega
 have hkz2 : ¬ ((kk : Int) = 2) := by have := HK2.out; omega
 have hkz3 : ((kk : Int) == 1) = false := by simp; omega
 have hkz4 : ((kk : Int) == 2) = false := by simp; omega
 have hkz5 : ((kk : Int) != (kk : Int)) = false := by simp
 have hup : Below w3.heap.size w3 (w3.alloc (.cells #[.int .u8 (kk : Int), .int .i64 0, .int .u64 0, .int .u8 0, .int .u32 0, .int .u64 0, .string ⟨#[]⟩, .slice none 0 0, .slice none 0 0] 31)) := (Below.refl _ _).alloc (Nat.le_refl _) _
 obtain ⟨ku0, ku1, ku2, ku3, ku4, ku5, ku6, ku7, ku8⟩ := leafblk (HL.out.below hup)
 obtain ⟨ou0, ou1, ou2, ou3, ou4, ou5, ou6, ou7, ou8⟩ := leafblk (HB.out.below hup)
 have hlt3 := HR.out.lt
 have n00a : ¬ (W.heap.size = w3.heap.size) := by omega
 have n00b : ¬ (w3.heap.size = W.heap.size) := by omega
 have n01a : ¬ (W.heap.size = w3.heap.size + 1) := by omega
 have n01b : ¬ (w3.heap.size + 1 = W.heap.size) := by omega
 have n10a : ¬ (W.heap.size + 1 = w3.heap.size) := by omega
 have n10b : ¬ (w3.heap.size = W.heap.size + 1) := by omega
 have n11a : ¬ (W.heap.size + 1 = w3.heap.size + 1) := by omega
 have n11b : ¬ (w3.heap.size + 1 = W.heap.size + 1) := by omega
 have n20a : ¬ (W.heap.size + 1 + 1 = w3.heap.size) := by omega
 have n20b : ¬ (w3.heap.size = W.heap.size + 1 + 1) := by omega
 have n21a : ¬ (W.heap.size + 1 + 1 = w3.heap.size + 1) := by omega
 have n21b : ¬ (w3.heap.size + 1 = W.heap.size + 1 + 1) := by omega
 have n30a : ¬ (W.heap.size + 1 + 1 + 1 = w3.heap.size) := by omega
 have n30b : ¬ (w3.heap.size = W.heap.size + 1 + 1 + 1) := by omega
 have n31a : ¬ (W.heap.size + 1 + 1 + 1 = w3.heap.size + 1) := by omega
 have n31b : ¬ (w3.heap.size + 1 = W.heap.size + 1 + 1 + 1) := by omega
 go_wp2_with fail
 clear k0 p0 o0 ku0 ou0 k1 p1 o1 ku1 ou1 k2 p2 o2 ku2 ou2 k3 p3 o3 ku3 ou3 k4 p4 o4 ku4 ou4 k5 p5 o5 ku5 ou5 k6 p6 o6 ku6 ou6 k7 p7 o7 ku7 ou7 k8 p8 o8 ku8 ou8 hup n00a n00b n01a n01b n10a n10b n11a n11b n20a n20b n21a n21b n30a n30b n31a n31b
 obtain ⟨V, hV⟩ : ∃ V, V = w3.alloc (.cells #[.int .u8 (kk : Int), .int .i64 0, .int .u64 0, .int .u8 0, .int .u32 0, .int .u64 0, .string ⟨#[]⟩, .slice none 0 0, .slice none 0 0] 31) := ⟨_, rfl⟩
 rw [← hV]
 have bO : Blk V w3.heap.size 31 [.int .u8 (kk : Int), .int .i64 0, .int .u64 0, .int .u8 0, .int .u32 0, .int .u64 0, .string ⟨#[]⟩, .slice none 0 0, .slice none 0 0] := by rw [hV]; exact Blk.new w3 #[.int .u8 (kk : Int), .int .i64 0, .int .u64 0, .int .u8 0, .int .u32 0, .int .u64 0, .string ⟨#[]⟩, .slice none 0 0, .slice none 0 0] 31
 have hbV : Below w3.heap.size w3 V := by rw [hV]; exact (Below.refl _ _).alloc (Nat.le_refl _) _
 clear hV
 go_loopw [10] (fun v wr => ∃ (q : Nat) (a : Option Addr) (c m : Nat) (T : List Dt.Dot), v = .int .i64 q ∧ q ≤ dl' ∧ T = (ld'.take q).foldl Lm.bury [] ∧ T.length = m ∧ Blk wr w3.heap.size 31 [.int .u8 (kk : Int), .int .i64 0, .int .u64 0, .int .u8 0, .int .u32 0, .int .u64 0, .string ⟨#[]⟩, .slice none 0 0, .slice a m c] ∧ VRowK (fun k => k = w3.heap.size ∨ k = W.heap.size + 1 + 1 + 1) wr a c T ∧ Below w3.heap.size w3 wr) (fun v _ => dl' - (intOf v).toNat)
 case atStart => exact ⟨0, none, 0, 0, [], rfl, by omega, rfl, rfl, bO, VRowK.none0 _ _, hbV⟩
 case round =>
  obtain ⟨q, a, c, m, T, rfl, hq, hT, hm, hO, hTr, hb⟩ := hrel
  have HO := Lib.hid hO; have HT := Lib.hid hTr; have HM := Lib.hid hm; have HTE := Lib.hid hT
  have HX := Lib.hid (HA.out.below hb); have HWr := Lib.hid (HW.out.trans (hb.mono HW.out.size)); have HBl := Lib.hid hb
  have hTlen : m ≤ 0 + q := by
   have h1 := buried_len (ld'.take q) []
   rw [← hT, hm, List.length_take] at h1
   simp only [List.length_nil] at h1
   omega
  clear hT hm hTr hO hb
  by_cases hlt : q < dl'
  ·obtain ⟨y, hy⟩ := getD_some (l := ld') (i := q) (by rw [HDl'.out]; exact hlt)
   obtain ⟨blk, off, rfl, hblk, hcells⟩ := HD'.out.at (by rw [HDl'.out]; omega)
   obtain ⟨g0, g1, g2⟩ := hcells q y hy
   have HY := Lib.hid (HD'.out.ok y (List.mem_of_getElem? hy)); have HYq := Lib.hid hy
   have x8 := HX.out.cell 8
   simp only [List.getElem?_cons_succ, List.getElem?_cons_zero] at x8
   obtain ⟨m', hm'⟩ : ∃ m', m' = (Lm.bury T y).length := ⟨_, rfl⟩
   have HM2 := Lib.hid hm'
   have i0 : (0 : Int) ≤ (q : Int) := by omega
   have i1 : (q : Int) < (dl' : Int) := by omega
   have hw1 : IntKind.i64.wrap ((q : Int) + 1) = (q : Int) + 1 := by simp [IntKind.wrap, IntKind.bits, IntKind.signed]; omega
   clear hcells hy hm'
   go_wp2_with fail
   refine RegC.region_list (by kernel_rfl) [9] [RegC.plain (fun v _ => v = .pointer (some ⟨w3.heap.size, 8, none⟩)), RegC.plain (fun v _ => v = .slice a m c), RegC.plain (fun v _ => v = .pointer (some ⟨W.heap.size + 1, 8, none⟩)), RegC.plain (fun v _ => v = .slice (some ⟨blk, off, none⟩) dl' dc'), RegC.plain (fun v _ => v = .int .i64 (q : Int)), RegC.plain (fun v _ => v = .pointer (some ⟨blk, off + q * 3, none⟩)), RegC.plain (fun v _ => v = .agg #[.int .u8 (y.1.1 : Int), .int .u32 (y.1.2 : Int), .int .u64 (y.2 : Int)]), RegC.plain (fun v w => ∃ a' c', v = .slice a' m' c' ∧ VRowK (fun k => k = w3.heap.size ∨ k = W.heap.size + 1 + 1 + 1) w a' c' (Lm.bury T y)), RegC.plain (fun v _ => v = .pointer (some ⟨w3.heap.size, 8, none⟩)), RegC.change (fun v w => ∃ a' c', Blk w w3.heap.size 31 [.int .u8 (kk : Int), .int .i64 0, .int .u64 0, .int .u8 0, .int .u32 0, .int .u64 0, .string ⟨#[]⟩, .slice none 0 0, .slice a' m' c'] ∧ VRowK (fun k => k = w3.heap.size ∨ k = W.heap.size + 1 + 1 + 1) w a' c' (Lm.bury T y)) (fun k => k = w3.heap.size)] (by kernel_rfl) ?_ ?_ ?_ ?_ ?_
   ·exact ⟨Or.inr (fun _ h => h), Or.inr (fun _ h => h), Or.inr (fun _ h => h), Or.inr (fun _ h => h), Or.inr (fun _ h => h), Or.inr (fun _ h => h), Or.inr (fun _ h => h), Or.inr (fun _ h => h), Or.inr (fun _ h => h), Or.inl (by decide), trivial⟩
   ·refine ⟨k4, k4, k4, k4, k4, k4, k4, (fun v wa wb hb h => by obtain ⟨a', c', h1, h2⟩ := h; exact ⟨a', c', h1, h2.chg (Chg.of_below hb)⟩), k4, (fun v wa wb hb h => by obtain ⟨a', c', h1, h2⟩ := h; exact ⟨a', c', h1.below hb, h2.chg (Chg.of_below hb)⟩), trivial⟩
   ·refine ⟨⟨Or.inr (Or.inr k4), Or.inr (Or.inr k4), Or.inr (Or.inr k4), Or.inr (Or.inr k4), Or.inr (Or.inr k4), Or.inr (Or.inr k4), Or.inr (Or.inr k4), Or.inr (Or.inr (fun v wa wb hr h => by obtain ⟨a', c', h1, h2⟩ := h; exact ⟨a', c', h1, h2.chg (hr.mono (fun k _ e => Or.inl e))⟩)), Or.inr (Or.inr k4), Or.inl rfl, trivial⟩, trivial⟩
   ·refine ⟨?_, ?_, ?_, ?_, ?_, ?_, ?_, ?_, ?_, ?_, trivial⟩
    ·intro ev w hc hf hg hfix hdep hchg
     have e8 : ev (.tmp 8) = _ := hfix 8 (by decide)
     exact Or.inl ⟨trivial, Or.inl ⟨_, w, by go_simp, rfl, Chg.refl _ _⟩⟩
    ·intro ev w hc hf hg hfix hdep hchg
     have e53 : ev (.tmp 53) = _ := hdep 0 (by decide)
     have d := (HO.out.below (RegC.chg0 (hchg [] (by kernel_rfl)))).cell 8
     simp only [List.getElem?_cons_succ, List.getElem?_cons_zero] at d
     exact Or.inl ⟨trivial, Or.inl ⟨_, w, by go_simp, rfl, Chg.refl _ _⟩⟩
    ·intro ev w hc hf hg hfix hdep hchg
     have e4 : ev (.tmp 4) = _ := hfix 4 (by decide)
     exact Or.inl ⟨trivial, Or.inl ⟨_, w, by go_simp, rfl, Chg.refl _ _⟩⟩
    ·intro ev w hc hf hg hfix hdep hchg
     have e55 : ev (.tmp 55) = _ := hdep 2 (by decide)
     have d := (HX.out.below (RegC.chg0 (hchg [] (by kernel_rfl)))).cell 8
     simp only [List.getElem?_cons_succ, List.getElem?_cons_zero] at d
     exact Or.inl ⟨trivial, Or.inl ⟨_, w, by go_simp, rfl, Chg.refl _ _⟩⟩
    ·intro ev w hc hf hg hfix hdep hchg
     have e10 : ev (.tmp 10) = _ := hfix 10 (by decide)
     exact Or.inl ⟨trivial, Or.inl ⟨_, w, by go_simp, rfl, Chg.refl _ _⟩⟩
    ·intro ev w hc hf hg hfix hdep hchg
     have e56 : ev (.tmp 56) = _ := hdep 3 (by decide)
     have e57 : ev (.tmp 57) = _ := hdep 4 (by decide)
     exact Or.inl ⟨trivial, Or.inl ⟨_, w, by go_simp, rfl, Chg.refl _ _⟩⟩
    ·intro ev w hc hf hg hfix hdep hchg
     have e58 : ev (.tmp 58) = _ := hdep 5 (by decide)
     have hbw := HWr.out.trans ((RegC.chg0 (hchg [] (by kernel_rfl))).mono HWr.out.size)
     have q0 := (hbw.cell (p := ⟨blk, off + q * 3, none⟩) hblk).trans g0
     have q1 := (hbw.cell (p := ⟨blk, off + q * 3 + 1, none⟩) hblk).trans g1
     have q2 := (hbw.cell (p := ⟨blk, off + q * 3 + 2, none⟩) hblk).trans g2
     exact Or.inl ⟨trivial, Or.inl ⟨_, w, by go_simp, rfl, Chg.refl _ _⟩⟩
    ·intro ev w hc hf hg hfix hdep hchg
     have e54 : ev (.tmp 54) = _ := hdep 1 (by decide)
     have e59 : ev (.tmp 59) = _ := hdep 6 (by decide)
     refine Or.inl ⟨trivial, Or.inr (Or.inl ⟨18, #[.slice a m c, .agg #[.int .u8 (y.1.1 : Int), .int .u32 (y.1.2 : Int), .int .u64 (y.2 : Int)]], w, by go_simp, ?_⟩)⟩
     have hb0 := RegC.chg0 (hchg [] (by kernel_rfl))
     refine (refbury_k (fun k => k = w3.heap.size ∨ k = W.heap.size + 1 + 1 + 1) a m c y T w (HT.out.chg (Chg.of_below hb0)) HM.out HY.out (by omega) (fun k e => by have := hb0.size; have := HO.out.lt; rcases e with e | e <;> omega)).mono ?_
     rintro e w9 ⟨⟨a', c', rfl, hrow⟩, hb⟩
     rw [← HM2.out] at *
     exact ⟨_, rfl, ⟨a', c', rfl, hrow⟩, Chg.of_below hb⟩
    ·intro ev w hc hf hg hfix hdep hchg
     have e8 : ev (.tmp 8) = _ := hfix 8 (by decide)
     exact Or.inl ⟨trivial, Or.inl ⟨_, w, by go_simp, rfl, Chg.refl _ _⟩⟩
    ·intro ev w hc hf hg hfix hdep hchg
     have e61 : ev (.tmp 61) = _ := hdep 8 (by decide)
     have e60 := hdep 7 (by decide)
     have hG := HO.out.below (RegC.chg0 (hchg [] (by kernel_rfl)))
     obtain ⟨a', c', hv, hrow⟩ := e60
     have e60 : ev (.tmp 60) = .slice a' m' c' := hv
     have d := hG.cell 8; have y8 := hG.frozen 8
     simp only [List.getElem?_cons_succ, List.getElem?_cons_zero] at d
     have hcS := (Chg.refl (fun k => k = w3.heap.size) w).set (Or.inr rfl) 8 (.slice a' m' c')
     exact Or.inl ⟨trivial, Or.inr (Or.inr ⟨w.setCell ⟨w3.heap.size, 8, none⟩ (.slice a' m' c'), by go_simp, ⟨a', c', hG.set 8 _, hrow.chg (hcS.mono (fun k _ e => Or.inl e))⟩, hcS⟩)⟩
   ·intro v w2 hv hb2
    have r0 : v 0 = _ := hv 0 (by decide)
    have r1 : v 1 = _ := hv 1 (by decide)
    have r2 : v 2 = _ := hv 2 (by decide)
    have r3 : v 3 = _ := hv 3 (by decide)
    have r4 : v 4 = _ := hv 4 (by decide)
    have r5 : v 5 = _ := hv 5 (by decide)
    have r6 : v 6 = _ := hv 6 (by decide)
    have r7 := hv 7 (by decide)
    have r8 : v 8 = _ := hv 8 (by decide)
    have r9 := hv 9 (by decide)
    simp only [Reg.putAll, Act.put, List.setIfInBounds_toArray, List.set_cons_zero, List.set_cons_succ, r0, r1, r2, r3, r4, r5, r6, r8]
    clear r0 r1 r2 r3 r4 r5 r6 r8 hv
    obtain ⟨a', c', hO', hT'⟩ := r9
    have hc3 : Chg (fun k => k = w3.heap.size) _ w2 := RegC.end1 hb2
    have hb' := Chg.belowTrans HBl.out hc3 (fun k hk e => by have : k = w3.heap.size := e; omega) HBl.out.size
    have HO' := Lib.hid hO'; have HT' := Lib.hid hT'; have HB' := Lib.hid hb'
    clear hO' hT' hc3 hb' hb2 x8
    go_wp2_with fail
    go_roundw
    case rel => exact ⟨q + 1, a', c', m', Lm.bury T y, by go_num, by omega, by rw [foldl_take _ _ HYq.out, HTE.out], HM2.out.symm, HO'.out, HT'.out, HB'.out⟩
    case measure => simp [intOf]; omega
  ·have hqe : dl' = q := by omega
   subst hqe
   have hTd : T = ld'.foldl Lm.bury [] := by rw [HTE.out, List.take_of_length_le (Nat.le_of_eq HDl'.out)]
   have HTd := Lib.hid hTd
   clear hTd
   have x8 := HX.out.cell 8
   simp only [List.getElem?_cons_succ, List.getElem?_cons_zero] at x8
   go_wp2_with fail
   clear x8
   go_loopw [11] (fun v wr => ∃ (q : Nat) (a : Option Addr) (c m : Nat) (T : List Dt.Dot), v = .int .i64 q ∧ q ≤ dl'' ∧ T = (ld''.take q).foldl Lm.bury (ld'.foldl Lm.bury []) ∧ T.length = m ∧ Blk wr w3.heap.size 31 [.int .u8 (kk : Int), .int .i64 0, .int .u64 0, .int .u8 0, .int .u32 0, .int .u64 0, .string ⟨#[]⟩, .slice none 0 0, .slice a m c] ∧ VRowK (fun k => k = w3.heap.size ∨ k = W.heap.size + 1 + 1 + 1) wr a c T ∧ Below w3.heap.size w3 wr) (fun v _ => dl'' - (intOf v).toNat)
   case atStart => exact ⟨0, a, c, m, T, rfl, by omega, HTd.out, HM.out, HO.out, HT.out, HBl.out⟩
   case round =>
    obtain ⟨q, a, c, m, T, rfl, hq, hT, hm, hO, hTr, hb⟩ := hrel
    have HO := Lib.hid hO; have HT := Lib.hid hTr; have HM := Lib.hid hm; have HTE := Lib.hid hT
    have HX := Lib.hid (HB.out.below hb); have HWr := Lib.hid (HW.out.trans (hb.mono HW.out.size)); have HBl := Lib.hid hb
    have hTlen : m ≤ dl' + q := by
     have h1 := buried_len (ld''.take q) (ld'.foldl Lm.bury [])
     rw [← hT, hm, List.length_take] at h1
     have h2 := buried_len ld' []; have := HDl'.out; simp only [List.length_nil] at h2
     omega
    clear hT hm hTr hO hb
    by_cases hlt : q < dl''
    ·obtain ⟨y, hy⟩ := getD_some (l := ld'') (i := q) (by rw [HDl''.out]; exact hlt)
     obtain ⟨blk, off, rfl, hblk, hcells⟩ := HD''.out.at (by rw [HDl''.out]; omega)
     obtain ⟨g0, g1, g2⟩ := hcells q y hy
     have HY := Lib.hid (HD''.out.ok y (List.mem_of_getElem? hy)); have HYq := Lib.hid hy
     have x8 := HX.out.cell 8
     simp only [List.getElem?_cons_succ, List.getElem?_cons_zero] at x8
     obtain ⟨m', hm'⟩ : ∃ m', m' = (Lm.bury T y).length := ⟨_, rfl⟩
     have HM2 := Lib.hid hm'
     have i0 : (0 : Int) ≤ (q : Int) := by omega
     have i1 : (q : Int) < (dl'' : Int) := by omega
     have hw1 : IntKind.i64.wrap ((q : Int) + 1) = (q : Int) + 1 := by simp [IntKind.wrap, IntKind.bits, IntKind.signed]; omega
     clear hcells hy hm'
     go_wp2_with fail
     refine RegC.region_list (by kernel_rfl) [9] [RegC.plain (fun v _ => v = .pointer (some ⟨w3.heap.size, 8, none⟩)), RegC.plain (fun v _ => v = .slice a m c), RegC.plain (fun v _ => v = .pointer (some ⟨W.heap.size + 1 + 1, 8, none⟩)), RegC.plain (fun v _ => v = .slice (some ⟨blk, off, none⟩) dl'' dc''), RegC.plain (fun v _ => v = .int .i64 (q : Int)), RegC.plain (fun v _ => v = .pointer (some ⟨blk, off + q * 3, none⟩)), RegC.plain (fun v _ => v = .agg #[.int .u8 (y.1.1 : Int), .int .u32 (y.1.2 : Int), .int .u64 (y.2 : Int)]), RegC.plain (fun v w => ∃ a' c', v = .slice a' m' c' ∧ VRowK (fun k => k = w3.heap.size ∨ k = W.heap.size + 1 + 1 + 1) w a' c' (Lm.bury T y)), RegC.plain (fun v _ => v = .pointer (some ⟨w3.heap.size, 8, none⟩)), RegC.change (fun v w => ∃ a' c', Blk w w3.heap.size 31 [.int .u8 (kk : Int), .int .i64 0, .int .u64 0, .int .u8 0, .int .u32 0, .int .u64 0, .string ⟨#[]⟩, .slice none 0 0, .slice a' m' c'] ∧ VRowK (fun k => k = w3.heap.size ∨ k = W.heap.size + 1 + 1 + 1) w a' c' (Lm.bury T y)) (fun k => k = w3.heap.size)] (by kernel_rfl) ?_ ?_ ?_ ?_ ?_
     ·exact ⟨Or.inr (fun _ h => h), Or.inr (fun _ h => h), Or.inr (fun _ h => h), Or.inr (fun _ h => h), Or.inr (fun _ h => h), Or.inr (fun _ h => h), Or.inr (fun _ h => h), Or.inr (fun _ h => h), Or.inr (fun _ h => h), Or.inl (by decide), trivial⟩
     ·refine ⟨k4, k4, k4, k4, k4, k4, k4, (fun v wa wb hb h => by obtain ⟨a', c', h1, h2⟩ := h; exact ⟨a', c', h1, h2.chg (Chg.of_below hb)⟩), k4, (fun v wa wb hb h => by obtain ⟨a', c', h1, h2⟩ := h; exact ⟨a', c', h1.below hb, h2.chg (Chg.of_below hb)⟩), trivial⟩
     ·refine ⟨⟨Or.inr (Or.inr k4), Or.inr (Or.inr k4), Or.inr (Or.inr k4), Or.inr (Or.inr k4), Or.inr (Or.inr k4), Or.inr (Or.inr k4), Or.inr (Or.inr k4), Or.inr (Or.inr (fun v wa wb hr h => by obtain ⟨a', c', h1, h2⟩ := h; exact ⟨a', c', h1, h2.chg (hr.mono (fun k _ e => Or.inl e))⟩)), Or.inr (Or.inr k4), Or.inl rfl, trivial⟩, trivial⟩
     ·refine ⟨?_, ?_, ?_, ?_, ?_, ?_, ?_, ?_, ?_, ?_, trivial⟩
      ·intro ev w hc hf hg hfix hdep hchg
       have e8 : ev (.tmp 8) = _ := hfix 8 (by decide)
       exact Or.inl ⟨trivial, Or.inl ⟨_, w, by go_simp, rfl, Chg.refl _ _⟩⟩
      ·intro ev w hc hf hg hfix hdep hchg
       have e69 : ev (.tmp 69) = _ := hdep 0 (by decide)
       have d := (HO.out.below (RegC.chg0 (hchg [] (by kernel_rfl)))).cell 8
       simp only [List.getElem?_cons_succ, List.getElem?_cons_zero] at d
       exact Or.inl ⟨trivial, Or.inl ⟨_, w, by go_simp, rfl, Chg.refl _ _⟩⟩
      ·intro ev w hc hf hg hfix hdep hchg
       have e5 : ev (.tmp 5) = _ := hfix 5 (by decide)
       exact Or.inl ⟨trivial, Or.inl ⟨_, w, by go_simp, rfl, Chg.refl _ _⟩⟩
      ·intro ev w hc hf hg hfix hdep hchg
       have e71 : ev (.tmp 71) = _ := hdep 2 (by decide)
       have d := (HX.out.below (RegC.chg0 (hchg [] (by kernel_rfl)))).cell 8
       simp only [List.getElem?_cons_succ, List.getElem?_cons_zero] at d
       exact Or.inl ⟨trivial, Or.inl ⟨_, w, by go_simp, rfl, Chg.refl _ _⟩⟩
      ·intro ev w hc hf hg hfix hdep hchg
       have e11 : ev (.tmp 11) = _ := hfix 11 (by decide)
       exact Or.inl ⟨trivial, Or.inl ⟨_, w, by go_simp, rfl, Chg.refl _ _⟩⟩
      ·intro ev w hc hf hg hfix hdep hchg
       have e72 : ev (.tmp 72) = _ := hdep 3 (by decide)
       have e73 : ev (.tmp 73) = _ := hdep 4 (by decide)
       exact Or.inl ⟨trivial, Or.inl ⟨_, w, by go_simp, rfl, Chg.refl _ _⟩⟩
      ·intro ev w hc hf hg hfix hdep hchg
       have e74 : ev (.tmp 74) = _ := hdep 5 (by decide)
       have hbw := HWr.out.trans ((RegC.chg0 (hchg [] (by kernel_rfl))).mono HWr.out.size)
       have q0 := (hbw.cell (p := ⟨blk, off + q * 3, none⟩) hblk).trans g0
       have q1 := (hbw.cell (p := ⟨blk, off + q * 3 + 1, none⟩) hblk).trans g1
       have q2 := (hbw.cell (p := ⟨blk, off + q * 3 + 2, none⟩) hblk).trans g2
       exact Or.inl ⟨trivial, Or.inl ⟨_, w, by go_simp, rfl, Chg.refl _ _⟩⟩
      ·intro ev w hc hf hg hfix hdep hchg
       have e70 : ev (.tmp 70) = _ := hdep 1 (by decide)
       have e75 : ev (.tmp 75) = _ := hdep 6 (by decide)
       refine Or.inl ⟨trivial, Or.inr (Or.inl ⟨18, #[.slice a m c, .agg #[.int .u8 (y.1.1 : Int), .int .u32 (y.1.2 : Int), .int .u64 (y.2 : Int)]], w, by go_simp, ?_⟩)⟩
       have hb0 := RegC.chg0 (hchg [] (by kernel_rfl))
       refine (refbury_k (fun k => k = w3.heap.size ∨ k = W.heap.size + 1 + 1 + 1) a m c y T w (HT.out.chg (Chg.of_below hb0)) HM.out HY.out (by omega) (fun k e => by have := hb0.size; have := HO.out.lt; rcases e with e | e <;> omega)).mono ?_
       rintro e w9 ⟨⟨a', c', rfl, hrow⟩, hb⟩
       rw [← HM2.out] at *
       exact ⟨_, rfl, ⟨a', c', rfl, hrow⟩, Chg.of_below hb⟩
      ·intro ev w hc hf hg hfix hdep hchg
       have e8 : ev (.tmp 8) = _ := hfix 8 (by decide)
       exact Or.inl ⟨trivial, Or.inl ⟨_, w, by go_simp, rfl, Chg.refl _ _⟩⟩
      ·intro ev w hc hf hg hfix hdep hchg
       have e77 : ev (.tmp 77) = _ := hdep 8 (by decide)
       have e76 := hdep 7 (by decide)
       have hG := HO.out.below (RegC.chg0 (hchg [] (by kernel_rfl)))
       obtain ⟨a', c', hv, hrow⟩ := e76
       have e76 : ev (.tmp 76) = .slice a' m' c' := hv
       have d := hG.cell 8; have y8 := hG.frozen 8
       simp only [List.getElem?_cons_succ, List.getElem?_cons_zero] at d
       have hcS := (Chg.refl (fun k => k = w3.heap.size) w).set (Or.inr rfl) 8 (.slice a' m' c')
       exact Or.inl ⟨trivial, Or.inr (Or.inr ⟨w.setCell ⟨w3.heap.size, 8, none⟩ (.slice a' m' c'), by go_simp, ⟨a', c', hG.set 8 _, hrow.chg (hcS.mono (fun k _ e => Or.inl e))⟩, hcS⟩)⟩
     ·intro v w2 hv hb2
      have r0 : v 0 = _ := hv 0 (by decide)
      have r1 : v 1 = _ := hv 1 (by decide)
      have r2 : v 2 = _ := hv 2 (by decide)
      have r3 : v 3 = _ := hv 3 (by decide)
      have r4 : v 4 = _ := hv 4 (by decide)
      have r5 : v 5 = _ := hv 5 (by decide)
      have r6 : v 6 = _ := hv 6 (by decide)
      have r7 := hv 7 (by decide)
      have r8 : v 8 = _ := hv 8 (by decide)
      have r9 := hv 9 (by decide)
      simp only [Reg.putAll, Act.put, List.setIfInBounds_toArray, List.set_cons_zero, List.set_cons_succ, r0, r1, r2, r3, r4, r5, r6, r8]
      clear r0 r1 r2 r3 r4 r5 r6 r8 hv
      obtain ⟨a', c', hO', hT'⟩ := r9
      have hc3 : Chg (fun k => k = w3.heap.size) _ w2 := RegC.end1 hb2
      have hb' := Chg.belowTrans HBl.out hc3 (fun k hk e => by have : k = w3.heap.size := e; omega) HBl.out.size
      have HO' := Lib.hid hO'; have HT' := Lib.hid hT'; have HB' := Lib.hid hb'
      clear hO' hT' hc3 hb' hb2 x8
      go_wp2_with fail
      go_roundw
      case rel => exact ⟨q + 1, a', c', m', Lm.bury T y, by go_num, by omega, by rw [foldl_take _ _ HYq.out, HTE.out], HM2.out.symm, HO'.out, HT'.out, HB'.out⟩
      case measure => simp [intOf]; omega
    ·have hqe : dl'' = q := by omega
     subst hqe
     have hTd : T = ld''.foldl Lm.bury (ld'.foldl Lm.bury []) := by rw [HTE.out, List.take_of_length_le (Nat.le_of_eq HDl''.out)]
     have HTd := Lib.hid hTd
     clear hTd
     have x8 := HX.out.cell 8
     simp only [List.getElem?_cons_succ, List.getElem?_cons_zero] at x8
     have hup : Below wr.heap.size wr (wr.alloc (.cells #[] 41)) := (Below.refl _ _).alloc (Nat.le_refl _) _
     have u7 := (HA.out.below HBl.out).cell 7
     have z7 := ((HA.out.below HBl.out).below hup).cell 7
     simp only [List.getElem?_cons_succ, List.getElem?_cons_zero] at u7 z7
     have hs := srcI ((HI'.out.below HWr.out).below hup)
     rw [HIl'.out] at hs
     obtain ⟨v', w4, row, h1, h2, h3, h4⟩ := appsI (.slice (some ⟨wr.heap.size, 0, none⟩) 0 0) none [] li' (.slice ia' il' ic') wr.heap.size _ (Own.empty hup.size _) (by rw [HIl'.out]; exact hs) (by rw [HIl'.out]; simp; omega) 28
     rw [List.nil_append] at h2
     have hb4 := hup.grown h3 hup.size (fun b e => by cases e)
     obtain ⟨va, vc, rfl, hrow⟩ := ownI_row h2 HI'.out.ok
     rw [HIl'.out] at h1
     have HR4 := Lib.hid hrow; have HO4 := Lib.hid (HO.out.below hb4); have HT4 := Lib.hid (HT.out.chg (Chg.of_below hb4)); have HB4 := Lib.hid (HBl.out.trans (hb4.mono HBl.out.size))
     clear h2 h3 h4 hrow hs hup hb4
     go_wp2_with (at_builtin; refine Lib.wpList_append_run _ rfl _ _ _ _ rfl _ _ rfl rfl _ _ h1 ?_)
     clear x8 u7 z7 h1
     go_loopw [12, 13] (fun v u wr => ∃ (q : Nat) (b : Option Addr) (e k : Nat) (L : List Lm.It), v = .slice b k e ∧ u = .int .i64 q ∧ q ≤ il'' ∧ L = (li''.take q).foldl Lm.lay1 li' ∧ L.length = k ∧ IRow wr b e L ∧ Blk wr w3.heap.size 31 [.int .u8 (kk : Int), .int .i64 0, .int .u64 0, .int .u8 0, .int .u32 0, .int .u64 0, .string ⟨#[]⟩, .slice none 0 0, .slice a m c] ∧ VRowK (fun k => k = w3.heap.size ∨ k = W.heap.size + 1 + 1 + 1) wr a c T ∧ Below w3.heap.size w3 wr) (fun _ u _ => il'' - (intOf u).toNat)
     case atStart => exact ⟨0, va, vc, il', li', rfl, rfl, by omega, rfl, HIl'.out, HR4.out, HO4.out, HT4.out, HB4.out⟩
     case round =>
      obtain ⟨q, b, e, k, L, rfl, rfl, hq, hL, hk, hrow, hO, hTr, hb⟩ := hrel
      have HO := Lib.hid hO; have HT := Lib.hid hTr; have HK3 := Lib.hid hk; have HLE := Lib.hid hL; have HR3 := Lib.hid hrow
      have HX := Lib.hid (HB.out.below hb); have HWr := Lib.hid (HW.out.trans (hb.mono HW.out.size)); have HBl := Lib.hid hb
      have hLlen : k ≤ il' + q := by
       have h1 := laid_len (li''.take q) li'
       rw [← hL, hk, List.length_take] at h1
       have := HIl'.out
       omega
      clear hL hk hrow hTr hO
      by_cases hlt : q < il''
      ·obtain ⟨z, hz⟩ := geti_some (l := li'') (i := q) (by rw [HIl''.out]; exact hlt)
       obtain ⟨blk, off, rfl, hblk, hcells⟩ := HI''.out.at (by rw [HIl''.out]; omega)
       obtain ⟨g0, g1, g2, g3, g4⟩ := hcells q z hz
       have hbw := HWr.out
       have q0 := (hbw.cell (p := ⟨blk, off + q * 5, none⟩) hblk).trans g0
       have q1 := (hbw.cell (p := ⟨blk, off + q * 5 + 1, none⟩) hblk).trans g1
       have q2 := (hbw.cell (p := ⟨blk, off + q * 5 + 2, none⟩) hblk).trans g2
       have q3 := (hbw.cell (p := ⟨blk, off + q * 5 + 3, none⟩) hblk).trans g3
       have q4 := (hbw.cell (p := ⟨blk, off + q * 5 + 4, none⟩) hblk).trans g4
       have HY := Lib.hid (HI''.out.ok z (List.mem_of_getElem? hz)); have HYq := Lib.hid hz
       have x7 := HX.out.cell 7
       simp only [List.getElem?_cons_succ, List.getElem?_cons_zero] at x7
       have i0 : (0 : Int) ≤ (q : Int) := by omega
       have i1 : (q : Int) < (il'' : Int) := by omega
       have hw1 : IntKind.i64.wrap ((q : Int) + 1) = (q : Int) + 1 := by simp [IntKind.wrap, IntKind.bits, IntKind.signed]; omega
       clear hcells hz hb g0 g1 g2 g3 g4 hbw
       go_wp2_with fail
       refine (reflay1_any b k e z L _ HR3.out HK3.out HY.out (by omega)).mono ?_
       rintro e9 w9 ⟨⟨b', e', rfl, hrow⟩, hb⟩
       obtain ⟨k', hk'⟩ : ∃ k', k' = (Lm.lay1 L z).length := ⟨_, rfl⟩
       rw [← hk']
       have HR9 := Lib.hid hrow; have HK9 := Lib.hid hk'; have HO9 := Lib.hid (HO.out.below hb); have HT9 := Lib.hid (HT.out.chg (Chg.of_below hb)); have HB9 := Lib.hid (HBl.out.trans (hb.mono HBl.out.size))
       clear hrow hk' hb q0 q1 q2 q3 q4 x7
       go_wp2_with fail
       go_roundw
       case rel => exact ⟨q + 1, b', e', k', Lm.lay1 L z, rfl, by go_num, by omega, by rw [foldl_take _ _ HYq.out, HLE.out], HK9.out.symm, HR9.out, HO9.out, HT9.out, HB9.out⟩
       case measure => simp [intOf]; omega
      ·have hqe : il'' = q := by omega
       subst hqe
       have hLd : L = (li''.foldl Lm.lay1 li') := by rw [HLE.out, List.take_of_length_le (Nat.le_of_eq HIl''.out)]
       have HLd := Lib.hid hLd
       clear hLd
       have x7 := HX.out.cell 7
       simp only [List.getElem?_cons_succ, List.getElem?_cons_zero] at x7
       have d8 := HO.out.cell 8
       simp only [List.getElem?_cons_succ, List.getElem?_cons_zero] at d8
       go_wp2_with fail
       clear x7 d8
       refine (refleft_stay b k e a m c L T _ HR3.out HK3.out HT.out.row HM.out (by omega)).mono ?_
       rintro e5 w5 ⟨⟨b', e', rfl, hrow⟩, hb⟩
       have HRow := Lib.hid hrow
       obtain ⟨nl, hnl⟩ : ∃ nl, nl = (L.filter (fun y => !Lm.hasD T y.2.1)).length := ⟨_, rfl⟩
       rw [show (L.filter (fun y => !Lm.hasD T y.2.1)).length = nl from hnl.symm]
       have HNl := Lib.hid hnl
       have hO5 := HO.out.below hb; have hR5 := (HR.out.below HBl.out).below hb
       have HO5 := Lib.hid hO5; have HR5 := Lib.hid hR5; have HT5 := Lib.hid (HT.out.chg (Chg.of_below hb)); have HB5 := Lib.hid (HBl.out.trans (hb.mono HBl.out.size))
       have HSz := Lib.hid hb.size
       clear hrow hnl hb
       obtain ⟨y0, y1, y2, y3, y4, y5, y6, y7, y8⟩ := leafblk hO5
       have hfO : ∀ j, w5.frozen? ⟨w3.heap.size, j, none⟩ = false := fun j => hO5.frozen j
       obtain ⟨q0, q1, q2, q3, q4, q5, q6, q7, q8⟩ := leafblk hR5
       have hfQ : ∀ j, w5.frozen? ⟨W.heap.size + 1 + 1 + 1, j, none⟩ = false := fun j => hR5.frozen j
       clear hO5 hR5
       have nqa : ¬ (w3.heap.size = W.heap.size + 1 + 1 + 1) := by have := HR.out.lt; omega
       have nqb : ¬ (W.heap.size + 1 + 1 + 1 = w3.heap.size) := by have := HR.out.lt; omega
       go_wp2_with fail
       clear y0 q0 y1 q1 y2 q2 y3 q3 y4 q4 y5 q5 y6 q6 y7 q7 y8 q8 hfO hfQ
       have hcL : Chg (fun k => k = w3.heap.size) w5 (w5.setCell ⟨w3.heap.size, 7, none⟩ (.slice b' nl e')) := (Chg.refl (fun k => k = w3.heap.size) w5).set (Or.inr rfl) 7 _
       have hb6 := Chg.belowTrans HB5.out hcL (fun k hk e => by have : k = w3.heap.size := e; omega) HB5.out.size
       have hR6 := HR5.out.chg hcL (fun e => by have : W.heap.size + 1 + 1 + 1 = w3.heap.size := e; omega)
       have hc9 := chg9 (w5.setCell ⟨w3.heap.size, 7, none⟩ (.slice b' nl e')) (W.heap.size + 1 + 1 + 1) (.int .u8 (kk : Int)) (.int .i64 0) (.int .u64 0) (.int .u8 0) (.int .u32 0) (.int .u64 0) (.string ⟨#[]⟩) (.slice b' nl e') (.slice a m c)
       have hwr := HW.out.trans (hb6.mono HW.out.size)
       have hfin := Chg.belowTrans hwr hc9 (fun k hk e => by have : k = W.heap.size + 1 + 1 + 1 := e; omega) hwr.size
       have HFin := Lib.hid hfin
       refine bodyPost_ret (v := .tuple #[.agg #[.int .u8 (kk : Int), .int .i64 0, .int .u64 0, .int .u8 0, .int .u32 0, .int .u64 0, .string ⟨#[]⟩, .slice b' nl e', .slice a m c], .int .i64 0]) (res_leaf2 (b := W.heap.size + 1 + 1 + 1) Try.results8 (by simp) (by simp) (blk9 hR6 _ _ _ _ _ _ _ _ _)) rfl ⟨?_, HFin.out⟩
       have hro := HRow.out
       have hLt := HO.out.lt; have hLr := HR.out.lt
       have hZ : Chg (fun k => k < wr.heap.size) w5 _ := (hcL.mono (T := fun k => k < wr.heap.size) (fun k hk e => by have : k = w3.heap.size := e; omega)).trans (hc9.mono (T := fun k => k < wr.heap.size) (fun k hk e => by have : k = W.heap.size + 1 + 1 + 1 := e; omega)) (fun _ _ e => e)
       have hTz := HT5.out _ ((hcL.mono (T := (fun k => k = w3.heap.size ∨ k = W.heap.size + 1 + 1 + 1)) (fun k _ e => Or.inl e)).trans (hc9.mono (T := (fun k => k = w3.heap.size ∨ k = W.heap.size + 1 + 1 + 1)) (fun k _ e => Or.inr e)) (fun _ _ e => e))
       have hiz := hro _ hZ
       have e1 := HNl.out; have e2 := HM.out; have e3 := HLd.out; have e4 := HTd.out
       subst e1; subst e2; subst e3; subst e4
       exact ⟨b', e', a, c, rfl, hiz, hTz⟩
end Go.Proofs.Ytmnblimnoaockaa
