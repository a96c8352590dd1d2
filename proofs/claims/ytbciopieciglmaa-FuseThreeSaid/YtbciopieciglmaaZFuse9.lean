import Derived.Test.YtbciopieciglmaaZFuse3
import Derived.Test.YtbciopieciglmaaZFuse8
import Derived.Test.YtbciopieciglmaaZRegC
import Derived.Test.YtbciopieciglmaaZLeaf14
namespace Go.Proofs.Ytbciopieciglmaa
open Go.RowKit Go.Buf Go.LB Go.Lib
set_option linter.unusedSimpArgs false
set_option linter.unusedVariables false
def Gathered (B : Nat) (w : World) (v : Value) (gone : List Dt.Dot) (la lb : List Lm.It) : Prop := ∃ row s, OwnI B w v s row ∧ s.Perm (Lm.gath gone la lb) ∧ s.Pairwise (fun x y => ¬ Lm.aheadI y x = true)
theorem Gathered.below {B : Nat} {w w' : World} {v : Value} {gone : List Dt.Dot} {la lb : List Lm.It} (h : Gathered B w v gone la lb) (hb : Below w.heap.size w w') : Gathered B w' v gone la lb := by
 obtain ⟨row, s, h1, h2⟩ := h; exact ⟨row, s, h1.below hb, h2⟩
theorem Gathered.base {B B' : Nat} {w : World} {v : Value} {gone : List Dt.Dot} {la lb : List Lm.It} (h : Gathered B w v gone la lb) (hB : B' ≤ B) : Gathered B' w v gone la lb := by
 obtain ⟨row, s, h1, h2⟩ := h; exact ⟨row, s, h1.base hB, h2⟩
theorem Gathered.leaf {B b : Nat} {w w' : World} {v : Value} {gone : List Dt.Dot} {la lb : List Lm.It} {cs : List Value} (h : Gathered B w v gone la lb) (hb : Blk w b 40 cs) (hc : Chg (fun k => k = b) w w') : Gathered B w' v gone la lb := by
 obtain ⟨row, s, h1, h2⟩ := h
 exact ⟨row, s, h1.chg hc (fun k e e2 => ownI_ne h1 hb (by decide) (by rw [e, e2])), h2⟩
theorem Gathered.past {B b : Nat} {w w' : World} {v : Value} {gone : List Dt.Dot} {la lb : List Lm.It} (h : Gathered B w v gone la lb) (hc : Chg (fun k => k = b) w w') (hlt : b < B) : Gathered B w' v gone la lb := by
 obtain ⟨row, s, h1, h2⟩ := h
 exact ⟨row, s, h1.chg hc (fun k e e2 => by have := (h1.lt k e).1; have : k = b := e2; omega), h2⟩
theorem Gathered.slice {B : Nat} {w : World} {v : Value} {gone : List Dt.Dot} {la lb : List Lm.It} (h : Gathered B w v gone la lb) : ∃ a n c, v = .slice a n c := by
 obtain ⟨row, s, h1, h2⟩ := h
 obtain ⟨a, c, e, _⟩ := h1.reads encI_len
 exact ⟨a, _, c, e⟩
theorem ownD_ne {B c : Nat} {w : World} {v : Value} {l : List Dt.Dot} {row : Option Nat} {u : TypeId} {ds : List Value} (h : OwnD B w v l row) (g : Blk w c u ds) (hne : 31 ≠ u) : row ≠ some c := by
 rintro rfl
 rcases h.2 with ⟨h1, _⟩ | ⟨g', cap, tl, h1, h2, h3, h4, _⟩
 ·cases h1
 ·cases h1; exact h4.ne_of g hne rfl
theorem blks4 {W w1 : World} {c d e f : Array Value} {t u v x : TypeId} (hb : Below ((((W.alloc (.cells c t)).alloc (.cells d u)).alloc (.cells e v)).alloc (.cells f x)).heap.size ((((W.alloc (.cells c t)).alloc (.cells d u)).alloc (.cells e v)).alloc (.cells f x)) w1) :
  Blk w1 W.heap.size t c.toList ∧ Blk w1 (W.heap.size + 1) u d.toList ∧ Blk w1 (W.heap.size + 1 + 1) v e.toList ∧ Blk w1 (W.heap.size + 1 + 1 + 1) x f.toList := by
 have up : ∀ (w : World) (o : Obj), Below w.heap.size w (w.alloc o) := fun w o => (Below.refl _ _).alloc (Nat.le_refl _) o
 have h1 := ((((Blk.new W c t).below (up _ (.cells d u))).below (up _ (.cells e v))).below (up _ (.cells f x))).below hb
 have h2 := (((Blk.new (W.alloc (.cells c t)) d u).below (up _ (.cells e v))).below (up _ (.cells f x))).below hb
 have h3 := ((Blk.new ((W.alloc (.cells c t)).alloc (.cells d u)) e v).below (up _ (.cells f x))).below hb
 have h4 := (Blk.new (((W.alloc (.cells c t)).alloc (.cells d u)).alloc (.cells e v)) f x).below hb
 simp only [World.size_alloc] at h1 h2 h3 h4
 exact ⟨h1, h2, h3, h4⟩
set_option maxRecDepth 100000 in
set_option maxHeartbeats 12800000 in
theorem mergeLogs_any (kk : Nat) (n : Int) (t r i s : Nat) (x : ByteArray) (ia : Option Addr) (il ic : Nat) (da : Option Addr) (dl dc : Nat) (kk' : Nat) (n' : Int) (t' r' i' s' : Nat) (x' : ByteArray) (ia' : Option Addr) (il' ic' : Nat) (da' : Option Addr) (dl' dc' : Nat) (kk'' : Nat) (n'' : Int) (t'' r'' i'' s'' : Nat) (x'' : ByteArray) (ia'' : Option Addr) (il'' ic'' : Nat) (da'' : Option Addr) (dl'' dc'' : Nat) (li' li'' : List Lm.It) (W : World) (hi' : IRow W ia' ic' li') (hil' : li'.length = il') (hi'' : IRow W ia'' ic'' li'') (hil'' : li''.length = il'') (hn2 : il' ≤ 10000) (hn3 : il'' ≤ 10000) :
  Calls Try.prog 28 #[leafV kk n t r i s x ia il ic da dl dc, leafV kk' n' t' r' i' s' x' ia' il' ic' da' dl' dc', leafV kk'' n'' t'' r'' i'' s'' x'' ia'' il'' ic'' da'' dl'' dc''] W fun e w' => (∃ u, e = .returned (.agg #[.int .u8 (kk : Int), .int .i64 0, .int .u64 0, .int .u8 0, .int .u32 0, .int .u64 0, .string ⟨#[]⟩, u, .slice none 0 0]) ∧ Gathered W.heap.size w' u [] li' li'') ∧ Below W.heap.size W w' := by
 have HI' := Lib.hid hi'; have HIl' := Lib.hid hil'; have HI'' := Lib.hid hi''; have HIl'' := Lib.hid hil''
 clear hi' hil' hi'' hil''
 have hW := below_box4 W #[.int .u8 (kk : Int), .int .i64 n, .int .u64 (t : Int), .int .u8 (r : Int), .int .u32 (i : Int), .int .u64 (s : Int), .string x, .slice ia il ic, .slice da dl dc] #[.int .u8 (kk' : Int), .int .i64 n', .int .u64 (t' : Int), .int .u8 (r' : Int), .int .u32 (i' : Int), .int .u64 (s' : Int), .string x', .slice ia' il' ic', .slice da' dl' dc'] #[.int .u8 (kk'' : Int), .int .i64 n'', .int .u64 (t'' : Int), .int .u8 (r'' : Int), .int .u32 (i'' : Int), .int .u64 (s'' : Int), .string x'', .slice ia'' il'' ic'', .slice da'' dl'' dc''] #[.int .u8 0, .int .i64 0, .int .u64 0, .int .u8 0, .int .u32 0, .int .u64 0, .string ⟨#[]⟩, .slice none 0 0, .slice none 0 0] 40 40 40 40
 obtain ⟨hL, hA, hB, hR⟩ := blks4 (Below.refl ((((W.alloc (.cells #[.int .u8 (kk : Int), .int .i64 n, .int .u64 (t : Int), .int .u8 (r : Int), .int .u32 (i : Int), .int .u64 (s : Int), .string x, .slice ia il ic, .slice da dl dc] 40)).alloc (.cells #[.int .u8 (kk' : Int), .int .i64 n', .int .u64 (t' : Int), .int .u8 (r' : Int), .int .u32 (i' : Int), .int .u64 (s' : Int), .string x', .slice ia' il' ic', .slice da' dl' dc'] 40)).alloc (.cells #[.int .u8 (kk'' : Int), .int .i64 n'', .int .u64 (t'' : Int), .int .u8 (r'' : Int), .int .u32 (i'' : Int), .int .u64 (s'' : Int), .string x'', .slice ia'' il'' ic'', .slice da'' dl'' dc''] 40)).alloc (.cells #[.int .u8 0, .int .i64 0, .int .u64 0, .int .u8 0, .int .u32 0, .int .u64 0, .string ⟨#[]⟩, .slice none 0 0, .slice none 0 0] 40)).heap.size ((((W.alloc (.cells #[.int .u8 (kk : Int), .int .i64 n, .int .u64 (t : Int), .int .u8 (r : Int), .int .u32 (i : Int), .int .u64 (s : Int), .string x, .slice ia il ic, .slice da dl dc] 40)).alloc (.cells #[.int .u8 (kk' : Int), .int .i64 n', .int .u64 (t' : Int), .int .u8 (r' : Int), .int .u32 (i' : Int), .int .u64 (s' : Int), .string x', .slice ia' il' ic', .slice da' dl' dc'] 40)).alloc (.cells #[.int .u8 (kk'' : Int), .int .i64 n'', .int .u64 (t'' : Int), .int .u8 (r'' : Int), .int .u32 (i'' : Int), .int .u64 (s'' : Int), .string x'', .slice ia'' il'' ic'', .slice da'' dl'' dc''] 40)).alloc (.cells #[.int .u8 0, .int .i64 0, .int .u64 0, .int .u8 0, .int .u32 0, .int .u64 0, .string ⟨#[]⟩, .slice none 0 0, .slice none 0 0] 40)))
 go_enter Try.func28, Try.ntmps28
 go_wp2_with fail
 obtain ⟨X, hX⟩ : ∃ X, X = ((((W.alloc (.cells #[.int .u8 (kk : Int), .int .i64 n, .int .u64 (t : Int), .int .u8 (r : Int), .int .u32 (i : Int), .int .u64 (s : Int), .string x, .slice ia il ic, .slice da dl dc] 40)).alloc (.cells #[.int .u8 (kk' : Int), .int .i64 n', .int .u64 (t' : Int), .int .u8 (r' : Int), .int .u32 (i' : Int), .int .u64 (s' : Int), .string x', .slice ia' il' ic', .slice da' dl' dc'] 40)).alloc (.cells #[.int .u8 (kk'' : Int), .int .i64 n'', .int .u64 (t'' : Int), .int .u8 (r'' : Int), .int .u32 (i'' : Int), .int .u64 (s'' : Int), .string x'', .slice ia'' il'' ic'', .slice da'' dl'' dc''] 40)).alloc (.cells #[.int .u8 0, .int .i64 0, .int .u64 0, .int .u8 0, .int .u32 0, .int .u64 0, .string ⟨#[]⟩, .slice none 0 0, .slice none 0 0] 40)) := ⟨_, rfl⟩
 rw [← hX] at hW hL hA hB hR ⊢
 have HW := Lib.hid hW; have HL := Lib.hid hL; have HA := Lib.hid hA; have HB := Lib.hid hB; have HR := Lib.hid hR
 clear hX hW hL hA hB hR
 refine RegC.region_list (by kernel_rfl) [8] [RegC.plain (fun v _ => v = .pointer (some ⟨W.heap.size, 0, none⟩)), RegC.plain (fun v _ => v = .int .u8 (kk : Int)), RegC.plain (fun v _ => v = .pointer (some ⟨W.heap.size + 1, 7, none⟩)), RegC.plain (fun v _ => v = .slice ia' il' ic'), RegC.plain (fun v _ => v = .pointer (some ⟨W.heap.size + 1 + 1, 7, none⟩)), RegC.plain (fun v _ => v = .slice ia'' il'' ic''), RegC.plain (fun v w => Gathered X.heap.size w v [] li' li''), RegC.plain (fun v w => ∃ u, v = .agg #[.int .u8 (kk : Int), .int .i64 0, .int .u64 0, .int .u8 0, .int .u32 0, .int .u64 0, .string ⟨#[]⟩, u, .slice none 0 0] ∧ Gathered X.heap.size w u [] li' li''), RegC.change (fun v w => ∃ u, Blk w (W.heap.size + 1 + 1 + 1) 40 [.int .u8 (kk : Int), .int .i64 0, .int .u64 0, .int .u8 0, .int .u32 0, .int .u64 0, .string ⟨#[]⟩, u, .slice none 0 0] ∧ Gathered X.heap.size w u [] li' li'') (fun k => k = W.heap.size + 1 + 1 + 1)] (by kernel_rfl) ?_ ?_ ?_ ?_ ?_
 ·exact ⟨Or.inr (fun _ h => h), Or.inr (fun _ h => h), Or.inr (fun _ h => h), Or.inr (fun _ h => h), Or.inr (fun _ h => h), Or.inr (fun _ h => h), Or.inr (fun _ h => h), Or.inr (fun _ h => h), Or.inl (by decide), trivial⟩
 ·refine ⟨k4, k4, k4, k4, k4, k4, (fun v wa wb hb h => by exact Gathered.below h hb), (fun v wa wb hb h => by obtain ⟨u, h1, h2⟩ := h; exact ⟨u, h1, Gathered.below h2 hb⟩), (fun v wa wb hb h => by obtain ⟨u, h1, h2⟩ := h; exact ⟨u, h1.below hb, Gathered.below h2 hb⟩), trivial⟩
 ·refine ⟨⟨Or.inr (Or.inr k4), Or.inr (Or.inr k4), Or.inr (Or.inr k4), Or.inr (Or.inr k4), Or.inr (Or.inr k4), Or.inr (Or.inr k4), Or.inr (Or.inr (fun v wa wb hr h => by exact Gathered.past h hr HR.out.lt)), Or.inr (Or.inr (fun v wa wb hr h => by obtain ⟨u, h1, h2⟩ := h; exact ⟨u, h1, Gathered.past h2 hr HR.out.lt⟩)), Or.inl rfl, trivial⟩, trivial⟩
 ·refine ⟨?_, ?_, ?_, ?_, ?_, ?_, ?_, ?_, ?_, trivial⟩
  ·intro ev w hc hf hg hfix hdep hchg
   have e3 : ev (.tmp 3) = _ := hfix 3 (by decide)
   exact Or.inl ⟨trivial, Or.inl ⟨_, w, by go_simp, rfl, Chg.refl _ _⟩⟩
  ·intro ev w hc hf hg hfix hdep hchg
   have e7 : ev (.tmp 7) = _ := hdep 0 (by decide)
   have c0 := (HL.out.below (RegC.chg0 (hchg [] (by kernel_rfl)))).cell 0
   simp only [List.getElem?_cons_succ, List.getElem?_cons_zero] at c0
   exact Or.inl ⟨trivial, Or.inl ⟨_, w, by go_simp, rfl, Chg.refl _ _⟩⟩
  ·intro ev w hc hf hg hfix hdep hchg
   have e4 : ev (.tmp 4) = _ := hfix 4 (by decide)
   exact Or.inl ⟨trivial, Or.inl ⟨_, w, by go_simp, rfl, Chg.refl _ _⟩⟩
  ·intro ev w hc hf hg hfix hdep hchg
   have e9 : ev (.tmp 9) = _ := hdep 2 (by decide)
   have c7 := (HA.out.below (RegC.chg0 (hchg [] (by kernel_rfl)))).cell 7
   simp only [List.getElem?_cons_succ, List.getElem?_cons_zero] at c7
   exact Or.inl ⟨trivial, Or.inl ⟨_, w, by go_simp, rfl, Chg.refl _ _⟩⟩
  ·intro ev w hc hf hg hfix hdep hchg
   have e5 : ev (.tmp 5) = _ := hfix 5 (by decide)
   exact Or.inl ⟨trivial, Or.inl ⟨_, w, by go_simp, rfl, Chg.refl _ _⟩⟩
  ·intro ev w hc hf hg hfix hdep hchg
   have e11 : ev (.tmp 11) = _ := hdep 4 (by decide)
   have c7 := (HB.out.below (RegC.chg0 (hchg [] (by kernel_rfl)))).cell 7
   simp only [List.getElem?_cons_succ, List.getElem?_cons_zero] at c7
   exact Or.inl ⟨trivial, Or.inl ⟨_, w, by go_simp, rfl, Chg.refl _ _⟩⟩
  ·intro ev w hc hf hg hfix hdep hchg
   have e10 : ev (.tmp 10) = _ := hdep 3 (by decide)
   have e12 : ev (.tmp 12) = _ := hdep 5 (by decide)
   refine Or.inl ⟨trivial, Or.inr (Or.inl ⟨48, #[.slice none 0 0, .slice ia' il' ic', .slice ia'' il'' ic''], w, by go_simp, ?_⟩)⟩
   have hb0 := RegC.chg0 (hchg [] (by kernel_rfl))
   have hbw := HW.out.trans (hb0.mono HW.out.size)
   refine (gather_any none 0 0 ia' il' ic' ia'' il'' ic'' [] li' li'' w (VRow.nil _) rfl (HI'.out.below hbw) HIl'.out (HI''.out.below hbw) HIl''.out (by omega) (by omega) (by omega)).mono ?_
   rintro e w9 ⟨⟨v9, row, s9, rfl, h1, h2, h3⟩, hb⟩
   exact ⟨_, rfl, ⟨row, s9, h1.base hb0.size, h2, h3⟩, Chg.of_below hb⟩
  ·intro ev w hc hf hg hfix hdep hchg
   have e8 : ev (.tmp 8) = _ := hdep 1 (by decide)
   have e13 := hdep 6 (by decide)
   have hG := e13
   obtain ⟨a, m, c, hv⟩ := Gathered.slice hG
   have e13 : ev (.tmp 13) = .slice a m c := hv
   rw [hv] at hG
   exact Or.inl ⟨trivial, Or.inl ⟨.agg #[.int .u8 (kk : Int), .int .i64 0, .int .u64 0, .int .u8 0, .int .u32 0, .int .u64 0, .string ⟨#[]⟩, .slice a m c, .slice none 0 0], w, by go_simp, ⟨_, rfl, hG⟩, Chg.refl _ _⟩⟩
  ·intro ev w hc hf hg hfix hdep hchg
   have e6 : ev (.tmp 6) = _ := hfix 6 (by decide)
   have e14 := hdep 7 (by decide)
   obtain ⟨u, hv, hG⟩ := e14
   obtain ⟨a, m, c, rfl⟩ := Gathered.slice hG
   have e14 : ev (.tmp 14) = .agg #[.int .u8 (kk : Int), .int .i64 0, .int .u64 0, .int .u8 0, .int .u32 0, .int .u64 0, .string ⟨#[]⟩, .slice a m c, .slice none 0 0] := hv
   have hR := HR.out.below (RegC.chg0 (hchg [] (by kernel_rfl)))
   obtain ⟨d0, d1, d2, d3, d4, d5, d6, d7, d8⟩ := hR.nine
   obtain ⟨y0, y1, y2, y3, y4, y5, y6, y7, y8⟩ := hR.froz9
   have hc9 := chg9 w (W.heap.size + 1 + 1 + 1) (.int .u8 (kk : Int)) (.int .i64 0) (.int .u64 0) (.int .u8 0) (.int .u32 0) (.int .u64 0) (.string ⟨#[]⟩) (.slice a m c) (.slice none 0 0)
   exact Or.inl ⟨trivial, Or.inr (Or.inr ⟨(((((((((w.setCell ⟨W.heap.size + 1 + 1 + 1, 0, none⟩ (.int .u8 (kk : Int))).setCell ⟨W.heap.size + 1 + 1 + 1, 1, none⟩ (.int .i64 0)).setCell ⟨W.heap.size + 1 + 1 + 1, 2, none⟩ (.int .u64 0)).setCell ⟨W.heap.size + 1 + 1 + 1, 3, none⟩ (.int .u8 0)).setCell ⟨W.heap.size + 1 + 1 + 1, 4, none⟩ (.int .u32 0)).setCell ⟨W.heap.size + 1 + 1 + 1, 5, none⟩ (.int .u64 0)).setCell ⟨W.heap.size + 1 + 1 + 1, 6, none⟩ (.string ⟨#[]⟩)).setCell ⟨W.heap.size + 1 + 1 + 1, 7, none⟩ ((.slice a m c))).setCell ⟨W.heap.size + 1 + 1 + 1, 8, none⟩ (.slice none 0 0)), by go_simp, ⟨_, blk9 hR _ _ _ _ _ _ _ _ _, Gathered.leaf hG hR hc9⟩, hc9⟩)⟩
 ·intro v w2 hv hb2
  have r0 : v 0 = _ := hv 0 (by decide)
  have r1 : v 1 = _ := hv 1 (by decide)
  have r2 : v 2 = _ := hv 2 (by decide)
  have r3 : v 3 = _ := hv 3 (by decide)
  have r4 : v 4 = _ := hv 4 (by decide)
  have r5 : v 5 = _ := hv 5 (by decide)
  have r6 := hv 6 (by decide)
  have r7 := hv 7 (by decide)
  have r8 := hv 8 (by decide)
  simp only [Reg.putAll, Act.put, List.setIfInBounds_toArray, List.set_cons_zero, List.set_cons_succ, r0, r1, r2, r3, r4, r5]
  clear r0 r1 r2 r3 r4 r5 hv
  obtain ⟨u, hbk, hG⟩ := r8
  have HWF := Lib.hid (Chg.belowTrans HW.out (RegC.end1 hb2) (fun k _ e => by have : k = W.heap.size + 1 + 1 + 1 := e; omega) HW.out.size)
  have HBk := Lib.hid hbk; have HG := Lib.hid hG
  clear r6 r7 hb2 hbk hG
  go_wp2_with fail
  refine bodyPost_ret (v := .agg #[.int .u8 (kk : Int), .int .i64 0, .int .u64 0, .int .u8 0, .int .u32 0, .int .u64 0, .string ⟨#[]⟩, u, .slice none 0 0]) (res_leaf Try.results28 (by simp) HBk.out) rfl ⟨⟨u, rfl, HG.out.base HW.out.size⟩, HWF.out⟩
set_option maxRecDepth 100000 in
set_option maxHeartbeats 12800000 in
theorem mergeSets_any (kk : Nat) (n : Int) (t r i s : Nat) (x : ByteArray) (ia : Option Addr) (il ic : Nat) (da : Option Addr) (dl dc : Nat) (kk' : Nat) (n' : Int) (t' r' i' s' : Nat) (x' : ByteArray) (ia' : Option Addr) (il' ic' : Nat) (da' : Option Addr) (dl' dc' : Nat) (kk'' : Nat) (n'' : Int) (t'' r'' i'' s'' : Nat) (x'' : ByteArray) (ia'' : Option Addr) (il'' ic'' : Nat) (da'' : Option Addr) (dl'' dc'' : Nat) (li' li'' : List Lm.It) (W : World) (hi' : IRow W ia' ic' li') (hil' : li'.length = il') (hi'' : IRow W ia'' ic'' li'') (hil'' : li''.length = il'') (hn2 : il' ≤ 10000) (hn3 : il'' ≤ 10000) (ld' ld'' : List Dt.Dot) (hd' : VRow W da' dc' ld') (hdl' : ld'.length = dl') (hd'' : VRow W da'' dc'' ld'') (hdl'' : ld''.length = dl'') (hm2 : dl' ≤ 4000) (hm3 : dl'' ≤ 4000) :
  Calls Try.prog 27 #[leafV kk n t r i s x ia il ic da dl dc, leafV kk' n' t' r' i' s' x' ia' il' ic' da' dl' dc', leafV kk'' n'' t'' r'' i'' s'' x'' ia'' il'' ic'' da'' dl'' dc''] W fun e w' => (∃ u tv row s, e = .returned (.agg #[.int .u8 (kk : Int), .int .i64 0, .int .u64 0, .int .u8 0, .int .u32 0, .int .u64 0, .string ⟨#[]⟩, u, tv]) ∧ s.Perm (ld' ++ ld'') ∧ s.Pairwise (fun x y => ¬ Dt.lt y x) ∧ OwnD W.heap.size w' tv (Lm.compact s) row ∧ Gathered W.heap.size w' u (Lm.compact s) li' li'') ∧ Below W.heap.size W w' := by
 have HI' := Lib.hid hi'; have HIl' := Lib.hid hil'; have HI'' := Lib.hid hi''; have HIl'' := Lib.hid hil''
 have HD' := Lib.hid hd'; have HDl' := Lib.hid hdl'; have HD'' := Lib.hid hd''; have HDl'' := Lib.hid hdl''
 clear hi' hil' hi'' hil'' hd' hdl' hd'' hdl''
 have hW := below_box4 W #[.int .u8 (kk : Int), .int .i64 n, .int .u64 (t : Int), .int .u8 (r : Int), .int .u32 (i : Int), .int .u64 (s : Int), .string x, .slice ia il ic, .slice da dl dc] #[.int .u8 (kk' : Int), .int .i64 n', .int .u64 (t' : Int), .int .u8 (r' : Int), .int .u32 (i' : Int), .int .u64 (s' : Int), .string x', .slice ia' il' ic', .slice da' dl' dc'] #[.int .u8 (kk'' : Int), .int .i64 n'', .int .u64 (t'' : Int), .int .u8 (r'' : Int), .int .u32 (i'' : Int), .int .u64 (s'' : Int), .string x'', .slice ia'' il'' ic'', .slice da'' dl'' dc''] #[.int .u8 0, .int .i64 0, .int .u64 0, .int .u8 0, .int .u32 0, .int .u64 0, .string ⟨#[]⟩, .slice none 0 0, .slice none 0 0] 40 40 40 40
 obtain ⟨hL, hA, hB, hR⟩ := blks4 (Below.refl ((((W.alloc (.cells #[.int .u8 (kk : Int), .int .i64 n, .int .u64 (t : Int), .int .u8 (r : Int), .int .u32 (i : Int), .int .u64 (s : Int), .string x, .slice ia il ic, .slice da dl dc] 40)).alloc (.cells #[.int .u8 (kk' : Int), .int .i64 n', .int .u64 (t' : Int), .int .u8 (r' : Int), .int .u32 (i' : Int), .int .u64 (s' : Int), .string x', .slice ia' il' ic', .slice da' dl' dc'] 40)).alloc (.cells #[.int .u8 (kk'' : Int), .int .i64 n'', .int .u64 (t'' : Int), .int .u8 (r'' : Int), .int .u32 (i'' : Int), .int .u64 (s'' : Int), .string x'', .slice ia'' il'' ic'', .slice da'' dl'' dc''] 40)).alloc (.cells #[.int .u8 0, .int .i64 0, .int .u64 0, .int .u8 0, .int .u32 0, .int .u64 0, .string ⟨#[]⟩, .slice none 0 0, .slice none 0 0] 40)).heap.size ((((W.alloc (.cells #[.int .u8 (kk : Int), .int .i64 n, .int .u64 (t : Int), .int .u8 (r : Int), .int .u32 (i : Int), .int .u64 (s : Int), .string x, .slice ia il ic, .slice da dl dc] 40)).alloc (.cells #[.int .u8 (kk' : Int), .int .i64 n', .int .u64 (t' : Int), .int .u8 (r' : Int), .int .u32 (i' : Int), .int .u64 (s' : Int), .string x', .slice ia' il' ic', .slice da' dl' dc'] 40)).alloc (.cells #[.int .u8 (kk'' : Int), .int .i64 n'', .int .u64 (t'' : Int), .int .u8 (r'' : Int), .int .u32 (i'' : Int), .int .u64 (s'' : Int), .string x'', .slice ia'' il'' ic'', .slice da'' dl'' dc''] 40)).alloc (.cells #[.int .u8 0, .int .i64 0, .int .u64 0, .int .u8 0, .int .u32 0, .int .u64 0, .string ⟨#[]⟩, .slice none 0 0, .slice none 0 0] 40)))
 go_enter Try.func27, Try.ntmps27
 go_wp2_with fail
 obtain ⟨X, hX⟩ : ∃ X, X = ((((W.alloc (.cells #[.int .u8 (kk : Int), .int .i64 n, .int .u64 (t : Int), .int .u8 (r : Int), .int .u32 (i : Int), .int .u64 (s : Int), .string x, .slice ia il ic, .slice da dl dc] 40)).alloc (.cells #[.int .u8 (kk' : Int), .int .i64 n', .int .u64 (t' : Int), .int .u8 (r' : Int), .int .u32 (i' : Int), .int .u64 (s' : Int), .string x', .slice ia' il' ic', .slice da' dl' dc'] 40)).alloc (.cells #[.int .u8 (kk'' : Int), .int .i64 n'', .int .u64 (t'' : Int), .int .u8 (r'' : Int), .int .u32 (i'' : Int), .int .u64 (s'' : Int), .string x'', .slice ia'' il'' ic'', .slice da'' dl'' dc''] 40)).alloc (.cells #[.int .u8 0, .int .i64 0, .int .u64 0, .int .u8 0, .int .u32 0, .int .u64 0, .string ⟨#[]⟩, .slice none 0 0, .slice none 0 0] 40)) := ⟨_, rfl⟩
 have hXs : X.heap.size = W.heap.size + 1 + 1 + 1 + 1 := by rw [hX]; simp
 rw [← hX] at hW hL hA hB hR ⊢
 clear hX
 have hN : Blk (X.alloc (.cells #[.slice da' dl' dc', .slice da'' dl'' dc''] 33)) X.heap.size 33 [.slice da' dl' dc', .slice da'' dl'' dc''] := Blk.new _ _ _
 rw [hXs] at hN
 obtain ⟨X1, hX1⟩ : ∃ X1, X1 = X.alloc (.cells #[.slice da' dl' dc', .slice da'' dl'' dc''] 33) := ⟨_, rfl⟩
 have hup : Below X.heap.size X X1 := by rw [hX1]; exact (Below.refl _ _).alloc (Nat.le_refl _) _
 rw [← hX1] at hN ⊢
 clear hX1
 have hW1 := hW.trans (hup.mono hW.size)
 refine (concatD_any _ da' dl' dc' da'' dl'' dc'' ld' ld'' X1 hN (HD'.out.below hW1) HDl'.out (HD''.out.below hW1) HDl''.out (by omega) (by omega)).mono ?_
 rintro e w1 ⟨⟨v1, row, rfl, hO1⟩, hb1⟩
 have hlen : (ld' ++ ld'').length ≤ 8000 := by rw [List.length_append, HDl'.out, HDl''.out]; omega
 obtain ⟨va, vc, rfl, _⟩ := hO1.reads encD_len
 obtain ⟨N, hN1⟩ : ∃ N, N = (ld' ++ ld'').length := ⟨_, rfl⟩
 rw [← hN1] at hO1 ⊢
 have HO1 := Lib.hid hO1; have HB1 := Lib.hid hb1; have HUp := Lib.hid hup; have HW := Lib.hid hW; have HL := Lib.hid hL; have HA := Lib.hid hA; have HB := Lib.hid hB; have HR := Lib.hid hR
 have HN := Lib.hid hN1
 clear hO1 hb1 hup hW hL hA hB hR hN hW1 hN1
 go_wp2_with fail
 refine (sortDD_any _ row _ X1.heap.size w1 HO1.out (by omega)).mono ?_
 rintro e w2 ⟨rfl, ⟨sd, hp, hs, hO2⟩, hc2⟩
 have HO2 := Lib.hid hO2; have HC2 := Lib.hid hc2; have HP := Lib.hid hp; have HS := Lib.hid hs
 clear hO2 hc2 hs
 go_wp2_with fail
 refine (compactD_any _ row sd X1.heap.size w2 HO2.out).mono ?_
 rintro e w3 ⟨⟨v3, rfl, hO3⟩, hc3⟩
 obtain ⟨tl, htl⟩ : ∃ tl, tl = Lm.compact sd := ⟨_, rfl⟩
 rw [← htl] at hO3
 have hok : ∀ x ∈ tl, Dt.okD x := fun x hx => by
  rw [htl, Lm.mem_compact, hp.mem_iff, List.mem_append] at hx
  rcases hx with hx | hx
  ·exact HD'.out.ok x hx
  ·exact HD''.out.ok x hx
 have hM : tl.length ≤ 10000 := by
  have h1 := compact_le sd
  rw [hp.length_eq] at h1
  rw [htl]; omega
 obtain ⟨ta, tc, rfl, hV⟩ := ownD_row hO3 hok
 obtain ⟨M, hM1⟩ : ∃ M, M = tl.length := ⟨_, rfl⟩
 rw [← hM1] at hO3 hM ⊢
 have hrow : ∀ g, row = some g → X1.heap.size ≤ g := fun g e => (HO1.out.lt g e).1
 have hbY : Below X.heap.size X w3 := by
  have h1 := Chg.belowTrans HB1.out (HC2.out.trans hc3 (fun k _ e => e)) (fun k _ e => hrow k e.symm) HB1.out.size
  exact HUp.out.trans (h1.mono HUp.out.size)
 have hWY := HW.out.trans (hbY.mono HW.out.size)
 have hX1s := HUp.out.size
 obtain ⟨Y, hY⟩ : ∃ Y, Y = w3 := ⟨_, rfl⟩
 rw [← hY] at hO3 hV hbY hWY ⊢
 have HV := Lib.hid hV; have HM := Lib.hid hM1.symm; have HO3 := Lib.hid hO3; have HTl := Lib.hid htl; have HRow := Lib.hid hrow
 have hL := HL.out.below hbY; have hA := HA.out.below hbY; have hB := HB.out.below hbY; have hR := HR.out.below hbY
 clear HL HA HB HR HW
 have HW := Lib.hid hWY; have HL := Lib.hid hL; have HA := Lib.hid hA; have HB := Lib.hid hB; have HR := Lib.hid hR
 clear hY hO3 hV hbY hWY hL hA hB hR hc3 hok htl hM1 HC2 HB1 HO1 HO2 hp hrow hlen
 go_wp2_with fail
 refine RegC.region_list (by kernel_rfl) [10] [RegC.plain (fun v _ => v = .pointer (some ⟨W.heap.size, 0, none⟩)), RegC.plain (fun v _ => v = .int .u8 (kk : Int)), RegC.plain (fun v _ => v = .slice ta M tc), RegC.plain (fun v _ => v = .pointer (some ⟨W.heap.size + 1, 7, none⟩)), RegC.plain (fun v _ => v = .slice ia' il' ic'), RegC.plain (fun v _ => v = .pointer (some ⟨W.heap.size + 1 + 1, 7, none⟩)), RegC.plain (fun v _ => v = .slice ia'' il'' ic''), RegC.plain (fun v w => Gathered Y.heap.size w v tl li' li''), RegC.plain (fun v _ => v = .slice ta M tc), RegC.plain (fun v w => ∃ u, v = .agg #[.int .u8 (kk : Int), .int .i64 0, .int .u64 0, .int .u8 0, .int .u32 0, .int .u64 0, .string ⟨#[]⟩, u, .slice ta M tc] ∧ Gathered Y.heap.size w u tl li' li''), RegC.change (fun v w => ∃ u, Blk w (W.heap.size + 1 + 1 + 1) 40 [.int .u8 (kk : Int), .int .i64 0, .int .u64 0, .int .u8 0, .int .u32 0, .int .u64 0, .string ⟨#[]⟩, u, .slice ta M tc] ∧ Gathered Y.heap.size w u tl li' li'') (fun k => k = W.heap.size + 1 + 1 + 1)] (by kernel_rfl) ?_ ?_ ?_ ?_ ?_
 ·exact ⟨Or.inr (fun _ h => h), Or.inr (fun _ h => h), Or.inr (fun _ h => h), Or.inr (fun _ h => h), Or.inr (fun _ h => h), Or.inr (fun _ h => h), Or.inr (fun _ h => h), Or.inr (fun _ h => h), Or.inr (fun _ h => h), Or.inr (fun _ h => h), Or.inl (by decide), trivial⟩
 ·refine ⟨k4, k4, k4, k4, k4, k4, k4, (fun v wa wb hb h => by exact Gathered.below h hb), k4, (fun v wa wb hb h => by obtain ⟨u, h1, h2⟩ := h; exact ⟨u, h1, Gathered.below h2 hb⟩), (fun v wa wb hb h => by obtain ⟨u, h1, h2⟩ := h; exact ⟨u, h1.below hb, Gathered.below h2 hb⟩), trivial⟩
 ·refine ⟨⟨Or.inr (Or.inr k4), Or.inr (Or.inr k4), Or.inr (Or.inr k4), Or.inr (Or.inr k4), Or.inr (Or.inr k4), Or.inr (Or.inr k4), Or.inr (Or.inr k4), Or.inr (Or.inr (fun v wa wb hr h => by exact Gathered.past h hr HR.out.lt)), Or.inr (Or.inr k4), Or.inr (Or.inr (fun v wa wb hr h => by obtain ⟨u, h1, h2⟩ := h; exact ⟨u, h1, Gathered.past h2 hr HR.out.lt⟩)), Or.inl rfl, trivial⟩, trivial⟩
 ·refine ⟨?_, ?_, ?_, ?_, ?_, ?_, ?_, ?_, ?_, ?_, ?_, trivial⟩
  ·intro ev w hc hf hg hfix hdep hchg
   have e3 : ev (.tmp 3) = _ := hfix 3 (by decide)
   exact Or.inl ⟨trivial, Or.inl ⟨_, w, by go_simp, rfl, Chg.refl _ _⟩⟩
  ·intro ev w hc hf hg hfix hdep hchg
   have e18 : ev (.tmp 18) = _ := hdep 0 (by decide)
   have c0 := (HL.out.below (RegC.chg0 (hchg [] (by kernel_rfl)))).cell 0
   simp only [List.getElem?_cons_succ, List.getElem?_cons_zero] at c0
   exact Or.inl ⟨trivial, Or.inl ⟨_, w, by go_simp, rfl, Chg.refl _ _⟩⟩
  ·intro ev w hc hf hg hfix hdep hchg
   have e7 : ev (.tmp 7) = _ := hfix 7 (by decide)
   exact Or.inl ⟨trivial, Or.inl ⟨_, w, by go_simp, rfl, Chg.refl _ _⟩⟩
  ·intro ev w hc hf hg hfix hdep hchg
   have e4 : ev (.tmp 4) = _ := hfix 4 (by decide)
   exact Or.inl ⟨trivial, Or.inl ⟨_, w, by go_simp, rfl, Chg.refl _ _⟩⟩
  ·intro ev w hc hf hg hfix hdep hchg
   have e21 : ev (.tmp 21) = _ := hdep 3 (by decide)
   have c7 := (HA.out.below (RegC.chg0 (hchg [] (by kernel_rfl)))).cell 7
   simp only [List.getElem?_cons_succ, List.getElem?_cons_zero] at c7
   exact Or.inl ⟨trivial, Or.inl ⟨_, w, by go_simp, rfl, Chg.refl _ _⟩⟩
  ·intro ev w hc hf hg hfix hdep hchg
   have e5 : ev (.tmp 5) = _ := hfix 5 (by decide)
   exact Or.inl ⟨trivial, Or.inl ⟨_, w, by go_simp, rfl, Chg.refl _ _⟩⟩
  ·intro ev w hc hf hg hfix hdep hchg
   have e23 : ev (.tmp 23) = _ := hdep 5 (by decide)
   have c7 := (HB.out.below (RegC.chg0 (hchg [] (by kernel_rfl)))).cell 7
   simp only [List.getElem?_cons_succ, List.getElem?_cons_zero] at c7
   exact Or.inl ⟨trivial, Or.inl ⟨_, w, by go_simp, rfl, Chg.refl _ _⟩⟩
  ·intro ev w hc hf hg hfix hdep hchg
   have e20 : ev (.tmp 20) = _ := hdep 2 (by decide)
   have e22 : ev (.tmp 22) = _ := hdep 4 (by decide)
   have e24 : ev (.tmp 24) = _ := hdep 6 (by decide)
   refine Or.inl ⟨trivial, Or.inr (Or.inl ⟨48, #[.slice ta M tc, .slice ia' il' ic', .slice ia'' il'' ic''], w, by go_simp, ?_⟩)⟩
   have hb0 := RegC.chg0 (hchg [] (by kernel_rfl))
   have hbw := HW.out.trans (hb0.mono HW.out.size)
   refine (gather_any ta M tc ia' il' ic' ia'' il'' ic'' tl li' li'' w (HV.out.below hb0) HM.out (HI'.out.below hbw) HIl'.out (HI''.out.below hbw) HIl''.out hM (by omega) (by omega)).mono ?_
   rintro e w9 ⟨⟨v9, row, s9, rfl, h1, h2, h3⟩, hb⟩
   exact ⟨_, rfl, ⟨row, s9, h1.base hb0.size, h2, h3⟩, Chg.of_below hb⟩
  ·intro ev w hc hf hg hfix hdep hchg
   have e7 : ev (.tmp 7) = _ := hfix 7 (by decide)
   exact Or.inl ⟨trivial, Or.inl ⟨_, w, by go_simp, rfl, Chg.refl _ _⟩⟩
  ·intro ev w hc hf hg hfix hdep hchg
   have e19 : ev (.tmp 19) = _ := hdep 1 (by decide)
   have e25 := hdep 7 (by decide)
   have e26 : ev (.tmp 26) = _ := hdep 8 (by decide)
   have hG := e25
   obtain ⟨a, m, c, hv⟩ := Gathered.slice hG
   have e25 : ev (.tmp 25) = .slice a m c := hv
   rw [hv] at hG
   exact Or.inl ⟨trivial, Or.inl ⟨.agg #[.int .u8 (kk : Int), .int .i64 0, .int .u64 0, .int .u8 0, .int .u32 0, .int .u64 0, .string ⟨#[]⟩, .slice a m c, .slice ta M tc], w, by go_simp, ⟨_, rfl, hG⟩, Chg.refl _ _⟩⟩
  ·intro ev w hc hf hg hfix hdep hchg
   have e6 : ev (.tmp 6) = _ := hfix 6 (by decide)
   have e27 := hdep 9 (by decide)
   obtain ⟨u, hv, hG⟩ := e27
   obtain ⟨a, m, c, rfl⟩ := Gathered.slice hG
   have e27 : ev (.tmp 27) = .agg #[.int .u8 (kk : Int), .int .i64 0, .int .u64 0, .int .u8 0, .int .u32 0, .int .u64 0, .string ⟨#[]⟩, .slice a m c, .slice ta M tc] := hv
   have hR := HR.out.below (RegC.chg0 (hchg [] (by kernel_rfl)))
   obtain ⟨d0, d1, d2, d3, d4, d5, d6, d7, d8⟩ := hR.nine
   obtain ⟨y0, y1, y2, y3, y4, y5, y6, y7, y8⟩ := hR.froz9
   have hc9 := chg9 w (W.heap.size + 1 + 1 + 1) (.int .u8 (kk : Int)) (.int .i64 0) (.int .u64 0) (.int .u8 0) (.int .u32 0) (.int .u64 0) (.string ⟨#[]⟩) (.slice a m c) (.slice ta M tc)
   exact Or.inl ⟨trivial, Or.inr (Or.inr ⟨(((((((((w.setCell ⟨W.heap.size + 1 + 1 + 1, 0, none⟩ (.int .u8 (kk : Int))).setCell ⟨W.heap.size + 1 + 1 + 1, 1, none⟩ (.int .i64 0)).setCell ⟨W.heap.size + 1 + 1 + 1, 2, none⟩ (.int .u64 0)).setCell ⟨W.heap.size + 1 + 1 + 1, 3, none⟩ (.int .u8 0)).setCell ⟨W.heap.size + 1 + 1 + 1, 4, none⟩ (.int .u32 0)).setCell ⟨W.heap.size + 1 + 1 + 1, 5, none⟩ (.int .u64 0)).setCell ⟨W.heap.size + 1 + 1 + 1, 6, none⟩ (.string ⟨#[]⟩)).setCell ⟨W.heap.size + 1 + 1 + 1, 7, none⟩ ((.slice a m c))).setCell ⟨W.heap.size + 1 + 1 + 1, 8, none⟩ (.slice ta M tc)), by go_simp, ⟨_, blk9 hR _ _ _ _ _ _ _ _ _, Gathered.leaf hG hR hc9⟩, hc9⟩)⟩
 ·intro v w2 hv hb2
  have r0 : v 0 = _ := hv 0 (by decide)
  have r1 : v 1 = _ := hv 1 (by decide)
  have r2 : v 2 = _ := hv 2 (by decide)
  have r3 : v 3 = _ := hv 3 (by decide)
  have r4 : v 4 = _ := hv 4 (by decide)
  have r5 : v 5 = _ := hv 5 (by decide)
  have r6 : v 6 = _ := hv 6 (by decide)
  have r7 := hv 7 (by decide)
  have r8 : v 8 = _ := hv 8 (by decide)
  have r9 := hv 9 (by decide)
  have r10 := hv 10 (by decide)
  simp only [Reg.putAll, Act.put, List.setIfInBounds_toArray, List.set_cons_zero, List.set_cons_succ, r0, r1, r2, r3, r4, r5, r6, r8]
  clear r0 r1 r2 r3 r4 r5 r6 r8 hv
  obtain ⟨u, hbk, hG⟩ := r10
  have hcq : Chg (fun k => k = W.heap.size + 1 + 1 + 1) Y w2 := RegC.end1 hb2
  have HWF := Lib.hid (Chg.belowTrans HW.out hcq (fun k _ e => by have : k = W.heap.size + 1 + 1 + 1 := e; omega) HW.out.size)
  have HO4 := Lib.hid (HO3.out.chg hcq (fun k e e2 => ownD_ne HO3.out HR.out (by decide) (by rw [e, e2])))
  have HBk := Lib.hid hbk; have HG := Lib.hid hG
  clear r7 r9 hb2 hbk hG hcq
  go_wp2_with fail
  refine bodyPost_ret (v := .agg #[.int .u8 (kk : Int), .int .i64 0, .int .u64 0, .int .u8 0, .int .u32 0, .int .u64 0, .string ⟨#[]⟩, u, .slice ta M tc]) (res_leaf Try.results27 (by simp) HBk.out) rfl ⟨⟨u, _, row, sd, rfl, HP.out, HS.out, ?_, ?_⟩, HWF.out⟩
  ·rw [← HTl.out]; exact HO4.out.base (by omega)
  ·rw [← HTl.out]; exact HG.out.base HW.out.size
end Go.Proofs.Ytbciopieciglmaa
