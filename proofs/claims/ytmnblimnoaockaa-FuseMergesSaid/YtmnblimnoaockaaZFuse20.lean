import Derived.Test.YtmnblimnoaockaaZFuse18
import Derived.Test.YtmnblimnoaockaaZFuse19
import Derived.Test.YtmnblimnoaockaaZRegF
import Derived.Test.YtmnblimnoaockaaZLeaf5
namespace Go.Proofs.Ytmnblimnoaockaa
open Go.RowKit Go.Buf Go.LB Go.Lib
set_option linter.unusedSimpArgs false
set_option linter.unusedVariables false
section
variable {α : Type} {enc : α → List Value} {e : TypeId} {size B : Nat} {w : World} {v : Value} {l : List α} {row : Option Nat} {a : Option Addr} {n c : Nat}
theorem own_len (h : Own e size enc B w v l row) : ∃ a c, v = .slice a l.length c := by
 rcases h.2 with ⟨_, rfl, a, rfl⟩ | ⟨g, cap, tl, _, rfl, _⟩
 ·exact ⟨a, 0, rfl⟩
 ·exact ⟨_, cap, rfl⟩
theorem own_addr (h : Own e size enc B w (.slice a n c) l row) (hp : 0 < l.length) : ∃ g off, row = some g ∧ a = some ⟨g, off, none⟩ ∧ off = 0 := by
 rcases h.2 with ⟨_, rfl, _⟩ | ⟨g, cap, tl, h1, h2, _⟩
 ·simp at hp
 ·simp only [Value.slice.injEq] at h2
  exact ⟨g, 0, h1, h2.1, rfl⟩
theorem own_blk (h : Own e size enc B w v l row) (he : ∀ d, (enc d).length = size) : ∀ g, row = some g → ∃ cs, Blk w g e cs ∧ l.length * size ≤ cs.length ∧ ∀ (i : Nat) (d : α), l[i]? = some d → ∀ j, j < size → cs[i * size + j]? = (enc d)[j]? := by
 rintro g rfl
 rcases h.2 with ⟨h1, _⟩ | ⟨g', cap, tl, h1, h2, h3, h4, _⟩
 ·cases h1
 ·cases h1
  refine ⟨_, h4, by rw [List.length_append, enc_length he]; omega, fun i d hd j hj => ?_⟩
  have hi : i < l.length := (List.getElem?_eq_some_iff.1 hd).1
  have h8 : i * size + j < (l.flatMap enc).length := by
   rw [enc_length he]
   have : (i + 1) * size ≤ l.length * size := Nat.mul_le_mul_right _ hi
   rw [Nat.succ_mul] at this; omega
  rw [List.getElem?_append_left h8, enc_get he l i d hd j hj]
end
def Seqs (n : Nat) (cs : List Value) : Prop := ∀ j, j < n → ∃ x : Int, cs[j * 3 + 2]? = some (.int .u64 x)
theorem Seqs.set {n : Nat} {cs : List Value} (h : Seqs n cs) (j : Nat) (y : Int) (hl : n * 3 ≤ cs.length) (hj : j < n) : Seqs n (cs.set (j * 3 + 2) (.int .u64 y)) := by
 intro k hk
 by_cases hjk : k = j
 ·subst hjk
  exact ⟨y, by rw [List.getElem?_set_self (by omega)]⟩
 ·obtain ⟨x, hx⟩ := h k hk
  exact ⟨x, by rw [List.getElem?_set_ne (by omega)]; exact hx⟩
theorem seqs_own {B : Nat} {w : World} {v : Value} {l : List Dt.Dot} {row : Option Nat} (h : OwnD B w v l row) : ∀ g, row = some g → ∃ cs, Blk w g 27 cs ∧ l.length * 3 ≤ cs.length ∧ Seqs l.length cs := by
 intro g hg
 obtain ⟨cs, h1, h2, h3⟩ := own_blk h encD_len g hg
 refine ⟨cs, h1, h2, fun j hj => ?_⟩
 have := h3 j l[j] (List.getElem?_eq_getElem hj) 2 (by omega)
 exact ⟨_, this⟩
set_option maxRecDepth 100000 in
set_option maxHeartbeats 51200000 in
theorem lawFuse_any (kk : Nat) (n : Int) (t r i s : Nat) (x : ByteArray) (ia : Option Addr) (il ic : Nat) (da : Option Addr) (dl dc : Nat) (li : List Lm.It) (ld : List Dt.Dot) (kk' : Nat) (n' : Int) (t' r' i' s' : Nat) (x' : ByteArray) (ia' : Option Addr) (il' ic' : Nat) (da' : Option Addr) (dl' dc' : Nat) (li' : List Lm.It) (ld' : List Dt.Dot) (kk'' : Nat) (n'' : Int) (t'' r'' i'' s'' : Nat) (x'' : ByteArray) (ia'' : Option Addr) (il'' ic'' : Nat) (da'' : Option Addr) (dl'' dc'' : Nat) (li'' : List Lm.It) (ld'' : List Dt.Dot) (W : World) (hi : IRow W ia ic li) (hil : li.length = il) (hd : VRow W da dc ld) (hdl : ld.length = dl) (hx : x.size ≤ 9223372036854775807) (hi' : IRow W ia' ic' li') (hil' : li'.length = il') (hd' : VRow W da' dc' ld') (hdl' : ld'.length = dl') (hx' : x'.size ≤ 9223372036854775807) (hi'' : IRow W ia'' ic'' li'') (hil'' : li''.length = il'') (hd'' : VRow W da'' dc'' ld'') (hdl'' : ld''.length = dl'') (hx'' : x''.size ≤ 9223372036854775807) :
  Calls Try.prog 3 #[leafV kk n t r i s x ia il ic da dl dc, leafV kk' n' t' r' i' s' x' ia' il' ic' da' dl' dc', leafV kk'' n'' t'' r'' i'' s'' x'' ia'' il'' ic'' da'' dl'' dc''] W fun e w' => e = .returned (.bool true) ∧ Below W.heap.size W w' := by
 have HI := Lib.hid hi; have HIl := Lib.hid hil; have HD := Lib.hid hd; have HDl := Lib.hid hdl; have HX := Lib.hid hx
 have HI' := Lib.hid hi'; have HIl' := Lib.hid hil'; have HD' := Lib.hid hd'; have HDl' := Lib.hid hdl'; have HX' := Lib.hid hx'
 have HI'' := Lib.hid hi''; have HIl'' := Lib.hid hil''; have HD'' := Lib.hid hd''; have HDl'' := Lib.hid hdl''; have HX'' := Lib.hid hx''
 clear hi hil hd hdl hx hi' hil' hd' hdl' hx' hi'' hil'' hd'' hdl'' hx''
 have hB0 : Below W.heap.size W (((W.alloc (.cells #[.int .u8 (kk : Int), .int .i64 n, .int .u64 (t : Int), .int .u8 (r : Int), .int .u32 (i : Int), .int .u64 (s : Int), .string x, .slice ia il ic, .slice da dl dc] 31)).alloc (.cells #[.int .u8 (kk' : Int), .int .i64 n', .int .u64 (t' : Int), .int .u8 (r' : Int), .int .u32 (i' : Int), .int .u64 (s' : Int), .string x', .slice ia' il' ic', .slice da' dl' dc'] 31)).alloc (.cells #[.int .u8 (kk'' : Int), .int .i64 n'', .int .u64 (t'' : Int), .int .u8 (r'' : Int), .int .u32 (i'' : Int), .int .u64 (s'' : Int), .string x'', .slice ia'' il'' ic'', .slice da'' dl'' dc''] 31)) := (((Below.refl W.heap.size W).alloc (Nat.le_refl _) _).alloc (by simp) _).alloc (by simp; omega) _
 have hL0 : Blk (((W.alloc (.cells #[.int .u8 (kk : Int), .int .i64 n, .int .u64 (t : Int), .int .u8 (r : Int), .int .u32 (i : Int), .int .u64 (s : Int), .string x, .slice ia il ic, .slice da dl dc] 31)).alloc (.cells #[.int .u8 (kk' : Int), .int .i64 n', .int .u64 (t' : Int), .int .u8 (r' : Int), .int .u32 (i' : Int), .int .u64 (s' : Int), .string x', .slice ia' il' ic', .slice da' dl' dc'] 31)).alloc (.cells #[.int .u8 (kk'' : Int), .int .i64 n'', .int .u64 (t'' : Int), .int .u8 (r'' : Int), .int .u32 (i'' : Int), .int .u64 (s'' : Int), .string x'', .slice ia'' il'' ic'', .slice da'' dl'' dc''] 31)) W.heap.size 31 [.int .u8 (kk : Int), .int .i64 n, .int .u64 (t : Int), .int .u8 (r : Int), .int .u32 (i : Int), .int .u64 (s : Int), .string x, .slice ia il ic, .slice da dl dc] := ((Blk.new W #[.int .u8 (kk : Int), .int .i64 n, .int .u64 (t : Int), .int .u8 (r : Int), .int .u32 (i : Int), .int .u64 (s : Int), .string x, .slice ia il ic, .slice da dl dc] 31).below ((Below.refl _ _).alloc (Nat.le_refl _) _)).below ((Below.refl _ _).alloc (Nat.le_refl _) _)
 have hM0 : Blk (((W.alloc (.cells #[.int .u8 (kk : Int), .int .i64 n, .int .u64 (t : Int), .int .u8 (r : Int), .int .u32 (i : Int), .int .u64 (s : Int), .string x, .slice ia il ic, .slice da dl dc] 31)).alloc (.cells #[.int .u8 (kk' : Int), .int .i64 n', .int .u64 (t' : Int), .int .u8 (r' : Int), .int .u32 (i' : Int), .int .u64 (s' : Int), .string x', .slice ia' il' ic', .slice da' dl' dc'] 31)).alloc (.cells #[.int .u8 (kk'' : Int), .int .i64 n'', .int .u64 (t'' : Int), .int .u8 (r'' : Int), .int .u32 (i'' : Int), .int .u64 (s'' : Int), .string x'', .slice ia'' il'' ic'', .slice da'' dl'' dc''] 31)) (W.heap.size + 1) 31 [.int .u8 (kk' : Int), .int .i64 n', .int .u64 (t' : Int), .int .u8 (r' : Int), .int .u32 (i' : Int), .int .u64 (s' : Int), .string x', .slice ia' il' ic', .slice da' dl' dc'] := by
  have h := (Blk.new (W.alloc (.cells #[.int .u8 (kk : Int), .int .i64 n, .int .u64 (t : Int), .int .u8 (r : Int), .int .u32 (i : Int), .int .u64 (s : Int), .string x, .slice ia il ic, .slice da dl dc] 31)) #[.int .u8 (kk' : Int), .int .i64 n', .int .u64 (t' : Int), .int .u8 (r' : Int), .int .u32 (i' : Int), .int .u64 (s' : Int), .string x', .slice ia' il' ic', .slice da' dl' dc'] 31).below ((Below.refl _ _).alloc (Nat.le_refl _) (.cells #[.int .u8 (kk'' : Int), .int .i64 n'', .int .u64 (t'' : Int), .int .u8 (r'' : Int), .int .u32 (i'' : Int), .int .u64 (s'' : Int), .string x'', .slice ia'' il'' ic'', .slice da'' dl'' dc''] 31))
  rw [World.size_alloc] at h; exact h
 have hN0 : Blk (((W.alloc (.cells #[.int .u8 (kk : Int), .int .i64 n, .int .u64 (t : Int), .int .u8 (r : Int), .int .u32 (i : Int), .int .u64 (s : Int), .string x, .slice ia il ic, .slice da dl dc] 31)).alloc (.cells #[.int .u8 (kk' : Int), .int .i64 n', .int .u64 (t' : Int), .int .u8 (r' : Int), .int .u32 (i' : Int), .int .u64 (s' : Int), .string x', .slice ia' il' ic', .slice da' dl' dc'] 31)).alloc (.cells #[.int .u8 (kk'' : Int), .int .i64 n'', .int .u64 (t'' : Int), .int .u8 (r'' : Int), .int .u32 (i'' : Int), .int .u64 (s'' : Int), .string x'', .slice ia'' il'' ic'', .slice da'' dl'' dc''] 31)) (W.heap.size + 1 + 1) 31 [.int .u8 (kk'' : Int), .int .i64 n'', .int .u64 (t'' : Int), .int .u8 (r'' : Int), .int .u32 (i'' : Int), .int .u64 (s'' : Int), .string x'', .slice ia'' il'' ic'', .slice da'' dl'' dc''] := by
  have h := Blk.new ((W.alloc (.cells #[.int .u8 (kk : Int), .int .i64 n, .int .u64 (t : Int), .int .u8 (r : Int), .int .u32 (i : Int), .int .u64 (s : Int), .string x, .slice ia il ic, .slice da dl dc] 31)).alloc (.cells #[.int .u8 (kk' : Int), .int .i64 n', .int .u64 (t' : Int), .int .u8 (r' : Int), .int .u32 (i' : Int), .int .u64 (s' : Int), .string x', .slice ia' il' ic', .slice da' dl' dc'] 31)) #[.int .u8 (kk'' : Int), .int .i64 n'', .int .u64 (t'' : Int), .int .u8 (r'' : Int), .int .u32 (i'' : Int), .int .u64 (s'' : Int), .string x'', .slice ia'' il'' ic'', .slice da'' dl'' dc''] 31
  rw [World.size_alloc, World.size_alloc] at h; exact h
 have HB0 := Lib.hid hB0; have HL0 := Lib.hid hL0; have HM0 := Lib.hid hM0; have HN0 := Lib.hid hN0
 obtain ⟨a0, a1, a2, a3, a4, a5, a6, a7, a8⟩ := hL0.nine
 clear hB0 hL0 hM0 hN0
 go_enter Try.func3, Try.ntmps3
 go_wp2_with fail
 refine (great06_any kk n t r i s x ia il ic da dl dc li ld _ (HI.out.below HB0.out) HIl.out (HD.out.below HB0.out) HDl.out).mono ?_
 rintro e w1 ⟨⟨g1, rfl, hg⟩, hb⟩
 have HB1 := Lib.hid (HB0.out.trans (hb.mono HB0.out.size))
 have hL := HL0.out.below hb; have hM := HM0.out.below hb; have hN := HN0.out.below hb
 have HL1 := Lib.hid hL; have HM1 := Lib.hid hM; have HN1 := Lib.hid hN
 have HG1 := Lib.hid hg
 obtain ⟨b0, b1, b2, b3, b4, b5, b6, b7, b8⟩ := hM.nine
 clear a0 a1 a2 a3 a4 a5 a6 a7 a8 hg hb hL hM hN
 cases g1
 case true =>
  go_wp2_with fail
  refine (known06_any _).mono ?_
  rintro e w9 ⟨rfl, hb⟩
  have HF := Lib.hid (HB1.out.trans (hb.mono HB1.out.size)); clear hb
  go_wp2_with fail
  go_ret
  exact ⟨rfl, HF.out⟩
 have HC1 := Lib.hid (HG1.out rfl)
 go_wp2_with fail
 refine (great06_any kk' n' t' r' i' s' x' ia' il' ic' da' dl' dc' li' ld' _ (HI'.out.below HB1.out) HIl'.out (HD'.out.below HB1.out) HDl'.out).mono ?_
 rintro e w2 ⟨⟨g2, rfl, hg⟩, hb⟩
 have HB2 := Lib.hid (HB1.out.trans (hb.mono HB1.out.size))
 have hL := HL1.out.below hb; have hM := HM1.out.below hb; have hN := HN1.out.below hb
 have HL2 := Lib.hid hL; have HM2 := Lib.hid hM; have HN2 := Lib.hid hN
 have HG2 := Lib.hid hg
 obtain ⟨x0, x1, x2, x3, x4, x5, x6, x7, x8⟩ := hN.nine
 clear b0 b1 b2 b3 b4 b5 b6 b7 b8 hg hb hL hM hN
 cases g2
 case true =>
  go_wp2_with fail
  refine (known06_any _).mono ?_
  rintro e w9 ⟨rfl, hb⟩
  have HF := Lib.hid (HB2.out.trans (hb.mono HB2.out.size)); clear hb
  go_wp2_with fail
  go_ret
  exact ⟨rfl, HF.out⟩
 have HC2 := Lib.hid (HG2.out rfl)
 go_wp2_with fail
 refine (great06_any kk'' n'' t'' r'' i'' s'' x'' ia'' il'' ic'' da'' dl'' dc'' li'' ld'' _ (HI''.out.below HB2.out) HIl''.out (HD''.out.below HB2.out) HDl''.out).mono ?_
 rintro e w3 ⟨⟨g3, rfl, hg⟩, hb⟩
 have HB3 := Lib.hid (HB2.out.trans (hb.mono HB2.out.size))
 have hL := HL2.out.below hb; have hM := HM2.out.below hb; have hN := HN2.out.below hb
 have HL3 := Lib.hid hL; have HM3 := Lib.hid hM; have HN3 := Lib.hid hN
 have HG3 := Lib.hid hg
 clear x0 x1 x2 x3 x4 x5 x6 x7 x8 hg hb hL hM hN
 cases g3
 case true =>
  go_wp2_with fail
  refine (known06_any _).mono ?_
  rintro e w9 ⟨rfl, hb⟩
  have HF := Lib.hid (HB3.out.trans (hb.mono HB3.out.size)); clear hb
  go_wp2_with fail
  go_ret
  exact ⟨rfl, HF.out⟩
 have HC3 := Lib.hid (HG3.out rfl)
 go_wp2_with fail
 have HQ := Lib.hid (show il ≤ 100 ∧ dl ≤ 100 by have h1 := HC1.out; have h2 := HIl.out; have h3 := HDl.out; omega)
 have HQ' := Lib.hid (show il' ≤ 100 ∧ dl' ≤ 100 by have h1 := HC2.out; have h2 := HIl'.out; have h3 := HDl'.out; omega)
 have HQ'' := Lib.hid (show il'' ≤ 100 ∧ dl'' ≤ 100 by have h1 := HC3.out; have h2 := HIl''.out; have h3 := HDl''.out; omega)
 have HWS := Lib.hid HB3.out.size
 refine RegF.region_list (by kernel_rfl) (fun _ => True) [6, 7] [6, 7] [4, 5] [RegF.plain (fun v _ => v = .agg #[.int .u8 (kk' : Int), .int .i64 n', .int .u64 (t' : Int), .int .u8 (r' : Int), .int .u32 (i' : Int), .int .u64 (s' : Int), .string x', .slice ia' il' ic', .slice da' dl' dc']), RegF.plain (fun v w => ∃ aI cI aD cD rI rD, v = .agg #[.int .u8 (kk' : Int), .int .i64 n', .int .u64 (t' : Int), .int .u8 (r' : Int), .int .u32 (i' : Int), .int .u64 (s' : Int), .string x', .slice aI il' cI, .slice aD dl' cD] ∧ OwnI w3.heap.size w (.slice aI il' cI) li' rI ∧ OwnD w3.heap.size w (.slice aD dl' cD) ld' rD), RegF.plain (fun v _ => v = .agg #[.int .u8 (kk'' : Int), .int .i64 n'', .int .u64 (t'' : Int), .int .u8 (r'' : Int), .int .u32 (i'' : Int), .int .u64 (s'' : Int), .string x'', .slice ia'' il'' ic'', .slice da'' dl'' dc'']), RegF.plain (fun v w => ∃ aI cI aD cD rI rD, v = .agg #[.int .u8 (kk'' : Int), .int .i64 n'', .int .u64 (t'' : Int), .int .u8 (r'' : Int), .int .u32 (i'' : Int), .int .u64 (s'' : Int), .string x'', .slice aI il'' cI, .slice aD dl'' cD] ∧ OwnI w3.heap.size w (.slice aI il'' cI) li'' rI ∧ OwnD w3.heap.size w (.slice aD dl'' cD) ld'' rD), RegF.fresh (fun v w => ∃ b, v = .pointer (some ⟨b, 0, none⟩) ∧ w3.heap.size ≤ b ∧ Blk w b 31 [.int .u8 0, .int .i64 0, .int .u64 0, .int .u8 0, .int .u32 0, .int .u64 0, .string ⟨#[]⟩, .slice none 0 0, .slice none 0 0]), RegF.fresh (fun v w => ∃ b, v = .pointer (some ⟨b, 0, none⟩) ∧ w3.heap.size ≤ b ∧ Blk w b 31 [.int .u8 0, .int .i64 0, .int .u64 0, .int .u8 0, .int .u32 0, .int .u64 0, .string ⟨#[]⟩, .slice none 0 0, .slice none 0 0]), RegF.change (fun v w => ∃ b aI cI aD cD rI rD, v = .pointer (some ⟨b, 0, none⟩) ∧ w3.heap.size ≤ b ∧ Blk w b 31 [.int .u8 (kk' : Int), .int .i64 n', .int .u64 (t' : Int), .int .u8 (r' : Int), .int .u32 (i' : Int), .int .u64 (s' : Int), .string x', .slice aI il' cI, .slice aD dl' cD] ∧ OwnI w3.heap.size w (.slice aI il' cI) li' rI ∧ OwnD w3.heap.size w (.slice aD dl' cD) ld' rD) (fun k => w3.heap.size ≤ k) (fun u w w' => ∃ b cs, u = .pointer (some ⟨b, 0, none⟩) ∧ w3.heap.size ≤ b ∧ Blk w b 31 cs ∧ Chg (fun k => k = b) w w'), RegF.change (fun v w => ∃ b aI cI aD cD rI rD, v = .pointer (some ⟨b, 0, none⟩) ∧ w3.heap.size ≤ b ∧ Blk w b 31 [.int .u8 (kk'' : Int), .int .i64 n'', .int .u64 (t'' : Int), .int .u8 (r'' : Int), .int .u32 (i'' : Int), .int .u64 (s'' : Int), .string x'', .slice aI il'' cI, .slice aD dl'' cD] ∧ OwnI w3.heap.size w (.slice aI il'' cI) li'' rI ∧ OwnD w3.heap.size w (.slice aD dl'' cD) ld'' rD) (fun k => w3.heap.size ≤ k) (fun u w w' => ∃ b cs, u = .pointer (some ⟨b, 0, none⟩) ∧ w3.heap.size ≤ b ∧ Blk w b 31 cs ∧ Chg (fun k => k = b) w w')] (by kernel_rfl) (by kernel_rfl) (by kernel_rfl) (fun i hi => by simp only [List.mem_cons, List.not_mem_nil, or_false] at hi; rcases hi with rfl | rfl <;> exact fun _ _ _ h => h.1) (trivial) (fun (_ _ : World) _ _ => trivial) ?_ ?_ ?_ ?_ ?_ ?_
 ·exact ⟨Or.inr ⟨fun _ h => h, fun _ _ _ h => h⟩, Or.inr ⟨fun _ h => h, fun _ _ _ h => h⟩, Or.inr ⟨fun _ h => h, fun _ _ _ h => h⟩, Or.inr ⟨fun _ h => h, fun _ _ _ h => h⟩, Or.inr ⟨fun _ h => h, fun _ _ _ h => h.2⟩, Or.inr ⟨fun _ h => h, fun _ _ _ h => h.2⟩, Or.inl (by decide), Or.inl (by decide), trivial⟩
 ·exact ⟨⟨fun _ _ _ h => h, fun _ wx wy h => (fun (_ _ : World) _ _ => trivial) wx wy (RegF.to_below h (fun _ h => h))⟩, ⟨fun _ _ _ h => h, fun _ wx wy h => (fun (_ _ : World) _ _ => trivial) wx wy (RegF.to_below h (fun _ h => h))⟩, ⟨fun _ _ _ h => h, fun _ wx wy h => (fun (_ _ : World) _ _ => trivial) wx wy (RegF.to_below h (fun _ h => h))⟩, ⟨fun _ _ _ h => h, fun _ wx wy h => (fun (_ _ : World) _ _ => trivial) wx wy (RegF.to_below h (fun _ h => h))⟩, ⟨fun _ _ _ h => h.2, fun _ wx wy h => (fun (_ _ : World) _ _ => trivial) wx wy (RegF.to_below h.2 (fun _ h => h))⟩, ⟨fun _ _ _ h => h.2, fun _ wx wy h => (fun (_ _ : World) _ _ => trivial) wx wy (RegF.to_below h.2 (fun _ h => h))⟩, ⟨(fun u wa wb h => by obtain ⟨b, cs, _, g1, _, g3⟩ := h; exact g3.mono (fun k _ e => by rw [e]; exact g1)), (fun _ _ _ _ _ => trivial)⟩, ⟨(fun u wa wb h => by obtain ⟨b, cs, _, g1, _, g3⟩ := h; exact g3.mono (fun k _ e => by rw [e]; exact g1)), (fun _ _ _ _ _ => trivial)⟩, trivial⟩
 ·refine ⟨k4, (fun v wa wb hb h => by obtain ⟨aI, cI, aD, cD, rI, rD, h1, h2, h3⟩ := h; exact ⟨aI, cI, aD, cD, rI, rD, h1, h2.below hb, h3.below hb⟩), k4, (fun v wa wb hb h => by obtain ⟨aI, cI, aD, cD, rI, rD, h1, h2, h3⟩ := h; exact ⟨aI, cI, aD, cD, rI, rD, h1, h2.below hb, h3.below hb⟩), (fun v wa wb hb h => by obtain ⟨b5, h1, h2, h3⟩ := h; exact ⟨b5, h1, h2, h3.below hb⟩), (fun v wa wb hb h => by obtain ⟨b5, h1, h2, h3⟩ := h; exact ⟨b5, h1, h2, h3.below hb⟩), (fun v wa wb hb h => by obtain ⟨b5, aI, cI, aD, cD, rI, rD, h1, h2, h3, h4, h5⟩ := h; exact ⟨b5, aI, cI, aD, cD, rI, rD, h1, h2, h3.below hb, h4.below hb, h5.below hb⟩), (fun v wa wb hb h => by obtain ⟨b5, aI, cI, aD, cD, rI, rD, h1, h2, h3, h4, h5⟩ := h; exact ⟨b5, aI, cI, aD, cD, rI, rD, h1, h2, h3.below hb, h4.below hb, h5.below hb⟩), trivial⟩
 ·refine ⟨⟨Or.inr (Or.inr (Or.inr (fun _ _ _ _ _ _ h => h))), Or.inr (Or.inr (Or.inl (by kernel_rfl))), Or.inr (Or.inr (Or.inr (fun _ _ _ _ _ _ h => h))), Or.inr (Or.inr (Or.inr (fun u v wa wb hap hr h => by obtain ⟨b, cs, g0, g1, g2, g3⟩ := hr; obtain ⟨aI, cI, aD, cD, rI, rD, h1, h2, h3⟩ := h; exact ⟨aI, cI, aD, cD, rI, rD, h1, own6I_leaf h2 g2 g3, own6D_leaf h3 g2 g3⟩))), Or.inr (Or.inr (Or.inl (by kernel_rfl))), Or.inr (Or.inr (Or.inr (fun u v wa wb hap hr h => by obtain ⟨b, cs, g0, g1, g2, g3⟩ := hr; obtain ⟨b5, h1, h2, h3⟩ := h; have hne : b5 ≠ b := fun e => hap (by kernel_rfl) (by rw [h1, g0, e]); exact ⟨b5, h1, h2, h3.chg g3 (fun e => hne e)⟩))), Or.inl rfl, Or.inr (Or.inl (by kernel_rfl)), trivial⟩, ⟨Or.inr (Or.inr (Or.inr (fun _ _ _ _ _ _ h => h))), Or.inr (Or.inr (Or.inl (by kernel_rfl))), Or.inr (Or.inr (Or.inr (fun _ _ _ _ _ _ h => h))), Or.inr (Or.inr (Or.inl (by kernel_rfl))), Or.inr (Or.inr (Or.inl (by kernel_rfl))), Or.inr (Or.inr (Or.inl (by kernel_rfl))), Or.inr (Or.inr (Or.inr (fun u v wa wb hap hr h => by obtain ⟨b, cs, g0, g1, g2, g3⟩ := hr; obtain ⟨b5, aI, cI, aD, cD, rI, rD, h1, h2, h3, h4, h5⟩ := h; have hne : b5 ≠ b := fun e => hap (by kernel_rfl) (by rw [h1, g0, e]); exact ⟨b5, aI, cI, aD, cD, rI, rD, h1, h2, h3.chg g3 (fun e => hne e), own6I_leaf h4 g2 g3, own6D_leaf h5 g2 g3⟩))), Or.inl rfl, trivial⟩, trivial⟩
 ·refine ⟨?_, ?_, ?_, ?_, ?_, ?_, ?_, ?_, trivial⟩
  ·intro ev w hc hf hg hfix hdep hchg hinv
   have e4 : ev (.tmp 4) = _ := hfix 4 (by decide)
   have dd := HM3.out.below (RegF.chg0 (hchg [] (by kernel_rfl)))
   obtain ⟨d0, d1, d2, d3, d4, d5, d6, d7, d8⟩ := dd.nine
   exact Or.inl ⟨trivial, Or.inl ⟨_, w, by go_simp, rfl, Chg.refl _ _⟩⟩
  ·intro ev w hc hf hg hfix hdep hchg hinv
   have e31 : ev (.tmp 31) = _ := hdep 0 (by decide)
   refine Or.inl ⟨trivial, Or.inr (Or.inl ⟨6, #[.agg #[.int .u8 (kk' : Int), .int .i64 n', .int .u64 (t' : Int), .int .u8 (r' : Int), .int .u32 (i' : Int), .int .u64 (s' : Int), .string x', .slice ia' il' ic', .slice da' dl' dc']], w, by go_simp, ?_⟩)⟩
   have hb0 := RegF.chg0 (hchg [] (by kernel_rfl))
   have hbw := HB3.out.trans (hb0.mono HB3.out.size)
   refine (own06_any kk' n' t' r' i' s' x' ia' il' ic' da' dl' dc' li' ld' w (HI'.out.below hbw) HIl'.out (HD'.out.below hbw) HDl'.out (by have := HQ'.out; omega)).mono ?_
   rintro e w9 ⟨⟨aI, cI, aD, cD, rI, rD, rfl, hI, hD⟩, hb⟩
   exact ⟨_, rfl, ⟨aI, cI, aD, cD, rI, rD, rfl, hI.base hb0.size, hD.base hb0.size⟩, Chg.of_below hb⟩
  ·intro ev w hc hf hg hfix hdep hchg hinv
   have e5 : ev (.tmp 5) = _ := hfix 5 (by decide)
   have dd := HN3.out.below (RegF.chg0 (hchg [] (by kernel_rfl)))
   obtain ⟨d0, d1, d2, d3, d4, d5, d6, d7, d8⟩ := dd.nine
   exact Or.inl ⟨trivial, Or.inl ⟨_, w, by go_simp, rfl, Chg.refl _ _⟩⟩
  ·intro ev w hc hf hg hfix hdep hchg hinv
   have e33 : ev (.tmp 33) = _ := hdep 2 (by decide)
   refine Or.inl ⟨trivial, Or.inr (Or.inl ⟨6, #[.agg #[.int .u8 (kk'' : Int), .int .i64 n'', .int .u64 (t'' : Int), .int .u8 (r'' : Int), .int .u32 (i'' : Int), .int .u64 (s'' : Int), .string x'', .slice ia'' il'' ic'', .slice da'' dl'' dc'']], w, by go_simp, ?_⟩)⟩
   have hb0 := RegF.chg0 (hchg [] (by kernel_rfl))
   have hbw := HB3.out.trans (hb0.mono HB3.out.size)
   refine (own06_any kk'' n'' t'' r'' i'' s'' x'' ia'' il'' ic'' da'' dl'' dc'' li'' ld'' w (HI''.out.below hbw) HIl''.out (HD''.out.below hbw) HDl''.out (by have := HQ''.out; omega)).mono ?_
   rintro e w9 ⟨⟨aI, cI, aD, cD, rI, rD, rfl, hI, hD⟩, hb⟩
   exact ⟨_, rfl, ⟨aI, cI, aD, cD, rI, rD, rfl, hI.base hb0.size, hD.base hb0.size⟩, Chg.of_below hb⟩
  ·intro ev w hc hf hg hfix hdep hchg hinv
   have hb0 := RegF.chg0 (hchg [] (by kernel_rfl))
   exact Or.inl ⟨trivial, Or.inl ⟨.pointer (some ⟨w.heap.size, 0, none⟩), w.alloc (.cells #[.int .u8 0, .int .i64 0, .int .u64 0, .int .u8 0, .int .u32 0, .int .u64 0, .string ⟨#[]⟩, .slice none 0 0, .slice none 0 0] 31), by go_simp, ⟨w.heap.size, rfl, hb0.size, Blk.new w _ _⟩, ⟨rfl, by simp⟩, (Chg.refl _ w).alloc _⟩⟩
  ·intro ev w hc hf hg hfix hdep hchg hinv
   have hb0 := RegF.chg0 (hchg [] (by kernel_rfl))
   exact Or.inl ⟨trivial, Or.inl ⟨.pointer (some ⟨w.heap.size, 0, none⟩), w.alloc (.cells #[.int .u8 0, .int .i64 0, .int .u64 0, .int .u8 0, .int .u32 0, .int .u64 0, .string ⟨#[]⟩, .slice none 0 0, .slice none 0 0] 31), by go_simp, ⟨w.heap.size, rfl, hb0.size, Blk.new w _ _⟩, ⟨rfl, by simp⟩, (Chg.refl _ w).alloc _⟩⟩
  ·intro ev w hc hf hg hfix hdep hchg hinv
   have e7 := hdep 4 (by decide)
   have e32 := hdep 1 (by decide)
   obtain ⟨aI, cI, aD, cD, rI, rD, hv, h1, h2⟩ := e32
   have e32 : ev (.tmp 32) = .agg #[.int .u8 (kk' : Int), .int .i64 n', .int .u64 (t' : Int), .int .u8 (r' : Int), .int .u32 (i' : Int), .int .u64 (s' : Int), .string x', .slice aI il' cI, .slice aD dl' cD] := hv
   obtain ⟨b, hvb, hub, hbk⟩ := e7
   have e7 : ev (.tmp 7) = .pointer (some ⟨b, 0, none⟩) := hvb
   obtain ⟨d0, d1, d2, d3, d4, d5, d6, d7, d8⟩ := hbk.nine
   obtain ⟨y0, y1, y2, y3, y4, y5, y6, y7, y8⟩ := hbk.froz9
   have hc9 := chg9 w b (.int .u8 (kk' : Int)) (.int .i64 n') (.int .u64 (t' : Int)) (.int .u8 (r' : Int)) (.int .u32 (i' : Int)) (.int .u64 (s' : Int)) (.string x') (.slice aI il' cI) (.slice aD dl' cD)
   exact Or.inl ⟨trivial, Or.inr (Or.inr ⟨(((((((((w.setCell ⟨b, 0, none⟩ (.int .u8 (kk' : Int))).setCell ⟨b, 1, none⟩ (.int .i64 n')).setCell ⟨b, 2, none⟩ (.int .u64 (t' : Int))).setCell ⟨b, 3, none⟩ (.int .u8 (r' : Int))).setCell ⟨b, 4, none⟩ (.int .u32 (i' : Int))).setCell ⟨b, 5, none⟩ (.int .u64 (s' : Int))).setCell ⟨b, 6, none⟩ (.string x')).setCell ⟨b, 7, none⟩ (.slice aI il' cI)).setCell ⟨b, 8, none⟩ (.slice aD dl' cD)), by go_simp, ⟨b, aI, cI, aD, cD, rI, rD, e7, hub, blk9 hbk _ _ _ _ _ _ _ _ _, own6I_leaf h1 hbk hc9, own6D_leaf h2 hbk hc9⟩, ⟨b, _, e7, hub, hbk, hc9⟩⟩)⟩
  ·intro ev w hc hf hg hfix hdep hchg hinv
   have e8 := hdep 5 (by decide)
   have e34 := hdep 3 (by decide)
   obtain ⟨aI, cI, aD, cD, rI, rD, hv, h1, h2⟩ := e34
   have e34 : ev (.tmp 34) = .agg #[.int .u8 (kk'' : Int), .int .i64 n'', .int .u64 (t'' : Int), .int .u8 (r'' : Int), .int .u32 (i'' : Int), .int .u64 (s'' : Int), .string x'', .slice aI il'' cI, .slice aD dl'' cD] := hv
   obtain ⟨b, hvb, hub, hbk⟩ := e8
   have e8 : ev (.tmp 8) = .pointer (some ⟨b, 0, none⟩) := hvb
   obtain ⟨d0, d1, d2, d3, d4, d5, d6, d7, d8⟩ := hbk.nine
   obtain ⟨y0, y1, y2, y3, y4, y5, y6, y7, y8⟩ := hbk.froz9
   have hc9 := chg9 w b (.int .u8 (kk'' : Int)) (.int .i64 n'') (.int .u64 (t'' : Int)) (.int .u8 (r'' : Int)) (.int .u32 (i'' : Int)) (.int .u64 (s'' : Int)) (.string x'') (.slice aI il'' cI) (.slice aD dl'' cD)
   exact Or.inl ⟨trivial, Or.inr (Or.inr ⟨(((((((((w.setCell ⟨b, 0, none⟩ (.int .u8 (kk'' : Int))).setCell ⟨b, 1, none⟩ (.int .i64 n'')).setCell ⟨b, 2, none⟩ (.int .u64 (t'' : Int))).setCell ⟨b, 3, none⟩ (.int .u8 (r'' : Int))).setCell ⟨b, 4, none⟩ (.int .u32 (i'' : Int))).setCell ⟨b, 5, none⟩ (.int .u64 (s'' : Int))).setCell ⟨b, 6, none⟩ (.string x'')).setCell ⟨b, 7, none⟩ (.slice aI il'' cI)).setCell ⟨b, 8, none⟩ (.slice aD dl'' cD)), by go_simp, ⟨b, aI, cI, aD, cD, rI, rD, e8, hub, blk9 hbk _ _ _ _ _ _ _ _ _, own6I_leaf h1 hbk hc9, own6D_leaf h2 hbk hc9⟩, ⟨b, _, e8, hub, hbk, hc9⟩⟩)⟩
 ·intro v u4 hv hlk hap hb2 hJ2
  have lk6 := hlk 4 6 (by kernel_rfl)
  have lk7 := hlk 5 7 (by kernel_rfl)
  have ap4_5 := hap 4 5 (by decide) (by decide) (by decide)
  have r6 := hv 6 (by decide) (by decide)
  have r7 := hv 7 (by decide) (by decide)
  simp only [Reg.putAll, Act.put, List.setIfInBounds_toArray, List.set_cons_zero, List.set_cons_succ]
  clear hv hlk hap
  obtain ⟨bx, aIx, cIx, aDx, cDx, rIx, rDx, hv6, hubx, hbx, hIx, hDx⟩ := r6
  obtain ⟨by_, aIy, cIy, aDy, cDy, rIy, rDy, hv7, huby, hby, hIy, hDy⟩ := r7
  simp only [Nat.zero_add, Nat.reduceAdd]
  rw [← lk6, ← lk7, hv6, hv7]
  clear lk6 lk7 hv6 hv7 ap4_5 hJ2
  have hbU := (RegF.end2 hb2).below (B := w3.heap.size) (fun k _ e => e.elim id id) (Nat.le_refl _)
  have HB4 := Lib.hid (HB3.out.trans (hbU.mono HB3.out.size))
  have hL := HL3.out.below hbU
  have HL4 := Lib.hid hL; have HM4 := Lib.hid (HM3.out.below hbU); have HN4 := Lib.hid (HN3.out.below hbU)
  have HRIx := Lib.hid (rowI_at hIx HI'.out.ok); have HRDx := Lib.hid (rowD_at hDx HD'.out.ok); have HRIy := Lib.hid (rowI_at hIy HI''.out.ok); have HRDy := Lib.hid (rowD_at hDy HD''.out.ok)
  have HX4 := Lib.hid hbx; have HY4 := Lib.hid hby
  clear hb2 hbU hL hbx hby hIx hDx hIy hDy hubx huby
  go_wp2_with fail
  obtain ⟨⟨⟨ka, na, ta, ⟨⟨ra, ja⟩, sa⟩, xa, lia, lda⟩, err⟩, hMg⟩ : ∃ q, Lm.merge ⟨kk, n, t, ((r, i), s), x, li, ld⟩ ⟨kk', n', t', ((r', i'), s'), x', li', ld'⟩ ⟨kk'', n'', t'', ((r'', i''), s''), x'', li'', ld''⟩ = q := ⟨_, rfl⟩
  obtain ⟨⟨⟨kb, nb, tb, ⟨⟨rb, jb⟩, sb⟩, xb, lib, ldb⟩, erb⟩, hPg⟩ : ∃ q, Lm.purge ⟨kk', n', t', ((r', i'), s'), x', li', ld'⟩ = q := ⟨_, rfl⟩
  obtain ⟨NI, hNI⟩ : ∃ NI, lia.length = NI := ⟨_, rfl⟩
  obtain ⟨ND, hND⟩ : ∃ ND, lda.length = ND := ⟨_, rfl⟩
  obtain ⟨PI, hPI⟩ : ∃ PI, lib.length = PI := ⟨_, rfl⟩
  obtain ⟨PD, hPD⟩ : ∃ PD, ldb.length = PD := ⟨_, rfl⟩
  have HMg := Lib.hid hMg; have HPg := Lib.hid hPg; have HNI := Lib.hid hNI; have HND := Lib.hid hND; have HPI := Lib.hid hPI; have HPD := Lib.hid hPD
  clear hMg hPg hNI hND hPI hPD
  refine RegE.region_list (by kernel_rfl) (fun _ => True) [9] [9, 10] [RegE.plain (fun v _ => v = .agg #[.int .u8 (kk : Int), .int .i64 n, .int .u64 (t : Int), .int .u8 (r : Int), .int .u32 (i : Int), .int .u64 (s : Int), .string x, .slice ia il ic, .slice da dl dc]), RegE.plain (fun v w => ∃ aI cI aD cD rI rD, v = .agg #[.int .u8 (kk : Int), .int .i64 n, .int .u64 (t : Int), .int .u8 (r : Int), .int .u32 (i : Int), .int .u64 (s : Int), .string x, .slice aI il cI, .slice aD dl cD] ∧ OwnI u4.heap.size w (.slice aI il cI) li rI ∧ OwnD u4.heap.size w (.slice aD dl cD) ld rD), RegE.plain (fun v _ => v = .agg #[.int .u8 (kk' : Int), .int .i64 n', .int .u64 (t' : Int), .int .u8 (r' : Int), .int .u32 (i' : Int), .int .u64 (s' : Int), .string x', .slice aIx il' cIx, .slice aDx dl' cDx]), RegE.plain (fun v _ => v = .agg #[.int .u8 (kk'' : Int), .int .i64 n'', .int .u64 (t'' : Int), .int .u8 (r'' : Int), .int .u32 (i'' : Int), .int .u64 (s'' : Int), .string x'', .slice aIy il'' cIy, .slice aDy dl'' cDy]), RegE.plain (fun v w => ∃ vI rI vD rD, v = .tuple #[.agg #[.int .u8 (ka : Int), .int .i64 na, .int .u64 (ta : Int), .int .u8 (ra : Int), .int .u32 (ja : Int), .int .u64 (sa : Int), .string xa, vI, vD], .int .i64 err] ∧ OwnI u4.heap.size w vI lia rI ∧ OwnD u4.heap.size w vD lda rD), RegE.plain (fun v w => ∃ vI rI vD rD, v = .tuple #[.agg #[.int .u8 (ka : Int), .int .i64 na, .int .u64 (ta : Int), .int .u8 (ra : Int), .int .u32 (ja : Int), .int .u64 (sa : Int), .string xa, vI, vD], .int .i64 err] ∧ OwnI u4.heap.size w vI lia rI ∧ OwnD u4.heap.size w vD lda rD), RegE.plain (fun v w => ∃ vI rI vD rD, v = .agg #[.int .u8 (ka : Int), .int .i64 na, .int .u64 (ta : Int), .int .u8 (ra : Int), .int .u32 (ja : Int), .int .u64 (sa : Int), .string xa, vI, vD] ∧ OwnI u4.heap.size w vI lia rI ∧ OwnD u4.heap.size w vD lda rD), RegE.plain (fun v _ => v = .int .i64 err), RegE.plain (fun v w => ∃ b, v = .pointer (some ⟨b, 0, none⟩) ∧ u4.heap.size ≤ b ∧ Blk w b 31 [.int .u8 0, .int .i64 0, .int .u64 0, .int .u8 0, .int .u32 0, .int .u64 0, .string ⟨#[]⟩, .slice none 0 0, .slice none 0 0]), RegE.change (fun v w => ∃ b vI rI vD rD, v = .pointer (some ⟨b, 0, none⟩) ∧ u4.heap.size ≤ b ∧ Blk w b 31 [.int .u8 (ka : Int), .int .i64 na, .int .u64 (ta : Int), .int .u8 (ra : Int), .int .u32 (ja : Int), .int .u64 (sa : Int), .string xa, vI, vD] ∧ OwnI u4.heap.size w vI lia rI ∧ OwnD u4.heap.size w vD lda rD) (fun k => u4.heap.size ≤ k) (fun w w' => ∃ b cs, u4.heap.size ≤ b ∧ Blk w b 31 cs ∧ Chg (fun k => k = b) w w'), RegE.plain (fun v _ => v = .int .i64 err)] (by kernel_rfl) (by kernel_rfl) (trivial) (fun (_ _ : World) _ _ => trivial) ?_ ?_ ?_ ?_ ?_ ?_
  ·exact ⟨Or.inr ⟨fun _ h => h, rfl⟩, Or.inr ⟨fun _ h => h, rfl⟩, Or.inr ⟨fun _ h => h, rfl⟩, Or.inr ⟨fun _ h => h, rfl⟩, Or.inr ⟨fun _ h => h, rfl⟩, Or.inr ⟨fun _ h => h, rfl⟩, Or.inr ⟨fun _ h => h, rfl⟩, Or.inr ⟨fun _ h => h, rfl⟩, Or.inr ⟨fun _ h => h, rfl⟩, Or.inl (by decide), Or.inr ⟨fun _ h => h, rfl⟩, trivial⟩
  ·exact ⟨⟨fun _ _ h => h, fun wx wy h => (fun (_ _ : World) _ _ => trivial) wx wy (RegE.to_below h (fun _ h => h))⟩, ⟨fun _ _ h => h, fun wx wy h => (fun (_ _ : World) _ _ => trivial) wx wy (RegE.to_below h (fun _ h => h))⟩, ⟨fun _ _ h => h, fun wx wy h => (fun (_ _ : World) _ _ => trivial) wx wy (RegE.to_below h (fun _ h => h))⟩, ⟨fun _ _ h => h, fun wx wy h => (fun (_ _ : World) _ _ => trivial) wx wy (RegE.to_below h (fun _ h => h))⟩, ⟨fun _ _ h => h, fun wx wy h => (fun (_ _ : World) _ _ => trivial) wx wy (RegE.to_below h (fun _ h => h))⟩, ⟨fun _ _ h => h, fun wx wy h => (fun (_ _ : World) _ _ => trivial) wx wy (RegE.to_below h (fun _ h => h))⟩, ⟨fun _ _ h => h, fun wx wy h => (fun (_ _ : World) _ _ => trivial) wx wy (RegE.to_below h (fun _ h => h))⟩, ⟨fun _ _ h => h, fun wx wy h => (fun (_ _ : World) _ _ => trivial) wx wy (RegE.to_below h (fun _ h => h))⟩, ⟨fun _ _ h => h, fun wx wy h => (fun (_ _ : World) _ _ => trivial) wx wy (RegE.to_below h (fun _ h => h))⟩, ⟨(fun wa wb h => by obtain ⟨b, cs, g1, _, g3⟩ := h; exact g3.mono (fun k _ e => by rw [e]; exact g1)), (fun _ _ _ _ => trivial)⟩, ⟨fun _ _ h => h, fun wx wy h => (fun (_ _ : World) _ _ => trivial) wx wy (RegE.to_below h (fun _ h => h))⟩, trivial⟩
  ·refine ⟨k4, (fun v wa wb hb h => by obtain ⟨aI, cI, aD, cD, rI, rD, h1, h2, h3⟩ := h; exact ⟨aI, cI, aD, cD, rI, rD, h1, h2.below hb, h3.below hb⟩), k4, k4, (fun v wa wb hb h => by obtain ⟨vI, rI, vD, rD, h1, h2, h3⟩ := h; exact ⟨vI, rI, vD, rD, h1, h2.below hb, h3.below hb⟩), (fun v wa wb hb h => by obtain ⟨vI, rI, vD, rD, h1, h2, h3⟩ := h; exact ⟨vI, rI, vD, rD, h1, h2.below hb, h3.below hb⟩), (fun v wa wb hb h => by obtain ⟨vI, rI, vD, rD, h1, h2, h3⟩ := h; exact ⟨vI, rI, vD, rD, h1, h2.below hb, h3.below hb⟩), k4, (fun v wa wb hb h => by obtain ⟨b5, h1, h2, h3⟩ := h; exact ⟨b5, h1, h2, h3.below hb⟩), (fun v wa wb hb h => by obtain ⟨b, vI, rI, vD, rD, h0, h1, h2, h3, h4⟩ := h; exact ⟨b, vI, rI, vD, rD, h0, h1, h2.below hb, h3.below hb, h4.below hb⟩), k4, trivial⟩
  ·refine ⟨⟨Or.inr (Or.inr (Or.inr k4)), Or.inr (Or.inr (Or.inl (by kernel_rfl))), Or.inr (Or.inr (Or.inr k4)), Or.inr (Or.inr (Or.inr k4)), Or.inr (Or.inr (Or.inr (fun v wa wb hr h => by obtain ⟨b, cs, g1, g2, g3⟩ := hr; obtain ⟨vI, rI, vD, rD, h1, h2, h3⟩ := h; exact ⟨vI, rI, vD, rD, h1, own6I_leaf h2 g2 g3, own6D_leaf h3 g2 g3⟩))), Or.inr (Or.inr (Or.inr (fun v wa wb hr h => by obtain ⟨b, cs, g1, g2, g3⟩ := hr; obtain ⟨vI, rI, vD, rD, h1, h2, h3⟩ := h; exact ⟨vI, rI, vD, rD, h1, own6I_leaf h2 g2 g3, own6D_leaf h3 g2 g3⟩))), Or.inr (Or.inr (Or.inl (by kernel_rfl))), Or.inr (Or.inr (Or.inr k4)), Or.inr (Or.inr (Or.inl (by kernel_rfl))), Or.inl rfl, Or.inr (Or.inr (Or.inr k4)), trivial⟩, trivial⟩
  ·refine ⟨?_, ?_, ?_, ?_, ?_, ?_, ?_, ?_, ?_, ?_, ?_, trivial⟩
   ·intro ev w hc hf hg hfix hdep hchg hinv
    have e3 : ev (.tmp 3) = _ := hfix 3 (by decide)
    have dd := HL4.out.below (RegE.chg0 (hchg [] (by kernel_rfl)))
    obtain ⟨d0, d1, d2, d3, d4, d5, d6, d7, d8⟩ := dd.nine
    exact Or.inl ⟨trivial, Or.inl ⟨_, w, by go_simp, rfl, Chg.refl _ _⟩⟩
   ·intro ev w hc hf hg hfix hdep hchg hinv
    have e36 : ev (.tmp 36) = _ := hdep 0 (by decide)
    refine Or.inl ⟨trivial, Or.inr (Or.inl ⟨6, #[.agg #[.int .u8 (kk : Int), .int .i64 n, .int .u64 (t : Int), .int .u8 (r : Int), .int .u32 (i : Int), .int .u64 (s : Int), .string x, .slice ia il ic, .slice da dl dc]], w, by go_simp, ?_⟩)⟩
    have hb0 := RegE.chg0 (hchg [] (by kernel_rfl))
    have hbw := HB4.out.trans (hb0.mono HB4.out.size)
    refine (own06_any kk n t r i s x ia il ic da dl dc li ld w (HI.out.below hbw) HIl.out (HD.out.below hbw) HDl.out (by have := HQ.out; omega)).mono ?_
    rintro e w9 ⟨⟨aI, cI, aD, cD, rI, rD, rfl, hI, hD⟩, hb⟩
    exact ⟨_, rfl, ⟨aI, cI, aD, cD, rI, rD, rfl, hI.base hb0.size, hD.base hb0.size⟩, Chg.of_below hb⟩
   ·intro ev w hc hf hg hfix hdep hchg hinv
    have e7 : ev (.tmp 7) = _ := hfix 7 (by decide)
    have dd := HX4.out.below (RegE.chg0 (hchg [] (by kernel_rfl)))
    obtain ⟨d0, d1, d2, d3, d4, d5, d6, d7, d8⟩ := dd.nine
    exact Or.inl ⟨trivial, Or.inl ⟨_, w, by go_simp, rfl, Chg.refl _ _⟩⟩
   ·intro ev w hc hf hg hfix hdep hchg hinv
    have e8 : ev (.tmp 8) = _ := hfix 8 (by decide)
    have dd := HY4.out.below (RegE.chg0 (hchg [] (by kernel_rfl)))
    obtain ⟨d0, d1, d2, d3, d4, d5, d6, d7, d8⟩ := dd.nine
    exact Or.inl ⟨trivial, Or.inl ⟨_, w, by go_simp, rfl, Chg.refl _ _⟩⟩
   ·intro ev w hc hf hg hfix hdep hchg hinv
    have e37 := hdep 1 (by decide)
    have e38 : ev (.tmp 38) = _ := hdep 2 (by decide)
    have e39 : ev (.tmp 39) = _ := hdep 3 (by decide)
    have hb0 := RegE.chg0 (hchg [] (by kernel_rfl))
    obtain ⟨aI, cI, aD, cD, rI, rD, hv, hI, hD⟩ := e37
    have e37 : ev (.tmp 37) = .agg #[.int .u8 (kk : Int), .int .i64 n, .int .u64 (t : Int), .int .u8 (r : Int), .int .u32 (i : Int), .int .u64 (s : Int), .string x, .slice aI il cI, .slice aD dl cD] := hv
    refine Or.inl ⟨trivial, Or.inr (Or.inl ⟨7, #[.agg #[.int .u8 (kk : Int), .int .i64 n, .int .u64 (t : Int), .int .u8 (r : Int), .int .u32 (i : Int), .int .u64 (s : Int), .string x, .slice aI il cI, .slice aD dl cD], .agg #[.int .u8 (kk' : Int), .int .i64 n', .int .u64 (t' : Int), .int .u8 (r' : Int), .int .u32 (i' : Int), .int .u64 (s' : Int), .string x', .slice aIx il' cIx, .slice aDx dl' cDx], .agg #[.int .u8 (kk'' : Int), .int .i64 n'', .int .u64 (t'' : Int), .int .u8 (r'' : Int), .int .u32 (i'' : Int), .int .u64 (s'' : Int), .string x'', .slice aIy il'' cIy, .slice aDy dl'' cDy]], w, by go_simp, ?_⟩)⟩
    refine (fmerge_any kk n t r i s x aI il cI aD dl cD li ld kk' n' t' r' i' s' x' aIx il' cIx aDx dl' cDx li' ld' kk'' n'' t'' r'' i'' s'' x'' aIy il'' cIy aDy dl'' cDy li'' ld'' w (rowI_at hI HI.out.ok) HIl.out (rowD_at hD HD.out.ok) HDl.out (by have := HQ.out; omega) (by have := HQ.out; omega) HX.out (HRIx.out.below hb0) HIl'.out (HRDx.out.below hb0) HDl'.out (by have := HQ'.out; omega) (by have := HQ'.out; omega) HX'.out (HRIy.out.below hb0) HIl''.out (HRDy.out.below hb0) HDl''.out (by have := HQ''.out; omega) (by have := HQ''.out; omega) HX''.out).mono ?_
    rintro e w9 ⟨hae, hb⟩
    rw [HMg.out] at hae
    obtain ⟨vI, rI, vD, rD, rfl, hI, hD⟩ := hae
    exact ⟨_, rfl, ⟨vI, rI, vD, rD, rfl, hI.base hb0.size, hD.base hb0.size⟩, Chg.of_below hb⟩
   ·intro ev w hc hf hg hfix hdep hchg hinv
    have e40 := hdep 4 (by decide)
    exact Or.inl ⟨trivial, Or.inl ⟨ev (.tmp 40), w, by go_simp, e40, Chg.refl _ _⟩⟩
   ·intro ev w hc hf hg hfix hdep hchg hinv
    have e35 := hdep 5 (by decide)
    obtain ⟨vI, rI, vD, rD, hv, h1, h2⟩ := e35
    have e35 : ev (.tmp 35) = .tuple #[.agg #[.int .u8 (ka : Int), .int .i64 na, .int .u64 (ta : Int), .int .u8 (ra : Int), .int .u32 (ja : Int), .int .u64 (sa : Int), .string xa, vI, vD], .int .i64 err] := hv
    exact Or.inl ⟨trivial, Or.inl ⟨.agg #[.int .u8 (ka : Int), .int .i64 na, .int .u64 (ta : Int), .int .u8 (ra : Int), .int .u32 (ja : Int), .int .u64 (sa : Int), .string xa, vI, vD], w, by go_simp, ⟨vI, rI, vD, rD, rfl, h1, h2⟩, Chg.refl _ _⟩⟩
   ·intro ev w hc hf hg hfix hdep hchg hinv
    have e35 := hdep 5 (by decide)
    obtain ⟨vI, rI, vD, rD, hv, h1, h2⟩ := e35
    have e35 : ev (.tmp 35) = .tuple #[.agg #[.int .u8 (ka : Int), .int .i64 na, .int .u64 (ta : Int), .int .u8 (ra : Int), .int .u32 (ja : Int), .int .u64 (sa : Int), .string xa, vI, vD], .int .i64 err] := hv
    exact Or.inl ⟨trivial, Or.inl ⟨_, w, by go_simp, rfl, Chg.refl _ _⟩⟩
   ·intro ev w hc hf hg hfix hdep hchg hinv
    have hb0 := RegE.chg0 (hchg [] (by kernel_rfl))
    exact Or.inl ⟨trivial, Or.inl ⟨.pointer (some ⟨w.heap.size, 0, none⟩), w.alloc (.cells #[.int .u8 0, .int .i64 0, .int .u64 0, .int .u8 0, .int .u32 0, .int .u64 0, .string ⟨#[]⟩, .slice none 0 0, .slice none 0 0] 31), by go_simp, ⟨w.heap.size, rfl, hb0.size, Blk.new w _ _⟩, (Chg.refl _ w).alloc _⟩⟩
   ·intro ev w hc hf hg hfix hdep hchg hinv
    have e9 := hdep 8 (by decide)
    have e41 := hdep 6 (by decide)
    obtain ⟨vI, rI, vD, rD, hv, h1, h2⟩ := e41
    have e41 : ev (.tmp 41) = .agg #[.int .u8 (ka : Int), .int .i64 na, .int .u64 (ta : Int), .int .u8 (ra : Int), .int .u32 (ja : Int), .int .u64 (sa : Int), .string xa, vI, vD] := hv
    obtain ⟨b, hvb, hub, hbk⟩ := e9
    have e9 : ev (.tmp 9) = .pointer (some ⟨b, 0, none⟩) := hvb
    obtain ⟨d0, d1, d2, d3, d4, d5, d6, d7, d8⟩ := hbk.nine
    obtain ⟨y0, y1, y2, y3, y4, y5, y6, y7, y8⟩ := hbk.froz9
    obtain ⟨a7, n7, m7, hv7⟩ := Own.slice h1
    obtain ⟨a8, n8, m8, hv8⟩ := Own.slice h2
    subst hv7; subst hv8
    have hc9 := chg9 w b (.int .u8 (ka : Int)) (.int .i64 na) (.int .u64 (ta : Int)) (.int .u8 (ra : Int)) (.int .u32 (ja : Int)) (.int .u64 (sa : Int)) (.string xa) (.slice a7 n7 m7) (.slice a8 n8 m8)
    exact Or.inl ⟨trivial, Or.inr (Or.inr ⟨(((((((((w.setCell ⟨b, 0, none⟩ (.int .u8 (ka : Int))).setCell ⟨b, 1, none⟩ (.int .i64 na)).setCell ⟨b, 2, none⟩ (.int .u64 (ta : Int))).setCell ⟨b, 3, none⟩ (.int .u8 (ra : Int))).setCell ⟨b, 4, none⟩ (.int .u32 (ja : Int))).setCell ⟨b, 5, none⟩ (.int .u64 (sa : Int))).setCell ⟨b, 6, none⟩ (.string xa)).setCell ⟨b, 7, none⟩ (.slice a7 n7 m7)).setCell ⟨b, 8, none⟩ (.slice a8 n8 m8)), by go_simp, ⟨b, _, rI, _, rD, e9, hub, blk9 hbk _ _ _ _ _ _ _ _ _, own6I_leaf h1 hbk hc9, own6D_leaf h2 hbk hc9⟩, ⟨b, _, hub, hbk, hc9⟩⟩)⟩
   ·intro ev w hc hf hg hfix hdep hchg hinv
    have e42 : ev (.tmp 42) = _ := hdep 7 (by decide)
    exact Or.inl ⟨trivial, Or.inl ⟨_, w, by go_simp, rfl, Chg.refl _ _⟩⟩
  ·intro v u5 hv hlk hb2 hJ2
   have lk9 := hlk 8 9 (by kernel_rfl)
   have r9 := hv 9 (by decide) (by decide)
   have r10 := hv 10 (by decide) (by decide)
   simp only [Reg.putAll, Act.put, List.setIfInBounds_toArray, List.set_cons_zero, List.set_cons_succ]
   clear hv hlk
   obtain ⟨bm, vI, rI, vD, rD, hv9, hub, hbk, hI, hD⟩ := r9
   simp only [Nat.zero_add, Nat.reduceAdd]
   rw [← lk9, hv9, show v 10 = .int .i64 err from r10]
   clear lk9 hv9 r10 hJ2
   have hbU := (RegE.end1 hb2).below (B := u4.heap.size) (fun k _ e => e) (Nat.le_refl _)
   obtain ⟨p7, c7, hv7⟩ := own_len hI
   obtain ⟨p8, c8, hv8⟩ := own_len hD
   rw [HNI.out] at hv7; rw [HND.out] at hv8
   subst hv7; subst hv8
   have HU5 := Lib.hid hbU; have HOI5 := Lib.hid hI; have HOD5 := Lib.hid hD; have HM_5 := Lib.hid hbk; have HUB := Lib.hid hub
   have HB5 := Lib.hid (HB4.out.trans (hbU.mono HB4.out.size))
   have hL := HL4.out.below hbU; have hM := HM4.out.below hbU; have hN := HN4.out.below hbU
   obtain ⟨a0, a1, a2, a3, a4, a5, a6, a7, a8⟩ := hL.nine
   obtain ⟨b0, b1, b2, b3, b4, b5, b6, b7, b8⟩ := hM.nine
   obtain ⟨x0, x1, x2, x3, x4, x5, x6, x7, x8⟩ := hN.nine
   clear hb2 hbU hI hD hbk hub hL hM hN
   go_wp2_with fail
   refine (rmerge_any kk n t r i s x ia il ic da dl dc li ld kk' n' t' r' i' s' x' ia' il' ic' da' dl' dc' li' ld' kk'' n'' t'' r'' i'' s'' x'' ia'' il'' ic'' da'' dl'' dc'' li'' ld'' _ (HI.out.below HB5.out) HIl.out (HD.out.below HB5.out) HDl.out (by have := HQ.out; omega) (by have := HQ.out; omega) HX.out (HI'.out.below HB5.out) HIl'.out (HD'.out.below HB5.out) HDl'.out (by have := HQ'.out; omega) (by have := HQ'.out; omega) HX'.out (HI''.out.below HB5.out) HIl''.out (HD''.out.below HB5.out) HDl''.out (by have := HQ''.out; omega) (by have := HQ''.out; omega) HX''.out).mono ?_
   rintro e w6 ⟨hre, hb⟩
   rw [HMg.out] at hre
   obtain ⟨ib, icb, db, dcb, he, hrI, hrD⟩ := hre
   have he : e = .returned (.tuple #[.agg #[.int .u8 (ka : Int), .int .i64 na, .int .u64 (ta : Int), .int .u8 (ra : Int), .int .u32 (ja : Int), .int .u64 (sa : Int), .string xa, .slice ib NI icb, .slice db ND dcb], .int .i64 err]) := by rw [← HNI.out, ← HND.out]; exact he
   subst he
   have HU6 := Lib.hid (HU5.out.trans (hb.mono HU5.out.size)); have HB6 := Lib.hid (HB5.out.trans (hb.mono HB5.out.size))
   have HOI6 := Lib.hid (HOI5.out.below hb); have HOD6 := Lib.hid (HOD5.out.below hb); have HM_6 := Lib.hid (HM_5.out.below hb)
   have HRb := Lib.hid hrI; have HDb := Lib.hid hrD
   have hX := HX4.out.below HU6.out
   have hltx := hX.lt
   obtain ⟨z0, z1, z2, z3, z4, z5, z6, z7, z8⟩ := hX.nine
   have HLp := Lib.hid hb.size
   clear hb hrI hrD hX a0 a1 a2 a3 a4 a5 a6 a7 a8 b0 b1 b2 b3 b4 b5 b6 b7 b8 x0 x1 x2 x3 x4 x5 x6 x7 x8
   go_wp2_with fail
   obtain ⟨X6, hX⟩ : ∃ X, X = (w6.alloc (.cells #[.int .u8 (ka : Int), .int .i64 na, .int .u64 (ta : Int), .int .u8 (ra : Int), .int .u32 (ja : Int), .int .u64 (sa : Int), .string xa, .slice ib NI icb, .slice db ND dcb] 31)) := ⟨_, rfl⟩
   have hbx : Below w6.heap.size w6 X6 := by rw [hX]; exact below_box _ _ _
   have hgx : Blk X6 w6.heap.size 31 [.int .u8 (ka : Int), .int .i64 na, .int .u64 (ta : Int), .int .u8 (ra : Int), .int .u32 (ja : Int), .int .u64 (sa : Int), .string xa, .slice ib NI icb, .slice db ND dcb] := by rw [hX]; exact Blk.new w6 #[.int .u8 (ka : Int), .int .i64 na, .int .u64 (ta : Int), .int .u8 (ra : Int), .int .u32 (ja : Int), .int .u64 (sa : Int), .string xa, .slice ib NI icb, .slice db ND dcb] 31
   rw [← hX]
   clear hX
   have HU7 := Lib.hid (HU6.out.trans (hbx.mono HU6.out.size)); have HB7 := Lib.hid (HB6.out.trans (hbx.mono HB6.out.size))
   have HOI7 := Lib.hid (HOI6.out.below hbx); have HOD7 := Lib.hid (HOD6.out.below hbx); have HM_7 := Lib.hid (HM_6.out.below hbx)
   have HLq := Lib.hid (show u5.heap.size ≤ X6.heap.size by have h1 := HLp.out; have h2 := hbx.size; omega)
   have HRb7 := Lib.hid (HRb.out.below hbx); have HDb7 := Lib.hid (HDb.out.below hbx); have HW7 := Lib.hid hgx
   clear hbx hgx
   refine (fpurge_any kk' n' t' r' i' s' x' aIx il' cIx aDx dl' cDx li' ld' _ (HRIx.out.below HU7.out) HIl'.out (HRDx.out.below HU7.out) HDl'.out HX'.out (by have := HQ'.out; omega) (by have := HQ'.out; omega)).mono ?_
   rintro e w8 ⟨hae, hb⟩
   rw [HPg.out] at hae
   obtain ⟨vI, rIp, vD, rDp, he, hI, hD⟩ := hae
   have hI : OwnI X6.heap.size w8 vI lib rIp := hI
   have hD : OwnD X6.heap.size w8 vD ldb rDp := hD
   obtain ⟨e7, g7, hv7⟩ := own_len hI
   obtain ⟨e8, g8, hv8⟩ := own_len hD
   rw [HPI.out] at hv7; rw [HPD.out] at hv8
   subst hv7; subst hv8
   have he : e = .returned (.tuple #[.agg #[.int .u8 (kb : Int), .int .i64 nb, .int .u64 (tb : Int), .int .u8 (rb : Int), .int .u32 (jb : Int), .int .u64 (sb : Int), .string xb, .slice e7 PI g7, .slice e8 PD g8], .int .i64 erb]) := he
   subst he
   have HU8 := Lib.hid (HU7.out.trans (hb.mono HU7.out.size)); have HB8 := Lib.hid (HB7.out.trans (hb.mono HB7.out.size))
   have HOI8 := Lib.hid (HOI7.out.below hb); have HOD8 := Lib.hid (HOD7.out.below hb); have HM_8 := Lib.hid (HM_7.out.below hb)
   have HRb8 := Lib.hid (HRb7.out.below hb); have HDb8 := Lib.hid (HDb7.out.below hb); have HW8 := Lib.hid (HW7.out.below hb); have HPI8 := Lib.hid hI; have HPD8 := Lib.hid hD
   have HV8 := Lib.hid hb
   have hM := HM4.out.below HU8.out
   have hltb := hM.lt
   obtain ⟨b0, b1, b2, b3, b4, b5, b6, b7, b8⟩ := hM.nine
   clear hb hI hD hM z0 z1 z2 z3 z4 z5 z6 z7 z8 hltx
   go_wp2_with fail
   obtain ⟨X8, hX⟩ : ∃ X, X = (w8.alloc (.cells #[.int .u8 (kb : Int), .int .i64 nb, .int .u64 (tb : Int), .int .u8 (rb : Int), .int .u32 (jb : Int), .int .u64 (sb : Int), .string xb, .slice e7 PI g7, .slice e8 PD g8] 31)) := ⟨_, rfl⟩
   have hbx : Below w8.heap.size w8 X8 := by rw [hX]; exact below_box _ _ _
   have hgx : Blk X8 w8.heap.size 31 [.int .u8 (kb : Int), .int .i64 nb, .int .u64 (tb : Int), .int .u8 (rb : Int), .int .u32 (jb : Int), .int .u64 (sb : Int), .string xb, .slice e7 PI g7, .slice e8 PD g8] := by rw [hX]; exact Blk.new w8 #[.int .u8 (kb : Int), .int .i64 nb, .int .u64 (tb : Int), .int .u8 (rb : Int), .int .u32 (jb : Int), .int .u64 (sb : Int), .string xb, .slice e7 PI g7, .slice e8 PD g8] 31
   rw [← hX]
   clear hX
   have HU9 := Lib.hid (HU8.out.trans (hbx.mono HU8.out.size)); have HB9 := Lib.hid (HB8.out.trans (hbx.mono HB8.out.size))
   have HOI9 := Lib.hid (HOI8.out.below hbx); have HOD9 := Lib.hid (HOD8.out.below hbx); have HM_9 := Lib.hid (HM_8.out.below hbx)
   have HRb9 := Lib.hid (HRb8.out.below hbx); have HDb9 := Lib.hid (HDb8.out.below hbx); have HW9 := Lib.hid (HW8.out.below hbx); have HPI9 := Lib.hid (HPI8.out.below hbx); have HPD9 := Lib.hid (HPD8.out.below hbx); have HP9 := Lib.hid hgx
   have HLow := Lib.hid (show u5.heap.size ≤ X6.heap.size by have h1 := HLq.out; omega)
   have HV9 := Lib.hid (HV8.out.trans (hbx.mono HV8.out.size))
   clear hbx hgx b0 b1 b2 b3 b4 b5 b6 b7 b8 hltb
   refine (rpurge_any kk' n' t' r' i' s' x' ia' il' ic' da' dl' dc' li' ld' _ (HI'.out.below HB9.out) HIl'.out (HD'.out.below HB9.out) HDl'.out HX'.out (by have := HQ'.out; omega) (by have := HQ'.out; omega)).mono ?_
   rintro e w10 ⟨hre, hb⟩
   rw [HPg.out] at hre
   obtain ⟨iq, icq, dq, dcq, he, hrI, hrD⟩ := hre
   have he : e = .returned (.tuple #[.agg #[.int .u8 (kb : Int), .int .i64 nb, .int .u64 (tb : Int), .int .u8 (rb : Int), .int .u32 (jb : Int), .int .u64 (sb : Int), .string xb, .slice iq PI icq, .slice dq PD dcq], .int .i64 erb]) := by rw [← HPI.out, ← HPD.out]; exact he
   subst he
   have HU10 := Lib.hid (HU9.out.trans (hb.mono HU9.out.size)); have HB10 := Lib.hid (HB9.out.trans (hb.mono HB9.out.size))
   have HOI10 := Lib.hid (HOI9.out.below hb); have HOD10 := Lib.hid (HOD9.out.below hb); have HM_10 := Lib.hid (HM_9.out.below hb)
   have HRb10 := Lib.hid (HRb9.out.below hb); have HDb10 := Lib.hid (HDb9.out.below hb); have HPI10 := Lib.hid (HPI9.out.below hb); have HPD10 := Lib.hid (HPD9.out.below hb); have HRq := Lib.hid hrI; have HDq := Lib.hid hrD
   have hw := HW9.out.below hb; have hp := HP9.out.below hb
   have HW10 := Lib.hid hw; have HP10 := Lib.hid hp; have hm := HM_10.out
   have HV10 := Lib.hid (HV9.out.trans (hb.mono HV9.out.size))
   obtain ⟨z0, z1, z2, z3, z4, z5, z6, z7, z8⟩ := hm.nine
   obtain ⟨a0, a1, a2, a3, a4, a5, a6, a7, a8⟩ := hw.nine
   have hltm := hm.lt; have hltw := hw.lt; have hltp := hp.lt
   clear hb hrI hrD hw hp hm
   go_wp2_with fail
   obtain ⟨X10, hX⟩ : ∃ X, X = (w10.alloc (.cells #[.int .u8 (kb : Int), .int .i64 nb, .int .u64 (tb : Int), .int .u8 (rb : Int), .int .u32 (jb : Int), .int .u64 (sb : Int), .string xb, .slice iq PI icq, .slice dq PD dcq] 31)) := ⟨_, rfl⟩
   have hbx : Below w10.heap.size w10 X10 := by rw [hX]; exact below_box _ _ _
   have hgx : Blk X10 w10.heap.size 31 [.int .u8 (kb : Int), .int .i64 nb, .int .u64 (tb : Int), .int .u8 (rb : Int), .int .u32 (jb : Int), .int .u64 (sb : Int), .string xb, .slice iq PI icq, .slice dq PD dcq] := by rw [hX]; exact Blk.new w10 #[.int .u8 (kb : Int), .int .i64 nb, .int .u64 (tb : Int), .int .u8 (rb : Int), .int .u32 (jb : Int), .int .u64 (sb : Int), .string xb, .slice iq PI icq, .slice dq PD dcq] 31
   rw [← hX]
   clear hX
   have HU11 := Lib.hid (HU10.out.trans (hbx.mono HU10.out.size)); have HB11 := Lib.hid (HB10.out.trans (hbx.mono HB10.out.size))
   have HOI11 := Lib.hid (HOI10.out.below hbx); have HOD11 := Lib.hid (HOD10.out.below hbx); have HM_11 := Lib.hid (HM_10.out.below hbx)
   have HRb11 := Lib.hid (HRb10.out.below hbx); have HDb11 := Lib.hid (HDb10.out.below hbx); have HPI11 := Lib.hid (HPI10.out.below hbx); have HPD11 := Lib.hid (HPD10.out.below hbx); have HRq11 := Lib.hid (HRq.out.below hbx); have HDq11 := Lib.hid (HDq.out.below hbx); have HP11 := Lib.hid (HP10.out.below hbx); have HQ11 := Lib.hid hgx
   have HV11 := Lib.hid (HV10.out.trans (hbx.mono HV10.out.size))
   clear hbx hgx z0 z1 z2 z3 z4 z5 z6 z7 z8 a0 a1 a2 a3 a4 a5 a6 a7 a8
   refine (refsame05_any ka na ta ra ja sa xa p7 NI c7 p8 ND c8 lia lda ka na ta ra ja sa xa ib NI icb db ND dcb lia lda _ (rowI_at HOI11.out HRb.out.ok) HNI.out (rowD_at HOD11.out HDb.out.ok) HND.out HRb11.out HNI.out HDb11.out HND.out).mono ?_
   rintro e w12 ⟨rfl, hb⟩
   rw [Lm.same_refl]
   have HU12 := Lib.hid (HU11.out.trans (hb.mono HU11.out.size)); have HB12 := Lib.hid (HB11.out.trans (hb.mono HB11.out.size))
   have HOI12 := Lib.hid (HOI11.out.below hb); have HOD12 := Lib.hid (HOD11.out.below hb); have HM_12 := Lib.hid (HM_11.out.below hb)
   have HPI12 := Lib.hid (HPI11.out.below hb); have HPD12 := Lib.hid (HPD11.out.below hb); have HRq12 := Lib.hid (HRq11.out.below hb); have HDq12 := Lib.hid (HDq11.out.below hb)
   have hp := HP11.out.below hb; have hq := HQ11.out.below hb
   have HP12 := Lib.hid hp
   have HV12 := Lib.hid (HV11.out.trans (hb.mono HV11.out.size))
   obtain ⟨z0, z1, z2, z3, z4, z5, z6, z7, z8⟩ := hp.nine
   obtain ⟨a0, a1, a2, a3, a4, a5, a6, a7, a8⟩ := hq.nine
   clear hb hp hq hltm hltw hltp
   go_wp2_with fail
   refine (refsame05_any kb nb tb rb jb sb xb e7 PI g7 e8 PD g8 lib ldb kb nb tb rb jb sb xb iq PI icq dq PD dcq lib ldb _ (rowI_at HPI12.out HRq.out.ok) HPI.out (rowD_at HPD12.out HDq.out.ok) HPD.out HRq12.out HPI.out HDq12.out HPD.out).mono ?_
   rintro e w13 ⟨rfl, hb⟩
   rw [Lm.same_refl]
   have HU13 := Lib.hid (HU12.out.trans (hb.mono HU12.out.size)); have HB13 := Lib.hid (HB12.out.trans (hb.mono HB12.out.size))
   have HOI13 := Lib.hid (HOI12.out.below hb); have HOD13 := Lib.hid (HOD12.out.below hb); have HM_13 := Lib.hid (HM_12.out.below hb)
   have HPI13 := Lib.hid (HPI12.out.below hb); have HP13 := Lib.hid (HP12.out.below hb)
   have HV13 := Lib.hid (HV12.out.trans (hb.mono HV12.out.size))
   have hm := HM_13.out
   have h7 := hm.cell 7; have h8 := hm.cell 8
   simp only [List.getElem?_cons_succ, List.getElem?_cons_zero] at h7 h8
   clear hb hm z0 z1 z2 z3 z4 z5 z6 z7 z8 a0 a1 a2 a3 a4 a5 a6 a7 a8
   go_wp2_with fail
   clear h7 h8
   have HneI : Hid (∀ k, rI = some k → k ≠ bm) := Lib.hid (fun k e f => ownI_ne HOI13.out HM_13.out (by decide) (by rw [e, f]))
   have HneD : Hid (∀ k, rD = some k → k ≠ bm) := Lib.hid (fun k e f => ownD_ne HOD13.out HM_13.out (by decide) (by rw [e, f]))
   have HBlkI : Hid (∀ g, rI = some g → ∃ cs, Blk w13 g 41 cs ∧ NI * 5 ≤ cs.length) := Lib.hid (fun g hg => by
    obtain ⟨cs, h1, h2, _⟩ := own_blk HOI13.out encI_len g hg
    rw [HNI.out] at h2
    exact ⟨cs, h1, h2⟩)
   have hNIb : NI ≤ 9223372036854775807 := by have h1 := HRb.out.le; have h2 := HRb.out.cap; rw [HNI.out] at h1; omega
   have hNDb : ND ≤ 9223372036854775807 := by have h1 := HDb.out.le; have h2 := HDb.out.cap; rw [HND.out] at h1; omega
   have hPIb : PI ≤ 9223372036854775807 := by have h1 := HRq.out.le; have h2 := HRq.out.cap; rw [HPI.out] at h1; omega
   go_loopw [17, 83] (fun _ u wr => ∃ j : Nat, j ≤ NI ∧ u = .int .i64 j ∧ Chg (fun k => rI = some k) w13 wr ∧ (∀ g, rI = some g → ∃ cs, Blk wr g 41 cs ∧ NI * 5 ≤ cs.length)) (fun _ u _ => NI - (intOf u).toNat)
   case atStart => exact ⟨0, Nat.zero_le _, rfl, Chg.refl _ _, HBlkI.out⟩
   case round =>
    obtain ⟨j, hj, rfl, hch, hbk⟩ := hrel
    have hA := HM_13.out.chg hch (fun e => HneI.out _ e rfl)
    have z7 := hA.cell 7
    simp only [List.getElem?_cons_succ, List.getElem?_cons_zero] at z7
    by_cases hlt : j < NI
    ·obtain ⟨g, off, hrI, hp7, hoff⟩ := own_addr HOI13.out (by rw [HNI.out]; omega)
     obtain ⟨cs, hcb, hcl⟩ := hbk g hrI
     have hcv : cs[j * 5 + 4]? = some (cs[j * 5 + 4]'(by omega)) := List.getElem?_eq_getElem (by omega)
     have q4 : wr.cell? ⟨g, off + j * 5 + 4, none⟩ = some (cs[j * 5 + 4]'(by omega)) := by rw [hoff, Nat.zero_add, hcb.cell]; exact hcv
     have y4 : wr.frozen? ⟨g, off + j * 5 + 4, none⟩ = false := hcb.frozen _
     generalize cs[j * 5 + 4]'(by omega) = cv at q4
     have HCh := Lib.hid hch; have HCb := Lib.hid hcb; have HCl := Lib.hid hcl; have HRi := Lib.hid hrI; have HOff := Lib.hid hoff
     subst hp7
     have i0 : (0 : Int) ≤ (j : Int) := by omega
     have i1 : (j : Int) < (NI : Int) := by omega
     have hw1 : IntKind.i64.wrap ((j : Int) + 1) = (j : Int) + 1 := by simp [IntKind.wrap, IntKind.bits, IntKind.signed]; omega
     clear hch hbk hcb hcl hcv hrI hA
     clear hoff
     go_wp2_with fail
     go_roundw
     case rel =>
      refine ⟨j + 1, by omega, by go_num, HCh.out.set (Or.inr HRi.out) _ _, fun g' hg' => ?_⟩
      rw [HRi.out] at hg'; cases hg'
      exact ⟨_, HCb.out.set _ _, by rw [List.length_set]; exact HCl.out⟩
     case measure => simp [intOf]; omega
    ·have HCh := Lib.hid hch
     have z8 := hA.cell 8
     simp only [List.getElem?_cons_succ, List.getElem?_cons_zero] at z8
     clear hch hbk hA
     go_wp2_with fail
     clear z7 z8
     have hOD := HOD13.out.chg HCh.out (fun k e f => own_apart HOI13.out HOD13.out k f e)
     have HOD14 := Lib.hid hOD
     have HBlkD : Hid (∀ g, rD = some g → ∃ cs, Blk wr g 27 cs ∧ ND * 3 ≤ cs.length ∧ Seqs ND cs) := Lib.hid (fun g hg => by
      obtain ⟨cs, h1, h2, h3⟩ := seqs_own hOD g hg
      rw [HND.out] at h2 h3
      exact ⟨cs, h1, h2, h3⟩)
     have HM_14 := Lib.hid (HM_13.out.chg HCh.out (fun e => HneI.out _ e rfl))
     have HU14 := Lib.hid (Chg.belowTrans HU13.out HCh.out (fun k hk e => (HOI5.out.lt k e).1) HU13.out.size)
     have HV14 : Hid (Chg (fun k => rI = some k) w13 wr) := HCh
     clear hOD
     generalize wr = w14 at *
     go_loopw [18, 95] (fun _ u wr => ∃ j : Nat, j ≤ ND ∧ u = .int .i64 j ∧ Chg (fun k => rD = some k) w14 wr ∧ (∀ g, rD = some g → ∃ cs, Blk wr g 27 cs ∧ ND * 3 ≤ cs.length ∧ Seqs ND cs)) (fun _ u _ => ND - (intOf u).toNat)
     case atStart => exact ⟨0, Nat.zero_le _, rfl, Chg.refl _ _, HBlkD.out⟩
     case round =>
      obtain ⟨j, hj, rfl, hch, hbk⟩ := hrel
      have hA := HM_14.out.chg hch (fun e => HneD.out _ e rfl)
      have z8 := hA.cell 8
      simp only [List.getElem?_cons_succ, List.getElem?_cons_zero] at z8
      by_cases hlt : j < ND
      ·obtain ⟨g, off, hrD, hp8, hoff⟩ := own_addr HOD14.out (by rw [HND.out]; omega)
       obtain ⟨cs, hcb, hcl, hsq⟩ := hbk g hrD
       obtain ⟨sx, hsx⟩ := hsq j hlt
       have q4 : wr.cell? ⟨g, off + j * 3 + 2, none⟩ = some (.int .u64 sx) := by rw [hoff, Nat.zero_add, hcb.cell]; exact hsx
       have y4 : wr.frozen? ⟨g, off + j * 3 + 2, none⟩ = false := hcb.frozen _
       have HCh2 := Lib.hid hch; have HCb := Lib.hid hcb; have HCl := Lib.hid hcl; have HRi := Lib.hid hrD; have HSq := Lib.hid hsq; have HOff := Lib.hid hoff
       subst hp8
       have i0 : (0 : Int) ≤ (j : Int) := by omega
       have i1 : (j : Int) < (ND : Int) := by omega
       have hw1 : IntKind.i64.wrap ((j : Int) + 1) = (j : Int) + 1 := by simp [IntKind.wrap, IntKind.bits, IntKind.signed]; omega
       clear hch hbk hcb hcl hsq hsx hrD hA hoff
       go_wp2_with fail
       go_roundw
       case rel =>
        refine ⟨j + 1, by omega, by go_num, HCh2.out.set (Or.inr HRi.out) _ _, fun g' hg' => ?_⟩
        rw [HRi.out] at hg'; cases hg'
        have h0 := HOff.out
        subst h0
        rw [Nat.zero_add]
        exact ⟨_, HCb.out.set _ _, by rw [List.length_set]; exact HCl.out, HSq.out.set _ _ HCl.out hlt⟩
       case measure => simp [intOf]; omega
      ·have HU15 := Lib.hid (Chg.belowTrans HU14.out hch (fun k hk e => (HOD5.out.lt k e).1) HU14.out.size)
       have hcp : Chg (fun k => rI = some k ∨ rD = some k) w13 wr := (HV14.out.mono (fun k _ e => Or.inl e)).trans (hch.mono (fun k _ e => Or.inr e)) (fun _ _ e => e)
       have hltI : ∀ k, rI = some k ∨ rD = some k → k < u5.heap.size := fun k e => e.elim (fun e => (HOI5.out.lt k e).2) (fun e => (HOD5.out.lt k e).2)
       have hP := HP13.out.chg hcp (fun e => by have h1 := hltI _ e; have h2 := HV8.out.size; have h3 := HLow.out; omega)
       have HP15 := Lib.hid hP
       have HPI15 := Lib.hid (HPI13.out.chg hcp (fun k e f => by have h1 := hltI _ f; have h2 := (HPI8.out.lt k e).1; have h3 := HLow.out; omega))
       have HneP : Hid (∀ k, rIp = some k → k ≠ w8.heap.size) := Lib.hid (fun k e f => by have := (HPI8.out.lt k e).2; omega)
       have HBlkP : Hid (∀ g, rIp = some g → ∃ cs, Blk wr g 41 cs ∧ PI * 5 ≤ cs.length) := Lib.hid (fun g hg => by
        obtain ⟨cs, h1, h2, _⟩ := own_blk HPI15.out encI_len g hg
        rw [HPI.out] at h2
        exact ⟨cs, h1, h2⟩)
       have y7 := hP.cell 7
       simp only [List.getElem?_cons_succ, List.getElem?_cons_zero] at y7
       clear hch hbk hA hcp hltI hP
       go_wp2_with fail
       clear z8 y7
       generalize wr = w15 at *
       go_loopw [19, 111] (fun _ u wr => ∃ j : Nat, j ≤ PI ∧ u = .int .i64 j ∧ Chg (fun k => rIp = some k) w15 wr ∧ (∀ g, rIp = some g → ∃ cs, Blk wr g 41 cs ∧ PI * 5 ≤ cs.length)) (fun _ u _ => PI - (intOf u).toNat)
       case atStart => exact ⟨0, Nat.zero_le _, rfl, Chg.refl _ _, HBlkP.out⟩
       case round =>
        obtain ⟨j, hj, rfl, hch, hbk⟩ := hrel
        have hA := HP15.out.chg hch (fun e => HneP.out _ e rfl)
        have z7 := hA.cell 7
        simp only [List.getElem?_cons_succ, List.getElem?_cons_zero] at z7
        by_cases hlt : j < PI
        ·obtain ⟨g, off, hrI, hp7, hoff⟩ := own_addr HPI15.out (by rw [HPI.out]; omega)
         obtain ⟨cs, hcb, hcl⟩ := hbk g hrI
         have hcv : cs[j * 5 + 4]? = some (cs[j * 5 + 4]'(by omega)) := List.getElem?_eq_getElem (by omega)
         have q4 : wr.cell? ⟨g, off + j * 5 + 4, none⟩ = some (cs[j * 5 + 4]'(by omega)) := by rw [hoff, Nat.zero_add, hcb.cell]; exact hcv
         have y4 : wr.frozen? ⟨g, off + j * 5 + 4, none⟩ = false := hcb.frozen _
         generalize cs[j * 5 + 4]'(by omega) = cv at q4
         have HCh3 := Lib.hid hch; have HCb := Lib.hid hcb; have HCl := Lib.hid hcl; have HRi := Lib.hid hrI; have HOff := Lib.hid hoff
         subst hp7
         have i0 : (0 : Int) ≤ (j : Int) := by omega
         have i1 : (j : Int) < (PI : Int) := by omega
         have hw1 : IntKind.i64.wrap ((j : Int) + 1) = (j : Int) + 1 := by simp [IntKind.wrap, IntKind.bits, IntKind.signed]; omega
         clear hch hbk hcb hcl hcv hrI hA
         clear hoff
         go_wp2_with fail
         go_roundw
         case rel =>
          refine ⟨j + 1, by omega, by go_num, HCh3.out.set (Or.inr HRi.out) _ _, fun g' hg' => ?_⟩
          rw [HRi.out] at hg'; cases hg'
          exact ⟨_, HCb.out.set _ _, by rw [List.length_set]; exact HCl.out⟩
         case measure => simp [intOf]; omega
        ·have hU := Chg.belowTrans HU15.out hch (fun k hk e => by have h2 := (HPI8.out.lt k e).1; have h3 := HLow.out; have h4 := HU5.out.size; omega) HU15.out.size
         have HU16 := Lib.hid hU; have HB16 := Lib.hid (HB4.out.trans (hU.mono HB4.out.size))
         have hx4 := HX4.out.below hU; have hm4 := HM4.out.below hU
         obtain ⟨a0, a1, a2, a3, a4, a5, a6, a7, a8⟩ := hx4.nine
         obtain ⟨b0, b1, b2, b3, b4, b5, b6, b7, b8⟩ := hm4.nine
         clear hch hbk hA hU hx4 hm4
         go_wp2_with fail
         refine (refsame05_any kk' n' t' r' i' s' x' aIx il' cIx aDx dl' cDx li' ld' kk' n' t' r' i' s' x' ia' il' ic' da' dl' dc' li' ld' _ (HRIx.out.below HU16.out) HIl'.out (HRDx.out.below HU16.out) HDl'.out (HI'.out.below HB16.out) HIl'.out (HD'.out.below HB16.out) HDl'.out).mono ?_
         rintro e w17 ⟨rfl, hb⟩
         rw [Lm.same_refl]
         have HU17 := Lib.hid (HU16.out.trans (hb.mono HU16.out.size)); have HB17 := Lib.hid (HB16.out.trans (hb.mono HB16.out.size))
         have hy4 := HY4.out.below HU17.out; have hn4 := HN4.out.below HU17.out
         clear z7 a0 a1 a2 a3 a4 a5 a6 a7 a8 b0 b1 b2 b3 b4 b5 b6 b7 b8
         obtain ⟨a0, a1, a2, a3, a4, a5, a6, a7, a8⟩ := hy4.nine
         obtain ⟨b0, b1, b2, b3, b4, b5, b6, b7, b8⟩ := hn4.nine
         clear hb hy4 hn4
         go_wp2_with fail
         refine (refsame05_any kk'' n'' t'' r'' i'' s'' x'' aIy il'' cIy aDy dl'' cDy li'' ld'' kk'' n'' t'' r'' i'' s'' x'' ia'' il'' ic'' da'' dl'' dc'' li'' ld'' _ (HRIy.out.below HU17.out) HIl''.out (HRDy.out.below HU17.out) HDl''.out (HI''.out.below HB17.out) HIl''.out (HD''.out.below HB17.out) HDl''.out).mono ?_
         rintro e w18 ⟨rfl, hb⟩
         rw [Lm.same_refl]
         have HB18 := Lib.hid (HB17.out.trans (hb.mono HB17.out.size))
         clear hb a0 a1 a2 a3 a4 a5 a6 a7 a8 b0 b1 b2 b3 b4 b5 b6 b7 b8
         go_wp2_with fail
         refine (known06_any _).mono ?_
         rintro e w19 ⟨rfl, hb⟩
         have HF := Lib.hid (HB18.out.trans (hb.mono HB18.out.size)); clear hb
         go_wp2_with fail
         go_ret
         exact ⟨rfl, HF.out⟩
end Go.Proofs.Ytmnblimnoaockaa
