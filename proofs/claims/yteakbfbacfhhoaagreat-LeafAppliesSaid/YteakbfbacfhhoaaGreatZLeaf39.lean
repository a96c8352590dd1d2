import Derived.Test.YteakbfbacfhhoaaGreatZLeaf38
namespace Go.Proofs.YteakbfbacfhhoaaGreat
open Go.RowKit Go.Buf Go.LB Go.Lib
set_option linter.unusedSimpArgs false
set_option linter.unusedVariables false
section
variable {α : Type} {enc : α → List Value} {e : TypeId} {size B : Nat} {w : World} {v : Value} {l : List α} {row : Option Nat} {a : Option Addr} {n c : Nat}
theorem own_len (h : Own e size enc B w v l row) : ∃ a c, v = .slice a l.length c := by
 rcases h.2 with ⟨_, rfl, a, rfl⟩ | ⟨g, cap, tl, _, rfl, _⟩
 ·exact ⟨a, 0, rfl⟩
 ·exact ⟨_, cap, rfl⟩
theorem own_addr (h : Own e size enc B w (.slice a n c) l row) (hp : 0 < l.length) : ∃ g off, row = some g ∧ a = some ⟨g, off, none⟩ ∧ off = 0 := by
 rcases h.2 with ⟨_, rfl, _⟩ | ⟨g, cap, tl, h1, h2, _⟩
 ·simp at hp
 ·simp only [Value.slice.injEq] at h2
  exact ⟨g, 0, h1, h2.1, rfl⟩
theorem own_blk (h : Own e size enc B w v l row) (he : ∀ d, (enc d).length = size) : ∀ g, row = some g → ∃ cs, Blk w g e cs ∧ l.length * size ≤ cs.length ∧ ∀ (i : Nat) (d : α), l[i]? = some d → ∀ j, j < size → cs[i * size + j]? = (enc d)[j]? := by
 rintro g rfl
 rcases h.2 with ⟨h1, _⟩ | ⟨g', cap, tl, h1, h2, h3, h4, _⟩
 ·cases h1
 ·cases h1
  refine ⟨_, h4, by rw [List.length_append, enc_length he]; omega, fun i d hd j hj => ?_⟩
  have hi : i < l.length := (List.getElem?_eq_some_iff.1 hd).1
  have h8 : i * size + j < (l.flatMap enc).length := by
   rw [enc_length he]
   have : (i + 1) * size ≤ l.length * size := Nat.mul_le_mul_right _ hi
   rw [Nat.succ_mul] at this; omega
  rw [List.getElem?_append_left h8, enc_get he l i d hd j hj]
end
def Seqs (n : Nat) (cs : List Value) : Prop := ∀ j, j < n → ∃ x : Int, cs[j * 3 + 2]? = some (.int .u64 x)
theorem Seqs.set {n : Nat} {cs : List Value} (h : Seqs n cs) (j : Nat) (y : Int) (hl : n * 3 ≤ cs.length) (hj : j < n) : Seqs n (cs.set (j * 3 + 2) (.int .u64 y)) := by
 intro k hk
 by_cases hjk : k = j
 ·subst hjk
  exact ⟨y, by rw [List.getElem?_set_self (by omega)]⟩
 ·obtain ⟨x, hx⟩ := h k hk
  exact ⟨x, by rw [List.getElem?_set_ne (by omega)]; exact hx⟩
theorem seqs_own {B : Nat} {w : World} {v : Value} {l : List Dt.Dot} {row : Option Nat} (h : OwnD B w v l row) : ∀ g, row = some g → ∃ cs, Blk w g 27 cs ∧ l.length * 3 ≤ cs.length ∧ Seqs l.length cs := by
 intro g hg
 obtain ⟨cs, h1, h2, h3⟩ := own_blk h encD_len g hg
 refine ⟨cs, h1, h2, fun j hj => ?_⟩
 have := h3 j l[j] (List.getElem?_eq_getElem hj) 2 (by omega)
 exact ⟨_, this⟩
set_option maxRecDepth 100000 in
set_option maxHeartbeats 25600000 in
theorem lawLeaf_any (kk : Nat) (n : Int) (t r i s : Nat) (x : ByteArray) (ia : Option Addr) (il ic : Nat) (da : Option Addr) (dl dc : Nat) (li : List Lm.It) (ld : List Dt.Dot) (kk' : Nat) (n' : Int) (t' r' i' s' : Nat) (x' : ByteArray) (ia' : Option Addr) (il' ic' : Nat) (da' : Option Addr) (dl' dc' : Nat) (li' : List Lm.It) (ld' : List Dt.Dot) (r2 i2 s2 tm k : Nat) (pa : Option Addr) (pl pc : Nat) (n2 : Int) (t2 : ByteArray) (ea : Option Addr) (el ec : Nat) (p : List ByteArray) (d : List Dt.Dot) (W : World) (hi : IRow W ia ic li) (hil : li.length = il) (hd : VRow W da dc ld) (hdl : ld.length = dl) (hx : x.size ≤ 9223372036854775807) (hi' : IRow W ia' ic' li') (hil' : li'.length = il') (hd' : VRow W da' dc' ld') (hdl' : ld'.length = dl') (hod : Dt.okD ((r2, i2), s2)) (hk256 : k < 256) (hot : t2.size ≤ 9223372036854775807) (hp : SRow W pa pc p) (hpl : p.length = pl) (hed : VRow W ea ec d) (hel : d.length = el) :
  Calls Tryz.prog 3 #[leafV kk n t r i s x ia il ic da dl dc, leafV kk' n' t' r' i' s' x' ia' il' ic' da' dl' dc', evV r2 i2 s2 tm k pa pl pc n2 t2 ea el ec] W fun e w' => e = .returned (.bool true) ∧ Below W.heap.size W w' := by
 have hB0 : Below W.heap.size W (((W.alloc (.cells #[.int .u8 (kk : Int), .int .i64 n, .int .u64 (t : Int), .int .u8 (r : Int), .int .u32 (i : Int), .int .u64 (s : Int), .string x, .slice ia il ic, .slice da dl dc] 31)).alloc (.cells #[.int .u8 (kk' : Int), .int .i64 n', .int .u64 (t' : Int), .int .u8 (r' : Int), .int .u32 (i' : Int), .int .u64 (s' : Int), .string x', .slice ia' il' ic', .slice da' dl' dc'] 31)).alloc (.cells #[.int .u8 (r2 : Int), .int .u32 (i2 : Int), .int .u64 (s2 : Int), .int .u64 (tm : Int), .int .u8 (k : Int), .slice pa pl pc, .int .i64 n2, .string t2, .slice ea el ec] 36)) := (((Below.refl W.heap.size W).alloc (Nat.le_refl _) _).alloc (by simp) _).alloc (by simp; omega) _
 have hL0 : Blk (((W.alloc (.cells #[.int .u8 (kk : Int), .int .i64 n, .int .u64 (t : Int), .int .u8 (r : Int), .int .u32 (i : Int), .int .u64 (s : Int), .string x, .slice ia il ic, .slice da dl dc] 31)).alloc (.cells #[.int .u8 (kk' : Int), .int .i64 n', .int .u64 (t' : Int), .int .u8 (r' : Int), .int .u32 (i' : Int), .int .u64 (s' : Int), .string x', .slice ia' il' ic', .slice da' dl' dc'] 31)).alloc (.cells #[.int .u8 (r2 : Int), .int .u32 (i2 : Int), .int .u64 (s2 : Int), .int .u64 (tm : Int), .int .u8 (k : Int), .slice pa pl pc, .int .i64 n2, .string t2, .slice ea el ec] 36)) W.heap.size 31 [.int .u8 (kk : Int), .int .i64 n, .int .u64 (t : Int), .int .u8 (r : Int), .int .u32 (i : Int), .int .u64 (s : Int), .string x, .slice ia il ic, .slice da dl dc] := blk_alloc (blk_alloc (Blk.new W #[.int .u8 (kk : Int), .int .i64 n, .int .u64 (t : Int), .int .u8 (r : Int), .int .u32 (i : Int), .int .u64 (s : Int), .string x, .slice ia il ic, .slice da dl dc] 31) _) _
 have hM0 : Blk (((W.alloc (.cells #[.int .u8 (kk : Int), .int .i64 n, .int .u64 (t : Int), .int .u8 (r : Int), .int .u32 (i : Int), .int .u64 (s : Int), .string x, .slice ia il ic, .slice da dl dc] 31)).alloc (.cells #[.int .u8 (kk' : Int), .int .i64 n', .int .u64 (t' : Int), .int .u8 (r' : Int), .int .u32 (i' : Int), .int .u64 (s' : Int), .string x', .slice ia' il' ic', .slice da' dl' dc'] 31)).alloc (.cells #[.int .u8 (r2 : Int), .int .u32 (i2 : Int), .int .u64 (s2 : Int), .int .u64 (tm : Int), .int .u8 (k : Int), .slice pa pl pc, .int .i64 n2, .string t2, .slice ea el ec] 36)) (W.heap.size + 1) 31 [.int .u8 (kk' : Int), .int .i64 n', .int .u64 (t' : Int), .int .u8 (r' : Int), .int .u32 (i' : Int), .int .u64 (s' : Int), .string x', .slice ia' il' ic', .slice da' dl' dc'] := by
  have h := blk_alloc (Blk.new (W.alloc (.cells #[.int .u8 (kk : Int), .int .i64 n, .int .u64 (t : Int), .int .u8 (r : Int), .int .u32 (i : Int), .int .u64 (s : Int), .string x, .slice ia il ic, .slice da dl dc] 31)) #[.int .u8 (kk' : Int), .int .i64 n', .int .u64 (t' : Int), .int .u8 (r' : Int), .int .u32 (i' : Int), .int .u64 (s' : Int), .string x', .slice ia' il' ic', .slice da' dl' dc'] 31) (.cells #[.int .u8 (r2 : Int), .int .u32 (i2 : Int), .int .u64 (s2 : Int), .int .u64 (tm : Int), .int .u8 (k : Int), .slice pa pl pc, .int .i64 n2, .string t2, .slice ea el ec] 36)
  rw [World.size_alloc] at h; exact h
 have hE0 : Blk (((W.alloc (.cells #[.int .u8 (kk : Int), .int .i64 n, .int .u64 (t : Int), .int .u8 (r : Int), .int .u32 (i : Int), .int .u64 (s : Int), .string x, .slice ia il ic, .slice da dl dc] 31)).alloc (.cells #[.int .u8 (kk' : Int), .int .i64 n', .int .u64 (t' : Int), .int .u8 (r' : Int), .int .u32 (i' : Int), .int .u64 (s' : Int), .string x', .slice ia' il' ic', .slice da' dl' dc'] 31)).alloc (.cells #[.int .u8 (r2 : Int), .int .u32 (i2 : Int), .int .u64 (s2 : Int), .int .u64 (tm : Int), .int .u8 (k : Int), .slice pa pl pc, .int .i64 n2, .string t2, .slice ea el ec] 36)) (W.heap.size + 1 + 1) 36 [.int .u8 (r2 : Int), .int .u32 (i2 : Int), .int .u64 (s2 : Int), .int .u64 (tm : Int), .int .u8 (k : Int), .slice pa pl pc, .int .i64 n2, .string t2, .slice ea el ec] := by
  have h := Blk.new ((W.alloc (.cells #[.int .u8 (kk : Int), .int .i64 n, .int .u64 (t : Int), .int .u8 (r : Int), .int .u32 (i : Int), .int .u64 (s : Int), .string x, .slice ia il ic, .slice da dl dc] 31)).alloc (.cells #[.int .u8 (kk' : Int), .int .i64 n', .int .u64 (t' : Int), .int .u8 (r' : Int), .int .u32 (i' : Int), .int .u64 (s' : Int), .string x', .slice ia' il' ic', .slice da' dl' dc'] 31)) #[.int .u8 (r2 : Int), .int .u32 (i2 : Int), .int .u64 (s2 : Int), .int .u64 (tm : Int), .int .u8 (k : Int), .slice pa pl pc, .int .i64 n2, .string t2, .slice ea el ec] 36
  rw [World.size_alloc, World.size_alloc] at h; exact h
 have HB0 := Lib.hid hB0; have HL0 := Lib.hid hL0; have HM0 := Lib.hid hM0; have HE0 := Lib.hid hE0
 have HI := Lib.hid hi; have HIl := Lib.hid hil; have HD := Lib.hid hd; have HDl := Lib.hid hdl; have HI' := Lib.hid hi'; have HIl' := Lib.hid hil'; have HD' := Lib.hid hd'; have HDl' := Lib.hid hdl'; have HP := Lib.hid hp; have HPl := Lib.hid hpl; have HED := Lib.hid hed; have HEl := Lib.hid hel
 obtain ⟨a0, a1, a2, a3, a4, a5, a6, a7, a8⟩ := hL0.nine
 clear hB0 hL0 hM0 hE0 hi hil hd hdl hi' hil' hd' hdl' hp hpl hed hel
 go_enter Tryz.func3, Tryz.ntmps3
 go_wp2_with fail
 refine (great05_any kk n t r i s x ia il ic da dl dc li ld _ (HI.out.below HB0.out) HIl.out (HD.out.below HB0.out) HDl.out).mono ?_
 rintro e w1 ⟨⟨g1, rfl, hg1⟩, hb⟩
 have HB1 := Lib.hid (HB0.out.trans (hb.mono HB0.out.size))
 have hL := HL0.out.below hb; have hM := HM0.out.below hb; have hE := HE0.out.below hb
 have HL1 := Lib.hid hL; have HM1 := Lib.hid hM; have HE1 := Lib.hid hE
 have HG1 := Lib.hid hg1
 obtain ⟨b0, b1, b2, b3, b4, b5, b6, b7, b8⟩ := hM.nine
 clear a0 a1 a2 a3 a4 a5 a6 a7 a8 hg1 hb hL hM hE
 cases g1
 case true =>
  go_wp2_with fail
  refine (known05_any _).mono ?_
  rintro e w9 ⟨rfl, hb⟩
  have HF := Lib.hid (HB1.out.trans (hb.mono HB1.out.size)); clear hb
  go_wp2_with fail
  go_ret
  exact ⟨rfl, HF.out⟩
 have HC1 := Lib.hid (HG1.out rfl)
 go_wp2_with fail
 refine (great05_any kk' n' t' r' i' s' x' ia' il' ic' da' dl' dc' li' ld' _ (HI'.out.below HB1.out) HIl'.out (HD'.out.below HB1.out) HDl'.out).mono ?_
 rintro e w2 ⟨⟨g2, rfl, hg2⟩, hb⟩
 have HB2 := Lib.hid (HB1.out.trans (hb.mono HB1.out.size))
 have hL := HL1.out.below hb; have hM := HM1.out.below hb; have hE := HE1.out.below hb
 have HL2 := Lib.hid hL; have HM2 := Lib.hid hM; have HE2 := Lib.hid hE
 have HG2 := Lib.hid hg2
 obtain ⟨x0, x1, x2, x3, x4, x5, x6, x7, x8⟩ := hE.nine
 clear b0 b1 b2 b3 b4 b5 b6 b7 b8 hg2 hb hL hM hE
 cases g2
 case true =>
  go_wp2_with fail
  refine (known05_any _).mono ?_
  rintro e w9 ⟨rfl, hb⟩
  have HF := Lib.hid (HB2.out.trans (hb.mono HB2.out.size)); clear hb
  go_wp2_with fail
  go_ret
  exact ⟨rfl, HF.out⟩
 have HC2 := Lib.hid (HG2.out rfl)
 go_wp2_with fail
 refine (fat05_any k pa pl pc n2 t2 ea el ec p d _ (HP.out.below HB2.out) HPl.out (HED.out.below HB2.out) HEl.out).mono ?_
 rintro e w3 ⟨⟨g3, rfl, hg3⟩, hb⟩
 have HB3 := Lib.hid (HB2.out.trans (hb.mono HB2.out.size))
 have hL := HL2.out.below hb; have hM := HM2.out.below hb; have hE := HE2.out.below hb
 have HL3 := Lib.hid hL; have HM3 := Lib.hid hM; have HE3 := Lib.hid hE
 have HG3 := Lib.hid hg3
 obtain ⟨a0, a1, a2, a3, a4, a5, a6, a7, a8⟩ := hL.nine
 have hlt := hE.lt
 clear x0 x1 x2 x3 x4 x5 x6 x7 x8 hg3 hb hL hM hE
 cases g3
 case true =>
  go_wp2_with fail
  refine (known05_any _).mono ?_
  rintro e w9 ⟨rfl, hb⟩
  have HF := Lib.hid (HB3.out.trans (hb.mono HB3.out.size)); clear hb
  go_wp2_with fail
  go_ret
  exact ⟨rfl, HF.out⟩
 have HC3 := Lib.hid (HG3.out rfl)
 have b1 : il ≤ 100 ∧ dl ≤ 100 := by have h1 := HC1.out; have h2 := HIl.out; have h3 := HDl.out; omega
 have b2 : il' ≤ 100 ∧ dl' ≤ 100 := by have h1 := HC2.out; have h2 := HIl'.out; have h3 := HDl'.out; omega
 have b3 : pl ≤ 20 ∧ el ≤ 100 := by have h1 := HC3.out; have h2 := HPl.out; have h3 := HEl.out; omega
 have HN1 := Lib.hid b1; have HN2 := Lib.hid b2; have HN3 := Lib.hid b3
 clear b1 b2 b3
 go_wp2_with fail
 obtain ⟨X3, hX⟩ : ∃ X, X = (w3.alloc (.cells #[.int .u8 (kk : Int), .int .i64 n, .int .u64 (t : Int), .int .u8 (r : Int), .int .u32 (i : Int), .int .u64 (s : Int), .string x, .slice ia il ic, .slice da dl dc] 31)) := ⟨_, rfl⟩
 have hbx : Below w3.heap.size w3 X3 := by rw [hX]; exact below_box _ _ _
 have hgx : Blk X3 w3.heap.size 31 [.int .u8 (kk : Int), .int .i64 n, .int .u64 (t : Int), .int .u8 (r : Int), .int .u32 (i : Int), .int .u64 (s : Int), .string x, .slice ia il ic, .slice da dl dc] := by rw [hX]; exact Blk.new w3 #[.int .u8 (kk : Int), .int .i64 n, .int .u64 (t : Int), .int .u8 (r : Int), .int .u32 (i : Int), .int .u64 (s : Int), .string x, .slice ia il ic, .slice da dl dc] 31
 rw [← hX]
 have HSx : Hid (X3.heap.size = w3.heap.size + 1) := Lib.hid (by rw [hX]; simp)
 clear hX
 have HB4 := Lib.hid (HB3.out.trans (hbx.mono HB3.out.size))
 have HL4 := Lib.hid (HL3.out.below hbx); have HM4 := Lib.hid (HM3.out.below hbx); have HE4 := Lib.hid (HE3.out.below hbx)
 have HG4 := Lib.hid hgx; have HX3 := Lib.hid hbx
 clear hbx hgx a0 a1 a2 a3 a4 a5 a6 a7 a8
 have hJB : ∀ (wa wb : World), Below wa.heap.size wa wb → (fun w : World => ∃ v7 v8, Blk w w3.heap.size 31 [.int .u8 (kk : Int), .int .i64 n, .int .u64 (t : Int), .int .u8 (r : Int), .int .u32 (i : Int), .int .u64 (s : Int), .string x, v7, v8]) wa → (fun w : World => ∃ v7 v8, Blk w w3.heap.size 31 [.int .u8 (kk : Int), .int .i64 n, .int .u64 (t : Int), .int .u8 (r : Int), .int .u32 (i : Int), .int .u64 (s : Int), .string x, v7, v8]) wb := fun wa wb hb hj => by
  obtain ⟨v7, v8, hj⟩ := hj
  exact ⟨v7, v8, hj.below hb⟩
 have HJ4 := Lib.hid hJB; clear hJB
 refine RegD.region_list (by kernel_rfl) (fun w : World => ∃ v7 v8, Blk w w3.heap.size 31 [.int .u8 (kk : Int), .int .i64 n, .int .u64 (t : Int), .int .u8 (r : Int), .int .u32 (i : Int), .int .u64 (s : Int), .string x, v7, v8]) [9, 11] [9, 11] [RegD.plain (fun v _ => ∃ q : Addr, v = .slice (some q) 0 0), RegD.plain (fun v _ => v = .pointer (some ⟨W.heap.size, 7, none⟩)), RegD.plain (fun v _ => v = .slice ia il ic), RegD.plain (fun v w => ∃ row, OwnI w3.heap.size w v li row ∧ row ≠ some w3.heap.size), RegD.plain (fun v _ => ∃ q : Addr, v = .slice (some q) 0 0), RegD.plain (fun v _ => v = .pointer (some ⟨W.heap.size, 8, none⟩)), RegD.plain (fun v _ => v = .slice da dl dc), RegD.plain (fun v w => ∃ row, OwnD w3.heap.size w v ld row ∧ row ≠ some w3.heap.size), RegD.plain (fun v _ => v = .pointer (some ⟨w3.heap.size, 7, none⟩)), RegD.change (fun v w => ∃ vI row v8, Blk w w3.heap.size 31 [.int .u8 (kk : Int), .int .i64 n, .int .u64 (t : Int), .int .u8 (r : Int), .int .u32 (i : Int), .int .u64 (s : Int), .string x, vI, v8] ∧ OwnI w3.heap.size w vI li row ∧ row ≠ some w3.heap.size) (fun k => k = w3.heap.size) (fun w w' => ∃ v, w' = w.setCell ⟨w3.heap.size, 7, none⟩ v), RegD.plain (fun v _ => v = .pointer (some ⟨w3.heap.size, 8, none⟩)), RegD.change (fun v w => ∃ v7 vD row, Blk w w3.heap.size 31 [.int .u8 (kk : Int), .int .i64 n, .int .u64 (t : Int), .int .u8 (r : Int), .int .u32 (i : Int), .int .u64 (s : Int), .string x, v7, vD] ∧ OwnD w3.heap.size w vD ld row ∧ row ≠ some w3.heap.size) (fun k => k = w3.heap.size) (fun w w' => ∃ v, w' = w.setCell ⟨w3.heap.size, 8, none⟩ v)] (by kernel_rfl) (⟨_, _, HG4.out⟩) (HJ4.out) ?_ ?_ ?_ ?_ ?_ ?_
 ·exact ⟨Or.inr ⟨fun _ h => h, rfl⟩, Or.inr ⟨fun _ h => h, rfl⟩, Or.inr ⟨fun _ h => h, rfl⟩, Or.inr ⟨fun _ h => h, rfl⟩, Or.inr ⟨fun _ h => h, rfl⟩, Or.inr ⟨fun _ h => h, rfl⟩, Or.inr ⟨fun _ h => h, rfl⟩, Or.inr ⟨fun _ h => h, rfl⟩, Or.inr ⟨fun _ h => h, rfl⟩, Or.inl (by decide), Or.inr ⟨fun _ h => h, rfl⟩, Or.inl (by decide), trivial⟩
 ·exact ⟨⟨fun _ _ h => h, fun wx wy h => (HJ4.out) wx wy (RegD.to_below h (fun _ h => h))⟩, ⟨fun _ _ h => h, fun wx wy h => (HJ4.out) wx wy (RegD.to_below h (fun _ h => h))⟩, ⟨fun _ _ h => h, fun wx wy h => (HJ4.out) wx wy (RegD.to_below h (fun _ h => h))⟩, ⟨fun _ _ h => h, fun wx wy h => (HJ4.out) wx wy (RegD.to_below h (fun _ h => h))⟩, ⟨fun _ _ h => h, fun wx wy h => (HJ4.out) wx wy (RegD.to_below h (fun _ h => h))⟩, ⟨fun _ _ h => h, fun wx wy h => (HJ4.out) wx wy (RegD.to_below h (fun _ h => h))⟩, ⟨fun _ _ h => h, fun wx wy h => (HJ4.out) wx wy (RegD.to_below h (fun _ h => h))⟩, ⟨fun _ _ h => h, fun wx wy h => (HJ4.out) wx wy (RegD.to_below h (fun _ h => h))⟩, ⟨fun _ _ h => h, fun wx wy h => (HJ4.out) wx wy (RegD.to_below h (fun _ h => h))⟩, ⟨(fun wa wb h => by obtain ⟨v, rfl⟩ := h; exact ((Chg.refl (fun k => k = w3.heap.size) wa).set (Or.inr rfl) 7 _)), (fun wa wb h hj => by obtain ⟨v, rfl⟩ := h; obtain ⟨v7, v8, hj⟩ := hj; exact ⟨v, v8, hj.set 7 v⟩)⟩, ⟨fun _ _ h => h, fun wx wy h => (HJ4.out) wx wy (RegD.to_below h (fun _ h => h))⟩, ⟨(fun wa wb h => by obtain ⟨v, rfl⟩ := h; exact ((Chg.refl (fun k => k = w3.heap.size) wa).set (Or.inr rfl) 8 _)), (fun wa wb h hj => by obtain ⟨v, rfl⟩ := h; obtain ⟨v7, v8, hj⟩ := hj; exact ⟨v7, v, hj.set 8 v⟩)⟩, trivial⟩
 ·refine ⟨k4, k4, k4, (fun v wa wb hb h => by obtain ⟨row, h1, h2⟩ := h; exact ⟨row, h1.below hb, h2⟩), k4, k4, k4, (fun v wa wb hb h => by obtain ⟨row, h1, h2⟩ := h; exact ⟨row, h1.below hb, h2⟩), k4, (fun v wa wb hb h => by obtain ⟨vI, row, v8, h0, h1, h2⟩ := h; exact ⟨vI, row, v8, h0.below hb, h1.below hb, h2⟩), k4, (fun v wa wb hb h => by obtain ⟨v7, vD, row, h0, h1, h2⟩ := h; exact ⟨v7, vD, row, h0.below hb, h1.below hb, h2⟩), trivial⟩
 ·refine ⟨⟨Or.inr (Or.inr (Or.inr k4)), Or.inr (Or.inr (Or.inr k4)), Or.inr (Or.inr (Or.inr k4)), Or.inr (Or.inr (Or.inr (fun v wa wb hr h => by obtain ⟨q, rfl⟩ := hr; obtain ⟨row, h1, h2⟩ := h; exact ⟨row, h1.chg ((Chg.refl (fun k => k = w3.heap.size) wa).set (Or.inr rfl) 7 _) (fun q e f => h2 (by rw [e, f])), h2⟩))), Or.inr (Or.inr (Or.inr k4)), Or.inr (Or.inr (Or.inr k4)), Or.inr (Or.inr (Or.inr k4)), Or.inr (Or.inr (Or.inr (fun v wa wb hr h => by obtain ⟨q, rfl⟩ := hr; obtain ⟨row, h1, h2⟩ := h; exact ⟨row, h1.chg ((Chg.refl (fun k => k = w3.heap.size) wa).set (Or.inr rfl) 7 _) (fun q e f => h2 (by rw [e, f])), h2⟩))), Or.inr (Or.inr (Or.inr k4)), Or.inl rfl, Or.inr (Or.inr (Or.inr k4)), Or.inr (Or.inr (Or.inr (fun v wa wb hr h => by obtain ⟨q, rfl⟩ := hr; obtain ⟨v7, vD, row, h0, h1, h2⟩ := h; exact ⟨q, vD, row, h0.set 7 q, h1.chg ((Chg.refl (fun k => k = w3.heap.size) wa).set (Or.inr rfl) 7 _) (fun q e f => h2 (by rw [e, f])), h2⟩))), trivial⟩, ⟨Or.inr (Or.inr (Or.inr k4)), Or.inr (Or.inr (Or.inr k4)), Or.inr (Or.inr (Or.inr k4)), Or.inr (Or.inr (Or.inr (fun v wa wb hr h => by obtain ⟨q, rfl⟩ := hr; obtain ⟨row, h1, h2⟩ := h; exact ⟨row, h1.chg ((Chg.refl (fun k => k = w3.heap.size) wa).set (Or.inr rfl) 8 _) (fun q e f => h2 (by rw [e, f])), h2⟩))), Or.inr (Or.inr (Or.inr k4)), Or.inr (Or.inr (Or.inr k4)), Or.inr (Or.inr (Or.inr k4)), Or.inr (Or.inr (Or.inr (fun v wa wb hr h => by obtain ⟨q, rfl⟩ := hr; obtain ⟨row, h1, h2⟩ := h; exact ⟨row, h1.chg ((Chg.refl (fun k => k = w3.heap.size) wa).set (Or.inr rfl) 8 _) (fun q e f => h2 (by rw [e, f])), h2⟩))), Or.inr (Or.inr (Or.inr k4)), Or.inr (Or.inr (Or.inr (fun v wa wb hr h => by obtain ⟨q, rfl⟩ := hr; obtain ⟨vI, row, v8, h0, h1, h2⟩ := h; exact ⟨vI, row, q, h0.set 8 q, h1.chg ((Chg.refl (fun k => k = w3.heap.size) wa).set (Or.inr rfl) 8 _) (fun q e f => h2 (by rw [e, f])), h2⟩))), Or.inr (Or.inr (Or.inr k4)), Or.inl rfl, trivial⟩, trivial⟩
 ·refine ⟨?_, ?_, ?_, ?_, ?_, ?_, ?_, ?_, ?_, ?_, ?_, ?_, trivial⟩
  ·intro ev w hc hf hg hfix hdep hchg hinv
   exact Or.inl ⟨trivial, Or.inl ⟨.slice (some ⟨w.heap.size, 0, none⟩) 0 0, w.alloc (.cells #[] 47), by go_simp, ⟨_, rfl⟩, Chg.of_below (below_box _ _ _)⟩⟩
  ·intro ev w hc hf hg hfix hdep hchg hinv
   have e3 : ev (.tmp 3) = _ := hfix 3 (by decide)
   exact Or.inl ⟨trivial, Or.inl ⟨_, w, by go_simp, rfl, Chg.refl _ _⟩⟩
  ·intro ev w hc hf hg hfix hdep hchg hinv
   have e28 : ev (.tmp 28) = _ := hdep 1 (by decide)
   have d := (HL4.out.below (RegD.chg0 (hchg [] (by kernel_rfl)))).cell 7
   simp only [List.getElem?_cons_succ, List.getElem?_cons_zero] at d
   exact Or.inl ⟨trivial, Or.inl ⟨_, w, by go_simp, rfl, Chg.refl _ _⟩⟩
  ·intro ev w hc hf hg hfix hdep hchg hinv
   have e27 := hdep 0 (by decide)
   have e29 : ev (.tmp 29) = _ := hdep 2 (by decide)
   obtain ⟨q, he⟩ := e27
   have he' : ev (.tmp 27) = .slice (some q) 0 0 := he
   have hb0 : Below X3.heap.size X3 w := RegD.chg0 (hchg [] (by kernel_rfl))
   have hsz := hb0.size; have hsx := HSx.out
   have hs := srcI (HI.out.below (HB4.out.trans (hb0.mono HB4.out.size)))
   obtain ⟨v', w', row', h1, h2, h3, h4⟩ := appsI (.slice (some q) 0 0) none [] li (.slice ia il ic) w3.heap.size w (Own.empty (by omega) _) (by rw [HIl.out] at hs ⊢; exact hs) (by have h1 := HIl.out; have h2 := HN1.out; simp; omega) 28
   rw [List.nil_append] at h2
   refine Or.inl ⟨trivial, Or.inl ⟨v', w', by simp [execOp, resolve, invoke, builtin, he', e29, h1, Result.andThen], ⟨row', h2, fun e => ?_⟩, (Chg.of_grown h3).mono (fun k _ e => by cases e)⟩⟩
   rcases h4 with h | ⟨k, h, hk⟩
   ·rw [h] at e; cases e
   ·rw [h] at e; have := Option.some.inj e; omega
  ·intro ev w hc hf hg hfix hdep hchg hinv
   exact Or.inl ⟨trivial, Or.inl ⟨.slice (some ⟨w.heap.size, 0, none⟩) 0 0, w.alloc (.cells #[] 27), by go_simp, ⟨_, rfl⟩, Chg.of_below (below_box _ _ _)⟩⟩
  ·intro ev w hc hf hg hfix hdep hchg hinv
   have e3 : ev (.tmp 3) = _ := hfix 3 (by decide)
   exact Or.inl ⟨trivial, Or.inl ⟨_, w, by go_simp, rfl, Chg.refl _ _⟩⟩
  ·intro ev w hc hf hg hfix hdep hchg hinv
   have e32 : ev (.tmp 32) = _ := hdep 5 (by decide)
   have d := (HL4.out.below (RegD.chg0 (hchg [] (by kernel_rfl)))).cell 8
   simp only [List.getElem?_cons_succ, List.getElem?_cons_zero] at d
   exact Or.inl ⟨trivial, Or.inl ⟨_, w, by go_simp, rfl, Chg.refl _ _⟩⟩
  ·intro ev w hc hf hg hfix hdep hchg hinv
   have e31 := hdep 4 (by decide)
   have e33 : ev (.tmp 33) = _ := hdep 6 (by decide)
   obtain ⟨q, he⟩ := e31
   have he' : ev (.tmp 31) = .slice (some q) 0 0 := he
   have hb0 : Below X3.heap.size X3 w := RegD.chg0 (hchg [] (by kernel_rfl))
   have hsz := hb0.size; have hsx := HSx.out
   have hs := srcD (HD.out.below (HB4.out.trans (hb0.mono HB4.out.size)))
   obtain ⟨v', w', row', h1, h2, h3, h4⟩ := appsD (.slice (some q) 0 0) none [] ld (.slice da dl dc) w3.heap.size w (Own.empty (by omega) _) (by rw [HDl.out] at hs ⊢; exact hs) (by have h1 := HDl.out; have h2 := HN1.out; simp; omega) 29
   rw [List.nil_append] at h2
   refine Or.inl ⟨trivial, Or.inl ⟨v', w', by simp [execOp, resolve, invoke, builtin, he', e33, h1, Result.andThen], ⟨row', h2, fun e => ?_⟩, (Chg.of_grown h3).mono (fun k _ e => by cases e)⟩⟩
   rcases h4 with h | ⟨k, h, hk⟩
   ·rw [h] at e; cases e
   ·rw [h] at e; have := Option.some.inj e; omega
  ·intro ev w hc hf hg hfix hdep hchg hinv
   have e7 : ev (.tmp 7) = _ := hfix 7 (by decide)
   exact Or.inl ⟨trivial, Or.inl ⟨_, w, by go_simp, rfl, Chg.refl _ _⟩⟩
  ·intro ev w hc hf hg hfix hdep hchg hinv
   have e35 : ev (.tmp 35) = _ := hdep 8 (by decide)
   have e30 := hdep 3 (by decide)
   obtain ⟨row, h1, h2⟩ := e30
   obtain ⟨v7, v8, hj⟩ := hinv
   obtain ⟨a8, n8, m8, hv8⟩ := Own.slice h1
   have e30 : ev (.tmp 30) = .slice a8 n8 m8 := hv8
   rw [hv8] at h1
   have d := hj.cell 7; have y := hj.frozen 7
   simp only [List.getElem?_cons_succ, List.getElem?_cons_zero] at d
   exact Or.inl ⟨trivial, Or.inr (Or.inr ⟨w.setCell ⟨w3.heap.size, 7, none⟩ (.slice a8 n8 m8), by go_simp, ⟨_, row, v8, hj.set 7 _, h1.chg ((Chg.refl (fun k => k = w3.heap.size) w).set (Or.inr rfl) 7 _) (fun q e f => h2 (by rw [e, f])), h2⟩, ⟨_, rfl⟩⟩)⟩
  ·intro ev w hc hf hg hfix hdep hchg hinv
   have e7 : ev (.tmp 7) = _ := hfix 7 (by decide)
   exact Or.inl ⟨trivial, Or.inl ⟨_, w, by go_simp, rfl, Chg.refl _ _⟩⟩
  ·intro ev w hc hf hg hfix hdep hchg hinv
   have e36 : ev (.tmp 36) = _ := hdep 10 (by decide)
   have e34 := hdep 7 (by decide)
   obtain ⟨row, h1, h2⟩ := e34
   obtain ⟨v7, v8, hj⟩ := hinv
   obtain ⟨a8, n8, m8, hv8⟩ := Own.slice h1
   have e34 : ev (.tmp 34) = .slice a8 n8 m8 := hv8
   rw [hv8] at h1
   have d := hj.cell 8; have y := hj.frozen 8
   simp only [List.getElem?_cons_succ, List.getElem?_cons_zero] at d
   exact Or.inl ⟨trivial, Or.inr (Or.inr ⟨w.setCell ⟨w3.heap.size, 8, none⟩ (.slice a8 n8 m8), by go_simp, ⟨v7, _, row, hj.set 8 _, h1.chg ((Chg.refl (fun k => k = w3.heap.size) w).set (Or.inr rfl) 8 _) (fun q e f => h2 (by rw [e, f])), h2⟩, ⟨_, rfl⟩⟩)⟩
 ·intro v u4 hv hb2 hJ2
  have r9 := hv 9 (by decide) (by decide)
  have r11 := hv 11 (by decide) (by decide)
  simp only [Reg.putAll, Act.put, List.setIfInBounds_toArray, List.set_cons_zero, List.set_cons_succ]
  clear hv
  obtain ⟨vI, rI, v8, hg1, hoI, hnI⟩ := r9
  obtain ⟨v7, vD, rD, hg2, hoD, hnD⟩ := r11
  have hcs := (blk_same hg1 hg2).2
  have h8 : v8 = vD := by have := congrArg (fun l : List Value => l[8]?) hcs; simpa using this
  subst h8
  obtain ⟨aI, cI, hvI, hrI⟩ := ownI_row hoI HI.out.ok
  obtain ⟨aD, cD, hvD, hrD⟩ := ownD_row hoD HD.out.ok
  rw [HIl.out] at hvI; rw [HDl.out] at hvD
  subst hvI; subst hvD
  have hc4 : Chg (fun k => k = w3.heap.size ∨ k = w3.heap.size) X3 u4 := RegD.end2 hb2
  have hbw : Below w3.heap.size w3 u4 := Chg.belowTrans HX3.out hc4 (fun k hk e => by have : k = w3.heap.size := e.elim id id; omega) HX3.out.size
  have HB5 := Lib.hid (HB3.out.trans (hbw.mono HB3.out.size))
  have HL5 := Lib.hid (HL3.out.below hbw); have HM5 := Lib.hid (HM3.out.below hbw); have HE5 := Lib.hid (HE3.out.below hbw)
  have HN5 := Lib.hid hg1; have HRI5 := Lib.hid hrI; have HRD5 := Lib.hid hrD
  clear hg1 hg2 hoI hoD hnI hnD hcs hc4 hbw hb2 hJ2 hrI hrD
  go_wp2_with fail
  have HX := Lib.hid hx; clear hx
  refine Reg.region_list (by kernel_rfl) [fun v _ => v = .agg #[.int .u8 (kk : Int), .int .i64 n, .int .u64 (t : Int), .int .u8 (r : Int), .int .u32 (i : Int), .int .u64 (s : Int), .string x, .slice aI il cI, .slice aD dl cD], fun v _ => v = .bool (Lm.may ⟨kk, n, t, ((r, i), s), x, li, ld⟩), fun v _ => v = .agg #[.int .u8 (kk : Int), .int .i64 n, .int .u64 (t : Int), .int .u8 (r : Int), .int .u32 (i : Int), .int .u64 (s : Int), .string x, .slice ia il ic, .slice da dl dc], fun v _ => v = .bool (Lm.may ⟨kk, n, t, ((r, i), s), x, li, ld⟩), fun v _ => v = .bool false, fun v _ => v = .bool false, fun v _ => v = .agg #[.int .u8 (kk : Int), .int .i64 n, .int .u64 (t : Int), .int .u8 (r : Int), .int .u32 (i : Int), .int .u64 (s : Int), .string x, .slice ia il ic, .slice da dl dc], fun v _ => v = .agg #[.int .u8 (kk' : Int), .int .i64 n', .int .u64 (t' : Int), .int .u8 (r' : Int), .int .u32 (i' : Int), .int .u64 (s' : Int), .string x', .slice ia' il' ic', .slice da' dl' dc'], fun v _ => v = .bool (Lm.same ⟨kk, n, t, ((r, i), s), x, li, ld⟩ ⟨kk', n', t', ((r', i'), s'), x', li', ld'⟩), fun v _ => v = .agg #[.int .u8 (kk : Int), .int .i64 n, .int .u64 (t : Int), .int .u8 (r : Int), .int .u32 (i : Int), .int .u64 (s : Int), .string x, .slice ia il ic, .slice da dl dc], fun v _ => v = .agg #[.int .u8 (kk' : Int), .int .i64 n', .int .u64 (t' : Int), .int .u8 (r' : Int), .int .u32 (i' : Int), .int .u64 (s' : Int), .string x', .slice ia' il' ic', .slice da' dl' dc'], fun v _ => v = .bool (Lm.same ⟨kk, n, t, ((r, i), s), x, li, ld⟩ ⟨kk', n', t', ((r', i'), s'), x', li', ld'⟩), fun v _ => v = .bool false, fun v _ => v = .bool false, fun v _ => v = .bool false, fun v _ => v = .pointer (some ⟨W.heap.size, 0, none⟩), fun v _ => v = .int .u8 (kk : Int), fun v _ => v = .agg #[.int .u8 ((newK kk) : Int), .int .i64 0, .int .u64 (0 : Int), .int .u8 (0 : Int), .int .u32 (0 : Int), .int .u64 (0 : Int), .string ⟨#[]⟩, .slice none 0 0, .slice none 0 0], fun v _ => v = .pointer (some ⟨W.heap.size, 0, none⟩), fun v _ => v = .int .u8 (kk : Int), fun v _ => v = .agg #[.int .u8 ((newK kk) : Int), .int .i64 0, .int .u64 (0 : Int), .int .u8 (0 : Int), .int .u32 (0 : Int), .int .u64 (0 : Int), .string ⟨#[]⟩, .slice none 0 0, .slice none 0 0], fun v _ => v = .bool true, fun v _ => v = .bool false, fun v _ => v = .bool false, fun v _ => v = .bool false, fun v _ => v = .pointer (some ⟨W.heap.size, 2, none⟩), fun v _ => v = .int .u64 (t : Int), fun v _ => v = .pointer (some ⟨W.heap.size, 3, none⟩), fun v _ => v = .agg #[.int .u8 (r : Int), .int .u32 (i : Int), .int .u64 (s : Int)], fun v _ => v = .pointer (some ⟨W.heap.size + 1, 2, none⟩), fun v _ => v = .int .u64 (t' : Int), fun v _ => v = .pointer (some ⟨W.heap.size + 1, 3, none⟩), fun v _ => v = .agg #[.int .u8 (r' : Int), .int .u32 (i' : Int), .int .u64 (s' : Int)], fun v _ => v = .bool (Lm.ahead t ((r, i), s) t' ((r', i'), s')), fun v _ => v = .pointer (some ⟨W.heap.size, 2, none⟩), fun v _ => v = .int .u64 (t : Int), fun v _ => v = .pointer (some ⟨W.heap.size, 3, none⟩), fun v _ => v = .agg #[.int .u8 (r : Int), .int .u32 (i : Int), .int .u64 (s : Int)], fun v _ => v = .pointer (some ⟨W.heap.size + 1, 2, none⟩), fun v _ => v = .int .u64 (t' : Int), fun v _ => v = .pointer (some ⟨W.heap.size + 1, 3, none⟩), fun v _ => v = .agg #[.int .u8 (r' : Int), .int .u32 (i' : Int), .int .u64 (s' : Int)], fun v _ => v = .bool (Lm.ahead t ((r, i), s) t' ((r', i'), s')), fun v _ => v = .bool false, fun v _ => v = .bool false] (by kernel_rfl) ?_ ?_ ?_
  ·refine ⟨k4, k4, k4, k4, k4, k4, k4, k4, k4, k4, k4, k4, k4, k4, k4, k4, k4, k4, k4, k4, k4, k4, k4, k4, k4, k4, k4, k4, k4, k4, k4, k4, k4, k4, k4, k4, k4, k4, k4, k4, k4, k4, k4, k4, k4, trivial⟩
  ·refine ⟨?_, ?_, ?_, ?_, ?_, ?_, ?_, ?_, ?_, ?_, ?_, ?_, ?_, ?_, ?_, ?_, ?_, ?_, ?_, ?_, ?_, ?_, ?_, ?_, ?_, ?_, ?_, ?_, ?_, ?_, ?_, ?_, ?_, ?_, ?_, ?_, ?_, ?_, ?_, ?_, ?_, ?_, ?_, ?_, ?_, trivial⟩
   ·intro ev w hc hf hg hfix hdep hbel
    have e7 : ev (.tmp 7) = _ := hfix 7 (by decide)
    have dd := HN5.out.below (undrew hbel)
    obtain ⟨d0, d1, d2, d3, d4, d5, d6, d7, d8⟩ := dd.nine
    exact okb trivial rfl (by go_simp)
   ·intro ev w hc hf hg hfix hdep hbel
    have e37 : ev (.tmp 37) = _ := hdep 0 (by decide)
    refine Or.inl ⟨trivial, Or.inr ⟨7, #[.agg #[.int .u8 (kk : Int), .int .i64 n, .int .u64 (t : Int), .int .u8 (r : Int), .int .u32 (i : Int), .int .u64 (s : Int), .string x, .slice aI il cI, .slice aD dl cD]], w, by go_simp, ?_⟩⟩
    refine (leafmay_any kk n t r i s x aI il cI aD dl cD li ld w (HRI5.out.below (undrew hbel)) HIl.out (HRD5.out.below (undrew hbel)) HDl.out HX.out (by have := HN1.out; omega)).mono ?_
    rintro e w1 ⟨rfl, hb1⟩
    exact ⟨_, rfl, rfl, hb1⟩
   ·intro ev w hc hf hg hfix hdep hbel
    have e3 : ev (.tmp 3) = _ := hfix 3 (by decide)
    have dd := HL5.out.below (undrew hbel)
    obtain ⟨d0, d1, d2, d3, d4, d5, d6, d7, d8⟩ := dd.nine
    exact okb trivial rfl (by go_simp)
   ·intro ev w hc hf hg hfix hdep hbel
    have e39 : ev (.tmp 39) = _ := hdep 2 (by decide)
    refine Or.inl ⟨trivial, Or.inr ⟨8, #[.agg #[.int .u8 (kk : Int), .int .i64 n, .int .u64 (t : Int), .int .u8 (r : Int), .int .u32 (i : Int), .int .u64 (s : Int), .string x, .slice ia il ic, .slice da dl dc]], w, by go_simp, ?_⟩⟩
    refine (refmay05_any kk n t r i s x ia il ic da dl dc li ld w (HI.out.below (HB5.out.trans ((undrew hbel).mono HB5.out.size))) HIl.out (HD.out.below (HB5.out.trans ((undrew hbel).mono HB5.out.size))) HDl.out HX.out (by have := HN1.out; omega) (by have := HN1.out; omega)).mono ?_
    rintro e w1 ⟨rfl, hb1⟩
    exact ⟨_, rfl, rfl, hb1⟩
   ·intro ev w hc hf hg hfix hdep hbel
    have e38 : ev (.tmp 38) = _ := hdep 1 (by decide)
    have e40 : ev (.tmp 40) = _ := hdep 3 (by decide)
    exact okb trivial rfl (by go_simp)
   ·intro ev w hc hf hg hfix hdep hbel
    have e41 : ev (.tmp 41) = _ := hdep 4 (by decide)
    exact okb trivial rfl (by go_simp)
   ·intro ev w hc hf hg hfix hdep hbel
    have fg : ev (.tmp 42) = _ := hdep 5 (by decide)
    have e3 : ev (.tmp 3) = _ := hfix 3 (by decide)
    have dd := HL5.out.below (undrew hbel)
    obtain ⟨d0, d1, d2, d3, d4, d5, d6, d7, d8⟩ := dd.nine
    exact okb fg rfl (by go_simp)
   ·intro ev w hc hf hg hfix hdep hbel
    have fg : ev (.tmp 42) = _ := hdep 5 (by decide)
    have e4 : ev (.tmp 4) = _ := hfix 4 (by decide)
    have dd := HM5.out.below (undrew hbel)
    obtain ⟨d0, d1, d2, d3, d4, d5, d6, d7, d8⟩ := dd.nine
    exact okb fg rfl (by go_simp)
   ·intro ev w hc hf hg hfix hdep hbel
    have fg : ev (.tmp 42) = _ := hdep 5 (by decide)
    have e43 : ev (.tmp 43) = _ := hdep 6 (by decide)
    have e44 : ev (.tmp 44) = _ := hdep 7 (by decide)
    refine Or.inl ⟨fg, Or.inr ⟨9, #[.agg #[.int .u8 (kk : Int), .int .i64 n, .int .u64 (t : Int), .int .u8 (r : Int), .int .u32 (i : Int), .int .u64 (s : Int), .string x, .slice ia il ic, .slice da dl dc], .agg #[.int .u8 (kk' : Int), .int .i64 n', .int .u64 (t' : Int), .int .u8 (r' : Int), .int .u32 (i' : Int), .int .u64 (s' : Int), .string x', .slice ia' il' ic', .slice da' dl' dc']], w, by go_simp, ?_⟩⟩
    refine (same_any kk n t r i s x ia il ic da dl dc li ld kk' n' t' r' i' s' x' ia' il' ic' da' dl' dc' li' ld' w (HI.out.below (HB5.out.trans ((undrew hbel).mono HB5.out.size))) HIl.out (HD.out.below (HB5.out.trans ((undrew hbel).mono HB5.out.size))) HDl.out (HI'.out.below (HB5.out.trans ((undrew hbel).mono HB5.out.size))) HIl'.out (HD'.out.below (HB5.out.trans ((undrew hbel).mono HB5.out.size))) HDl'.out).mono ?_
    rintro e w1 ⟨rfl, hb1⟩
    exact ⟨_, rfl, rfl, hb1⟩
   ·intro ev w hc hf hg hfix hdep hbel
    have fg : ev (.tmp 42) = _ := hdep 5 (by decide)
    have e3 : ev (.tmp 3) = _ := hfix 3 (by decide)
    have dd := HL5.out.below (undrew hbel)
    obtain ⟨d0, d1, d2, d3, d4, d5, d6, d7, d8⟩ := dd.nine
    exact okb fg rfl (by go_simp)
   ·intro ev w hc hf hg hfix hdep hbel
    have fg : ev (.tmp 42) = _ := hdep 5 (by decide)
    have e4 : ev (.tmp 4) = _ := hfix 4 (by decide)
    have dd := HM5.out.below (undrew hbel)
    obtain ⟨d0, d1, d2, d3, d4, d5, d6, d7, d8⟩ := dd.nine
    exact okb fg rfl (by go_simp)
   ·intro ev w hc hf hg hfix hdep hbel
    have fg : ev (.tmp 42) = _ := hdep 5 (by decide)
    have e46 : ev (.tmp 46) = _ := hdep 9 (by decide)
    have e47 : ev (.tmp 47) = _ := hdep 10 (by decide)
    refine Or.inl ⟨fg, Or.inr ⟨10, #[.agg #[.int .u8 (kk : Int), .int .i64 n, .int .u64 (t : Int), .int .u8 (r : Int), .int .u32 (i : Int), .int .u64 (s : Int), .string x, .slice ia il ic, .slice da dl dc], .agg #[.int .u8 (kk' : Int), .int .i64 n', .int .u64 (t' : Int), .int .u8 (r' : Int), .int .u32 (i' : Int), .int .u64 (s' : Int), .string x', .slice ia' il' ic', .slice da' dl' dc']], w, by go_simp, ?_⟩⟩
    refine (refsame05_any kk n t r i s x ia il ic da dl dc li ld kk' n' t' r' i' s' x' ia' il' ic' da' dl' dc' li' ld' w (HI.out.below (HB5.out.trans ((undrew hbel).mono HB5.out.size))) HIl.out (HD.out.below (HB5.out.trans ((undrew hbel).mono HB5.out.size))) HDl.out (HI'.out.below (HB5.out.trans ((undrew hbel).mono HB5.out.size))) HIl'.out (HD'.out.below (HB5.out.trans ((undrew hbel).mono HB5.out.size))) HDl'.out).mono ?_
    rintro e w1 ⟨rfl, hb1⟩
    exact ⟨_, rfl, rfl, hb1⟩
   ·intro ev w hc hf hg hfix hdep hbel
    have fg : ev (.tmp 42) = _ := hdep 5 (by decide)
    have e45 : ev (.tmp 45) = _ := hdep 8 (by decide)
    have e48 : ev (.tmp 48) = _ := hdep 11 (by decide)
    exact okb fg rfl (by go_simp)
   ·intro ev w hc hf hg hfix hdep hbel
    have e42 : ev (.tmp 42) = _ := hdep 5 (by decide)
    have e49 : ev (.tmp 49) = _ := hdep 12 (by decide)
    exact okb trivial rfl (by go_simp)
   ·intro ev w hc hf hg hfix hdep hbel
    have e50 : ev (.tmp 50) = _ := hdep 13 (by decide)
    exact okb trivial rfl (by go_simp)
   ·intro ev w hc hf hg hfix hdep hbel
    have fg : ev (.tmp 51) = _ := hdep 14 (by decide)
    have e3 : ev (.tmp 3) = _ := hfix 3 (by decide)
    exact okb fg rfl (by go_simp)
   ·intro ev w hc hf hg hfix hdep hbel
    have fg : ev (.tmp 51) = _ := hdep 14 (by decide)
    have e52 : ev (.tmp 52) = _ := hdep 15 (by decide)
    have dd := HL5.out.below (undrew hbel)
    obtain ⟨d0, d1, d2, d3, d4, d5, d6, d7, d8⟩ := dd.nine
    exact okb fg rfl (by go_simp)
   ·intro ev w hc hf hg hfix hdep hbel
    have fg : ev (.tmp 51) = _ := hdep 14 (by decide)
    have e53 : ev (.tmp 53) = _ := hdep 16 (by decide)
    refine Or.inl ⟨fg, Or.inr ⟨11, #[.int .u8 (kk : Int)], w, by go_simp, ?_⟩⟩
    refine (new_any kk w).mono ?_
    rintro e w1 ⟨rfl, hb1⟩
    exact ⟨_, rfl, rfl, hb1⟩
   ·intro ev w hc hf hg hfix hdep hbel
    have fg : ev (.tmp 51) = _ := hdep 14 (by decide)
    have e3 : ev (.tmp 3) = _ := hfix 3 (by decide)
    exact okb fg rfl (by go_simp)
   ·intro ev w hc hf hg hfix hdep hbel
    have fg : ev (.tmp 51) = _ := hdep 14 (by decide)
    have e55 : ev (.tmp 55) = _ := hdep 18 (by decide)
    have dd := HL5.out.below (undrew hbel)
    obtain ⟨d0, d1, d2, d3, d4, d5, d6, d7, d8⟩ := dd.nine
    exact okb fg rfl (by go_simp)
   ·intro ev w hc hf hg hfix hdep hbel
    have fg : ev (.tmp 51) = _ := hdep 14 (by decide)
    have e56 : ev (.tmp 56) = _ := hdep 19 (by decide)
    refine Or.inl ⟨fg, Or.inr ⟨12, #[.int .u8 (kk : Int)], w, by go_simp, ?_⟩⟩
    refine (refnew_any kk w).mono ?_
    rintro e w1 ⟨rfl, hb1⟩
    exact ⟨_, rfl, rfl, hb1⟩
   ·intro ev w hc hf hg hfix hdep hbel
    have fg : ev (.tmp 51) = _ := hdep 14 (by decide)
    have e54 : ev (.tmp 54) = _ := hdep 17 (by decide)
    have e57 : ev (.tmp 57) = _ := hdep 20 (by decide)
    refine Or.inl ⟨fg, Or.inr ⟨10, #[.agg #[.int .u8 ((newK kk) : Int), .int .i64 0, .int .u64 (0 : Int), .int .u8 (0 : Int), .int .u32 (0 : Int), .int .u64 (0 : Int), .string ⟨#[]⟩, .slice none 0 0, .slice none 0 0], .agg #[.int .u8 ((newK kk) : Int), .int .i64 0, .int .u64 (0 : Int), .int .u8 (0 : Int), .int .u32 (0 : Int), .int .u64 (0 : Int), .string ⟨#[]⟩, .slice none 0 0, .slice none 0 0]], w, by go_simp, ?_⟩⟩
    refine (refsame05_any (newK kk) 0 0 0 0 0 ⟨#[]⟩ none 0 0 none 0 0 [] [] (newK kk) 0 0 0 0 0 ⟨#[]⟩ none 0 0 none 0 0 [] [] w (IRow.nil _) rfl (VRow.nil _) rfl (IRow.nil _) rfl (VRow.nil _) rfl).mono ?_
    rintro e w1 ⟨rfl, hb1⟩
    exact ⟨_, rfl, by rw [Lm.same_refl], hb1⟩
   ·intro ev w hc hf hg hfix hdep hbel
    have fg : ev (.tmp 51) = _ := hdep 14 (by decide)
    have e58 : ev (.tmp 58) = _ := hdep 21 (by decide)
    exact okb fg rfl (by go_simp)
   ·intro ev w hc hf hg hfix hdep hbel
    have e51 : ev (.tmp 51) = _ := hdep 14 (by decide)
    have e59 : ev (.tmp 59) = _ := hdep 22 (by decide)
    exact okb trivial rfl (by go_simp)
   ·intro ev w hc hf hg hfix hdep hbel
    have e60 : ev (.tmp 60) = _ := hdep 23 (by decide)
    exact okb trivial rfl (by go_simp)
   ·intro ev w hc hf hg hfix hdep hbel
    have fg : ev (.tmp 61) = _ := hdep 24 (by decide)
    have e3 : ev (.tmp 3) = _ := hfix 3 (by decide)
    exact okb fg rfl (by go_simp)
   ·intro ev w hc hf hg hfix hdep hbel
    have fg : ev (.tmp 61) = _ := hdep 24 (by decide)
    have e62 : ev (.tmp 62) = _ := hdep 25 (by decide)
    have dd := HL5.out.below (undrew hbel)
    obtain ⟨d0, d1, d2, d3, d4, d5, d6, d7, d8⟩ := dd.nine
    exact okb fg rfl (by go_simp)
   ·intro ev w hc hf hg hfix hdep hbel
    have fg : ev (.tmp 61) = _ := hdep 24 (by decide)
    have e3 : ev (.tmp 3) = _ := hfix 3 (by decide)
    exact okb fg rfl (by go_simp)
   ·intro ev w hc hf hg hfix hdep hbel
    have fg : ev (.tmp 61) = _ := hdep 24 (by decide)
    have e64 : ev (.tmp 64) = _ := hdep 27 (by decide)
    have dd := HL5.out.below (undrew hbel)
    obtain ⟨d0, d1, d2, d3, d4, d5, d6, d7, d8⟩ := dd.nine
    exact okb fg rfl (by go_simp)
   ·intro ev w hc hf hg hfix hdep hbel
    have fg : ev (.tmp 61) = _ := hdep 24 (by decide)
    have e4 : ev (.tmp 4) = _ := hfix 4 (by decide)
    exact okb fg rfl (by go_simp)
   ·intro ev w hc hf hg hfix hdep hbel
    have fg : ev (.tmp 61) = _ := hdep 24 (by decide)
    have e66 : ev (.tmp 66) = _ := hdep 29 (by decide)
    have dd := HM5.out.below (undrew hbel)
    obtain ⟨d0, d1, d2, d3, d4, d5, d6, d7, d8⟩ := dd.nine
    exact okb fg rfl (by go_simp)
   ·intro ev w hc hf hg hfix hdep hbel
    have fg : ev (.tmp 61) = _ := hdep 24 (by decide)
    have e4 : ev (.tmp 4) = _ := hfix 4 (by decide)
    exact okb fg rfl (by go_simp)
   ·intro ev w hc hf hg hfix hdep hbel
    have fg : ev (.tmp 61) = _ := hdep 24 (by decide)
    have e68 : ev (.tmp 68) = _ := hdep 31 (by decide)
    have dd := HM5.out.below (undrew hbel)
    obtain ⟨d0, d1, d2, d3, d4, d5, d6, d7, d8⟩ := dd.nine
    exact okb fg rfl (by go_simp)
   ·intro ev w hc hf hg hfix hdep hbel
    have fg : ev (.tmp 61) = _ := hdep 24 (by decide)
    have e63 : ev (.tmp 63) = _ := hdep 26 (by decide)
    have e65 : ev (.tmp 65) = _ := hdep 28 (by decide)
    have e67 : ev (.tmp 67) = _ := hdep 30 (by decide)
    have e69 : ev (.tmp 69) = _ := hdep 32 (by decide)
    refine Or.inl ⟨fg, Or.inr ⟨13, #[.int .u64 (t : Int), .agg #[.int .u8 (r : Int), .int .u32 (i : Int), .int .u64 (s : Int)], .int .u64 (t' : Int), .agg #[.int .u8 (r' : Int), .int .u32 (i' : Int), .int .u64 (s' : Int)]], w, by go_simp, ?_⟩⟩
    refine (ahead_any t r i s t' r' i' s' w).mono ?_
    rintro e w1 ⟨rfl, hb1⟩
    exact ⟨_, rfl, rfl, hb1⟩
   ·intro ev w hc hf hg hfix hdep hbel
    have fg : ev (.tmp 61) = _ := hdep 24 (by decide)
    have e3 : ev (.tmp 3) = _ := hfix 3 (by decide)
    exact okb fg rfl (by go_simp)
   ·intro ev w hc hf hg hfix hdep hbel
    have fg : ev (.tmp 61) = _ := hdep 24 (by decide)
    have e71 : ev (.tmp 71) = _ := hdep 34 (by decide)
    have dd := HL5.out.below (undrew hbel)
    obtain ⟨d0, d1, d2, d3, d4, d5, d6, d7, d8⟩ := dd.nine
    exact okb fg rfl (by go_simp)
   ·intro ev w hc hf hg hfix hdep hbel
    have fg : ev (.tmp 61) = _ := hdep 24 (by decide)
    have e3 : ev (.tmp 3) = _ := hfix 3 (by decide)
    exact okb fg rfl (by go_simp)
   ·intro ev w hc hf hg hfix hdep hbel
    have fg : ev (.tmp 61) = _ := hdep 24 (by decide)
    have e73 : ev (.tmp 73) = _ := hdep 36 (by decide)
    have dd := HL5.out.below (undrew hbel)
    obtain ⟨d0, d1, d2, d3, d4, d5, d6, d7, d8⟩ := dd.nine
    exact okb fg rfl (by go_simp)
   ·intro ev w hc hf hg hfix hdep hbel
    have fg : ev (.tmp 61) = _ := hdep 24 (by decide)
    have e4 : ev (.tmp 4) = _ := hfix 4 (by decide)
    exact okb fg rfl (by go_simp)
   ·intro ev w hc hf hg hfix hdep hbel
    have fg : ev (.tmp 61) = _ := hdep 24 (by decide)
    have e75 : ev (.tmp 75) = _ := hdep 38 (by decide)
    have dd := HM5.out.below (undrew hbel)
    obtain ⟨d0, d1, d2, d3, d4, d5, d6, d7, d8⟩ := dd.nine
    exact okb fg rfl (by go_simp)
   ·intro ev w hc hf hg hfix hdep hbel
    have fg : ev (.tmp 61) = _ := hdep 24 (by decide)
    have e4 : ev (.tmp 4) = _ := hfix 4 (by decide)
    exact okb fg rfl (by go_simp)
   ·intro ev w hc hf hg hfix hdep hbel
    have fg : ev (.tmp 61) = _ := hdep 24 (by decide)
    have e77 : ev (.tmp 77) = _ := hdep 40 (by decide)
    have dd := HM5.out.below (undrew hbel)
    obtain ⟨d0, d1, d2, d3, d4, d5, d6, d7, d8⟩ := dd.nine
    exact okb fg rfl (by go_simp)
   ·intro ev w hc hf hg hfix hdep hbel
    have fg : ev (.tmp 61) = _ := hdep 24 (by decide)
    have e72 : ev (.tmp 72) = _ := hdep 35 (by decide)
    have e74 : ev (.tmp 74) = _ := hdep 37 (by decide)
    have e76 : ev (.tmp 76) = _ := hdep 39 (by decide)
    have e78 : ev (.tmp 78) = _ := hdep 41 (by decide)
    refine Or.inl ⟨fg, Or.inr ⟨14, #[.int .u64 (t : Int), .agg #[.int .u8 (r : Int), .int .u32 (i : Int), .int .u64 (s : Int)], .int .u64 (t' : Int), .agg #[.int .u8 (r' : Int), .int .u32 (i' : Int), .int .u64 (s' : Int)]], w, by go_simp, ?_⟩⟩
    refine (refahead_any t r i s t' r' i' s' w).mono ?_
    rintro e w1 ⟨rfl, hb1⟩
    exact ⟨_, rfl, rfl, hb1⟩
   ·intro ev w hc hf hg hfix hdep hbel
    have fg : ev (.tmp 61) = _ := hdep 24 (by decide)
    have e70 : ev (.tmp 70) = _ := hdep 33 (by decide)
    have e79 : ev (.tmp 79) = _ := hdep 42 (by decide)
    exact okb fg rfl (by go_simp)
   ·intro ev w hc hf hg hfix hdep hbel
    have e61 : ev (.tmp 61) = _ := hdep 24 (by decide)
    have e80 : ev (.tmp 80) = _ := hdep 43 (by decide)
    exact okb trivial rfl (by go_simp)
  ·intro v u5 hv hb2
   have r0 : v 0 = _ := hv 0 (by decide)
   have r1 : v 1 = _ := hv 1 (by decide)
   have r2 : v 2 = _ := hv 2 (by decide)
   have r3 : v 3 = _ := hv 3 (by decide)
   have r4 : v 4 = _ := hv 4 (by decide)
   have r5 : v 5 = _ := hv 5 (by decide)
   have r6 : v 6 = _ := hv 6 (by decide)
   have r7 : v 7 = _ := hv 7 (by decide)
   have r8 : v 8 = _ := hv 8 (by decide)
   have r9 : v 9 = _ := hv 9 (by decide)
   have r10 : v 10 = _ := hv 10 (by decide)
   have r11 : v 11 = _ := hv 11 (by decide)
   have r12 : v 12 = _ := hv 12 (by decide)
   have r13 : v 13 = _ := hv 13 (by decide)
   have r14 : v 14 = _ := hv 14 (by decide)
   have r15 : v 15 = _ := hv 15 (by decide)
   have r16 : v 16 = _ := hv 16 (by decide)
   have r17 : v 17 = _ := hv 17 (by decide)
   have r18 : v 18 = _ := hv 18 (by decide)
   have r19 : v 19 = _ := hv 19 (by decide)
   have r20 : v 20 = _ := hv 20 (by decide)
   have r21 : v 21 = _ := hv 21 (by decide)
   have r22 : v 22 = _ := hv 22 (by decide)
   have r23 : v 23 = _ := hv 23 (by decide)
   have r24 : v 24 = _ := hv 24 (by decide)
   have r25 : v 25 = _ := hv 25 (by decide)
   have r26 : v 26 = _ := hv 26 (by decide)
   have r27 : v 27 = _ := hv 27 (by decide)
   have r28 : v 28 = _ := hv 28 (by decide)
   have r29 : v 29 = _ := hv 29 (by decide)
   have r30 : v 30 = _ := hv 30 (by decide)
   have r31 : v 31 = _ := hv 31 (by decide)
   have r32 : v 32 = _ := hv 32 (by decide)
   have r33 : v 33 = _ := hv 33 (by decide)
   have r34 : v 34 = _ := hv 34 (by decide)
   have r35 : v 35 = _ := hv 35 (by decide)
   have r36 : v 36 = _ := hv 36 (by decide)
   have r37 : v 37 = _ := hv 37 (by decide)
   have r38 : v 38 = _ := hv 38 (by decide)
   have r39 : v 39 = _ := hv 39 (by decide)
   have r40 : v 40 = _ := hv 40 (by decide)
   have r41 : v 41 = _ := hv 41 (by decide)
   have r42 : v 42 = _ := hv 42 (by decide)
   have r43 : v 43 = _ := hv 43 (by decide)
   have r44 : v 44 = _ := hv 44 (by decide)
   simp only [Reg.putAll, Act.put, List.setIfInBounds_toArray, List.set_cons_zero, List.set_cons_succ, r0, r1, r2, r3, r4, r5, r6, r7, r8, r9, r10, r11, r12, r13, r14, r15, r16, r17, r18, r19, r20, r21, r22, r23, r24, r25, r26, r27, r28, r29, r30, r31, r32, r33, r34, r35, r36, r37, r38, r39, r40, r41, r42, r43, r44]
   clear r0 r1 r2 r3 r4 r5 r6 r7 r8 r9 r10 r11 r12 r13 r14 r15 r16 r17 r18 r19 r20 r21 r22 r23 r24 r25 r26 r27 r28 r29 r30 r31 r32 r33 r34 r35 r36 r37 r38 r39 r40 r41 r42 r43 r44 hv
   have HB6 := Lib.hid (HB5.out.trans (hb2.mono HB5.out.size))
   have HL6 := Lib.hid (HL5.out.below hb2)
   have hE := HE5.out.below hb2; have hN := HN5.out.below hb2
   have HE6 := Lib.hid hE; have HN6 := Lib.hid hN; have HRI6 := Lib.hid (HRI5.out.below hb2); have HRD6 := Lib.hid (HRD5.out.below hb2)
   obtain ⟨x0, x1, x2, x3, x4, x5, x6, x7, x8⟩ := hE.nine
   obtain ⟨g0, g1, g2, g3, g4, g5, g6, g7, g8⟩ := hN.nine
   clear hb2 hE hN
   obtain ⟨⟨⟨ka, na, ta, ⟨⟨ra, ja⟩, sa⟩, xa, lia, lda⟩, err⟩, hAp⟩ : ∃ q, Lm.apply ⟨kk, n, t, ((r, i), s), x, li, ld⟩ ⟨((r2, i2), s2), tm, ⟨k, p, n2, t2, d⟩⟩ = q := ⟨_, rfl⟩
   obtain ⟨NI, hNI⟩ : ∃ NI, lia.length = NI := ⟨_, rfl⟩
   obtain ⟨ND, hND⟩ : ∃ ND, lda.length = ND := ⟨_, rfl⟩
   have HAp := Lib.hid hAp; have HNI := Lib.hid hNI; have HND := Lib.hid hND
   clear hAp hNI hND
   go_wp2_with fail
   refine (apply_any kk n t r i s x aI il cI aD dl cD li ld r2 i2 s2 tm k pa pl pc n2 t2 ea el ec p d _ HRI6.out HIl.out HRD6.out HDl.out HX.out (by have := HN1.out; omega) (by have := HN1.out; omega) hk256 (HP.out.below HB6.out) HPl.out (HED.out.below HB6.out) HEl.out).mono ?_
   rintro e w6 ⟨hae, hb⟩
   rw [HAp.out] at hae
   obtain ⟨vI, rI, vD, rD, he, hoI, hoD⟩ := hae
   have hoI : OwnI u5.heap.size w6 vI lia rI := hoI
   have hoD : OwnD u5.heap.size w6 vD lda rD := hoD
   obtain ⟨p7, c7, hv7⟩ := own_len hoI
   obtain ⟨p8, c8, hv8⟩ := own_len hoD
   rw [HNI.out] at hv7; rw [HND.out] at hv8
   subst hv7; subst hv8
   have he : e = .returned (.tuple #[.agg #[.int .u8 (ka : Int), .int .i64 na, .int .u64 (ta : Int), .int .u8 (ra : Int), .int .u32 (ja : Int), .int .u64 (sa : Int), .string xa, .slice p7 NI c7, .slice p8 ND c8], .int .i64 err]) := he
   subst he
   have hU6 : Below u5.heap.size u5 w6 := hb
   have HU6 := Lib.hid hU6
   have HB7 := Lib.hid (HB6.out.trans (hU6.mono HB6.out.size))
   have hL := HL6.out.below hb; have hE := HE6.out.below hb
   have hlt0 := hL.lt; have hlt2 := hE.lt
   have HL7 := Lib.hid hL; have HE7 := Lib.hid hE
   have HOI6 := Lib.hid hoI; have HOD6 := Lib.hid hoD
   obtain ⟨a0, a1, a2, a3, a4, a5, a6, a7, a8⟩ := hL.nine
   clear x0 x1 x2 x3 x4 x5 x6 x7 x8
   obtain ⟨x0, x1, x2, x3, x4, x5, x6, x7, x8⟩ := hE.nine
   clear g0 g1 g2 g3 g4 g5 g6 g7 g8 hb hU6 hL hE hoI hoD
   go_wp2_with fail
   obtain ⟨X6, hX⟩ : ∃ X, X = (w6.alloc (.cells #[.int .u8 (ka : Int), .int .i64 na, .int .u64 (ta : Int), .int .u8 (ra : Int), .int .u32 (ja : Int), .int .u64 (sa : Int), .string xa, .slice p7 NI c7, .slice p8 ND c8] 31)) := ⟨_, rfl⟩
   have hbx : Below w6.heap.size w6 X6 := by rw [hX]; exact below_box _ _ _
   have hgx : Blk X6 w6.heap.size 31 [.int .u8 (ka : Int), .int .i64 na, .int .u64 (ta : Int), .int .u8 (ra : Int), .int .u32 (ja : Int), .int .u64 (sa : Int), .string xa, .slice p7 NI c7, .slice p8 ND c8] := by rw [hX]; exact Blk.new w6 #[.int .u8 (ka : Int), .int .i64 na, .int .u64 (ta : Int), .int .u8 (ra : Int), .int .u32 (ja : Int), .int .u64 (sa : Int), .string xa, .slice p7 NI c7, .slice p8 ND c8] 31
   rw [← hX]
   clear hX
   have HB8 := Lib.hid (HB7.out.trans (hbx.mono HB7.out.size)); have HU8 := Lib.hid (HU6.out.trans (hbx.mono HU6.out.size))
   have HOI8 := Lib.hid (HOI6.out.below hbx); have HOD8 := Lib.hid (HOD6.out.below hbx)
   have HA8 := Lib.hid hgx
   clear hbx hgx a0 a1 a2 a3 a4 a5 a6 a7 a8 x0 x1 x2 x3 x4 x5 x6 x7 x8 hlt0 hlt2
   refine (refapply_any kk n t r i s x ia il ic da dl dc li ld r2 i2 s2 tm k pa pl pc n2 t2 ea el ec p d _ (HI.out.below HB8.out) HIl.out (HD.out.below HB8.out) HDl.out HX.out (by have := HN1.out; omega) (by have := HN1.out; omega) hk256 (HP.out.below HB8.out) HPl.out (HED.out.below HB8.out) HEl.out (by have h1 := HN1.out; have h2 := HN3.out; omega) hod hot).mono ?_
   rintro e w7 ⟨hre, hb⟩
   rw [HAp.out] at hre
   obtain ⟨ib, icb, db, dcb, he, hrI, hrD⟩ := hre
   have he : e = .returned (.tuple #[.agg #[.int .u8 (ka : Int), .int .i64 na, .int .u64 (ta : Int), .int .u8 (ra : Int), .int .u32 (ja : Int), .int .u64 (sa : Int), .string xa, .slice ib NI icb, .slice db ND dcb], .int .i64 err]) := by rw [← HNI.out, ← HND.out]; exact he
   subst he
   have HB9 := Lib.hid (HB8.out.trans (hb.mono HB8.out.size)); have HU9 := Lib.hid (HU8.out.trans (hb.mono HU8.out.size))
   have HOI9 := Lib.hid (HOI8.out.below hb); have HOD9 := Lib.hid (HOD8.out.below hb)
   have HRb := Lib.hid hrI; have HDb := Lib.hid hrD
   have hA := HA8.out.below hb
   have hltA := hA.lt
   have HA9 := Lib.hid hA
   obtain ⟨z0, z1, z2, z3, z4, z5, z6, z7, z8⟩ := hA.nine
   clear hb hrI hrD hA
   go_wp2_with fail
   obtain ⟨X7, hX⟩ : ∃ X, X = (w7.alloc (.cells #[.int .u8 (ka : Int), .int .i64 na, .int .u64 (ta : Int), .int .u8 (ra : Int), .int .u32 (ja : Int), .int .u64 (sa : Int), .string xa, .slice ib NI icb, .slice db ND dcb] 31)) := ⟨_, rfl⟩
   have hbx : Below w7.heap.size w7 X7 := by rw [hX]; exact below_box _ _ _
   have hgx : Blk X7 w7.heap.size 31 [.int .u8 (ka : Int), .int .i64 na, .int .u64 (ta : Int), .int .u8 (ra : Int), .int .u32 (ja : Int), .int .u64 (sa : Int), .string xa, .slice ib NI icb, .slice db ND dcb] := by rw [hX]; exact Blk.new w7 #[.int .u8 (ka : Int), .int .i64 na, .int .u64 (ta : Int), .int .u8 (ra : Int), .int .u32 (ja : Int), .int .u64 (sa : Int), .string xa, .slice ib NI icb, .slice db ND dcb] 31
   rw [← hX]
   clear hX
   have HB10 := Lib.hid (HB9.out.trans (hbx.mono HB9.out.size)); have HU10 := Lib.hid (HU9.out.trans (hbx.mono HU9.out.size))
   have HOI10 := Lib.hid (HOI9.out.below hbx); have HOD10 := Lib.hid (HOD9.out.below hbx); have HA10 := Lib.hid (HA9.out.below hbx)
   have HRb10 := Lib.hid (HRb.out.below hbx); have HDb10 := Lib.hid (HDb.out.below hbx)
   clear hbx hgx z0 z1 z2 z3 z4 z5 z6 z7 z8 hltA
   refine (refsame05_any ka na ta ra ja sa xa p7 NI c7 p8 ND c8 lia lda ka na ta ra ja sa xa ib NI icb db ND dcb lia lda _ (ownI_at HOI10.out HRb.out.ok) HNI.out (ownD_at HOD10.out HDb.out.ok) HND.out HRb10.out HNI.out HDb10.out HND.out).mono ?_
   rintro e w8 ⟨rfl, hb⟩
   rw [Lm.same_refl]
   have HB11 := Lib.hid (HB10.out.trans (hb.mono HB10.out.size)); have HU11 := Lib.hid (HU10.out.trans (hb.mono HU10.out.size))
   have HOI11 := Lib.hid (HOI10.out.below hb); have HOD11 := Lib.hid (HOD10.out.below hb); have HA11 := Lib.hid (HA10.out.below hb)
   have hL := HL6.out.below HU11.out; have hN := HN6.out.below HU11.out
   obtain ⟨a0, a1, a2, a3, a4, a5, a6, a7, a8⟩ := hL.nine
   obtain ⟨g0, g1, g2, g3, g4, g5, g6, g7, g8⟩ := hN.nine
   clear hb hL hN
   go_wp2_with fail
   refine (refsame05_any kk n t r i s x aI il cI aD dl cD li ld kk n t r i s x ia il ic da dl dc li ld _ (HRI6.out.below HU11.out) HIl.out (HRD6.out.below HU11.out) HDl.out (HI.out.below HB11.out) HIl.out (HD.out.below HB11.out) HDl.out).mono ?_
   rintro e w9 ⟨rfl, hb⟩
   rw [Lm.same_refl]
   have HB12 := Lib.hid (HB11.out.trans (hb.mono HB11.out.size)); have HU12 := Lib.hid (HU11.out.trans (hb.mono HU11.out.size))
   have HOI12 := Lib.hid (HOI11.out.below hb); have HOD12 := Lib.hid (HOD11.out.below hb)
   have hA := HA11.out.below hb
   have HA12 := Lib.hid hA
   obtain ⟨z0, z1, z2, z3, z4, z5, z6, z7, z8⟩ := hA.nine
   clear a0 a1 a2 a3 a4 a5 a6 a7 a8 g0 g1 g2 g3 g4 g5 g6 g7 g8 hb hA
   go_wp2_with fail
   clear z0 z1 z2 z3 z4 z5 z6 z7 z8
   have HneI : Hid (∀ k, rI = some k → k ≠ w6.heap.size) := Lib.hid (fun k e f => by have := (HOI6.out.lt k e).2; omega)
   have HneD : Hid (∀ k, rD = some k → k ≠ w6.heap.size) := Lib.hid (fun k e f => by have := (HOD6.out.lt k e).2; omega)
   have HBlkI : Hid (∀ g, rI = some g → ∃ cs, Blk w9 g 47 cs ∧ NI * 5 ≤ cs.length) := Lib.hid (fun g hg => by
    obtain ⟨cs, h1, h2, _⟩ := own_blk HOI12.out encI_len g hg
    rw [HNI.out] at h2
    exact ⟨cs, h1, h2⟩)
   have hNIb : NI ≤ 9223372036854775807 := by have h1 := HRb.out.le; have h2 := HRb.out.cap; rw [HNI.out] at h1; omega
   have hNDb : ND ≤ 9223372036854775807 := by have h1 := HDb.out.le; have h2 := HDb.out.cap; rw [HND.out] at h1; omega
   go_loopw [12, 112] (fun _ u wr => ∃ j : Nat, j ≤ NI ∧ u = .int .i64 j ∧ Chg (fun k => rI = some k) w9 wr ∧ (∀ g, rI = some g → ∃ cs, Blk wr g 47 cs ∧ NI * 5 ≤ cs.length)) (fun _ u _ => NI - (intOf u).toNat)
   case atStart => exact ⟨0, Nat.zero_le _, rfl, Chg.refl _ _, HBlkI.out⟩
   case round =>
    obtain ⟨j, hj, rfl, hch, hbk⟩ := hrel
    have hA := HA12.out.chg hch (fun e => HneI.out _ e rfl)
    obtain ⟨z0, z1, z2, z3, z4, z5, z6, z7, z8⟩ := hA.nine
    by_cases hlt : j < NI
    ·obtain ⟨g, off, hrI, hp7, hoff⟩ := own_addr HOI12.out (by rw [HNI.out]; omega)
     obtain ⟨cs, hcb, hcl⟩ := hbk g hrI
     have hcv : cs[j * 5 + 4]? = some (cs[j * 5 + 4]'(by omega)) := List.getElem?_eq_getElem (by omega)
     have q4 : wr.cell? ⟨g, off + j * 5 + 4, none⟩ = some (cs[j * 5 + 4]'(by omega)) := by rw [hoff, Nat.zero_add, hcb.cell]; exact hcv
     have y4 : wr.frozen? ⟨g, off + j * 5 + 4, none⟩ = false := hcb.frozen _
     generalize cs[j * 5 + 4]'(by omega) = cv at q4
     have HCh := Lib.hid hch; have HCb := Lib.hid hcb; have HCl := Lib.hid hcl; have HRi := Lib.hid hrI; have HOff := Lib.hid hoff
     subst hp7
     have i0 : (0 : Int) ≤ (j : Int) := by omega
     have i1 : (j : Int) < (NI : Int) := by omega
     have hw1 : IntKind.i64.wrap ((j : Int) + 1) = (j : Int) + 1 := by simp [IntKind.wrap, IntKind.bits, IntKind.signed]; omega
     clear hch hbk hcb hcl hcv hrI hA
     clear hoff
     go_wp2_with fail
     go_roundw
     case rel =>
      refine ⟨j + 1, by omega, by go_num, HCh.out.set (Or.inr HRi.out) _ _, fun g' hg' => ?_⟩
      rw [HRi.out] at hg'; cases hg'
      exact ⟨_, HCb.out.set _ _, by rw [List.length_set]; exact HCl.out⟩
     case measure => simp [intOf]; omega
    ·have HCh := Lib.hid hch
     clear hch hbk hA
     go_wp2_with fail
     clear z0 z1 z2 z3 z4 z5 z6 z7 z8
     have hOD := HOD12.out.chg HCh.out (fun k e f => own_apart HOI12.out HOD12.out k f e)
     have HOD13 := Lib.hid hOD
     have HBlkD : Hid (∀ g, rD = some g → ∃ cs, Blk wr g 27 cs ∧ ND * 3 ≤ cs.length ∧ Seqs ND cs) := Lib.hid (fun g hg => by
      obtain ⟨cs, h1, h2, h3⟩ := seqs_own hOD g hg
      rw [HND.out] at h2 h3
      exact ⟨cs, h1, h2, h3⟩)
     have HA13 := Lib.hid (HA12.out.chg HCh.out (fun e => HneI.out _ e rfl))
     have HU13 := Lib.hid (Chg.belowTrans HU12.out HCh.out (fun k hk e => (HOI6.out.lt k e).1) HU12.out.size)
     clear hOD
     generalize wr = w10 at *
     go_loopw [13, 124] (fun _ u wr => ∃ j : Nat, j ≤ ND ∧ u = .int .i64 j ∧ Chg (fun k => rD = some k) w10 wr ∧ (∀ g, rD = some g → ∃ cs, Blk wr g 27 cs ∧ ND * 3 ≤ cs.length ∧ Seqs ND cs)) (fun _ u _ => ND - (intOf u).toNat)
     case atStart => exact ⟨0, Nat.zero_le _, rfl, Chg.refl _ _, HBlkD.out⟩
     case round =>
      obtain ⟨j, hj, rfl, hch, hbk⟩ := hrel
      have hA := HA13.out.chg hch (fun e => HneD.out _ e rfl)
      obtain ⟨z0, z1, z2, z3, z4, z5, z6, z7, z8⟩ := hA.nine
      by_cases hlt : j < ND
      ·obtain ⟨g, off, hrD, hp8, hoff⟩ := own_addr HOD13.out (by rw [HND.out]; omega)
       obtain ⟨cs, hcb, hcl, hsq⟩ := hbk g hrD
       obtain ⟨sx, hsx⟩ := hsq j hlt
       have q4 : wr.cell? ⟨g, off + j * 3 + 2, none⟩ = some (.int .u64 sx) := by rw [hoff, Nat.zero_add, hcb.cell]; exact hsx
       have y4 : wr.frozen? ⟨g, off + j * 3 + 2, none⟩ = false := hcb.frozen _
       have HCh := Lib.hid hch; have HCb := Lib.hid hcb; have HCl := Lib.hid hcl; have HRi := Lib.hid hrD; have HSq := Lib.hid hsq; have HOff := Lib.hid hoff
       subst hp8
       have i0 : (0 : Int) ≤ (j : Int) := by omega
       have i1 : (j : Int) < (ND : Int) := by omega
       have hw1 : IntKind.i64.wrap ((j : Int) + 1) = (j : Int) + 1 := by simp [IntKind.wrap, IntKind.bits, IntKind.signed]; omega
       clear hch hbk hcb hcl hsq hsx hrD hA hoff
       go_wp2_with fail
       go_roundw
       case rel =>
        refine ⟨j + 1, by omega, by go_num, HCh.out.set (Or.inr HRi.out) _ _, fun g' hg' => ?_⟩
        rw [HRi.out] at hg'; cases hg'
        have h0 := HOff.out
        subst h0
        rw [Nat.zero_add]
        exact ⟨_, HCb.out.set _ _, by rw [List.length_set]; exact HCl.out, HSq.out.set _ _ HCl.out hlt⟩
       case measure => simp [intOf]; omega
      ·have hU := Chg.belowTrans HU13.out hch (fun k hk e => (HOD6.out.lt k e).1) HU13.out.size
       have HU14 := Lib.hid hU
       have HB14 := Lib.hid (HB6.out.trans (hU.mono HB6.out.size))
       have hL := HL6.out.below hU; have hN := HN6.out.below hU
       obtain ⟨a0, a1, a2, a3, a4, a5, a6, a7, a8⟩ := hL.nine
       obtain ⟨g0, g1, g2, g3, g4, g5, g6, g7, g8⟩ := hN.nine
       clear hch hbk hA hU hL hN
       go_wp2_with fail
       refine (refsame05_any kk n t r i s x aI il cI aD dl cD li ld kk n t r i s x ia il ic da dl dc li ld _ (HRI6.out.below HU14.out) HIl.out (HRD6.out.below HU14.out) HDl.out (HI.out.below HB14.out) HIl.out (HD.out.below HB14.out) HDl.out).mono ?_
       rintro e w11 ⟨rfl, hb⟩
       rw [Lm.same_refl]
       have HB15 := Lib.hid (HB14.out.trans (hb.mono HB14.out.size))
       clear hb
       go_wp2_with fail
       refine (known05_any _).mono ?_
       rintro e w12 ⟨rfl, hb⟩
       have HF := Lib.hid (HB15.out.trans (hb.mono HB15.out.size)); clear hb
       go_wp2_with fail
       go_ret
       exact ⟨rfl, HF.out⟩
end Go.Proofs.YteakbfbacfhhoaaGreat
