import Derived.Test.YtmnblimnoaockaaZFuse11
import Derived.Test.YtmnblimnoaockaaZRegD
import Derived.Test.YtmnblimnoaockaaZLeaf30
namespace Go.Proofs.Ytmnblimnoaockaa
open Go.RowKit Go.Buf Go.LB Go.Lib
set_option linter.unusedSimpArgs false
set_option linter.unusedVariables false
theorem blks2 {W w1 : World} {c d : Array Value} {t u : TypeId} (hb : Below ((W.alloc (.cells c t)).alloc (.cells d u)).heap.size ((W.alloc (.cells c t)).alloc (.cells d u)) w1) :
  Blk w1 W.heap.size t c.toList ∧ Blk w1 (W.heap.size + 1) u d.toList := by
 have up : ∀ (w : World) (o : Obj), Below w.heap.size w (w.alloc o) := fun w o => (Below.refl _ _).alloc (Nat.le_refl _) o
 have h1 := ((Blk.new W c t).below (up _ (.cells d u))).below hb
 have h2 := (Blk.new (W.alloc (.cells c t)) d u).below hb
 simp only [World.size_alloc] at h1 h2
 exact ⟨h1, h2⟩
theorem rowI_at {B : Nat} {w : World} {a : Option Addr} {n c : Nat} {l : List Lm.It} {row : Option Nat} (h : OwnI B w (.slice a n c) l row) (hok : ∀ x ∈ l, okI x) : IRow w a c l := by
 obtain ⟨a', c', e, r⟩ := ownI_row h hok
 cases e; exact r
theorem rowD_at {B : Nat} {w : World} {a : Option Addr} {n c : Nat} {l : List Dt.Dot} {row : Option Nat} (h : OwnD B w (.slice a n c) l row) (hok : ∀ x ∈ l, Dt.okD x) : VRow w a c l := by
 obtain ⟨a', c', e, r⟩ := ownD_row h hok
 cases e; exact r
set_option maxRecDepth 100000 in
set_option maxHeartbeats 12800000 in
theorem own06_any (kk : Nat) (n : Int) (t r i s : Nat) (x : ByteArray) (ia : Option Addr) (il ic : Nat) (da : Option Addr) (dl dc : Nat) (li : List Lm.It) (ld : List Dt.Dot) (W : World) (hi : IRow W ia ic li) (hil : li.length = il) (hd : VRow W da dc ld) (hdl : ld.length = dl) (hn1 : il ≤ 1000 ∧ dl ≤ 1000) :
  Calls Try.prog 6 #[leafV kk n t r i s x ia il ic da dl dc] W fun e w' => (∃ aI cI aD cD rI rD, e = .returned (leafV kk n t r i s x aI il cI aD dl cD) ∧ OwnI W.heap.size w' (.slice aI il cI) li rI ∧ OwnD W.heap.size w' (.slice aD dl cD) ld rD) ∧ Below W.heap.size W w' := by
 have HN1 := Lib.hid hn1; clear hn1
 have hJB : ∀ (wa wb : World), Below wa.heap.size wa wb → (fun w : World => ∃ v7 v8, Blk w W.heap.size 31 [.int .u8 (kk : Int), .int .i64 n, .int .u64 (t : Int), .int .u8 (r : Int), .int .u32 (i : Int), .int .u64 (s : Int), .string x, v7, v8]) wa → (fun w : World => ∃ v7 v8, Blk w W.heap.size 31 [.int .u8 (kk : Int), .int .i64 n, .int .u64 (t : Int), .int .u8 (r : Int), .int .u32 (i : Int), .int .u64 (s : Int), .string x, v7, v8]) wb := fun wa wb hb hj => by
  obtain ⟨v7, v8, hj⟩ := hj
  exact ⟨v7, v8, hj.below hb⟩
 have HJ := Lib.hid hJB; clear hJB
 have HI := Lib.hid hi; have HIl := Lib.hid hil; have HD := Lib.hid hd; have HDl := Lib.hid hdl
 clear hi hil hd hdl
 have hW := below_box2 W #[.int .u8 (kk : Int), .int .i64 n, .int .u64 (t : Int), .int .u8 (r : Int), .int .u32 (i : Int), .int .u64 (s : Int), .string x, .slice ia il ic, .slice da dl dc] #[.int .u8 0, .int .i64 0, .int .u64 0, .int .u8 0, .int .u32 0, .int .u64 0, .string ⟨#[]⟩, .slice none 0 0, .slice none 0 0] 31 31
 obtain ⟨hL, hR⟩ := blks2 (Below.refl ((W.alloc (.cells #[.int .u8 (kk : Int), .int .i64 n, .int .u64 (t : Int), .int .u8 (r : Int), .int .u32 (i : Int), .int .u64 (s : Int), .string x, .slice ia il ic, .slice da dl dc] 31)).alloc (.cells #[.int .u8 0, .int .i64 0, .int .u64 0, .int .u8 0, .int .u32 0, .int .u64 0, .string ⟨#[]⟩, .slice none 0 0, .slice none 0 0] 31)).heap.size ((W.alloc (.cells #[.int .u8 (kk : Int), .int .i64 n, .int .u64 (t : Int), .int .u8 (r : Int), .int .u32 (i : Int), .int .u64 (s : Int), .string x, .slice ia il ic, .slice da dl dc] 31)).alloc (.cells #[.int .u8 0, .int .i64 0, .int .u64 0, .int .u8 0, .int .u32 0, .int .u64 0, .string ⟨#[]⟩, .slice none 0 0, .slice none 0 0] 31)))
 go_enter Try.func6, Try.ntmps6
 go_wp2_with fail
 obtain ⟨X, hX⟩ : ∃ X, X = ((W.alloc (.cells #[.int .u8 (kk : Int), .int .i64 n, .int .u64 (t : Int), .int .u8 (r : Int), .int .u32 (i : Int), .int .u64 (s : Int), .string x, .slice ia il ic, .slice da dl dc] 31)).alloc (.cells #[.int .u8 0, .int .i64 0, .int .u64 0, .int .u8 0, .int .u32 0, .int .u64 0, .string ⟨#[]⟩, .slice none 0 0, .slice none 0 0] 31)) := ⟨_, rfl⟩
 have HSx := Lib.hid (show X.heap.size = W.heap.size + 1 + 1 by rw [hX]; simp)
 rw [← hX] at hW hL hR ⊢
 have HW := Lib.hid hW; have HL := Lib.hid hL; have HR := Lib.hid hR; have HX := Lib.hid hX
 clear hX hW hL hR
 refine RegD.region_list (by kernel_rfl) (fun w : World => ∃ v7 v8, Blk w W.heap.size 31 [.int .u8 (kk : Int), .int .i64 n, .int .u64 (t : Int), .int .u8 (r : Int), .int .u32 (i : Int), .int .u64 (s : Int), .string x, v7, v8]) [9, 11] [9, 11] [RegD.plain (fun v _ => ∃ q : Addr, v = .slice (some q) 0 0), RegD.plain (fun v _ => v = .pointer (some ⟨W.heap.size, 7, none⟩)), RegD.plain (fun v _ => v = .slice ia il ic), RegD.plain (fun v w => ∃ row, OwnI W.heap.size w v li row ∧ row ≠ some W.heap.size), RegD.plain (fun v _ => ∃ q : Addr, v = .slice (some q) 0 0), RegD.plain (fun v _ => v = .pointer (some ⟨W.heap.size, 8, none⟩)), RegD.plain (fun v _ => v = .slice da dl dc), RegD.plain (fun v w => ∃ row, OwnD W.heap.size w v ld row ∧ row ≠ some W.heap.size), RegD.plain (fun v _ => v = .pointer (some ⟨W.heap.size, 7, none⟩)), RegD.change (fun v w => ∃ vI row v8, Blk w W.heap.size 31 [.int .u8 (kk : Int), .int .i64 n, .int .u64 (t : Int), .int .u8 (r : Int), .int .u32 (i : Int), .int .u64 (s : Int), .string x, vI, v8] ∧ OwnI W.heap.size w vI li row ∧ row ≠ some W.heap.size) (fun k => k = W.heap.size) (fun w w' => ∃ v, w' = w.setCell ⟨W.heap.size, 7, none⟩ v), RegD.plain (fun v _ => v = .pointer (some ⟨W.heap.size, 8, none⟩)), RegD.change (fun v w => ∃ v7 vD row, Blk w W.heap.size 31 [.int .u8 (kk : Int), .int .i64 n, .int .u64 (t : Int), .int .u8 (r : Int), .int .u32 (i : Int), .int .u64 (s : Int), .string x, v7, vD] ∧ OwnD W.heap.size w vD ld row ∧ row ≠ some W.heap.size) (fun k => k = W.heap.size) (fun w w' => ∃ v, w' = w.setCell ⟨W.heap.size, 8, none⟩ v)] (by kernel_rfl) (⟨_, _, HL.out⟩) (HJ.out) ?_ ?_ ?_ ?_ ?_ ?_
 ·exact ⟨Or.inr ⟨fun _ h => h, rfl⟩, Or.inr ⟨fun _ h => h, rfl⟩, Or.inr ⟨fun _ h => h, rfl⟩, Or.inr ⟨fun _ h => h, rfl⟩, Or.inr ⟨fun _ h => h, rfl⟩, Or.inr ⟨fun _ h => h, rfl⟩, Or.inr ⟨fun _ h => h, rfl⟩, Or.inr ⟨fun _ h => h, rfl⟩, Or.inr ⟨fun _ h => h, rfl⟩, Or.inl (by decide), Or.inr ⟨fun _ h => h, rfl⟩, Or.inl (by decide), trivial⟩
 ·exact ⟨⟨fun _ _ h => h, fun wx wy h => (HJ.out) wx wy (RegD.to_below h (fun _ h => h))⟩, ⟨fun _ _ h => h, fun wx wy h => (HJ.out) wx wy (RegD.to_below h (fun _ h => h))⟩, ⟨fun _ _ h => h, fun wx wy h => (HJ.out) wx wy (RegD.to_below h (fun _ h => h))⟩, ⟨fun _ _ h => h, fun wx wy h => (HJ.out) wx wy (RegD.to_below h (fun _ h => h))⟩, ⟨fun _ _ h => h, fun wx wy h => (HJ.out) wx wy (RegD.to_below h (fun _ h => h))⟩, ⟨fun _ _ h => h, fun wx wy h => (HJ.out) wx wy (RegD.to_below h (fun _ h => h))⟩, ⟨fun _ _ h => h, fun wx wy h => (HJ.out) wx wy (RegD.to_below h (fun _ h => h))⟩, ⟨fun _ _ h => h, fun wx wy h => (HJ.out) wx wy (RegD.to_below h (fun _ h => h))⟩, ⟨fun _ _ h => h, fun wx wy h => (HJ.out) wx wy (RegD.to_below h (fun _ h => h))⟩, ⟨(fun wa wb h => by obtain ⟨v, rfl⟩ := h; exact ((Chg.refl (fun k => k = W.heap.size) wa).set (Or.inr rfl) 7 _)), (fun wa wb h hj => by obtain ⟨v, rfl⟩ := h; obtain ⟨v7, v8, hj⟩ := hj; exact ⟨v, v8, hj.set 7 v⟩)⟩, ⟨fun _ _ h => h, fun wx wy h => (HJ.out) wx wy (RegD.to_below h (fun _ h => h))⟩, ⟨(fun wa wb h => by obtain ⟨v, rfl⟩ := h; exact ((Chg.refl (fun k => k = W.heap.size) wa).set (Or.inr rfl) 8 _)), (fun wa wb h hj => by obtain ⟨v, rfl⟩ := h; obtain ⟨v7, v8, hj⟩ := hj; exact ⟨v7, v, hj.set 8 v⟩)⟩, trivial⟩
 ·refine ⟨k4, k4, k4, (fun v wa wb hb h => by obtain ⟨row, h1, h2⟩ := h; exact ⟨row, h1.below hb, h2⟩), k4, k4, k4, (fun v wa wb hb h => by obtain ⟨row, h1, h2⟩ := h; exact ⟨row, h1.below hb, h2⟩), k4, (fun v wa wb hb h => by obtain ⟨vI, row, v8, h0, h1, h2⟩ := h; exact ⟨vI, row, v8, h0.below hb, h1.below hb, h2⟩), k4, (fun v wa wb hb h => by obtain ⟨v7, vD, row, h0, h1, h2⟩ := h; exact ⟨v7, vD, row, h0.below hb, h1.below hb, h2⟩), trivial⟩
 ·refine ⟨⟨Or.inr (Or.inr (Or.inr k4)), Or.inr (Or.inr (Or.inr k4)), Or.inr (Or.inr (Or.inr k4)), Or.inr (Or.inr (Or.inr (fun v wa wb hr h => by obtain ⟨q, rfl⟩ := hr; obtain ⟨row, h1, h2⟩ := h; exact ⟨row, h1.chg ((Chg.refl (fun k => k = W.heap.size) wa).set (Or.inr rfl) 7 _) (fun q e f => h2 (by rw [e, f])), h2⟩))), Or.inr (Or.inr (Or.inr k4)), Or.inr (Or.inr (Or.inr k4)), Or.inr (Or.inr (Or.inr k4)), Or.inr (Or.inr (Or.inr (fun v wa wb hr h => by obtain ⟨q, rfl⟩ := hr; obtain ⟨row, h1, h2⟩ := h; exact ⟨row, h1.chg ((Chg.refl (fun k => k = W.heap.size) wa).set (Or.inr rfl) 7 _) (fun q e f => h2 (by rw [e, f])), h2⟩))), Or.inr (Or.inr (Or.inr k4)), Or.inl rfl, Or.inr (Or.inr (Or.inr k4)), Or.inr (Or.inr (Or.inr (fun v wa wb hr h => by obtain ⟨q, rfl⟩ := hr; obtain ⟨v7, vD, row, h0, h1, h2⟩ := h; exact ⟨q, vD, row, h0.set 7 q, h1.chg ((Chg.refl (fun k => k = W.heap.size) wa).set (Or.inr rfl) 7 _) (fun q e f => h2 (by rw [e, f])), h2⟩))), trivial⟩, ⟨Or.inr (Or.inr (Or.inr k4)), Or.inr (Or.inr (Or.inr k4)), Or.inr (Or.inr (Or.inr k4)), Or.inr (Or.inr (Or.inr (fun v wa wb hr h => by obtain ⟨q, rfl⟩ := hr; obtain ⟨row, h1, h2⟩ := h; exact ⟨row, h1.chg ((Chg.refl (fun k => k = W.heap.size) wa).set (Or.inr rfl) 8 _) (fun q e f => h2 (by rw [e, f])), h2⟩))), Or.inr (Or.inr (Or.inr k4)), Or.inr (Or.inr (Or.inr k4)), Or.inr (Or.inr (Or.inr k4)), Or.inr (Or.inr (Or.inr (fun v wa wb hr h => by obtain ⟨q, rfl⟩ := hr; obtain ⟨row, h1, h2⟩ := h; exact ⟨row, h1.chg ((Chg.refl (fun k => k = W.heap.size) wa).set (Or.inr rfl) 8 _) (fun q e f => h2 (by rw [e, f])), h2⟩))), Or.inr (Or.inr (Or.inr k4)), Or.inr (Or.inr (Or.inr (fun v wa wb hr h => by obtain ⟨q, rfl⟩ := hr; obtain ⟨vI, row, v8, h0, h1, h2⟩ := h; exact ⟨vI, row, q, h0.set 8 q, h1.chg ((Chg.refl (fun k => k = W.heap.size) wa).set (Or.inr rfl) 8 _) (fun q e f => h2 (by rw [e, f])), h2⟩))), Or.inr (Or.inr (Or.inr k4)), Or.inl rfl, trivial⟩, trivial⟩
 ·refine ⟨?_, ?_, ?_, ?_, ?_, ?_, ?_, ?_, ?_, ?_, ?_, ?_, trivial⟩
  ·intro ev w hc hf hg hfix hdep hchg hinv
   exact Or.inl ⟨trivial, Or.inl ⟨.slice (some ⟨w.heap.size, 0, none⟩) 0 0, w.alloc (.cells #[] 41), by go_simp, ⟨_, rfl⟩, Chg.of_below (below_box _ _ _)⟩⟩
  ·intro ev w hc hf hg hfix hdep hchg hinv
   have e1 : ev (.tmp 1) = _ := hfix 1 (by decide)
   exact Or.inl ⟨trivial, Or.inl ⟨_, w, by go_simp, rfl, Chg.refl _ _⟩⟩
  ·intro ev w hc hf hg hfix hdep hchg hinv
   have e4 : ev (.tmp 4) = _ := hdep 1 (by decide)
   have d := (HL.out.below (RegD.chg0 (hchg [] (by kernel_rfl)))).cell 7
   simp only [List.getElem?_cons_succ, List.getElem?_cons_zero] at d
   exact Or.inl ⟨trivial, Or.inl ⟨_, w, by go_simp, rfl, Chg.refl _ _⟩⟩
  ·intro ev w hc hf hg hfix hdep hchg hinv
   have e3 := hdep 0 (by decide)
   have e5 : ev (.tmp 5) = _ := hdep 2 (by decide)
   obtain ⟨q, he⟩ := e3
   have he' : ev (.tmp 3) = .slice (some q) 0 0 := he
   have hb0 : Below X.heap.size X w := RegD.chg0 (hchg [] (by kernel_rfl))
   have hsz := hb0.size; have hsx := HSx.out
   have hs := srcI (HI.out.below (HW.out.trans (hb0.mono HW.out.size)))
   obtain ⟨v', w', row', h1, h2, h3, h4⟩ := appsI (.slice (some q) 0 0) none [] li (.slice ia il ic) W.heap.size w (Own.empty (by omega) _) (by rw [HIl.out] at hs ⊢; exact hs) (by have h1 := HIl.out; have h2 := HN1.out; simp; omega) 28
   rw [List.nil_append] at h2
   refine Or.inl ⟨trivial, Or.inl ⟨v', w', by simp [execOp, resolve, invoke, builtin, he', e5, h1, Result.andThen], ⟨row', h2, fun e => ?_⟩, (Chg.of_grown h3).mono (fun k _ e => by cases e)⟩⟩
   rcases h4 with h | ⟨k, h, hk⟩
   ·rw [h] at e; cases e
   ·rw [h] at e; have := Option.some.inj e; omega
  ·intro ev w hc hf hg hfix hdep hchg hinv
   exact Or.inl ⟨trivial, Or.inl ⟨.slice (some ⟨w.heap.size, 0, none⟩) 0 0, w.alloc (.cells #[] 27), by go_simp, ⟨_, rfl⟩, Chg.of_below (below_box _ _ _)⟩⟩
  ·intro ev w hc hf hg hfix hdep hchg hinv
   have e1 : ev (.tmp 1) = _ := hfix 1 (by decide)
   exact Or.inl ⟨trivial, Or.inl ⟨_, w, by go_simp, rfl, Chg.refl _ _⟩⟩
  ·intro ev w hc hf hg hfix hdep hchg hinv
   have e8 : ev (.tmp 8) = _ := hdep 5 (by decide)
   have d := (HL.out.below (RegD.chg0 (hchg [] (by kernel_rfl)))).cell 8
   simp only [List.getElem?_cons_succ, List.getElem?_cons_zero] at d
   exact Or.inl ⟨trivial, Or.inl ⟨_, w, by go_simp, rfl, Chg.refl _ _⟩⟩
  ·intro ev w hc hf hg hfix hdep hchg hinv
   have e7 := hdep 4 (by decide)
   have e9 : ev (.tmp 9) = _ := hdep 6 (by decide)
   obtain ⟨q, he⟩ := e7
   have he' : ev (.tmp 7) = .slice (some q) 0 0 := he
   have hb0 : Below X.heap.size X w := RegD.chg0 (hchg [] (by kernel_rfl))
   have hsz := hb0.size; have hsx := HSx.out
   have hs := srcD (HD.out.below (HW.out.trans (hb0.mono HW.out.size)))
   obtain ⟨v', w', row', h1, h2, h3, h4⟩ := appsD (.slice (some q) 0 0) none [] ld (.slice da dl dc) W.heap.size w (Own.empty (by omega) _) (by rw [HDl.out] at hs ⊢; exact hs) (by have h1 := HDl.out; have h2 := HN1.out; simp; omega) 29
   rw [List.nil_append] at h2
   refine Or.inl ⟨trivial, Or.inl ⟨v', w', by simp [execOp, resolve, invoke, builtin, he', e9, h1, Result.andThen], ⟨row', h2, fun e => ?_⟩, (Chg.of_grown h3).mono (fun k _ e => by cases e)⟩⟩
   rcases h4 with h | ⟨k, h, hk⟩
   ·rw [h] at e; cases e
   ·rw [h] at e; have := Option.some.inj e; omega
  ·intro ev w hc hf hg hfix hdep hchg hinv
   have e1 : ev (.tmp 1) = _ := hfix 1 (by decide)
   exact Or.inl ⟨trivial, Or.inl ⟨_, w, by go_simp, rfl, Chg.refl _ _⟩⟩
  ·intro ev w hc hf hg hfix hdep hchg hinv
   have e11 : ev (.tmp 11) = _ := hdep 8 (by decide)
   have e6 := hdep 3 (by decide)
   obtain ⟨row, h1, h2⟩ := e6
   obtain ⟨v7, v8, hj⟩ := hinv
   obtain ⟨a8, n8, m8, hv8⟩ := Own.slice h1
   have e6 : ev (.tmp 6) = .slice a8 n8 m8 := hv8
   rw [hv8] at h1
   have d := hj.cell 7; have y := hj.frozen 7
   simp only [List.getElem?_cons_succ, List.getElem?_cons_zero] at d
   exact Or.inl ⟨trivial, Or.inr (Or.inr ⟨w.setCell ⟨W.heap.size, 7, none⟩ (.slice a8 n8 m8), by go_simp, ⟨_, row, v8, hj.set 7 _, h1.chg ((Chg.refl (fun k => k = W.heap.size) w).set (Or.inr rfl) 7 _) (fun q e f => h2 (by rw [e, f])), h2⟩, ⟨_, rfl⟩⟩)⟩
  ·intro ev w hc hf hg hfix hdep hchg hinv
   have e1 : ev (.tmp 1) = _ := hfix 1 (by decide)
   exact Or.inl ⟨trivial, Or.inl ⟨_, w, by go_simp, rfl, Chg.refl _ _⟩⟩
  ·intro ev w hc hf hg hfix hdep hchg hinv
   have e12 : ev (.tmp 12) = _ := hdep 10 (by decide)
   have e10 := hdep 7 (by decide)
   obtain ⟨row, h1, h2⟩ := e10
   obtain ⟨v7, v8, hj⟩ := hinv
   obtain ⟨a8, n8, m8, hv8⟩ := Own.slice h1
   have e10 : ev (.tmp 10) = .slice a8 n8 m8 := hv8
   rw [hv8] at h1
   have d := hj.cell 8; have y := hj.frozen 8
   simp only [List.getElem?_cons_succ, List.getElem?_cons_zero] at d
   exact Or.inl ⟨trivial, Or.inr (Or.inr ⟨w.setCell ⟨W.heap.size, 8, none⟩ (.slice a8 n8 m8), by go_simp, ⟨v7, _, row, hj.set 8 _, h1.chg ((Chg.refl (fun k => k = W.heap.size) w).set (Or.inr rfl) 8 _) (fun q e f => h2 (by rw [e, f])), h2⟩, ⟨_, rfl⟩⟩)⟩
 ·intro v w2 hv hb2 hJ2
  have r9 := hv 9 (by decide) (by decide)
  have r11 := hv 11 (by decide) (by decide)
  simp only [Reg.putAll, Act.put, List.setIfInBounds_toArray, List.set_cons_zero, List.set_cons_succ]
  clear hv
  obtain ⟨vI, rI, v8, hg1, hoI, hnI⟩ := r9
  obtain ⟨v7, vD, rD, hg2, hoD, hnD⟩ := r11
  have hcs := (blk_same hg1 hg2).2
  have h8 : v8 = vD := by have := congrArg (fun l : List Value => l[8]?) hcs; simpa using this
  subst h8
  obtain ⟨aI, cI, hvI, hrI⟩ := ownI_row hoI HI.out.ok
  obtain ⟨aD, cD, hvD, hrD⟩ := ownD_row hoD HD.out.ok
  rw [HIl.out] at hvI; rw [HDl.out] at hvD
  subst hvI; subst hvD
  have hc4 : Chg (fun k => k = W.heap.size ∨ k = W.heap.size) X w2 := RegD.end2 hb2
  have hbw : Below W.heap.size W w2 := Chg.belowTrans HW.out hc4 (fun k hk e => by have : k = W.heap.size := e.elim id id; omega) HW.out.size
  have hRq := HR.out.chg hc4 (fun e => by have : W.heap.size + 1 = W.heap.size := e.elim id id; omega)
  have HBw := Lib.hid hbw; have HRq := Lib.hid hRq; have HRI := Lib.hid hrI; have HRD := Lib.hid hrD; have HG := Lib.hid hg1; have HoI := Lib.hid hoI; have HoD := Lib.hid hoD
  obtain ⟨p0, p1, p2, p3, p4, p5, p6, p7, p8⟩ := leafblk hg1
  obtain ⟨q0, q1, q2, q3, q4, q5, q6, q7, q8⟩ := leafblk hRq
  have hfq : ∀ j, w2.frozen? ⟨W.heap.size + 1, j, none⟩ = false := fun j => hRq.frozen j
  clear hg1 hg2 hoI hoD hnI hnD hcs hc4 hbw hb2 hJ2 hrI hrD hRq
  go_wp2_with fail
  have hc9 := chg9 w2 (W.heap.size + 1) (.int .u8 (kk : Int)) (.int .i64 n) (.int .u64 (t : Int)) (.int .u8 (r : Int)) (.int .u32 (i : Int)) (.int .u64 (s : Int)) (.string x) (.slice aI il cI) (.slice aD dl cD)
  have hfin := Chg.belowTrans HBw.out hc9 (fun k hk e => by have : k = W.heap.size + 1 := e; omega) HBw.out.size
  have HFin := Lib.hid hfin
  refine bodyPost_ret (v := leafV kk n t r i s x aI il cI aD dl cD) (res_leaf (b := W.heap.size + 1) Try.results6 (by simp) (blk9 HRq.out _ _ _ _ _ _ _ _ _)) rfl ⟨⟨aI, cI, aD, cD, rI, rD, rfl, ?_, ?_⟩, HFin.out⟩
  ·exact HoI.out.chg hc9 (fun k e e2 => ownI_ne HoI.out HRq.out (by decide) (by rw [e, e2]))
  ·exact HoD.out.chg hc9 (fun k e e2 => ownD_ne HoD.out HRq.out (by decide) (by rw [e, e2]))
set_option maxRecDepth 100000 in
set_option maxHeartbeats 6400000 in
theorem fpurge_a (kk : Nat) (n : Int) (t r i s : Nat) (x : ByteArray) (ia : Option Addr) (il ic : Nat) (da : Option Addr) (dl dc : Nat) (li : List Lm.It) (ld : List Dt.Dot) (W : World) (hi : IRow W ia ic li) (hil : li.length = il) (hd : VRow W da dc ld) (hdl : ld.length = dl) (hx : x.size ≤ 9223372036854775807) (hn : il ≤ 10000) (hm : dl ≤ 10000) (hmay : Lm.may ⟨kk, n, t, ((r, i), s), x, li, ld⟩ = false) :
  Calls Try.prog 9 #[leafV kk n t r i s x ia il ic da dl dc] W fun e w' => AE W.heap.size w' Lm.zeroL 2 e ∧ Below W.heap.size W w' := by
 have HMe := Lib.hid hmay; clear hmay
 have HI := Lib.hid hi; have HIl := Lib.hid hil; have HD := Lib.hid hd; have HDl := Lib.hid hdl
 clear hi hil hd hdl
 have hW := below_box2 W #[.int .u8 (kk : Int), .int .i64 n, .int .u64 (t : Int), .int .u8 (r : Int), .int .u32 (i : Int), .int .u64 (s : Int), .string x, .slice ia il ic, .slice da dl dc] #[.int .u8 0, .int .i64 0, .int .u64 0, .int .u8 0, .int .u32 0, .int .u64 0, .string ⟨#[]⟩, .slice none 0 0, .slice none 0 0] 31 31
 obtain ⟨hL, hR⟩ := blks2 (Below.refl ((W.alloc (.cells #[.int .u8 (kk : Int), .int .i64 n, .int .u64 (t : Int), .int .u8 (r : Int), .int .u32 (i : Int), .int .u64 (s : Int), .string x, .slice ia il ic, .slice da dl dc] 31)).alloc (.cells #[.int .u8 0, .int .i64 0, .int .u64 0, .int .u8 0, .int .u32 0, .int .u64 0, .string ⟨#[]⟩, .slice none 0 0, .slice none 0 0] 31)).heap.size ((W.alloc (.cells #[.int .u8 (kk : Int), .int .i64 n, .int .u64 (t : Int), .int .u8 (r : Int), .int .u32 (i : Int), .int .u64 (s : Int), .string x, .slice ia il ic, .slice da dl dc] 31)).alloc (.cells #[.int .u8 0, .int .i64 0, .int .u64 0, .int .u8 0, .int .u32 0, .int .u64 0, .string ⟨#[]⟩, .slice none 0 0, .slice none 0 0] 31)))
 go_enter Try.func9, Try.ntmps9
 go_wp2_with fail
 obtain ⟨X, hX⟩ : ∃ X, X = ((W.alloc (.cells #[.int .u8 (kk : Int), .int .i64 n, .int .u64 (t : Int), .int .u8 (r : Int), .int .u32 (i : Int), .int .u64 (s : Int), .string x, .slice ia il ic, .slice da dl dc] 31)).alloc (.cells #[.int .u8 0, .int .i64 0, .int .u64 0, .int .u8 0, .int .u32 0, .int .u64 0, .string ⟨#[]⟩, .slice none 0 0, .slice none 0 0] 31)) := ⟨_, rfl⟩
 have HSx := Lib.hid (show X.heap.size = W.heap.size + 1 + 1 by rw [hX]; simp)
 rw [← hX] at hW hL hR ⊢
 have HW := Lib.hid hW; have HL := Lib.hid hL; have HR := Lib.hid hR; have HX := Lib.hid hX
 clear hX hW hL hR
 refine (leafmay_any kk n t r i s x ia il ic da dl dc li ld _ (HI.out.below HW.out) HIl.out (HD.out.below HW.out) HDl.out hx (by omega)).mono ?_
 rintro e w1 ⟨rfl, hb⟩
 rw [HMe.out]
 have HW1 := Lib.hid (HW.out.trans (hb.mono HW.out.size)); have HL1 := Lib.hid (HL.out.below hb); have HR1 := Lib.hid (HR.out.below hb)
 clear hb
 obtain ⟨q0, q1, q2, q3, q4, q5, q6, q7, q8⟩ := leafblk HR1.out
 have hfq : ∀ j, w1.frozen? ⟨W.heap.size + 1, j, none⟩ = false := fun j => HR1.out.frozen j
 go_wp2_with fail
 have hc9 := chg9 w1 (W.heap.size + 1) (.int .u8 0) (.int .i64 0) (.int .u64 0) (.int .u8 0) (.int .u32 0) (.int .u64 0) (.string ⟨#[]⟩) (.slice none 0 0) (.slice none 0 0)
 have hfin := Chg.belowTrans HW1.out hc9 (fun k hk e => by have : k = W.heap.size + 1 := e; omega) HW1.out.size
 have HFin := Lib.hid hfin
 refine bodyPost_ret (v := .tuple #[.agg #[.int .u8 0, .int .i64 0, .int .u64 0, .int .u8 0, .int .u32 0, .int .u64 0, .string ⟨#[]⟩, .slice none 0 0, .slice none 0 0], .int .i64 2]) (res_leaf2 (b := W.heap.size + 1) Try.results9 (by simp) (by simp) (blk9 HR1.out _ _ _ _ _ _ _ _ _)) rfl ⟨⟨_, none, _, none, rfl, Own.empty hfin.size none, Own.empty hfin.size none⟩, HFin.out⟩
set_option maxRecDepth 100000 in
set_option maxHeartbeats 6400000 in
theorem fpurge_b (kk : Nat) (n : Int) (t r i s : Nat) (x : ByteArray) (ia : Option Addr) (il ic : Nat) (da : Option Addr) (dl dc : Nat) (li : List Lm.It) (ld : List Dt.Dot) (W : World) (hi : IRow W ia ic li) (hil : li.length = il) (hd : VRow W da dc ld) (hdl : ld.length = dl) (hx : x.size ≤ 9223372036854775807) (hn : il ≤ 10000) (hm : dl ≤ 10000) (hmay : Lm.may ⟨kk, n, t, ((r, i), s), x, li, ld⟩ = true) :
  Calls Try.prog 9 #[leafV kk n t r i s x ia il ic da dl dc] W fun e w' => AE W.heap.size w' ⟨kk, n, t, ((r, i), s), x, li, []⟩ 0 e ∧ Below W.heap.size W w' := by
 have HMe := Lib.hid hmay; clear hmay
 have HI := Lib.hid hi; have HIl := Lib.hid hil; have HD := Lib.hid hd; have HDl := Lib.hid hdl
 clear hi hil hd hdl
 have hW := below_box2 W #[.int .u8 (kk : Int), .int .i64 n, .int .u64 (t : Int), .int .u8 (r : Int), .int .u32 (i : Int), .int .u64 (s : Int), .string x, .slice ia il ic, .slice da dl dc] #[.int .u8 0, .int .i64 0, .int .u64 0, .int .u8 0, .int .u32 0, .int .u64 0, .string ⟨#[]⟩, .slice none 0 0, .slice none 0 0] 31 31
 obtain ⟨hL, hR⟩ := blks2 (Below.refl ((W.alloc (.cells #[.int .u8 (kk : Int), .int .i64 n, .int .u64 (t : Int), .int .u8 (r : Int), .int .u32 (i : Int), .int .u64 (s : Int), .string x, .slice ia il ic, .slice da dl dc] 31)).alloc (.cells #[.int .u8 0, .int .i64 0, .int .u64 0, .int .u8 0, .int .u32 0, .int .u64 0, .string ⟨#[]⟩, .slice none 0 0, .slice none 0 0] 31)).heap.size ((W.alloc (.cells #[.int .u8 (kk : Int), .int .i64 n, .int .u64 (t : Int), .int .u8 (r : Int), .int .u32 (i : Int), .int .u64 (s : Int), .string x, .slice ia il ic, .slice da dl dc] 31)).alloc (.cells #[.int .u8 0, .int .i64 0, .int .u64 0, .int .u8 0, .int .u32 0, .int .u64 0, .string ⟨#[]⟩, .slice none 0 0, .slice none 0 0] 31)))
 go_enter Try.func9, Try.ntmps9
 go_wp2_with fail
 obtain ⟨X, hX⟩ : ∃ X, X = ((W.alloc (.cells #[.int .u8 (kk : Int), .int .i64 n, .int .u64 (t : Int), .int .u8 (r : Int), .int .u32 (i : Int), .int .u64 (s : Int), .string x, .slice ia il ic, .slice da dl dc] 31)).alloc (.cells #[.int .u8 0, .int .i64 0, .int .u64 0, .int .u8 0, .int .u32 0, .int .u64 0, .string ⟨#[]⟩, .slice none 0 0, .slice none 0 0] 31)) := ⟨_, rfl⟩
 have HSx := Lib.hid (show X.heap.size = W.heap.size + 1 + 1 by rw [hX]; simp)
 rw [← hX] at hW hL hR ⊢
 have HW := Lib.hid hW; have HL := Lib.hid hL; have HR := Lib.hid hR; have HX := Lib.hid hX
 clear hX hW hL hR
 refine (leafmay_any kk n t r i s x ia il ic da dl dc li ld _ (HI.out.below HW.out) HIl.out (HD.out.below HW.out) HDl.out hx (by omega)).mono ?_
 rintro e w1 ⟨rfl, hb⟩
 rw [HMe.out]
 have HW1 := Lib.hid (HW.out.trans (hb.mono HW.out.size)); have HL1 := Lib.hid (HL.out.below hb); have HR1 := Lib.hid (HR.out.below hb)
 clear hb
 obtain ⟨p0, p1, p2, p3, p4, p5, p6, p7, p8⟩ := leafblk HL1.out
 go_wp2_with fail
 clear p0 p1 p2 p3 p4 p5 p6 p7 p8
 refine (cloneI_any ia il ic li w1 (HI.out.below HW1.out) HIl.out (by omega)).mono ?_
 rintro e w2 ⟨⟨v2, row, rfl, hO⟩, hb⟩
 obtain ⟨va, vn, vc, rfl⟩ := Own.slice hO
 have hL := HL1.out.below hb; have hR := HR1.out.below hb; have hW := HW1.out.trans (hb.mono HW1.out.size)
 obtain ⟨p0, p1, p2, p3, p4, p5, p6, p7, p8⟩ := leafblk hL
 obtain ⟨q0, q1, q2, q3, q4, q5, q6, q7, q8⟩ := leafblk hR
 have hfp : ∀ j, w2.frozen? ⟨W.heap.size, j, none⟩ = false := fun j => hL.frozen j
 have hfq : ∀ j, w2.frozen? ⟨W.heap.size + 1, j, none⟩ = false := fun j => hR.frozen j
 have HO := Lib.hid hO; have HL2 := Lib.hid hL; have HR2 := Lib.hid hR; have HW2 := Lib.hid hW
 clear hO hL hR hW hb
 go_wp2_with fail
 clear p0 q0 p1 q1 p2 q2 p3 q3 p4 q4 p5 q5 p6 q6 p7 q7 p8 q8 hfp hfq
 have hcS : Chg (fun k => k = W.heap.size) w2 ((w2.setCell ⟨W.heap.size, 7, none⟩ (.slice va vn vc)).setCell ⟨W.heap.size, 8, none⟩ (.slice none 0 0)) := ((Chg.refl (fun k => k = W.heap.size) w2).set (Or.inr rfl) 7 _).set (Or.inr rfl) 8 _
 have hR3 := HR2.out.chg hcS (fun e => by have : W.heap.size + 1 = W.heap.size := e; omega)
 have hO3 := HO.out.chg hcS (fun k e e2 => ownI_ne HO.out HL2.out (by decide) (by rw [e, e2]))
 have hb3 := Chg.belowTrans HW2.out hcS (fun k hk e => by have : k = W.heap.size := e; omega) HW2.out.size
 have hc9 := chg9 ((w2.setCell ⟨W.heap.size, 7, none⟩ (.slice va vn vc)).setCell ⟨W.heap.size, 8, none⟩ (.slice none 0 0)) (W.heap.size + 1) (.int .u8 (kk : Int)) (.int .i64 n) (.int .u64 (t : Int)) (.int .u8 (r : Int)) (.int .u32 (i : Int)) (.int .u64 (s : Int)) (.string x) (.slice va vn vc) (.slice none 0 0)
 have hfin := Chg.belowTrans hb3 hc9 (fun k hk e => by have : k = W.heap.size + 1 := e; omega) hb3.size
 have hO4 := hO3.chg hc9 (fun k e e2 => ownI_ne hO3 hR3 (by decide) (by rw [e, e2]))
 have hR4 := blk9 hR3 (.int .u8 (kk : Int)) (.int .i64 n) (.int .u64 (t : Int)) (.int .u8 (r : Int)) (.int .u32 (i : Int)) (.int .u64 (s : Int)) (.string x) (.slice va vn vc) (.slice none 0 0)
 refine bodyPost_ret (v := .tuple #[.agg #[.int .u8 (kk : Int), .int .i64 n, .int .u64 (t : Int), .int .u8 (r : Int), .int .u32 (i : Int), .int .u64 (s : Int), .string x, .slice va vn vc, .slice none 0 0], .int .i64 0]) (res_leaf2 (b := W.heap.size + 1) Try.results9 (by simp) (by simp) hR4) rfl ⟨⟨_, row, _, none, rfl, hO4.base HW1.out.size, Own.empty hfin.size none⟩, hfin⟩
theorem fpurge_any (kk : Nat) (n : Int) (t r i s : Nat) (x : ByteArray) (ia : Option Addr) (il ic : Nat) (da : Option Addr) (dl dc : Nat) (li : List Lm.It) (ld : List Dt.Dot) (W : World) (hi : IRow W ia ic li) (hil : li.length = il) (hd : VRow W da dc ld) (hdl : ld.length = dl) (hx : x.size ≤ 9223372036854775807) (hn : il ≤ 10000) (hm : dl ≤ 10000) :
  Calls Try.prog 9 #[leafV kk n t r i s x ia il ic da dl dc] W fun e w' => AE W.heap.size w' (Lm.purge ⟨kk, n, t, ((r, i), s), x, li, ld⟩).1 (Lm.purge ⟨kk, n, t, ((r, i), s), x, li, ld⟩).2 e ∧ Below W.heap.size W w' := by
 unfold Lm.purge
 cases hmay : Lm.may ⟨kk, n, t, ((r, i), s), x, li, ld⟩ with
 | false => exact fpurge_a kk n t r i s x ia il ic da dl dc li ld W hi hil hd hdl hx hn hm hmay
 | true => exact fpurge_b kk n t r i s x ia il ic da dl dc li ld W hi hil hd hdl hx hn hm hmay
def RE6 (w : World) (L : Lm.L) (err : Int) (e : Ending) : Prop := ∃ ia ic da dc, e = .returned (.tuple #[.agg #[.int .u8 (L.kind : Int), .int .i64 L.n, .int .u64 (L.time : Int), .int .u8 (L.dot.1.1 : Int), .int .u32 (L.dot.1.2 : Int), .int .u64 (L.dot.2 : Int), .string L.text, .slice ia L.items.length ic, .slice da L.tombs.length dc], .int .i64 err]) ∧ IRow w ia ic L.items ∧ VRow w da dc L.tombs
set_option maxRecDepth 100000 in
set_option maxHeartbeats 6400000 in
theorem rpurge_a (kk : Nat) (n : Int) (t r i s : Nat) (x : ByteArray) (ia : Option Addr) (il ic : Nat) (da : Option Addr) (dl dc : Nat) (li : List Lm.It) (ld : List Dt.Dot) (W : World) (hi : IRow W ia ic li) (hil : li.length = il) (hd : VRow W da dc ld) (hdl : ld.length = dl) (hx : x.size ≤ 9223372036854775807) (hn : il ≤ 10000) (hm : dl ≤ 10000) (hmay : Lm.may ⟨kk, n, t, ((r, i), s), x, li, ld⟩ = false) :
  Calls Try.prog 10 #[leafV kk n t r i s x ia il ic da dl dc] W fun e w' => RE6 w' Lm.zeroL 2 e ∧ Below W.heap.size W w' := by
 have HMe := Lib.hid hmay; clear hmay
 have HI := Lib.hid hi; have HIl := Lib.hid hil; have HD := Lib.hid hd; have HDl := Lib.hid hdl
 clear hi hil hd hdl
 have hW := below_box2 W #[.int .u8 (kk : Int), .int .i64 n, .int .u64 (t : Int), .int .u8 (r : Int), .int .u32 (i : Int), .int .u64 (s : Int), .string x, .slice ia il ic, .slice da dl dc] #[.int .u8 0, .int .i64 0, .int .u64 0, .int .u8 0, .int .u32 0, .int .u64 0, .string ⟨#[]⟩, .slice none 0 0, .slice none 0 0] 31 31
 obtain ⟨hL, hR⟩ := blks2 (Below.refl ((W.alloc (.cells #[.int .u8 (kk : Int), .int .i64 n, .int .u64 (t : Int), .int .u8 (r : Int), .int .u32 (i : Int), .int .u64 (s : Int), .string x, .slice ia il ic, .slice da dl dc] 31)).alloc (.cells #[.int .u8 0, .int .i64 0, .int .u64 0, .int .u8 0, .int .u32 0, .int .u64 0, .string ⟨#[]⟩, .slice none 0 0, .slice none 0 0] 31)).heap.size ((W.alloc (.cells #[.int .u8 (kk : Int), .int .i64 n, .int .u64 (t : Int), .int .u8 (r : Int), .int .u32 (i : Int), .int .u64 (s : Int), .string x, .slice ia il ic, .slice da dl dc] 31)).alloc (.cells #[.int .u8 0, .int .i64 0, .int .u64 0, .int .u8 0, .int .u32 0, .int .u64 0, .string ⟨#[]⟩, .slice none 0 0, .slice none 0 0] 31)))
 go_enter Try.func10, Try.ntmps10
 go_wp2_with fail
 obtain ⟨X, hX⟩ : ∃ X, X = ((W.alloc (.cells #[.int .u8 (kk : Int), .int .i64 n, .int .u64 (t : Int), .int .u8 (r : Int), .int .u32 (i : Int), .int .u64 (s : Int), .string x, .slice ia il ic, .slice da dl dc] 31)).alloc (.cells #[.int .u8 0, .int .i64 0, .int .u64 0, .int .u8 0, .int .u32 0, .int .u64 0, .string ⟨#[]⟩, .slice none 0 0, .slice none 0 0] 31)) := ⟨_, rfl⟩
 have HSx := Lib.hid (show X.heap.size = W.heap.size + 1 + 1 by rw [hX]; simp)
 rw [← hX] at hW hL hR ⊢
 have HW := Lib.hid hW; have HL := Lib.hid hL; have HR := Lib.hid hR; have HX := Lib.hid hX
 clear hX hW hL hR
 refine (refmay05_any kk n t r i s x ia il ic da dl dc li ld _ (HI.out.below HW.out) HIl.out (HD.out.below HW.out) HDl.out hx (by omega) (by omega)).mono ?_
 rintro e w1 ⟨rfl, hb⟩
 rw [HMe.out]
 have HW1 := Lib.hid (HW.out.trans (hb.mono HW.out.size)); have HL1 := Lib.hid (HL.out.below hb); have HR1 := Lib.hid (HR.out.below hb)
 clear hb
 obtain ⟨q0, q1, q2, q3, q4, q5, q6, q7, q8⟩ := leafblk HR1.out
 have hfq : ∀ j, w1.frozen? ⟨W.heap.size + 1, j, none⟩ = false := fun j => HR1.out.frozen j
 go_wp2_with fail
 have hc9 := chg9 w1 (W.heap.size + 1) (.int .u8 0) (.int .i64 0) (.int .u64 0) (.int .u8 0) (.int .u32 0) (.int .u64 0) (.string ⟨#[]⟩) (.slice none 0 0) (.slice none 0 0)
 have hfin := Chg.belowTrans HW1.out hc9 (fun k hk e => by have : k = W.heap.size + 1 := e; omega) HW1.out.size
 have HFin := Lib.hid hfin
 refine bodyPost_ret (v := .tuple #[.agg #[.int .u8 0, .int .i64 0, .int .u64 0, .int .u8 0, .int .u32 0, .int .u64 0, .string ⟨#[]⟩, .slice none 0 0, .slice none 0 0], .int .i64 2]) (res_leaf2 (b := W.heap.size + 1) Try.results10 (by simp) (by simp) (blk9 HR1.out _ _ _ _ _ _ _ _ _)) rfl ⟨⟨_, _, _, _, rfl, IRow.nil _, VRow.nil _⟩, HFin.out⟩
set_option maxRecDepth 100000 in
set_option maxHeartbeats 6400000 in
theorem rpurge_b (kk : Nat) (n : Int) (t r i s : Nat) (x : ByteArray) (ia : Option Addr) (il ic : Nat) (da : Option Addr) (dl dc : Nat) (li : List Lm.It) (ld : List Dt.Dot) (W : World) (hi : IRow W ia ic li) (hil : li.length = il) (hd : VRow W da dc ld) (hdl : ld.length = dl) (hx : x.size ≤ 9223372036854775807) (hn : il ≤ 10000) (hm : dl ≤ 10000) (hmay : Lm.may ⟨kk, n, t, ((r, i), s), x, li, ld⟩ = true) :
  Calls Try.prog 10 #[leafV kk n t r i s x ia il ic da dl dc] W fun e w' => RE6 w' ⟨kk, n, t, ((r, i), s), x, li, []⟩ 0 e ∧ Below W.heap.size W w' := by
 have HMe := Lib.hid hmay; clear hmay
 have HI := Lib.hid hi; have HIl := Lib.hid hil; have HD := Lib.hid hd; have HDl := Lib.hid hdl
 clear hi hil hd hdl
 have hW := below_box2 W #[.int .u8 (kk : Int), .int .i64 n, .int .u64 (t : Int), .int .u8 (r : Int), .int .u32 (i : Int), .int .u64 (s : Int), .string x, .slice ia il ic, .slice da dl dc] #[.int .u8 0, .int .i64 0, .int .u64 0, .int .u8 0, .int .u32 0, .int .u64 0, .string ⟨#[]⟩, .slice none 0 0, .slice none 0 0] 31 31
 obtain ⟨hL, hR⟩ := blks2 (Below.refl ((W.alloc (.cells #[.int .u8 (kk : Int), .int .i64 n, .int .u64 (t : Int), .int .u8 (r : Int), .int .u32 (i : Int), .int .u64 (s : Int), .string x, .slice ia il ic, .slice da dl dc] 31)).alloc (.cells #[.int .u8 0, .int .i64 0, .int .u64 0, .int .u8 0, .int .u32 0, .int .u64 0, .string ⟨#[]⟩, .slice none 0 0, .slice none 0 0] 31)).heap.size ((W.alloc (.cells #[.int .u8 (kk : Int), .int .i64 n, .int .u64 (t : Int), .int .u8 (r : Int), .int .u32 (i : Int), .int .u64 (s : Int), .string x, .slice ia il ic, .slice da dl dc] 31)).alloc (.cells #[.int .u8 0, .int .i64 0, .int .u64 0, .int .u8 0, .int .u32 0, .int .u64 0, .string ⟨#[]⟩, .slice none 0 0, .slice none 0 0] 31)))
 go_enter Try.func10, Try.ntmps10
 go_wp2_with fail
 obtain ⟨X, hX⟩ : ∃ X, X = ((W.alloc (.cells #[.int .u8 (kk : Int), .int .i64 n, .int .u64 (t : Int), .int .u8 (r : Int), .int .u32 (i : Int), .int .u64 (s : Int), .string x, .slice ia il ic, .slice da dl dc] 31)).alloc (.cells #[.int .u8 0, .int .i64 0, .int .u64 0, .int .u8 0, .int .u32 0, .int .u64 0, .string ⟨#[]⟩, .slice none 0 0, .slice none 0 0] 31)) := ⟨_, rfl⟩
 have HSx := Lib.hid (show X.heap.size = W.heap.size + 1 + 1 by rw [hX]; simp)
 rw [← hX] at hW hL hR ⊢
 have HW := Lib.hid hW; have HL := Lib.hid hL; have HR := Lib.hid hR; have HX := Lib.hid hX
 clear hX hW hL hR
 refine (refmay05_any kk n t r i s x ia il ic da dl dc li ld _ (HI.out.below HW.out) HIl.out (HD.out.below HW.out) HDl.out hx (by omega) (by omega)).mono ?_
 rintro e w1 ⟨rfl, hb⟩
 rw [HMe.out]
 have HW1 := Lib.hid (HW.out.trans (hb.mono HW.out.size)); have HL1 := Lib.hid (HL.out.below hb); have HR1 := Lib.hid (HR.out.below hb)
 clear hb
 obtain ⟨p0, p1, p2, p3, p4, p5, p6, p7, p8⟩ := leafblk HL1.out
 have hup : Below w1.heap.size w1 (w1.alloc (.cells #[] 41)) := (Below.refl _ _).alloc (Nat.le_refl _) _
 obtain ⟨m0, m1, m2, m3, m4, m5, m6, m7, m8⟩ := leafblk (HL1.out.below hup)
 have hs := srcI ((HI.out.below HW1.out).below hup)
 rw [HIl.out] at hs
 obtain ⟨v', w2, row, h1, h2, h3, h4⟩ := appsI (.slice (some ⟨w1.heap.size, 0, none⟩) 0 0) none [] li (.slice ia il ic) w1.heap.size _ (Own.empty hup.size _) (by rw [HIl.out]; exact hs) (by rw [HIl.out]; simp; omega) 28
 rw [List.nil_append] at h2
 have hb := hup.grown h3 hup.size (fun b e => by cases e)
 obtain ⟨va, vc, rfl, hrow⟩ := ownI_row h2 HI.out.ok
 rw [HIl.out] at h1 h2
 have hL := HL1.out.below hb; have hR := HR1.out.below hb; have hW := HW1.out.trans (hb.mono HW1.out.size)
 obtain ⟨o0, o1, o2, o3, o4, o5, o6, o7, o8⟩ := leafblk hL
 obtain ⟨q0, q1, q2, q3, q4, q5, q6, q7, q8⟩ := leafblk hR
 have hfp : ∀ j, w2.frozen? ⟨W.heap.size, j, none⟩ = false := fun j => hL.frozen j
 have hfq : ∀ j, w2.frozen? ⟨W.heap.size + 1, j, none⟩ = false := fun j => hR.frozen j
 have HO := Lib.hid h2; have HL2 := Lib.hid hL; have HR2 := Lib.hid hR; have HW2 := Lib.hid hW
 clear h2 h3 h4 hL hR hW hb hrow hs hup
 go_wp2_with (at_builtin; refine Lib.wpList_append_run _ rfl _ _ _ _ rfl _ _ rfl rfl _ _ h1 ?_)
 clear p0 q0 o0 m0 p1 q1 o1 m1 p2 q2 o2 m2 p3 q3 o3 m3 p4 q4 o4 m4 p5 q5 o5 m5 p6 q6 o6 m6 p7 q7 o7 m7 p8 q8 o8 m8 hfp hfq h1
 have hcS : Chg (fun k => k = W.heap.size) w2 ((w2.setCell ⟨W.heap.size, 7, none⟩ (.slice va il vc)).setCell ⟨W.heap.size, 8, none⟩ (.slice none 0 0)) := ((Chg.refl (fun k => k = W.heap.size) w2).set (Or.inr rfl) 7 _).set (Or.inr rfl) 8 _
 have hR3 := HR2.out.chg hcS (fun e => by have : W.heap.size + 1 = W.heap.size := e; omega)
 have hO3 := HO.out.chg hcS (fun k e e2 => ownI_ne HO.out HL2.out (by decide) (by rw [e, e2]))
 have hb3 := Chg.belowTrans HW2.out hcS (fun k hk e => by have : k = W.heap.size := e; omega) HW2.out.size
 have hc9 := chg9 ((w2.setCell ⟨W.heap.size, 7, none⟩ (.slice va il vc)).setCell ⟨W.heap.size, 8, none⟩ (.slice none 0 0)) (W.heap.size + 1) (.int .u8 (kk : Int)) (.int .i64 n) (.int .u64 (t : Int)) (.int .u8 (r : Int)) (.int .u32 (i : Int)) (.int .u64 (s : Int)) (.string x) (.slice va il vc) (.slice none 0 0)
 have hfin := Chg.belowTrans hb3 hc9 (fun k hk e => by have : k = W.heap.size + 1 := e; omega) hb3.size
 have hO4 := hO3.chg hc9 (fun k e e2 => ownI_ne hO3 hR3 (by decide) (by rw [e, e2]))
 have hR4 := blk9 hR3 (.int .u8 (kk : Int)) (.int .i64 n) (.int .u64 (t : Int)) (.int .u8 (r : Int)) (.int .u32 (i : Int)) (.int .u64 (s : Int)) (.string x) (.slice va il vc) (.slice none 0 0)
 refine bodyPost_ret (v := .tuple #[.agg #[.int .u8 (kk : Int), .int .i64 n, .int .u64 (t : Int), .int .u8 (r : Int), .int .u32 (i : Int), .int .u64 (s : Int), .string x, .slice va il vc, .slice none 0 0], .int .i64 0]) (res_leaf2 (b := W.heap.size + 1) Try.results10 (by simp) (by simp) hR4) rfl ⟨⟨va, vc, none, 0, by rw [HIl.out]; rfl, rowI_at hO4 HI.out.ok, VRow.nil _⟩, hfin⟩
theorem rpurge_any (kk : Nat) (n : Int) (t r i s : Nat) (x : ByteArray) (ia : Option Addr) (il ic : Nat) (da : Option Addr) (dl dc : Nat) (li : List Lm.It) (ld : List Dt.Dot) (W : World) (hi : IRow W ia ic li) (hil : li.length = il) (hd : VRow W da dc ld) (hdl : ld.length = dl) (hx : x.size ≤ 9223372036854775807) (hn : il ≤ 10000) (hm : dl ≤ 10000) :
  Calls Try.prog 10 #[leafV kk n t r i s x ia il ic da dl dc] W fun e w' => RE6 w' (Lm.purge ⟨kk, n, t, ((r, i), s), x, li, ld⟩).1 (Lm.purge ⟨kk, n, t, ((r, i), s), x, li, ld⟩).2 e ∧ Below W.heap.size W w' := by
 unfold Lm.purge
 cases hmay : Lm.may ⟨kk, n, t, ((r, i), s), x, li, ld⟩ with
 | false => exact rpurge_a kk n t r i s x ia il ic da dl dc li ld W hi hil hd hdl hx hn hm hmay
 | true => exact rpurge_b kk n t r i s x ia il ic da dl dc li ld W hi hil hd hdl hx hn hm hmay
def GreatL6 (li : List Lm.It) (ld : List Dt.Dot) (e : Ending) : Prop := ∃ b : Bool, e = .returned (.bool b) ∧ (b = false → li.length ≤ 100 ∧ ld.length ≤ 100)
set_option maxRecDepth 100000 in
set_option maxHeartbeats 3200000 in
theorem great06_any (kk : Nat) (n : Int) (t r i s : Nat) (x : ByteArray) (ia : Option Addr) (il ic : Nat) (da : Option Addr) (dl dc : Nat) (li : List Lm.It) (ld : List Dt.Dot) (W : World) (hi : IRow W ia ic li) (hil : li.length = il) (hd : VRow W da dc ld) (hdl : ld.length = dl) :
  Calls Try.prog 4 #[leafV kk n t r i s x ia il ic da dl dc] W fun e w' => GreatL6 li ld e ∧ Below W.heap.size W w' := by
 have hle := hi.le
 have hcap := hi.cap
 rw [hil] at hle
 have hdle := hd.le
 have hdcap := hd.cap
 rw [hdl] at hdle
 have HR := Lib.hid hi; have HL := Lib.hid hil; have HDl := Lib.hid hdl
 have HBox := Lib.hid (below_box W #[.int .u8 (kk : Int), .int .i64 n, .int .u64 (t : Int), .int .u8 (r : Int), .int .u32 (i : Int), .int .u64 (s : Int), .string x, .slice ia il ic, .slice da dl dc] 31)
 clear hi hil hd hdl
 go_enter Try.func4, Try.ntmps4
 go_wp2_with fail
 go_loopw [3, 4, 11] (fun v _ u wr => ∃ (j : Nat) (z : Int), j ≤ il ∧ u = .int .i64 j ∧ v = .int .i64 z ∧ Below (W.alloc (.cells #[.int .u8 (kk : Int), .int .i64 n, .int .u64 (t : Int), .int .u8 (r : Int), .int .u32 (i : Int), .int .u64 (s : Int), .string x, .slice ia il ic, .slice da dl dc] 31)).heap.size (W.alloc (.cells #[.int .u8 (kk : Int), .int .i64 n, .int .u64 (t : Int), .int .u8 (r : Int), .int .u32 (i : Int), .int .u64 (s : Int), .string x, .slice ia il ic, .slice da dl dc] 31)) wr) (fun _ _ u _ => il - (intOf u).toNat)
 case atStart => exact ⟨0, _, Nat.zero_le _, rfl, rfl, Below.refl _ _⟩
 case round =>
  obtain ⟨j, z, hj, rfl, rfl, hbel⟩ := hrel
  obtain ⟨c0, c1, c2, c3, c4, c5, c6, c7, c8⟩ := leafcells hbel
  have HBel := Lib.hid hbel; clear hbel
  by_cases hlt : j < il
  ·obtain ⟨y, hy⟩ := geti_some (l := li) (i := j) (by rw [HL.out]; exact hlt)
   obtain ⟨blk, off, rfl, hblk, hcells⟩ := HR.out.at (by rw [HL.out]; omega)
   obtain ⟨g0, g1, g2, g3, g4⟩ := hcells j y hy
   have q4 := ((HBox.out.trans (HBel.out.mono HBox.out.size)).cell (p := ⟨blk, off + j * 5 + 4, none⟩) hblk).trans g4
   clear hcells hy g0 g1 g2 g3 g4
   have i0 : (0 : Int) ≤ (j : Int) := by omega
   have i1 : (j : Int) < (il : Int) := by omega
   have hw1 : IntKind.i64.wrap ((j : Int) + 1) = (j : Int) + 1 := by simp [IntKind.wrap, IntKind.bits, IntKind.signed]; omega
   go_wp2_with fail
   go_roundw
   case rel => exact ⟨j + 1, _, by omega, by go_num, rfl, HBel.out⟩
   case measure => simp [intOf]; omega
  ·go_wp2_with fail
   all_goals
    go_ret
    refine ⟨⟨_, ret_bool rfl, fun h => ?_⟩, HBox.out.trans (HBel.out.mono HBox.out.size)⟩
    have h1 := HL.out; have h2 := HDl.out
    simp at *
    try omega
end Go.Proofs.Ytmnblimnoaockaa
