import Derived.Test.YtplafpchgfjomaaZSt1
import Derived.Test.YtplafpchgfjomaaZOwn
import Derived.Test.YtplafpchgfjomaaZRegH
import Derived.Test.YtplafpchgfjomaaZCode3
import Derived.Test.YtplafpchgfjomaaZBuf
namespace Go.Proofs.Ytplafpchgfjomaa
open Go.RowKit Go.Buf Go.LB
set_option linter.unusedSimpArgs false
set_option linter.unusedVariables false
def NewH (H : Nat) (row row' : Option Nat) : Prop := row' = row ∨ ∃ k, row' = some k ∧ H ≤ k
theorem NewH.step {H : Nat} {row row1 row2 : Option Nat} {w : World} (h : NewH H row row1) (g : New w row1 row2) (hs : H ≤ w.heap.size) : NewH H row row2 := by
 rcases g with rfl | ⟨k, rfl, hk⟩
 ·exact h
 ·exact Or.inr ⟨k, rfl, by omega⟩
theorem NewH.chg {H : Nat} {row row1 : Option Nat} {w w' : World} (h : NewH H row row1) (g : w.grownBy w' row1) : Chg (fun k => some k = row ∨ H ≤ k) w w' :=
 (Chg.of_grown g).mono fun k _ e => by
  rcases h with rfl | ⟨j, rfl, hj⟩
  ·exact Or.inl e
  ·cases e; exact Or.inr hj
def BQ (B H : Nat) (row : Option Nat) (L : List Nat) (v : Value) (w : World) : Prop := ∃ row', BB B w v L row' ∧ NewH H row row'
theorem BQ.below {B H : Nat} {row : Option Nat} {L : List Nat} {v : Value} {w w' : World} (h : BQ B H row L v w) (hb : Below w.heap.size w w') : BQ B H row L v w' := by
 obtain ⟨row', h1, h2⟩ := h; exact ⟨row', h1.below hb, h2⟩
theorem bb_apart {B g : Nat} {w : World} {v : Value} {L : List Nat} {row : Option Nat} {T : TypeId} {x : Option Addr} {n c : Nat} (h : BB B w v L row) (hL : 0 < L.length) (hk : Blk w g T [.slice x n c]) : some g ≠ row ∧ ∀ a n c, v = .slice (some a) n c → a.block ≠ g := by
 obtain ⟨a, c, hv, hr⟩ := h.row
 have h2 : ∀ a n c, v = .slice (some a) n c → a.block ≠ g := fun a' n' c' hv' hg => by
  rw [hv] at hv'
  simp only [Value.slice.injEq] at hv'
  obtain ⟨b, off, ha, _, hc⟩ := hr.opened hL
  rw [ha] at hv'
  obtain ⟨hv', _⟩ := hv'
  obtain rfl := Option.some.inj hv'
  simp only at hg
  subst hg
  have h0 := hc 0 hL
  rw [hk.cell] at h0
  match off, h0 with
  | 0, h0 => simp at h0
  | off + 1, h0 => simp at h0
 refine ⟨fun e => ?_, h2⟩
 rcases h.2.2.2 with ⟨ho, hrow⟩ | ⟨hrow, _⟩
 ·rcases ho.2 with ⟨hv1, hn⟩ | ⟨g', cap, cur, hv1, _⟩
  ·omega
  ·rw [hrow, hv1] at e
   simp only [Value.ownBlock, Option.some.injEq] at e
   exact h2 _ _ _ hv1 e.symm
 ·rw [hrow] at e; cases e
theorem BB.set_box {B g : Nat} {w : World} {v : Value} {L : List Nat} {row : Option Nat} {T : TypeId} {x : Option Addr} {n c : Nat} (h : BB B w v L row) (hL : 0 < L.length) (hk : Blk w g T [.slice x n c]) (y : Value) : BB B (w.setCell ⟨g, 0, none⟩ y) v L row := by
 obtain ⟨h1, h2⟩ := bb_apart h hL hk
 exact ⟨h.1, h.2.kept (grown_setCell w g 0 y) (Or.inr ⟨h1, fun k e a n c hv => by cases e; exact h2 a n c hv⟩)⟩
theorem bb_row_ne {B g : Nat} {w : World} {v : Value} {L : List Nat} {row : Option Nat} {T : TypeId} {cs : List Value} (h : BB B w v L row) (hk : Blk w g T cs) (hT : T ≠ 5) : some g ≠ row := by
 intro e
 rcases h.2.2.2 with ⟨ho, hrow⟩ | ⟨hrow, _⟩
 ·rcases ho.2 with ⟨hv1, hn⟩ | ⟨g', cap, cur, hv1, _, hh, _⟩
  ·rw [hrow, hv1] at e; cases e
  ·rw [hrow, hv1] at e
   simp only [Value.ownBlock, Option.some.injEq] at e
   subst e
   unfold Blk at hk
   rw [hh] at hk
   simp only [Option.some.injEq, Obj.cells.injEq] at hk
   exact hT hk.2.1.symm
 ·rw [hrow] at e; cases e
set_option maxRecDepth 100000 in
set_option maxHeartbeats 12800000 in
theorem lay_any (B g : Nat) (v : Value) (L : List Nat) (row : Option Nat) (d : Dt.Dot) (hd : Dt.okD d) (W : World) (hb : BB B W v L row) (hL : 0 < L.length) (hg : Blk W g 26 [v]) (hsm : L.length + 40 ≤ 140737488355328) :
  Calls Try.prog 25 #[dotV d, .pointer (some ⟨g, 0, none⟩)] W fun e w' => e = .returned (.tuple #[]) ∧ ∃ v' row', Blk w' g 26 [v'] ∧ BB B w' v' (L ++ dotE d) row' ∧ New W row row' ∧ Chg (fun k => some k = row ∨ k = g) W w' := by
 obtain ⟨⟨r, i⟩, s⟩ := d
 obtain ⟨hr, hi, hs⟩ := hd
 simp only at hr hi hs
 obtain ⟨v0, n0, c0, rfl, _, _⟩ := hb.rowN
 have hne := (bb_apart hb hL hg).1
 have hglt := hg.lt
 have hrl := hb.2.row_le
 have hdne : some W.heap.size ≠ row := fun e => by have := (hrl _ e.symm).2; omega
 have HR := Lib.hid hr; have HI := Lib.hid hi; have HS := Lib.hid hs; have HSM := Lib.hid hsm; have HRL := Lib.hid hrl
 have HW1 := Lib.hid (show IntKind.u64.wrap (r : Int) = (r : Int) by simp [IntKind.wrap, IntKind.bits, IntKind.signed]; omega)
 have HW2 := Lib.hid (show IntKind.u64.wrap (i : Int) = (i : Int) by simp [IntKind.wrap, IntKind.bits, IntKind.signed]; omega)
 have HPOS := Lib.hid (show 0 < (L ++ Cd.num r ++ Cd.num i ++ Cd.num s).length by simp only [List.length_append]; omega)
 have HB0 := Lib.hid hb; have HG0 := Lib.hid hg
 clear hb hsm hr hi hs hg hrl
 go_enter Try.func25, Try.ntmps25
 go_wp2_with fail
 obtain ⟨db, hdb⟩ : ∃ b, b = W.heap.size := ⟨_, rfl⟩
 obtain ⟨XX, hXX⟩ : ∃ w, w = W.alloc (.cells #[.int .u8 (r : Int), .int .u32 (i : Int), .int .u64 (s : Int)] 40) := ⟨_, rfl⟩
 have hbe : Below W.heap.size W XX := by rw [hXX]; exact below_box3 _ _ _
 have hXH : XX.heap.size = W.heap.size + 1 := by rw [hXX]; simp
 have hdk : Blk XX db 40 [.int .u8 (r : Int), .int .u32 (i : Int), .int .u64 (s : Int)] := by rw [hXX, hdb]; exact Blk.new W _ _
 rw [← hXX, ← hdb]
 have HBB := Lib.hid (HB0.out.below hbe)
 have HGB := Lib.hid (show ∀ w, Chg (fun k => some k = row ∨ XX.heap.size ≤ k) XX w → Blk w g 26 [.slice v0 n0 c0] from fun w h => (HG0.out.below hbe).chg h (fun e => by rcases e with e | e; exact hne e; omega))
 have HDB := Lib.hid (show ∀ w, Chg (fun k => some k = row ∨ XX.heap.size ≤ k) XX w → Blk w db 40 [.int .u8 (r : Int), .int .u32 (i : Int), .int .u64 (s : Int)] from fun w h => hdk.chg h (fun e => by rcases e with e | e; exact hdne (by rw [← hdb]; exact e); omega))
 have HBE := Lib.hid hbe; have HXH := Lib.hid hXH; have HGL := Lib.hid hglt
 clear hXX hbe hXH hdk hdb hne hdne hglt
 refine RegH.region_list (by kernel_rfl) (fun _ _ => True) [] [5, 10, 13, 14] [14] [] [RegH.plain (fun v _ => v = .slice v0 n0 c0), RegH.plain (fun v _ => v = .pointer (some ⟨db, 0, none⟩)), RegH.plain (fun v _ => v = .pointer (some ⟨db, 0, none⟩)), RegH.plain (fun v _ => v = .int .u8 (r : Int)), RegH.plain (fun v _ => v = .int .u64 (r : Int)), RegH.change (fun v w => BQ B XX.heap.size row (L ++ Cd.num r) v w) (fun k => some k = row ∨ XX.heap.size ≤ k) (fun u w w' => Chg (fun k => some k = row ∨ XX.heap.size ≤ k) w w'), RegH.plain (fun v _ => v = .pointer (some ⟨db, 0, none⟩)), RegH.plain (fun v _ => v = .pointer (some ⟨db, 1, none⟩)), RegH.plain (fun v _ => v = .int .u32 (i : Int)), RegH.plain (fun v _ => v = .int .u64 (i : Int)), RegH.change (fun v w => BQ B XX.heap.size row (L ++ Cd.num r ++ Cd.num i) v w) (fun k => some k = row ∨ XX.heap.size ≤ k) (fun u w w' => Chg (fun k => some k = row ∨ XX.heap.size ≤ k) w w'), RegH.plain (fun v _ => v = .pointer (some ⟨db, 2, none⟩)), RegH.plain (fun v _ => v = .int .u64 (s : Int)), RegH.change (fun v w => BQ B XX.heap.size row (L ++ Cd.num r ++ Cd.num i ++ Cd.num s) v w) (fun k => some k = row ∨ XX.heap.size ≤ k) (fun u w w' => Chg (fun k => some k = row ∨ XX.heap.size ≤ k) w w'), RegH.change (fun v w => ∃ v', Blk w g 26 [v'] ∧ BQ B XX.heap.size row (L ++ Cd.num r ++ Cd.num i ++ Cd.num s) v' w) (fun k => k = g) (fun u w w' => w.grownBy w' (some g))] (by kernel_rfl) (by kernel_rfl) (by kernel_rfl) (fun i hi => by simp at hi) (by kernel_rfl) (by kernel_rfl) rfl (trivial) (fun _ _ _ _ _ => trivial) ?_ ?_ ?_ ?_ ?_ ?_
 ·exact ⟨Or.inr ⟨fun _ h => h, fun _ _ _ h => h⟩, Or.inr ⟨fun _ h => h, fun _ _ _ h => h⟩, Or.inr ⟨fun _ h => h, fun _ _ _ h => h⟩, Or.inr ⟨fun _ h => h, fun _ _ _ h => h⟩, Or.inr ⟨fun _ h => h, fun _ _ _ h => h⟩, Or.inl (by decide), Or.inr ⟨fun _ h => h, fun _ _ _ h => h⟩, Or.inr ⟨fun _ h => h, fun _ _ _ h => h⟩, Or.inr ⟨fun _ h => h, fun _ _ _ h => h⟩, Or.inr ⟨fun _ h => h, fun _ _ _ h => h⟩, Or.inl (by decide), Or.inr ⟨fun _ h => h, fun _ _ _ h => h⟩, Or.inr ⟨fun _ h => h, fun _ _ _ h => h⟩, Or.inl (by decide), Or.inl (by decide), trivial⟩
 ·exact ⟨⟨fun _ _ _ h => h, Or.inl ⟨by decide, fun _ wx wy n h => (fun _ _ _ _ _ => trivial) n wx wy (RegH.to_below h (fun _ h => h))⟩⟩, ⟨fun _ _ _ h => h, Or.inl ⟨by decide, fun _ wx wy n h => (fun _ _ _ _ _ => trivial) n wx wy (RegH.to_below h (fun _ h => h))⟩⟩, ⟨fun _ _ _ h => h, Or.inl ⟨by decide, fun _ wx wy n h => (fun _ _ _ _ _ => trivial) n wx wy (RegH.to_below h (fun _ h => h))⟩⟩, ⟨fun _ _ _ h => h, Or.inl ⟨by decide, fun _ wx wy n h => (fun _ _ _ _ _ => trivial) n wx wy (RegH.to_below h (fun _ h => h))⟩⟩, ⟨fun _ _ _ h => h, Or.inl ⟨by decide, fun _ wx wy n h => (fun _ _ _ _ _ => trivial) n wx wy (RegH.to_below h (fun _ h => h))⟩⟩, ⟨(fun u wa wb h => h), Or.inl ⟨by decide, (fun u wa wb n h hj => trivial)⟩⟩, ⟨fun _ _ _ h => h, Or.inl ⟨by decide, fun _ wx wy n h => (fun _ _ _ _ _ => trivial) n wx wy (RegH.to_below h (fun _ h => h))⟩⟩, ⟨fun _ _ _ h => h, Or.inl ⟨by decide, fun _ wx wy n h => (fun _ _ _ _ _ => trivial) n wx wy (RegH.to_below h (fun _ h => h))⟩⟩, ⟨fun _ _ _ h => h, Or.inl ⟨by decide, fun _ wx wy n h => (fun _ _ _ _ _ => trivial) n wx wy (RegH.to_below h (fun _ h => h))⟩⟩, ⟨fun _ _ _ h => h, Or.inl ⟨by decide, fun _ wx wy n h => (fun _ _ _ _ _ => trivial) n wx wy (RegH.to_below h (fun _ h => h))⟩⟩, ⟨(fun u wa wb h => h), Or.inl ⟨by decide, (fun u wa wb n h hj => trivial)⟩⟩, ⟨fun _ _ _ h => h, Or.inl ⟨by decide, fun _ wx wy n h => (fun _ _ _ _ _ => trivial) n wx wy (RegH.to_below h (fun _ h => h))⟩⟩, ⟨fun _ _ _ h => h, Or.inl ⟨by decide, fun _ wx wy n h => (fun _ _ _ _ _ => trivial) n wx wy (RegH.to_below h (fun _ h => h))⟩⟩, ⟨(fun u wa wb h => h), Or.inl ⟨by decide, (fun u wa wb n h hj => trivial)⟩⟩, ⟨(fun u wa wb h => (Chg.of_grown h).mono (fun k _ e => by simpa using e)), Or.inl ⟨by decide, (fun u wa wb n h hj => trivial)⟩⟩, trivial⟩
 ·refine ⟨k4, k4, k4, k4, k4, (fun v wa wb hb h => by exact h.below hb), k4, k4, k4, k4, (fun v wa wb hb h => by exact h.below hb), k4, k4, (fun v wa wb hb h => by exact h.below hb), (fun v wa wb hb h => by obtain ⟨v', h1, h2⟩ := h; exact ⟨v', h1.below hb, h2.below hb⟩), trivial⟩
 ·refine ⟨⟨Or.inr (Or.inr (Or.inr (fun _ _ _ _ _ _ h => h))), Or.inr (Or.inr (Or.inr (fun _ _ _ _ _ _ h => h))), Or.inr (Or.inr (Or.inr (fun _ _ _ _ _ _ h => h))), Or.inr (Or.inr (Or.inr (fun _ _ _ _ _ _ h => h))), Or.inr (Or.inr (Or.inr (fun _ _ _ _ _ _ h => h))), Or.inl rfl, Or.inr (Or.inr (Or.inr (fun _ _ _ _ _ _ h => h))), Or.inr (Or.inr (Or.inr (fun _ _ _ _ _ _ h => h))), Or.inr (Or.inr (Or.inr (fun _ _ _ _ _ _ h => h))), Or.inr (Or.inr (Or.inr (fun _ _ _ _ _ _ h => h))), Or.inr (Or.inl (by kernel_rfl)), Or.inr (Or.inr (Or.inr (fun _ _ _ _ _ _ h => h))), Or.inr (Or.inr (Or.inr (fun _ _ _ _ _ _ h => h))), Or.inr (Or.inl (by kernel_rfl)), Or.inr (Or.inl (by kernel_rfl)), trivial⟩, ⟨Or.inr (Or.inr (Or.inr (fun _ _ _ _ _ _ h => h))), Or.inr (Or.inr (Or.inr (fun _ _ _ _ _ _ h => h))), Or.inr (Or.inr (Or.inr (fun _ _ _ _ _ _ h => h))), Or.inr (Or.inr (Or.inr (fun _ _ _ _ _ _ h => h))), Or.inr (Or.inr (Or.inr (fun _ _ _ _ _ _ h => h))), Or.inr (Or.inr (Or.inl (by kernel_rfl))), Or.inr (Or.inr (Or.inr (fun _ _ _ _ _ _ h => h))), Or.inr (Or.inr (Or.inr (fun _ _ _ _ _ _ h => h))), Or.inr (Or.inr (Or.inr (fun _ _ _ _ _ _ h => h))), Or.inr (Or.inr (Or.inr (fun _ _ _ _ _ _ h => h))), Or.inl rfl, Or.inr (Or.inr (Or.inr (fun _ _ _ _ _ _ h => h))), Or.inr (Or.inr (Or.inr (fun _ _ _ _ _ _ h => h))), Or.inr (Or.inl (by kernel_rfl)), Or.inr (Or.inl (by kernel_rfl)), trivial⟩, ⟨Or.inr (Or.inr (Or.inr (fun _ _ _ _ _ _ h => h))), Or.inr (Or.inr (Or.inr (fun _ _ _ _ _ _ h => h))), Or.inr (Or.inr (Or.inr (fun _ _ _ _ _ _ h => h))), Or.inr (Or.inr (Or.inr (fun _ _ _ _ _ _ h => h))), Or.inr (Or.inr (Or.inr (fun _ _ _ _ _ _ h => h))), Or.inr (Or.inr (Or.inl (by kernel_rfl))), Or.inr (Or.inr (Or.inr (fun _ _ _ _ _ _ h => h))), Or.inr (Or.inr (Or.inr (fun _ _ _ _ _ _ h => h))), Or.inr (Or.inr (Or.inr (fun _ _ _ _ _ _ h => h))), Or.inr (Or.inr (Or.inr (fun _ _ _ _ _ _ h => h))), Or.inr (Or.inr (Or.inl (by kernel_rfl))), Or.inr (Or.inr (Or.inr (fun _ _ _ _ _ _ h => h))), Or.inr (Or.inr (Or.inr (fun _ _ _ _ _ _ h => h))), Or.inl rfl, Or.inr (Or.inl (by kernel_rfl)), trivial⟩, ⟨Or.inr (Or.inr (Or.inr (fun _ _ _ _ _ _ h => h))), Or.inr (Or.inr (Or.inr (fun _ _ _ _ _ _ h => h))), Or.inr (Or.inr (Or.inr (fun _ _ _ _ _ _ h => h))), Or.inr (Or.inr (Or.inr (fun _ _ _ _ _ _ h => h))), Or.inr (Or.inr (Or.inr (fun _ _ _ _ _ _ h => h))), Or.inr (Or.inr (Or.inl (by kernel_rfl))), Or.inr (Or.inr (Or.inr (fun _ _ _ _ _ _ h => h))), Or.inr (Or.inr (Or.inr (fun _ _ _ _ _ _ h => h))), Or.inr (Or.inr (Or.inr (fun _ _ _ _ _ _ h => h))), Or.inr (Or.inr (Or.inr (fun _ _ _ _ _ _ h => h))), Or.inr (Or.inr (Or.inl (by kernel_rfl))), Or.inr (Or.inr (Or.inr (fun _ _ _ _ _ _ h => h))), Or.inr (Or.inr (Or.inr (fun _ _ _ _ _ _ h => h))), Or.inr (Or.inr (Or.inl (by kernel_rfl))), Or.inl rfl, trivial⟩, trivial⟩
 ·refine ⟨?_, ?_, ?_, ?_, ?_, ?_, ?_, ?_, ?_, ?_, ?_, ?_, ?_, ?_, ?_, trivial⟩
  ·intro ev w hc hf hg hfix hdep hchg hinv
   have e1 : ev (.tmp 1) = _ := hfix 1 (by decide)
   have d0 := (HGB.out w (Chg.mono (RegH.undrewC (hchg [] (by kernel_rfl))) (fun k _ h => by rcases h with h <;> first | exact h.elim | exact h))).cell 0
   simp only [List.getElem?_cons_zero] at d0
   exact Or.inl ⟨trivial, Or.inl ⟨_, w, by go_simp, rfl, Chg.refl _ _⟩⟩
  ·intro ev w hc hf hg hfix hdep hchg hinv
   have e2 : ev (.tmp 2) = _ := hfix 2 (by decide)
   exact Or.inl ⟨trivial, Or.inl ⟨_, w, by go_simp, rfl, Chg.refl _ _⟩⟩
  ·intro ev w hc hf hg hfix hdep hchg hinv
   have e4 : ev (.tmp 4) = _ := hdep 1 (by decide)
   exact Or.inl ⟨trivial, Or.inl ⟨_, w, by go_simp, rfl, Chg.refl _ _⟩⟩
  ·intro ev w hc hf hg hfix hdep hchg hinv
   have e5 : ev (.tmp 5) = _ := hdep 2 (by decide)
   have hdd := HDB.out w (Chg.mono (RegH.undrewC (hchg [] (by kernel_rfl))) (fun k _ h => by rcases h with h <;> first | exact h.elim | exact h))
   have d0 := hdd.cell 0; have d1 := hdd.cell 1; have d2 := hdd.cell 2
   simp only [List.getElem?_cons_succ, List.getElem?_cons_zero] at d0 d1 d2
   exact Or.inl ⟨trivial, Or.inl ⟨_, w, by go_simp, rfl, Chg.refl _ _⟩⟩
  ·intro ev w hc hf hg hfix hdep hchg hinv
   have e6 : ev (.tmp 6) = _ := hdep 3 (by decide)
   have hw := HW1.out
   exact Or.inl ⟨trivial, Or.inl ⟨_, w, by go_simp, rfl, Chg.refl _ _⟩⟩
  ·intro ev w hc hf hg hfix hdep hchg hinv
   have e3 : ev (.tmp 3) = _ := hdep 0 (by decide)
   have e7 : ev (.tmp 7) = _ := hdep 4 (by decide)
   refine Or.inl ⟨trivial, Or.inr (Or.inl ⟨19, #[.slice v0 n0 c0, .int .u64 (r : Int)], w, by go_simp, ?_⟩)⟩
   have hsz : XX.heap.size ≤ w.heap.size := (hchg [] (by kernel_rfl)).size
   have hbe := RegH.chg0 (hchg [] (by kernel_rfl))
   have hb := HBB.out.below hbe
   have hnw : NewH XX.heap.size row row := Or.inl rfl
   refine (num_any B (.slice v0 n0 c0) L row r w hb (by have := HR.out; omega) (by have := HSM.out; omega)).mono ?_
   rintro e w9 ⟨v9, row9, rfl, hb9, hg9, hn9⟩
   exact ⟨_, rfl, ⟨row9, hb9, hnw.step hn9 hsz⟩, hnw.chg hg9⟩
  ·intro ev w hc hf hg hfix hdep hchg hinv
   have e2 : ev (.tmp 2) = _ := hfix 2 (by decide)
   exact Or.inl ⟨trivial, Or.inl ⟨_, w, by go_simp, rfl, Chg.refl _ _⟩⟩
  ·intro ev w hc hf hg hfix hdep hchg hinv
   have e9 : ev (.tmp 9) = _ := hdep 6 (by decide)
   exact Or.inl ⟨trivial, Or.inl ⟨_, w, by go_simp, rfl, Chg.refl _ _⟩⟩
  ·intro ev w hc hf hg hfix hdep hchg hinv
   have e10 : ev (.tmp 10) = _ := hdep 7 (by decide)
   have hdd := HDB.out w (Chg.mono (RegH.undrewC (hchg [5] (by kernel_rfl))) (fun k _ h => by rcases h with h | h <;> first | exact h.elim | exact h))
   have d0 := hdd.cell 0; have d1 := hdd.cell 1; have d2 := hdd.cell 2
   simp only [List.getElem?_cons_succ, List.getElem?_cons_zero] at d0 d1 d2
   exact Or.inl ⟨trivial, Or.inl ⟨_, w, by go_simp, rfl, Chg.refl _ _⟩⟩
  ·intro ev w hc hf hg hfix hdep hchg hinv
   have e11 : ev (.tmp 11) = _ := hdep 8 (by decide)
   have hw := HW2.out
   exact Or.inl ⟨trivial, Or.inl ⟨_, w, by go_simp, rfl, Chg.refl _ _⟩⟩
  ·intro ev w hc hf hg hfix hdep hchg hinv
   have e8 := hdep 5 (by decide)
   have e12 : ev (.tmp 12) = _ := hdep 9 (by decide)
   refine Or.inl ⟨trivial, Or.inr (Or.inl ⟨19, #[ev (.tmp 8), .int .u64 (i : Int)], w, by go_simp, ?_⟩)⟩
   have hsz : XX.heap.size ≤ w.heap.size := (hchg [5] (by kernel_rfl)).size
   obtain ⟨row1, hb, hnw⟩ := e8
   refine (num_any B _ _ row1 i w hb (by have := HI.out; omega) (by have := HSM.out; have := num_lenO r; simp only [List.length_append]; omega)).mono ?_
   rintro e w9 ⟨v9, row9, rfl, hb9, hg9, hn9⟩
   exact ⟨_, rfl, ⟨row9, hb9, hnw.step hn9 hsz⟩, hnw.chg hg9⟩
  ·intro ev w hc hf hg hfix hdep hchg hinv
   have e2 : ev (.tmp 2) = _ := hfix 2 (by decide)
   exact Or.inl ⟨trivial, Or.inl ⟨_, w, by go_simp, rfl, Chg.refl _ _⟩⟩
  ·intro ev w hc hf hg hfix hdep hchg hinv
   have e14 : ev (.tmp 14) = _ := hdep 11 (by decide)
   have hdd := HDB.out w (Chg.mono (RegH.undrewC (hchg [5, 10] (by kernel_rfl))) (fun k _ h => by rcases h with h | h | h <;> first | exact h.elim | exact h))
   have d0 := hdd.cell 0; have d1 := hdd.cell 1; have d2 := hdd.cell 2
   simp only [List.getElem?_cons_succ, List.getElem?_cons_zero] at d0 d1 d2
   exact Or.inl ⟨trivial, Or.inl ⟨_, w, by go_simp, rfl, Chg.refl _ _⟩⟩
  ·intro ev w hc hf hg hfix hdep hchg hinv
   have e13 := hdep 10 (by decide)
   have e15 : ev (.tmp 15) = _ := hdep 12 (by decide)
   refine Or.inl ⟨trivial, Or.inr (Or.inl ⟨19, #[ev (.tmp 13), .int .u64 (s : Int)], w, by go_simp, ?_⟩)⟩
   have hsz : XX.heap.size ≤ w.heap.size := (hchg [5, 10] (by kernel_rfl)).size
   obtain ⟨row1, hb, hnw⟩ := e13
   refine (num_any B _ _ row1 s w hb HS.out (by have := HSM.out; have := num_lenO r; have := num_lenO i; simp only [List.length_append]; omega)).mono ?_
   rintro e w9 ⟨v9, row9, rfl, hb9, hg9, hn9⟩
   exact ⟨_, rfl, ⟨row9, hb9, hnw.step hn9 hsz⟩, hnw.chg hg9⟩
  ·intro ev w hc hf hg hfix hdep hchg hinv
   have e1 : ev (.tmp 1) = _ := hfix 1 (by decide)
   have e16 := hdep 13 (by decide)
   obtain ⟨row1, hb, hnw⟩ := e16
   obtain ⟨a, n, c, hv, _, _⟩ := hb.rowN
   rw [hv] at hb
   have e16 : ev (.tmp 16) = .slice a n c := hv
   have hbk := HGB.out w (Chg.mono (RegH.undrewC (hchg [5, 10, 13] (by kernel_rfl))) (fun k _ h => by rcases h with h | h | h | h <;> first | exact h.elim | exact h))
   have d0 := hbk.cell 0; have y0 := hbk.frozen 0
   simp only [List.getElem?_cons_zero] at d0
   exact Or.inl ⟨trivial, Or.inr (Or.inr ⟨w.setCell ⟨g, 0, none⟩ (.slice a n c), by go_simp, ⟨.slice a n c, hbk.set 0 _, row1, hb.set_box HPOS.out hbk _, hnw⟩, grown_setCell _ _ _ _⟩)⟩
 ·intro v w2 hv hlk hap hb2 hJ2
  have r14 := hv 14 (by decide) (by decide)
  simp only [Reg.putAll, Act.put, List.setIfInBounds_toArray, List.set_cons_zero, List.set_cons_succ]
  clear hv hlk hap
  obtain ⟨v', hbk, row', hb', hnw⟩ := r14
  have hch : Chg (fun k => some k = row ∨ k = g) W w2 := (Chg.of_below HBE.out).trans (Chg.mono (T := fun k => some k = row ∨ XX.heap.size ≤ k ∨ k = g) hb2 (fun k _ h => by rcases h with h | h | h | h | h <;> first | exact h.elim | exact h.elim Or.inl (fun h => Or.inr (Or.inl h)) | exact Or.inr (Or.inr h))) (fun k hk h => by
   rcases h with h | h | h
   ·exact Or.inl h
   ·have := HXH.out; omega
   ·exact Or.inr h)
  have HCh := Lib.hid hch; have HBk := Lib.hid hbk; have HB' := Lib.hid hb'; have HNw := Lib.hid hnw
  clear hb2 hch hbk hb' hnw
  go_wp2_with fail
  go_end0
  refine ⟨rfl, v', row', HBk.out, ?_, ?_, HCh.out⟩
  ·have h := HB'.out
   rw [show L ++ dotE ((r, i), s) = L ++ Cd.num r ++ Cd.num i ++ Cd.num s from by simp only [dotE, List.append_assoc]]
   exact h
  ·rcases HNw.out with h | ⟨k, h, hk⟩
   ·exact Or.inl h
   ·exact Or.inr ⟨k, h, by have := HXH.out; omega⟩
end Go.Proofs.Ytplafpchgfjomaa
