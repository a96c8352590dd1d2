import Derived.Test.YtfebbdnibimmmaaDot3
namespace Go.Proofs.Ytfebbdnibimmmaa
open Go.RowKit
/-- A slice of dots that reads as l. -/
def VRow (w : World) (a : Option Addr) (cap : Nat) (l : List Dt.Dot) : Prop :=
  l.length ≤ cap ∧ cap ≤ 9223372036854775807 ∧ (∀ d ∈ l, Dt.okD d) ∧ (a = none → cap = 0) ∧
  ∀ i d, l[i]? = some d → ∃ p, a = some p ∧ w.cell? (p.add (i * 3)) = some (.int .u8 (d.1.1 : Int)) ∧ w.cell? (p.add (i * 3 + 1)) = some (.int .u32 (d.1.2 : Int)) ∧ w.cell? (p.add (i * 3 + 2)) = some (.int .u64 (d.2 : Int))
theorem VRow.le {w : World} {a : Option Addr} {cap : Nat} {l : List Dt.Dot} (h : VRow w a cap l) : l.length ≤ cap := h.1
theorem VRow.cap {w : World} {a : Option Addr} {cap : Nat} {l : List Dt.Dot} (h : VRow w a cap l) : cap ≤ 9223372036854775807 := h.2.1
theorem VRow.ok {w : World} {a : Option Addr} {cap : Nat} {l : List Dt.Dot} (h : VRow w a cap l) : ∀ d ∈ l, Dt.okD d := h.2.2.1
theorem VRow.below {w w' : World} {a : Option Addr} {cap : Nat} {l : List Dt.Dot} (h : VRow w a cap l) (hb : Below w.heap.size w w') : VRow w' a cap l := by
  refine ⟨h.1, h.2.1, h.2.2.1, h.2.2.2.1, fun i d hd => ?_⟩
  obtain ⟨p, hp, h1, h2, h3⟩ := h.2.2.2.2 i d hd
  refine ⟨p, hp, ?_, ?_, ?_⟩
  · exact (hb.cell (World.block_lt_of_cell? _ _ h1)).trans h1
  · exact (hb.cell (World.block_lt_of_cell? _ _ h2)).trans h2
  · exact (hb.cell (World.block_lt_of_cell? _ _ h3)).trans h3
theorem VRow.nil (w : World) : VRow w none 0 [] := ⟨by simp, by omega, by simp, by simp, by simp⟩
theorem VRow.at {w : World} {a : Option Addr} {cap : Nat} {l : List Dt.Dot} (h : VRow w a cap l) (hl : 0 < l.length) :
    ∃ b off, a = some ⟨b, off, none⟩ ∧ b < w.heap.size ∧ ∀ i d, l[i]? = some d → w.cell? ⟨b, off + i * 3, none⟩ = some (.int .u8 (d.1.1 : Int)) ∧ w.cell? ⟨b, off + i * 3 + 1, none⟩ = some (.int .u32 (d.1.2 : Int)) ∧ w.cell? ⟨b, off + i * 3 + 2, none⟩ = some (.int .u64 (d.2 : Int)) := by
  obtain ⟨p, hp, hc, _⟩ := h.2.2.2.2 0 l[0] (by simp [hl])
  have hs := World.cell?_spot hc
  obtain ⟨b, off, spot⟩ := p
  have hspot : spot = none := by simpa [Addr.add] using hs
  subst hspot
  refine ⟨b, off, hp, by simpa [Addr.add] using World.block_lt_of_cell? w _ hc, fun i d hd => ?_⟩
  obtain ⟨q, hq, h1, h2, h3⟩ := h.2.2.2.2 i d hd
  rw [hp] at hq
  obtain rfl := Option.some.inj hq
  rw [Addr.add_mid] at h1 h2 h3
  exact ⟨h1, by rw [← h2]; rfl, by rw [← h3]; rfl⟩
theorem getD_some {l : List Dt.Dot} {i : Nat} (hi : i < l.length) : ∃ d, l[i]? = some d := ⟨l[i], List.getElem?_eq_getElem hi⟩
set_option maxHeartbeats 400000 in
theorem getClosure (b : Nat) (a : Dt.Ac) (n : Nat) (d : Dt.Dot) (w : World) (hm : Dt.may d = true) (h0 : w.cell? ⟨b, 0, none⟩ = some (.int .u8 (a.1 : Int))) (h1 : w.cell? ⟨b, 1, none⟩ = some (.int .u32 (a.2 : Int))) :
    Calls Try.prog 35 #[.int .u64 (n : Int), dotV d, .pointer (some ⟨b, 0, none⟩)] w fun e w' => e = .returned (.int .u64 (Dt.getStep a n d : Nat)) ∧ Below w.heap.size w w' := by
  obtain ⟨⟨r, i⟩, s⟩ := d
  obtain ⟨r', i'⟩ := a
  have hb := World.block_lt_of_cell? _ _ h0
  simp only at hb h0 h1
  by_cases e1 : r = r'
  · subst e1
    by_cases e2 : i = i'
    · subst e2
      go_enter Try.func35, Try.ntmps35
      go_wp2
      all_goals
        go_ret
        exact ⟨ret_int (by simp only [Dt.getStep, hm]; simp; try omega), (Below.refl _ _).alloc (Nat.le_refl _) _⟩
    · have d1 : ((i : Int) == (i' : Int)) = false := by simp; omega
      go_enter Try.func35, Try.ntmps35
      go_wp2
      go_ret
      exact ⟨ret_int (by simp [Dt.getStep, e2]), (Below.refl _ _).alloc (Nat.le_refl _) _⟩
  · have d1 : ((r : Int) == (r' : Int)) = false := by simp; omega
    go_enter Try.func35, Try.ntmps35
    go_wp2
    go_ret
    exact ⟨ret_int (by simp [Dt.getStep, e1]), (Below.refl _ _).alloc (Nat.le_refl _) _⟩
def getF (a : Dt.Ac) (l : List Dt.Dot) (k : Nat) : Nat := Dt.get (l.take k) a
theorem getF_succ {a : Dt.Ac} {l : List Dt.Dot} {k : Nat} {d : Dt.Dot} (hd : l[k]? = some d) : getF a l (k + 1) = Dt.getStep a (getF a l k) d := by
  unfold getF
  obtain ⟨hk, rfl⟩ := List.getElem?_eq_some_iff.1 hd
  rw [List.take_succ_eq_append_getElem hk, Dt.get_snoc]
theorem getStep_not {a : Dt.Ac} {n : Nat} {d : Dt.Dot} (h : Dt.may d = false) : Dt.getStep a n d = n := by simp [Dt.getStep, h]
set_option maxRecDepth 100000 in
set_option maxHeartbeats 1600000 in
theorem throughU (a : Option Addr) (n cap b : Nat) (c : Dt.Ac) (l : List Dt.Dot) (w : World) (hr : VRow w a cap l) (hl : l.length = n) (h0 : w.cell? ⟨b, 0, none⟩ = some (.int .u8 (c.1 : Int))) (h1 : w.cell? ⟨b, 1, none⟩ = some (.int .u32 (c.2 : Int))) :
    Calls Try.prog 34 #[.slice a n cap, .int .u64 0, .func (.func 35) #[] #[.pointer (some ⟨b, 0, none⟩)]] w fun e w' => e = .returned (.int .u64 (Dt.get l c : Nat)) ∧ Below w.heap.size w w' := by
  have hle := hr.le
  have hcap := hr.cap
  have hb := World.block_lt_of_cell? _ _ h0
  have HR := Lib.hid hr; have HL := Lib.hid hl; have H0 := Lib.hid h0; have H1 := Lib.hid h1; have HB := Lib.hid hb
  rw [hl] at hle
  clear hr hl h0 h1 hb
  go_enter Try.func34, Try.ntmps34
  go_wp2
  go_loopw [1, 8, 11] (fun u _ i wr => ∃ k : Nat, k ≤ n ∧ i = .int .i64 k ∧ u = .int .u64 (getF c l k : Nat) ∧ Below w.heap.size w wr) (fun _ _ i _ => n - (intOf i).toNat)
  case atStart => exact ⟨0, Nat.zero_le _, rfl, rfl, Below.refl _ _⟩
  case round =>
    obtain ⟨k, hk, rfl, rfl, hbel⟩ := hrel
    have HBel := Lib.hid hbel; clear hbel
    by_cases hlt : k < n
    · obtain ⟨d, hd⟩ := getD_some (l := l) (i := k) (by rw [HL.out]; exact hlt)
      obtain ⟨blk, off, rfl, hblk, hcells⟩ := HR.out.at (by rw [HL.out]; omega)
      obtain ⟨g0, g1, g2⟩ := hcells k d hd
      have q0 := (HBel.out.cell (p := ⟨blk, off + k * 3, none⟩) hblk).trans g0
      have q1 := (HBel.out.cell (p := ⟨blk, off + k * 3 + 1, none⟩) hblk).trans g1
      have q2 := (HBel.out.cell (p := ⟨blk, off + k * 3 + 2, none⟩) hblk).trans g2
      have Hs := Lib.hid (getF_succ (a := c) hd)
      obtain ⟨⟨r, i⟩, s⟩ := d
      simp only at q0 q1 q2
      clear hcells g0 g1 g2 hd
      cases hm : Dt.may ((r, i), s)
      · have Hf := Lib.hid (getStep_not (a := c) (n := getF c l k) hm)
        go_wp2_with fail
        refine (may_any r i s _).mono ?_
        rintro e w1 ⟨rfl, hb⟩
        go_wp2_with fail
        clear q0 q1 q2
        go_roundw
        case rel => exact ⟨k + 1, by omega, by go_num, by rw [Hs.out, Hf.out], HBel.out.trans (((Below.refl _ _).alloc HBel.out.size _).trans (hb.mono (by have := HBel.out.size; simp; omega)))⟩
        case measure => simp [intOf]; omega
      · go_wp2_with fail
        refine (may_any r i s _).mono ?_
        rintro e w1 ⟨rfl, hb⟩
        obtain ⟨hc, hf⟩ := bcell hb
        have hb2 : Below w.heap.size w w1 := HBel.out.trans (((Below.refl _ _).alloc HBel.out.size _).trans (hb.mono (by have := HBel.out.size; simp; omega)))
        have c0 := (hb2.cell (p := ⟨b, 0, none⟩) HB.out).trans H0.out
        have c1 := (hb2.cell (p := ⟨b, 1, none⟩) HB.out).trans H1.out
        have Hb := Lib.hid hb2; have C0 := Lib.hid c0; have C1 := Lib.hid c1
        clear hb2 c0 c1
        go_wp2_with fail
        refine (getClosure b c (getF c l k) ((r, i), s) _ hm C0.out C1.out).mono ?_
        rintro e w2 ⟨rfl, hb3⟩
        clear hc hf q0 q1 q2
        go_wp2_with fail
        go_roundw
        case rel => exact ⟨k + 1, by omega, by go_num, by rw [Hs.out], Hb.out.trans (hb3.mono Hb.out.size)⟩
        case measure => simp [intOf]; omega
    · have hfin : getF c l k = Dt.get l c := by
        show Dt.get (l.take k) c = Dt.get l c
        rw [List.take_of_length_le (by rw [HL.out]; omega)]
      have Hfin := Lib.hid hfin; clear hfin
      go_wp2
      go_ret
      exact ⟨ret_int (by rw [Hfin.out]), HBel.out⟩
set_option maxHeartbeats 400000 in
theorem get_any (a : Option Addr) (n cap : Nat) (r i : Nat) (l : List Dt.Dot) (w : World) (hr : VRow w a cap l) (hl : l.length = n) :
    Calls Try.prog 15 #[.slice a n cap, acV (r, i)] w fun e w' => e = .returned (.int .u64 (Dt.get l (r, i) : Nat)) ∧ Below w.heap.size w w' := by
  have HR := Lib.hid hr; have HL := Lib.hid hl
  clear hr hl
  go_enter Try.func15, Try.ntmps15
  go_wp2_with fail
  refine (throughU a n cap w.heap.size (r, i) l _ (HR.out.below ((Below.refl _ _).alloc (Nat.le_refl _) _)) HL.out (by simp) (by simp)).mono ?_
  rintro e w1 ⟨rfl, hb⟩
  go_wp2_with fail
  go_ret
  exact ⟨rfl, ((Below.refl _ _).alloc (Nat.le_refl _) _).trans (hb.mono (by simp))⟩
end Go.Proofs.Ytfebbdnibimmmaa
