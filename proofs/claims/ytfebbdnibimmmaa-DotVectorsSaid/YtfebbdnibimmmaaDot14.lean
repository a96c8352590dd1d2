import Derived.Test.YtfebbdnibimmmaaDot12
namespace Go.Proofs.Ytfebbdnibimmmaa
open Go.RowKit Go.Maps
theorem below_drewN {B : Nat} {w w' : World} (h : Below B w w') (q : Nat) : Below B w (w'.drewN q) := ⟨h.os, h.tape, h.output, h.size, h.block⟩
theorem Nums.drewN {w : World} {b n : Nat} {D : DataW Unit} {f : Dt.Ac → Nat} (h : Nums w b n D f) (q : Nat) : Nums (w.drewN q) b n D f := h.kept (row := none) ⟨rfl, rfl, rfl, Nat.le_refl _, fun _ _ _ => rfl⟩ (by simp)
set_option maxRecDepth 100000 in
set_option maxHeartbeats 1000000 in
theorem withinClosure (x : Bool) (d : Dt.Dot) (c b n : Nat) (f : Dt.Ac → Nat) (w : World) (hm : Dt.okD d) (h0 : w.cell? ⟨c, 0, none⟩ = some (.map (some b))) (h : NumX w b n f) :
    Calls Try.prog 37 #[.bool x, dotV d, .pointer (some ⟨c, 0, none⟩)] w fun e w' => e = .returned (.bool (x && decide (d.2 ≤ f d.1))) ∧ Below w.heap.size w w' := by
  obtain ⟨D, hD⟩ := h
  obtain ⟨⟨r, i⟩, s⟩ := d
  have hok : okAc (r, i) := ⟨hm.1, hm.2.1⟩
  have hclt := World.block_lt_of_cell? _ _ h0
  simp only at hclt
  have hlk : ∀ q, (Instr.lookup 52 (.map (some b)) (acV (r, i)) false).run Try.prog ((w.alloc (.cells #[.int .u8 (r : Int), .int .u32 (i : Int), .int .u64 (s : Int)] 29)).drewN q) = .ok (.int .u64 (f (r, i) : Nat)) ((w.alloc (.cells #[.int .u8 (r : Int), .int .u32 (i : Int), .int .u64 (s : Int)] 29)).drewN q) := fun q =>
    Nums.lookup (Nums.drewN (hD.kept (World.grownBy_alloc w (.cells #[.int .u8 (r : Int), .int .u32 (i : Int), .int .u64 (s : Int)] 29) none) (by simp)) q) hok
  clear hD
  cases x
  · clear hlk
    go_enter Try.func37, Try.ntmps37
    go_wp2
    go_quiet (fail)
    go_wp2
    go_ret
    exact ⟨ret_bool (by simp), below_drewN ((Below.refl _ _).alloc (Nat.le_refl _) _) _⟩
  · by_cases hle : s ≤ f (r, i)
    · go_enter Try.func37, Try.ntmps37
      go_wp2
      go_quiet (fail)
      go_wp2
      go_ret
      exact ⟨ret_bool (by simp [hle]), below_drewN ((Below.refl _ _).alloc (Nat.le_refl _) _) _⟩
    · go_enter Try.func37, Try.ntmps37
      go_wp2
      go_quiet (fail)
      go_wp2
      go_ret
      exact ⟨ret_bool (by simp [hle]), below_drewN ((Below.refl _ _).alloc (Nat.le_refl _) _) _⟩
def withF (f : Dt.Ac → Nat) (l : List Dt.Dot) (k : Nat) : Bool := (l.take k).all fun d => !Dt.may d || decide (d.2 ≤ f d.1)
theorem withF_succ {f : Dt.Ac → Nat} {l : List Dt.Dot} {k : Nat} {d : Dt.Dot} (hd : l[k]? = some d) : withF f l (k + 1) = (withF f l k && (!Dt.may d || decide (d.2 ≤ f d.1))) := by
  unfold withF
  obtain ⟨hk, rfl⟩ := List.getElem?_eq_some_iff.1 hd
  rw [List.take_succ_eq_append_getElem hk, List.all_append]; simp
set_option maxRecDepth 100000 in
set_option maxHeartbeats 1600000 in
theorem throughB (a : Option Addr) (n cap c b q : Nat) (f : Dt.Ac → Nat) (l : List Dt.Dot) (w : World) (hr : VRow w a cap l) (hl : l.length = n) (h0 : w.cell? ⟨c, 0, none⟩ = some (.map (some b))) (h1 : NumX w b q f) :
    Calls Try.prog 36 #[.slice a n cap, .bool true, .func (.func 37) #[] #[.pointer (some ⟨c, 0, none⟩)]] w fun e w' => e = .returned (.bool (withF f l n)) ∧ Below w.heap.size w w' := by
  have hle := hr.le
  have hcap := hr.cap
  have hb := World.block_lt_of_cell? _ _ h0
  have HR := Lib.hid hr; have HL := Lib.hid hl; have H0 := Lib.hid h0; have H1 := Lib.hid h1; have HB := Lib.hid hb
  rw [hl] at hle
  clear hr hl h0 h1 hb
  go_enter Try.func36, Try.ntmps36
  go_wp2
  go_loopw [1, 8, 11] (fun u _ i wr => ∃ k : Nat, k ≤ n ∧ i = .int .i64 k ∧ u = .bool (withF f l k) ∧ Below w.heap.size w wr) (fun _ _ i _ => n - (intOf i).toNat)
  case atStart => exact ⟨0, Nat.zero_le _, rfl, rfl, Below.refl _ _⟩
  case round =>
    obtain ⟨k, hk, rfl, rfl, hbel⟩ := hrel
    have HBel := Lib.hid hbel; clear hbel
    by_cases hlt : k < n
    · obtain ⟨d, hd⟩ := getD_some (l := l) (i := k) (by rw [HL.out]; exact hlt)
      have hokd := HR.out.ok d (List.mem_of_getElem? hd)
      obtain ⟨blk, off, rfl, hblk, hcells⟩ := HR.out.at (by rw [HL.out]; omega)
      obtain ⟨g0, g1, g2⟩ := hcells k d hd
      have q0 := (HBel.out.cell (p := ⟨blk, off + k * 3, none⟩) hblk).trans g0
      have q1 := (HBel.out.cell (p := ⟨blk, off + k * 3 + 1, none⟩) hblk).trans g1
      have q2 := (HBel.out.cell (p := ⟨blk, off + k * 3 + 2, none⟩) hblk).trans g2
      have Hs := Lib.hid (withF_succ (f := f) hd)
      have HO := Lib.hid hokd
      obtain ⟨⟨r, i⟩, s⟩ := d
      simp only at q0 q1 q2
      clear hcells g0 g1 g2 hd hokd
      generalize hu : withF f l k = u at Hs ⊢
      clear hu
      cases hm : Dt.may ((r, i), s)
      · have Hm := Lib.hid hm
        go_wp2_with fail
        refine (may_any r i s _).mono ?_
        rintro e w1 ⟨rfl, hb⟩
        go_wp2_with fail
        clear q0 q1 q2 hm
        go_roundw
        case rel => exact ⟨k + 1, by omega, by go_num, by rw [Hs.out, Hm.out]; simp, HBel.out.trans (((Below.refl _ _).alloc HBel.out.size _).trans (hb.mono (by have := HBel.out.size; simp; omega)))⟩
        case measure => simp [intOf]; omega
      · go_wp2_with fail
        refine (may_any r i s _).mono ?_
        rintro e w1 ⟨rfl, hb⟩
        obtain ⟨hc, hf⟩ := bcell hb
        have hb2 : Below w.heap.size w w1 := HBel.out.trans (((Below.refl _ _).alloc HBel.out.size _).trans (hb.mono (by have := HBel.out.size; simp; omega)))
        have c0 := (hb2.cell (p := ⟨c, 0, none⟩) HB.out).trans H0.out
        have Hb := Lib.hid hb2; have C0 := Lib.hid c0; have Hm := Lib.hid hm
        clear hb2 c0
        go_wp2_with fail
        refine (withinClosure _ ((r, i), s) c b q f _ HO.out C0.out (H1.out.below Hb.out)).mono ?_
        rintro e w2 ⟨rfl, hb3⟩
        clear hc hf q0 q1 q2 hm
        go_wp2_with fail
        go_roundw
        case rel => exact ⟨k + 1, by omega, by go_num, by rw [Hs.out, Hm.out]; simp, Hb.out.trans (hb3.mono Hb.out.size)⟩
        case measure => simp [intOf]; omega
    · have hfin : withF f l k = withF f l n := by rw [show k = n from by omega]
      have Hfin := Lib.hid hfin; clear hfin
      go_wp2
      go_ret
      exact ⟨ret_bool (by first | rfl | rw [Hfin.out]), HBel.out⟩
set_option maxHeartbeats 400000 in
theorem within_any (a : Option Addr) (n cap : Nat) (la : List Dt.Dot) (c : Option Addr) (m capc : Nat) (lb : List Dt.Dot) (W : World) (hr : VRow W a cap la) (hl : la.length = n) (hs : VRow W c capc lb) (hm : lb.length = m) (hn2 : m ≤ 100000000) :
    Calls Try.prog 19 #[.slice a n cap, .slice c m capc] W fun e w' => e = .returned (.bool (Dt.within la lb)) ∧ Below W.heap.size W w' := by
  have hw : withF (Dt.get lb) la n = Dt.within la lb := by unfold withF Dt.within; rw [List.take_of_length_le (by omega)]
  have HR := Lib.hid hr; have HL := Lib.hid hl; have HS := Lib.hid hs; have HM := Lib.hid hm; have HW := Lib.hid hw
  clear hr hl hs hm hw
  go_enter Try.func19, Try.ntmps19
  go_wp2_with fail
  refine (stands_any c m capc lb W HS.out HM.out hn2).mono ?_
  rintro e w1 ⟨b, rfl, hN, hB, hb⟩
  have HN := Lib.hid hN; have HB := Lib.hid hB; have Hb := Lib.hid hb
  clear hN hB hb
  go_wp2_with fail
  refine (throughB a n cap w1.heap.size b m _ la _ (HR.out.below (Hb.out.trans ((Below.refl _ _).alloc Hb.out.size _))) HL.out (by simp) (HN.out.below ((Below.refl _ _).alloc (Nat.le_refl _) _))).mono ?_
  rintro e w2 ⟨rfl, hb2⟩
  have Hb2 := Lib.hid hb2; clear hb2
  go_wp2_with fail
  go_ret
  exact ⟨ret_bool (by first | exact HW.out | rw [HW.out]), Hb.out.trans (((Below.refl _ _).alloc Hb.out.size _).trans (Hb2.out.mono (by have := Hb.out.size; simp; omega)))⟩
end Go.Proofs.Ytfebbdnibimmmaa
