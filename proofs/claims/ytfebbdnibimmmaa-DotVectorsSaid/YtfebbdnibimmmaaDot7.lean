import Derived.Test.YtfebbdnibimmmaaDot6
namespace Go.Proofs.Ytfebbdnibimmmaa
open Go.RowKit Go.Maps Go.Buf
theorem VRow.belowB {w w' : World} {a : Option Addr} {cap B : Nat} {l : List Dt.Dot} (h : VRow w a cap l) (hv : ∀ p, a = some p → p.block < B) (hb : Below B w w') : VRow w' a cap l := by
  refine ⟨h.1, h.2.1, h.2.2.1, h.2.2.2.1, fun i d hd => ?_⟩
  obtain ⟨p, hp, h1, h2, h3⟩ := h.2.2.2.2 i d hd
  have hpb := hv p hp
  have e : ∀ j, (p.add j).block = p.block := fun j => by unfold Addr.add; split <;> rfl
  refine ⟨p, hp, ?_, ?_, ?_⟩
  · exact (hb.cell (by rw [e]; exact hpb)).trans h1
  · exact (hb.cell (by rw [e]; exact hpb)).trans h2
  · exact (hb.cell (by rw [e]; exact hpb)).trans h3
theorem VRow.lt {w : World} {a : Option Addr} {cap : Nat} {l : List Dt.Dot} (h : VRow w a cap l) (hl : 0 < l.length) : ∀ p, a = some p → p.block < w.heap.size := by
  intro p hp
  obtain ⟨b, off, rfl, hb, _⟩ := h.at hl
  obtain rfl := Option.some.inj hp
  exact hb
theorem getF_stand {l : List Dt.Dot} {k : Nat} {d : Dt.Dot} (hd : l[k]? = some d) (hm : Dt.may d = true) : standF (fun a => getF a l k) d = fun a => getF a l (k + 1) := by
  funext a
  rw [getF_succ hd]
  unfold standF upd Dt.getStep
  by_cases e : a = d.1
  · subst e; simp [hm]
  · have : ¬ d.1 = a := fun h => e h.symm
    simp [e, this]
theorem getF_skip {l : List Dt.Dot} {k : Nat} {d : Dt.Dot} (hd : l[k]? = some d) (hm : Dt.may d = false) : (fun a => getF a l k) = fun a => getF a l (k + 1) := by
  funext a
  rw [getF_succ hd, getStep_not hm]
set_option maxRecDepth 100000 in
set_option maxHeartbeats 1600000 in
theorem throughM (a : Option Addr) (n cap b : Nat) (l : List Dt.Dot) (w : World) (hr : VRow w a cap l) (hl : l.length = n) (hn : n ≤ 100000000) (hv : 0 < n → ∀ p, a = some p → p.block < b) (h0 : NumX w b 0 (fun _ => 0)) :
    Calls Try.prog 47 #[.slice a n cap, .map (some b), .func (.func 48) #[] #[]] w fun e w' => e = .returned (.map (some b)) ∧ NumX w' b n (Dt.get l) ∧ Below b w w' := by
  have hle := hr.le
  have hcap := hr.cap
  have hb := h0.lt
  have HR := Lib.hid hr; have HL := Lib.hid hl; have H0 := Lib.hid h0; have HB := Lib.hid hb; have HV := Lib.hid hv
  rw [hl] at hle
  clear hr hl h0 hb hv
  go_enter Try.func47, Try.ntmps47
  go_wp2
  go_loopw [1, 8, 11] (fun u _ i wr => ∃ k : Nat, k ≤ n ∧ i = .int .i64 k ∧ u = .map (some b) ∧ NumX wr b k (fun a => getF a l k) ∧ Below b w wr) (fun _ _ i _ => n - (intOf i).toNat)
  case atStart => exact ⟨0, Nat.zero_le _, rfl, rfl, H0.out, Below.refl _ _⟩
  case round =>
    obtain ⟨k, hk, rfl, rfl, hnum, hbel⟩ := hrel
    have HBel := Lib.hid hbel; have HNum := Lib.hid hnum; clear hbel hnum
    by_cases hlt : k < n
    · obtain ⟨d, hd⟩ := getD_some (l := l) (i := k) (by rw [HL.out]; exact hlt)
      have hrow := HR.out.belowB (HV.out (by omega)) HBel.out
      have hokd := HR.out.ok d (List.mem_of_getElem? hd)
      obtain ⟨blk, off, rfl, hblk, hcells⟩ := hrow.at (by rw [HL.out]; omega)
      obtain ⟨q0, q1, q2⟩ := hcells k d hd
      have hbs : b < wr.heap.size := Nat.lt_of_lt_of_le HB.out HBel.out.size
      have Hd := Lib.hid hd; have HO := Lib.hid hokd; have HRow := Lib.hid hrow; have HS := Lib.hid hbs
      clear hcells hd hokd hrow hbs
      cases hm : Dt.may d
      · obtain ⟨⟨r, i⟩, s⟩ := d
        simp only at q0 q1 q2
        go_wp2_with fail
        refine (may_any r i s _).mono ?_
        rintro e w1 ⟨rfl, hb⟩
        have HBm := Lib.hid hb; clear hb
        go_wp2_with fail
        clear q0 q1 q2
        have hbb : Below wr.heap.size wr w1 := ((Below.refl _ _).alloc (Nat.le_refl _) _).trans (HBm.out.mono (by simp))
        go_roundw
        case rel => exact ⟨k + 1, by omega, by go_num, rfl, ((HNum.out.below hbb).congr (getF_skip Hd.out hm)).mono (by omega), HBel.out.trans (hbb.mono (by have := HS.out; omega))⟩
        case measure => simp [intOf]; omega
      · obtain ⟨⟨r, i⟩, s⟩ := d
        simp only at q0 q1 q2
        go_wp2_with fail
        refine (may_any r i s _).mono ?_
        rintro e w1 ⟨rfl, hb⟩
        obtain ⟨hc, hf⟩ := bcell hb
        have hbb : Below wr.heap.size wr w1 := ((Below.refl _ _).alloc (Nat.le_refl _) _).trans (hb.mono (by simp))
        have HBm := Lib.hid hbb; clear hb hbb
        go_wp2_with fail
        refine (standsClosure b k ((r, i), s) _ _ HO.out (by omega) (HNum.out.below HBm.out)).mono ?_
        rintro e w2 ⟨rfl, hN, hg⟩
        have HN := Lib.hid hN; have HG := Lib.hid hg
        clear hc hf q0 q1 q2 hN hg
        go_wp2_with fail
        have hb2 : Below b wr w2 := (HBm.out.mono (by have := HS.out; omega)).grown HG.out (by have := HBm.out.size; have := HS.out; omega) (fun j hj => by cases hj; exact Nat.le_refl _)
        go_roundw
        case rel => exact ⟨k + 1, by omega, by go_num, rfl, HN.out.congr (getF_stand Hd.out hm), HBel.out.trans hb2⟩
        case measure => simp [intOf]; omega
    · have hfin : (fun a => getF a l k) = Dt.get l := by
        funext a
        show Dt.get (l.take k) a = Dt.get l a
        rw [List.take_of_length_le (by rw [HL.out]; omega)]
      have Hfin := Lib.hid hfin; clear hfin
      have Hk := Lib.hid hk; clear hk
      go_wp2
      go_ret
      exact ⟨rfl, (HNum.out.congr Hfin.out).mono Hk.out, HBel.out⟩
def RetMap (W : World) (n : Nat) (f : Dt.Ac → Nat) (e : Ending) (w' : World) : Prop := ∃ b, e = .returned (.map (some b)) ∧ NumX w' b n f ∧ W.heap.size ≤ b ∧ Below W.heap.size W w'
set_option maxHeartbeats 400000 in
theorem stands_any (a : Option Addr) (n cap : Nat) (l : List Dt.Dot) (w : World) (hr : VRow w a cap l) (hl : l.length = n) (hn : n ≤ 100000000) :
    Calls Try.prog 32 #[.slice a n cap] w (RetMap w n (Dt.get l)) := by
  have hv : 0 < n → ∀ p, a = some p → p.block < w.heap.size := fun h => hr.lt (by omega)
  have HR := Lib.hid hr; have HL := Lib.hid hl; have HV := Lib.hid hv
  clear hr hl hv
  have hmm := @run_makeMap Try.prog
  go_enter Try.func32, Try.ntmps32
  go_wp2_with fail
  refine (throughM a n cap w.heap.size l _ (HR.out.below ((Below.refl _ _).alloc (Nat.le_refl _) _)) HL.out hn HV.out ⟨_, Nums.made w⟩).mono ?_
  rintro e w1 ⟨rfl, hN, hb⟩
  have HN := Lib.hid hN; have HB := Lib.hid hb
  clear hN hb
  go_wp2_with fail
  go_ret
  exact ⟨_, rfl, HN.out, Nat.le_refl _, ((Below.refl _ _).alloc (Nat.le_refl _) _).trans HB.out⟩
end Go.Proofs.Ytfebbdnibimmmaa
