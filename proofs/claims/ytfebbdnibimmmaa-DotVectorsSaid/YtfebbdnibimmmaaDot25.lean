import Derived.Test.YtfebbdnibimmmaaDot24
namespace Go.Proofs.Ytfebbdnibimmmaa
open Go.RowKit Go.Maps Go.Buf
set_option maxRecDepth 100000 in
set_option maxHeartbeats 3200000 in
theorem refjoin_any (a : Option Addr) (n cap : Nat) (la : List Dt.Dot) (c : Option Addr) (m capc : Nat) (lb : List Dt.Dot) (W : World) (hr : VRow W a cap la) (hl : la.length = n) (hn : n ≤ 1000) (hs : VRow W c capc lb) (hm : lb.length = m) (hn2 : m ≤ 1000) :
    Calls Try.prog 22 #[.slice a n cap, .slice c m capc] W (RetVec W (Dt.join la lb)) := by
  have HR := Lib.hid hr; have HL := Lib.hid hl; have HS := Lib.hid hs; have HM := Lib.hid hm
  clear hr hl hs hm
  go_enter Try.func22, Try.ntmps22
  go_wp2_with (first
    | (refine wpList_append_vb rfl (.tmp 7) (.tmp 8) rfl W.heap.size _ ([] ++ la) row1 rfl HV1.out _ m lb rfl (src_vrow (HS.out.below HB1.out) HM.out (by omega)) HM.out HS.out.ok (by have := HL.out; simp; omega) ?_; intro v2 w2 row2 hb2 hg2 hn2;
       have HB2 := Lib.hid (Below.grown HB1.out hg2 HB1.out.size HF1.out : Below W.heap.size W w2);
       obtain ⟨L2, hL2⟩ : ∃ L2, L2 = [] ++ la ++ lb := ⟨_, rfl⟩; rw [← hL2] at hb2; have hE2 := Lib.hid hL2; clear hL2;
       obtain ⟨a2, c2, hv2, hw2⟩ := hb2.row; obtain ⟨N2, hN2⟩ : ∃ N2, N2 = L2.length := ⟨_, rfl⟩; rw [← hN2] at hv2; have HN2 := Lib.hid hN2; clear hN2;
       have HV2 := Lib.hid hw2; clear hb2 hg2 hn2 hw2; subst hv2)
    | (refine wpList_append_vb rfl (.tmp 5) (.tmp 6) rfl W.heap.size _ [] none rfl (VBf.empty _ (by simp)) _ n la rfl (src_vrow (HR.out.below (Below.alloc (Below.refl _ _) (Nat.le_refl _) _)) HL.out (by omega)) HL.out HR.out.ok (by simp; omega) ?_; intro v1 w1 row1 hb1 hg1 hn1;
       have HB1 := Lib.hid (Below.grown (Below.alloc (Below.refl _ _) (Nat.le_refl _) _) hg1 (by simp) (fun k hk => by cases hk) : Below W.heap.size W w1);
       have HF1 := Lib.hid (newFresh hn1 (fun k hk => by cases hk) (by simp) : ∀ k, row1 = some k → W.heap.size ≤ k);
       have HV1 := Lib.hid hb1; clear hb1 hg1 hn1))
  refine (refcanon_any a2 N2 c2 L2 w2 HV2.out HN2.out.symm (by have := HL.out; have := HM.out; rw [HN2.out, hE2.out]; simp; omega)).mono ?_
  rintro e w3 ⟨a3, c3, rfl, hr3, hb3⟩
  have he : Dt.canon L2 = Dt.join la lb := by rw [hE2.out, List.nil_append, Dt.canon_append]
  rw [he] at hr3 ⊢
  go_wp2_with fail
  go_ret
  exact ⟨a3, c3, rfl, hr3, HB2.out.trans (hb3.mono HB2.out.size)⟩
def mF (X lb : List Dt.Dot) (k : Nat) : List Dt.Dot := (X.take k).map fun d => (d.1, min d.2 (Dt.get lb d.1))
theorem mF_succ {X lb : List Dt.Dot} {k : Nat} {d : Dt.Dot} (hd : X[k]? = some d) : mF X lb (k + 1) = mF X lb k ++ [(d.1, min d.2 (Dt.get lb d.1))] := by
  unfold mF
  obtain ⟨hk, rfl⟩ := List.getElem?_eq_some_iff.1 hd
  rw [List.take_succ_eq_append_getElem hk, List.map_append]; rfl
set_option maxRecDepth 100000 in
set_option maxHeartbeats 3200000 in
theorem refmeet_any (a : Option Addr) (n cap : Nat) (la : List Dt.Dot) (c : Option Addr) (m capc : Nat) (lb : List Dt.Dot) (W : World) (hr : VRow W a cap la) (hl : la.length = n) (hn : n ≤ 1000) (hs : VRow W c capc lb) (hm : lb.length = m) (_hn2 : m ≤ 1000) :
    Calls Try.prog 24 #[.slice a n cap, .slice c m capc] W (RetVec W (Dt.meet la lb)) := by
  have HR := Lib.hid hr; have HL := Lib.hid hl; have HS := Lib.hid hs; have HM := Lib.hid hm
  clear hr hl hs hm
  go_enter Try.func24, Try.ntmps24
  go_wp2_with fail
  refine (refcanon_any a n cap la W HR.out HL.out (by omega)).mono ?_
  rintro e w1 ⟨ax, cx, rfl, hrx, hb1⟩
  have hX64 : (Dt.canon la).length ≤ 64 := Dt.vec_length _
  have hfinal : Dt.canon (mF (Dt.canon la) lb (Dt.canon la).length) = Dt.meet la lb := by rw [← Dt.canon_meetL]; unfold mF Dt.meetL; rw [List.take_length]
  obtain ⟨X, hX⟩ : ∃ X, X = Dt.canon la := ⟨_, rfl⟩
  rw [← hX] at hrx hX64 hfinal ⊢
  obtain ⟨N, hN⟩ : ∃ N, N = X.length := ⟨_, rfl⟩
  rw [← hN] at hX64 hfinal ⊢
  have HX := Lib.hid hrx; have HN := Lib.hid hN; have HB1 := Lib.hid hb1; have HFin := Lib.hid hfinal; have HS := Lib.hid (HS.out.below hb1)
  clear hX hN hrx hb1 hfinal
  go_wp2_with fail
  go_loopw [5, 7] (fun v iv wr => ∃ (i : Nat) (row : Option Nat), i ≤ N ∧ iv = .int .i64 i ∧ VBf w1.heap.size wr v (mF X lb i) row ∧ (∀ k, row = some k → w1.heap.size ≤ k) ∧ Below w1.heap.size w1 wr) (fun _ iv _ => N - (intOf iv).toNat)
  case atStart => exact ⟨0, none, Nat.zero_le _, rfl, VBf.nil (Nat.le_refl _), (fun k hk => by cases hk), Below.refl _ _⟩
  case round =>
    obtain ⟨i, row, hi, rfl, hv, hf, hbel⟩ := hrel
    obtain ⟨wo, rfl⟩ : ∃ wo : World, wo = wr := ⟨_, rfl⟩
    have hol : (mF X lb i).length ≤ 64 := by unfold mF; simp; have := HN.out; omega
    by_cases hlt : i < N
    · obtain ⟨d, hd⟩ := getD_some (l := X) (i := i) (by rw [← HN.out]; exact hlt)
      have hdok := HX.out.ok d (List.mem_of_getElem? hd)
      obtain ⟨blk, off, rfl, hblk, hcells⟩ := HX.out.at (by rw [← HN.out]; omega)
      obtain ⟨g0, g1, g2⟩ := hcells i d hd
      have q0 := (hbel.cell (p := ⟨blk, off + i * 3, none⟩) hblk).trans g0
      have q1 := (hbel.cell (p := ⟨blk, off + i * 3 + 1, none⟩) hblk).trans g1
      have q2 := (hbel.cell (p := ⟨blk, off + i * 3 + 2, none⟩) hblk).trans g2
      have hsucc := mF_succ (lb := lb) hd
      generalize ho : mF X lb i = o at hsucc hv hol ⊢
      clear ho
      obtain ⟨ao, co, rfl, hO⟩ := hv.row
      clear hO
      obtain ⟨no, hno⟩ : ∃ no, no = o.length := ⟨_, rfl⟩
      rw [← hno] at hv ⊢
      clear hno
      obtain ⟨⟨r, q⟩, s⟩ := d
      simp only at q0 q1 q2 hsucc
      obtain ⟨g, hg⟩ : ∃ g, g = Dt.get lb (r, q) := ⟨_, rfl⟩
      rw [← hg] at hsucc
      have hdok2 : Dt.okD ((r, q), min s g) := ⟨hdok.1, hdok.2.1, by have := hdok.2.2; simp only at *; omega⟩
      have hs64 : s < 18446744073709551616 := hdok.2.2
      have Hg := Lib.hid hg; have HV := Lib.hid hv; have HF := Lib.hid hf; have HOl := Lib.hid hol; have HBel := Lib.hid hbel; have HSucc := Lib.hid hsucc.symm; have HDok := Lib.hid hdok2; have H64 := Lib.hid hs64
      have i0 : (0 : Int) ≤ (i : Int) := by omega
      have i1 : (i : Int) < (N : Int) := by omega
      clear hcells g0 g1 g2 hd hdok hdok2 hg hv hf hol hbel hsucc hs64
      go_wp2_with fail
      refine (refget_any c m capc r q lb _ (HS.out.below HBel.out) HM.out).mono ?_
      rintro e w3 ⟨rfl, hb3⟩
      rw [← Hg.out]
      have HG := Lib.hid hb3; have HGB := Lib.hid (HBel.out.trans (hb3.mono HBel.out.size))
      have p0 := (hb3.cell (p := ⟨blk, off + i * 3, none⟩) (World.block_lt_of_cell? wo _ q0)).trans q0
      have p1 := (hb3.cell (p := ⟨blk, off + i * 3 + 1, none⟩) (World.block_lt_of_cell? wo _ q1)).trans q1
      have p2 := (hb3.cell (p := ⟨blk, off + i * 3 + 2, none⟩) (World.block_lt_of_cell? wo _ q2)).trans q2
      clear hb3 q0 q1 q2
      by_cases hgs : s < g
      · have hmn : min s g = s := by omega
        rw [hmn] at HSucc HDok
        have j0 : (s : Int) < (g : Int) := by omega
        clear hmn
        go_wp2_with (first
          | (refine wpList_append_vb rfl (.tmp 36) (.tmp 44) rfl w1.heap.size _ o row rfl ((HV.out.below (by exact HG.out)).alloc _) _ 1 [((r, q), s)] rfl (src_lit (by simp) (by simp) (by simp)) rfl (by intro x hx; simp at hx; subst hx; exact HDok.out) (by have := HOl.out; simp; omega) ?_; intro v2 w4 row2 hb2 hg2 hn2;
             have HB4 := Lib.hid (Below.grown (Below.alloc HGB.out HGB.out.size _) hg2 (Nat.le_trans HGB.out.size (by simp)) HF.out : Below w1.heap.size w1 w4);
             have HF4 := Lib.hid (newFresh hn2 HF.out (Nat.le_trans HGB.out.size (by simp)) : ∀ k, row2 = some k → w1.heap.size ≤ k);
             rw [HSucc.out] at hb2; have HV4 := Lib.hid hb2; clear hb2 hg2 hn2))
        go_roundw
        case rel => exact ⟨i + 1, row2, by omega, by go_num, HV4.out, HF4.out, HB4.out⟩
        case measure => simp [intOf]; omega
      · have hmn : min s g = g := by omega
        rw [hmn] at HSucc HDok
        have j0 : ¬ (s : Int) < (g : Int) := by omega
        clear hmn
        go_wp2_with (first
          | (refine wpList_append_vb rfl (.tmp 36) (.tmp 44) rfl w1.heap.size _ o row rfl ((HV.out.below (by exact HG.out)).alloc _) _ 1 [((r, q), g)] rfl (src_lit (by simp) (by simp) (by simp)) rfl (by intro x hx; simp at hx; subst hx; exact HDok.out) (by have := HOl.out; simp; omega) ?_; intro v2 w4 row2 hb2 hg2 hn2;
             have HB4 := Lib.hid (Below.grown (Below.alloc HGB.out HGB.out.size _) hg2 (Nat.le_trans HGB.out.size (by simp)) HF.out : Below w1.heap.size w1 w4);
             have HF4 := Lib.hid (newFresh hn2 HF.out (Nat.le_trans HGB.out.size (by simp)) : ∀ k, row2 = some k → w1.heap.size ≤ k);
             rw [HSucc.out] at hb2; have HV4 := Lib.hid hb2; clear hb2 hg2 hn2))
        go_roundw
        case rel => exact ⟨i + 1, row2, by omega, by go_num, HV4.out, HF4.out, HB4.out⟩
        case measure => simp [intOf]; omega
    · have hiN : i = N := by omega
      subst hiN
      have hrow := hv.row
      obtain ⟨a4, c4, rfl, hv4⟩ := hrow
      have HBel := Lib.hid hbel
      generalize ho : mF X lb i = o at hv4 hol ⊢
      have HO := Lib.hid ho
      obtain ⟨N4, hN4⟩ : ∃ N4, N4 = o.length := ⟨_, rfl⟩
      rw [← hN4] at hol ⊢
      have HN4 := Lib.hid hN4; have HV4 := Lib.hid hv4
      clear hv hf hbel ho hN4 hv4
      go_wp2_with fail
      refine (refcanon_any a4 N4 c4 o wo HV4.out HN4.out.symm (by omega)).mono ?_
      rintro e w5 ⟨a5, c5, rfl, hr5, hb5⟩
      have he : Dt.canon o = Dt.meet la lb := by rw [← HO.out]; exact HFin.out
      rw [he] at hr5 ⊢
      go_wp2_with fail
      go_ret
      have hbb := HB1.out.trans (HBel.out.mono HB1.out.size)
      exact ⟨a5, c5, rfl, hr5, hbb.trans (hb5.mono hbb.size)⟩
end Go.Proofs.Ytfebbdnibimmmaa
