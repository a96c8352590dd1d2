import Derived.Test.YthbkieghkfpbhaaGreatZCmt8
namespace Go.Proofs.YthbkieghkfpbhaaGreat
open Go.RowKit Go.Buf Go.LB
set_option linter.unusedSimpArgs false
set_option linter.unusedVariables false
theorem le_of_x {v n er er' : Nat} (h : (v = n ∧ er' = 0 ∧ er = 0) ∨ (v = 0 ∧ er' ≠ 0)) : v ≤ n := by omega
theorem atMost_x (p n most : Nat) (hn : n ≤ most) (hm : most < 18446744073709551616) (R z : List Nat) (er : Nat) (w : World) (h : RdX w p (Cd.num n ++ R) z er) :
  Calls Tryz.prog 55 #[.pointer (some ⟨p, 0, none⟩), .int .u64 most] w fun e w' => ∃ v er', e = .returned (.int .u64 (v : Nat)) ∧ ((v = n ∧ er' = 0 ∧ er = 0) ∨ (v = 0 ∧ er' ≠ 0)) ∧ RdX w' p R z er' ∧ w.grownBy w' (some p) := by
 have H := Lib.hid h; have HM := Lib.hid hm; clear h hm
 go_enter Tryz.func55, Tryz.ntmps55
 go_wp2_with fail
 refine (Num_x n (by have := HM.out; omega) H.out).mono ?_
 rintro e w1 ⟨v, er', rfl, hv, hr, hg⟩
 have hle := le_of_x hv
 have HV := Lib.hid hv; have HR := Lib.hid hr; have HG := Lib.hid hg; clear hr hg hv
 go_wp2_with fail
 go_ret
 exact ⟨v, er', rfl, HV.out, HR.out, HG.out⟩
set_option maxHeartbeats 400000 in
theorem takeName_x (p : Nat) (s : ByteArray) (hs : s.size ≤ 12) (R z : List Nat) (er : Nat) (w : World) (h : RdX w p (txtE s ++ R) z er) :
  Calls Tryz.prog 57 #[.pointer (some ⟨p, 0, none⟩)] w fun e w' => ∃ s' er', e = .returned (.string s') ∧ s'.size ≤ 12 ∧ (er' = 0 → s' = s ∧ er = 0) ∧ RdX w' p R z er' ∧ w.grownBy w' (some p) := by
 have H := Lib.hid h; clear h
 go_enter Tryz.func57, Tryz.ntmps57
 go_wp2_with fail
 refine (Text_x s 12 (by omega) (by omega) H.out).mono ?_
 rintro e w1 ⟨s', er', rfl, hv, hr, hg⟩
 have HV := Lib.hid hv; have HR := Lib.hid hr; have HG := Lib.hid hg; clear hr hg hv
 go_wp2_with fail
 go_ret
 refine ⟨s', er', rfl, ?_, ?_, HR.out, HG.out⟩
 ·rcases HV.out with ⟨rfl, _⟩ | ⟨rfl, _⟩
  ·exact hs
  ·decide
 ·intro h0
  rcases HV.out with ⟨rfl, _, rfl⟩ | ⟨_, h⟩
  ·exact ⟨rfl, rfl⟩
  ·exact absurd h0 h
theorem many_x {α : Type} {w : World} {p : Nat} {f : α → List Nat} {R z : List Nat} {n v er er' : Nat} (l : List α) (hl : l.length = n) (hv : (v = n ∧ er' = 0 ∧ er = 0) ∨ (v = 0 ∧ er' ≠ 0)) (h : RdX w p (l.flatMap f ++ R) z er') :
  ∃ l2, l2.length = v ∧ (er' = 0 → l2 = l ∧ er = 0) ∧ (∀ x ∈ l2, x ∈ l) ∧ RdX w p (l2.flatMap f ++ R) z er' := by
 rcases hv with ⟨rfl, rfl, rfl⟩ | ⟨rfl, he⟩
 ·exact ⟨l, hl, fun _ => ⟨rfl, rfl⟩, fun _ h => h, h⟩
 ·exact ⟨[], rfl, fun h => absurd h he, by simp, h.bad he _⟩
theorem snoc_len {α : Type} {l : List α} {k : Nat} (h : l.length = k) (x : α) : (l ++ [x]).length = k + 1 := by rw [List.length_append, h]; rfl
theorem ok_snoc {α : Type} {P : α → Prop} {l : List α} {x : α} (h : ∀ y ∈ l, P y) (hx : P x) : ∀ y ∈ l ++ [x], P y := by
 intro y hy
 rcases List.mem_append.1 hy with hy | hy
 ·exact h y hy
 ·rw [List.mem_singleton.1 hy]; exact hx
theorem same_snoc {α : Type} {l l2 : List α} {k : Nat} {x s : α} {a b c : Nat} (hs : l2[k]? = some s) (h : b = 0 → l = l2.take k ∧ a = 0) (g : c = 0 → x = s ∧ b = 0) : c = 0 → l ++ [x] = l2.take (k + 1) ∧ a = 0 := by
 intro h0
 obtain ⟨rfl, hb⟩ := g h0
 obtain ⟨rfl, ha⟩ := h hb
 exact ⟨(take_one hs).symm, ha⟩
set_option maxRecDepth 100000 in
set_option maxHeartbeats 1600000 in
theorem takeDot_x (p : Nat) (d : Dt.Dot) (hd : Dt.okD d) (R z : List Nat) (er : Nat) (W : World) (h : RdX W p (dotE d ++ R) z er) :
  Calls Tryz.prog 61 #[.pointer (some ⟨p, 0, none⟩)] W fun e w' => ∃ d' er', e = .returned (dotV d') ∧ Dt.okD d' ∧ (er' = 0 → d' = d ∧ er = 0) ∧ RdX w' p R z er' ∧ W.grownBy w' (some p) := by
 obtain ⟨⟨r, i⟩, s⟩ := d
 obtain ⟨h1, h2, h3⟩ := hd
 simp only at h1 h2 h3
 have hplt := h.lt
 have hh : RdX W p (Cd.num r ++ (Cd.num i ++ (Cd.num s ++ R))) z er := by
  have e : dotE ((r, i), s) ++ R = Cd.num r ++ (Cd.num i ++ (Cd.num s ++ R)) := by simp only [dotE, List.append_assoc]
  rw [← e]; exact h
 have HH := Lib.hid hh; have H3 := Lib.hid h3
 clear h hh h3
 go_enter Tryz.func61, Tryz.ntmps61
 go_wp2_with fail
 refine (Num_x r (by omega) (HH.out.below (below_box3 _ _ _))).mono ?_
 rintro e w1 ⟨r1, e1, rfl, hv1, hr1, hg1⟩
 have hb1 : r1 < 256 := by omega
 have hw1 : IntKind.u8.wrap (r1 : Int) = (r1 : Int) := by simp [IntKind.wrap, IntKind.bits, IntKind.signed]; omega
 have HV1 := Lib.hid hv1; have HR1 := Lib.hid hr1; have HG1 := Lib.hid hg1; have hs1 := hg1.size
 clear hr1 hv1
 go_wp2_with fail
 refine (Num_x i (by omega) HR1.out).mono ?_
 rintro e w2 ⟨i1, e2, rfl, hv2, hr2, hg2⟩
 have hb2 : i1 < 4294967296 := by omega
 have hw2 : IntKind.u32.wrap (i1 : Int) = (i1 : Int) := by simp [IntKind.wrap, IntKind.bits, IntKind.signed]; omega
 have HV2 := Lib.hid hv2; have HR2 := Lib.hid hr2; have HG2 := Lib.hid (grownR HG1.out hg2); have hs2 := hg2.size
 clear hr2 hv2
 go_wp2_with fail
 refine (Num_x s (by have := H3.out; omega) HR2.out).mono ?_
 rintro e w3 ⟨s1, e3, rfl, hv3, hr3, hg3⟩
 have HV3 := Lib.hid hv3; have HR3 := Lib.hid hr3; have HG3 := Lib.hid (grownR HG2.out hg3); have hs3 := hg3.size
 clear hr3 hv3
 have hblk := boxKept HG3.out hplt
 have hc0 : w3.cell? ⟨W.heap.size, 0, none⟩ = some (.int .u8 0) := by rw [cell_of_row w3 W.heap.size 0 _ _ _ hblk]; rfl
 have hc1 : w3.cell? ⟨W.heap.size, 1, none⟩ = some (.int .u32 0) := by rw [cell_of_row w3 W.heap.size 1 _ _ _ hblk]; rfl
 have hc2 : w3.cell? ⟨W.heap.size, 2, none⟩ = some (.int .u64 0) := by rw [cell_of_row w3 W.heap.size 2 _ _ _ hblk]; rfl
 have hf0 := frozen_of_row w3 W.heap.size 0 _ _ hblk
 have hf1 := frozen_of_row w3 W.heap.size 1 _ _ hblk
 have hf2 := frozen_of_row w3 W.heap.size 2 _ _ hblk
 have HGW := Lib.hid (grownR (grown_of_below (row := some p) (below_box3 W _ _)) HG3.out)
 clear hblk
 go_wp2_with fail
 refine bodyPost_ret (v := dotV ((r1, i1), s1)) (by simp [results, Tryz.results61, go_sem, hc0, hc1, hc2]) rfl ⟨((r1, i1), s1), e3, rfl, ⟨hb1, hb2, ?_⟩, ?_, ?_, ?_⟩
 ·have := HV3.out; have := H3.out; simp only; omega
 ·intro h0
  have a3 := HV3.out; have a2 := HV2.out; have a1 := HV1.out
  rcases a3 with ⟨rfl, _, rfl⟩ | ⟨_, h⟩
  ·rcases a2 with ⟨rfl, _, rfl⟩ | ⟨_, h⟩
   ·rcases a1 with ⟨rfl, _, rfl⟩ | ⟨_, h⟩
    ·exact ⟨rfl, rfl⟩
    ·exact absurd rfl h
   ·exact absurd rfl h
  ·exact absurd h0 h
 ·exact ((HR3.out.setCell hplt _ _).setCell hplt _ _).setCell hplt _ _
 ·exact grownCell (grownCell (grownCell HGW.out (Nat.le_refl _) _ _) (Nat.le_refl _) _ _) (Nat.le_refl _) _ _
set_option maxRecDepth 100000 in
set_option maxHeartbeats 1600000 in
theorem listS_x (p : Nat) (l : List ByteArray) (n most : Nat) (hln : l.length = n) (hn : n ≤ most) (hm : most ≤ 1000) (hok : ∀ d ∈ l, d.size ≤ 12) (R z : List Nat) (er : Nat) (W : World) (h : RdX W p (Cd.num n ++ (l.flatMap txtE ++ R)) z er) :
  Calls Tryz.prog 56 #[.pointer (some ⟨p, 0, none⟩), .int .u64 most, .func (.func 57) #[] #[]] W fun e w' => ∃ v l' er', e = .returned v ∧ OB 9 1 encS W.heap.size w' v l' ∧ l'.length ≤ most ∧ (∀ d ∈ l', d.size ≤ 12) ∧ (er' = 0 → l' = l ∧ er = 0) ∧ RdX w' p R z er' ∧ W.grownBy w' (some p) := by
 have H := Lib.hid h; have HLn := Lib.hid hln; have HOk := Lib.hid hok
 have hplt := h.lt
 obtain ⟨i0, hi, hz0, hz1, hz2⟩ := info_parts infoStr
 have HI := Lib.hid hi; have HZ0 := Lib.hid hz0; have HZ1 := Lib.hid hz1; have HZ2 := Lib.hid hz2
 clear h hln hok hi hz0 hz1 hz2
 go_enter Tryz.func56, Tryz.ntmps56
 go_wp2_with fail
 refine (atMost_x p n most hn (by omega) _ z er W H.out).mono ?_
 rintro e w1 ⟨v, er1, rfl, hv, hr, hg⟩
 have hle := le_of_x hv
 obtain ⟨l2, hl2, hsame, hin, hr2⟩ := many_x l HLn.out hv hr
 have HL2 := Lib.hid hl2; have HSame := Lib.hid hsame; have HR := Lib.hid hr2; have HG := Lib.hid hg; have HIn := Lib.hid hin; have hg1 := hg.size
 clear hr hg hv hl2 hsame hin hr2
 go_wp2_with fail
 go_loopw [7, 11] (fun u i wr => ∃ (k erk : Nat) (l' : List ByteArray), k ≤ v ∧ i = .int .u64 k ∧ l'.length = k ∧ (∀ d ∈ l', d.size ≤ 12) ∧ OB 9 1 encS W.heap.size wr u l' ∧ (erk = 0 → l' = l2.take k ∧ er1 = 0) ∧ RdX wr p ((l2.drop k).flatMap txtE ++ R) z erk ∧ W.grownBy wr (some p)) (fun _ i _ => v - (intOf i).toNat)
 case atStart => exact ⟨0, er1, [], Nat.zero_le _, rfl, rfl, by simp, OB.nil HG.out.size, fun h => ⟨by simp, h⟩, by simpa using HR.out, HG.out⟩
 case round =>
  obtain ⟨k, erk, l', hk, rfl, hlk, hokk, hob, hsk, hrd, hgw⟩ := hrel
  have HOb := Lib.hid hob; have HRd := Lib.hid hrd; have HGw := Lib.hid hgw; have HOkk := Lib.hid hokk; have HSk := Lib.hid hsk; have HLk := Lib.hid hlk
  clear hob hrd hgw hokk hsk hlk
  by_cases hlt : k < v
  ·obtain ⟨s, hs⟩ : ∃ s, l2[k]? = some s := ⟨l2[k]'(by rw [HL2.out]; exact hlt), List.getElem?_eq_getElem _⟩
   have HS := Lib.hid hs; have HO := Lib.hid (HOk.out s (HIn.out s (List.mem_of_getElem? hs)))
   have hrd : RdX wr p (txtE s ++ ((l2.drop (k + 1)).flatMap txtE ++ R)) z erk := by
    have := HRd.out
    rw [drop_one hs, List.flatMap_cons, List.append_assoc] at this
    exact this
   have HRd2 := Lib.hid hrd
   clear hs hrd
   have hlk : l'.length ≤ 1000 := by rw [HLk.out]; omega
   go_wp2_with fail
   refine (takeName_x p s HO.out _ z erk _ HRd2.out).mono ?_
   rintro e w2 ⟨d1, er2, rfl, hok1, hs1, hr, hg⟩
   have hob2 := HOb.out.grown hg (fun q hq => by cases hq; exact hplt)
   have HOb2 := Lib.hid hob2; have HR2 := Lib.hid hr; have HG2 := Lib.hid hg; have HOk1 := Lib.hid hok1; have HS1 := Lib.hid hs1
   have hwl := hob2.1
   clear hr hg hob2 hok1 hs1
   go_wp2_with (refine wpList_append_ob rfl (.tmp 13) (.tmp 17) 30 rfl i0 (.string ⟨#[]⟩) 16 Tryz.underlying30 HI.out HZ0.out HZ1.out HZ2.out rfl (by decide) rfl (HOb2.out.alloc _) ⟨w2.heap.size, 0, none⟩ 1 d1 rfl rfl (fun j u hu => by match j, hu with | 0, hu => (simp [encS] at hu; subst hu; simp [Addr.add]) | j + 1, hu => simp [encS] at hu) (fun u hu => by simp [encS] at hu; subst hu; rfl) (by omega) (by omega) ?_; intro v3 w3 h3 g3)
   have hown : ∀ q, u7.ownBlock = some q → W.heap.size ≤ q := fun q hq => (HOb2.out.own q hq).1
   have H3 := Lib.hid h3; have G3 := Lib.hid (grownOwn (grownA (grownR HGw.out HG2.out) _) g3 hown)
   have R3 := Lib.hid ((HR2.out.below (below_box3 _ _ _)).grown g3 (fun q hq => Nat.lt_of_lt_of_le hplt (hown q hq)))
   clear h3 g3
   go_wp2_with fail
   go_roundw
   case rel => exact ⟨k + 1, er2, l' ++ [d1], by omega, by go_num, snoc_len HLk.out _, ok_snoc HOkk.out HOk1.out, H3.out, same_snoc HS.out HSk.out HS1.out, R3.out, G3.out⟩
   case measure => simp [intOf]; omega
  ·obtain rfl : k = v := by omega
   have HRd2 := Lib.hid (show RdX wr p R z erk by have := HRd.out; rwa [List.drop_of_length_le (by rw [HL2.out]; omega), List.flatMap_nil, List.nil_append] at this)
   clear HRd
   go_wp2_with fail
   go_ret
   refine ⟨_, l', erk, rfl, HOb.out, by rw [HLk.out]; omega, HOkk.out, fun h0 => ?_, HRd2.out, HGw.out⟩
   obtain ⟨e1, e2⟩ := HSk.out h0
   obtain ⟨e3, e4⟩ := HSame.out e2
   exact ⟨by rw [e1, List.take_of_length_le (by rw [HL2.out]; omega), e3], e4⟩
set_option maxRecDepth 100000 in
set_option maxHeartbeats 1600000 in
theorem listD_x (p : Nat) (l : List Dt.Dot) (n most : Nat) (hln : l.length = n) (hn : n ≤ most) (hm : most ≤ 1000) (hok : ∀ d ∈ l, Dt.okD d) (R z : List Nat) (er : Nat) (W : World) (h : RdX W p (Cd.num n ++ (l.flatMap dotE ++ R)) z er) :
  Calls Tryz.prog 60 #[.pointer (some ⟨p, 0, none⟩), .int .u64 most, .func (.func 61) #[] #[]] W fun e w' => ∃ v l' er', e = .returned v ∧ OB 27 3 encT W.heap.size w' v l' ∧ l'.length ≤ most ∧ (∀ d ∈ l', Dt.okD d) ∧ (er' = 0 → l' = l ∧ er = 0) ∧ RdX w' p R z er' ∧ W.grownBy w' (some p) := by
 have H := Lib.hid h; have HLn := Lib.hid hln; have HOk := Lib.hid hok
 have hplt := h.lt
 obtain ⟨i0, hi, hz0, hz1, hz2⟩ := info_parts infoDot
 have HI := Lib.hid hi; have HZ0 := Lib.hid hz0; have HZ1 := Lib.hid hz1; have HZ2 := Lib.hid hz2
 clear h hln hok hi hz0 hz1 hz2
 go_enter Tryz.func60, Tryz.ntmps60
 go_wp2_with fail
 refine (atMost_x p n most hn (by omega) _ z er W H.out).mono ?_
 rintro e w1 ⟨v, er1, rfl, hv, hr, hg⟩
 have hle := le_of_x hv
 obtain ⟨l2, hl2, hsame, hin, hr2⟩ := many_x l HLn.out hv hr
 have HL2 := Lib.hid hl2; have HSame := Lib.hid hsame; have HR := Lib.hid hr2; have HG := Lib.hid hg; have HIn := Lib.hid hin; have hg1 := hg.size
 clear hr hg hv hl2 hsame hin hr2
 go_wp2_with fail
 go_loopw [7, 11] (fun u i wr => ∃ (k erk : Nat) (l' : List Dt.Dot), k ≤ v ∧ i = .int .u64 k ∧ l'.length = k ∧ (∀ d ∈ l', Dt.okD d) ∧ OB 27 3 encT W.heap.size wr u l' ∧ (erk = 0 → l' = l2.take k ∧ er1 = 0) ∧ RdX wr p ((l2.drop k).flatMap dotE ++ R) z erk ∧ W.grownBy wr (some p)) (fun _ i _ => v - (intOf i).toNat)
 case atStart => exact ⟨0, er1, [], Nat.zero_le _, rfl, rfl, by simp, OB.nil HG.out.size, fun h => ⟨by simp, h⟩, by simpa using HR.out, HG.out⟩
 case round =>
  obtain ⟨k, erk, l', hk, rfl, hlk, hokk, hob, hsk, hrd, hgw⟩ := hrel
  have HOb := Lib.hid hob; have HRd := Lib.hid hrd; have HGw := Lib.hid hgw; have HOkk := Lib.hid hokk; have HSk := Lib.hid hsk; have HLk := Lib.hid hlk
  clear hob hrd hgw hokk hsk hlk
  by_cases hlt : k < v
  ·obtain ⟨s, hs⟩ : ∃ s, l2[k]? = some s := ⟨l2[k]'(by rw [HL2.out]; exact hlt), List.getElem?_eq_getElem _⟩
   have HS := Lib.hid hs; have HO := Lib.hid (HOk.out s (HIn.out s (List.mem_of_getElem? hs)))
   have hrd : RdX wr p (dotE s ++ ((l2.drop (k + 1)).flatMap dotE ++ R)) z erk := by
    have := HRd.out
    rw [drop_one hs, List.flatMap_cons, List.append_assoc] at this
    exact this
   have HRd2 := Lib.hid hrd
   clear hs hrd
   have hlk : l'.length ≤ 1000 := by rw [HLk.out]; omega
   go_wp2_with fail
   refine (takeDot_x p s HO.out _ z erk _ HRd2.out).mono ?_
   rintro e w2 ⟨d1, er2, rfl, hok1, hs1, hr, hg⟩
   have hob2 := HOb.out.grown hg (fun q hq => by cases hq; exact hplt)
   have HOb2 := Lib.hid hob2; have HR2 := Lib.hid hr; have HG2 := Lib.hid hg; have HOk1 := Lib.hid hok1; have HS1 := Lib.hid hs1
   have hwl := hob2.1
   clear hr hg hob2 hok1 hs1
   go_wp2_with (refine wpList_append_ob rfl (.tmp 13) (.tmp 17) 28 rfl i0 (.agg #[.int .u8 0, .int .u32 0, .int .u64 0]) 16 Tryz.underlying28 HI.out HZ0.out HZ1.out HZ2.out rfl (by decide) rfl (HOb2.out.alloc _) ⟨w2.heap.size, 0, none⟩ 1 d1 rfl rfl (fun j u hu => by match j, hu with | 0, hu => (simp [encT] at hu; subst hu; simp [Addr.add]) | 1, hu => (simp [encT] at hu; subst hu; simp [Addr.add]) | 2, hu => (simp [encT] at hu; subst hu; simp [Addr.add]) | j + 3, hu => simp [encT] at hu) (fun u hu => by simp [encT] at hu; rcases hu with rfl | rfl | rfl <;> rfl) (by omega) (by omega) ?_; intro v3 w3 h3 g3)
   have hown : ∀ q, u7.ownBlock = some q → W.heap.size ≤ q := fun q hq => (HOb2.out.own q hq).1
   have H3 := Lib.hid h3; have G3 := Lib.hid (grownOwn (grownA (grownR HGw.out HG2.out) _) g3 hown)
   have R3 := Lib.hid ((HR2.out.below (below_box3 _ _ _)).grown g3 (fun q hq => Nat.lt_of_lt_of_le hplt (hown q hq)))
   clear h3 g3
   go_wp2_with fail
   go_roundw
   case rel => exact ⟨k + 1, er2, l' ++ [d1], by omega, by go_num, snoc_len HLk.out _, ok_snoc HOkk.out HOk1.out, H3.out, same_snoc HS.out HSk.out HS1.out, R3.out, G3.out⟩
   case measure => simp [intOf]; omega
  ·obtain rfl : k = v := by omega
   have HRd2 := Lib.hid (show RdX wr p R z erk by have := HRd.out; rwa [List.drop_of_length_le (by rw [HL2.out]; omega), List.flatMap_nil, List.nil_append] at this)
   clear HRd
   go_wp2_with fail
   go_ret
   refine ⟨_, l', erk, rfl, HOb.out, by rw [HLk.out]; omega, HOkk.out, fun h0 => ?_, HRd2.out, HGw.out⟩
   obtain ⟨e1, e2⟩ := HSk.out h0
   obtain ⟨e3, e4⟩ := HSame.out e2
   exact ⟨by rw [e1, List.take_of_length_le (by rw [HL2.out]; omega), e3], e4⟩
end Go.Proofs.YthbkieghkfpbhaaGreat
namespace Go.Proofs.YthbkieghkfpbhaaGreat
open Go.RowKit Go.Buf Go.LB
set_option linter.unusedSimpArgs false
set_option linter.unusedVariables false
theorem Err_x {p : Nat} {w : World} {E z : List Nat} {er : Nat} (h : RdX w p E z er) : Calls Tryz.prog 18 #[.pointer (some ⟨p, 0, none⟩)] w fun e w' => e = .returned (.int .i64 er) ∧ w = w' := by
 obtain ⟨l, h, _⟩ := h; exact Err_at h
theorem Fail_x {p : Nat} {w : World} {E z : List Nat} {er : Nat} (h : RdX w p E z er) (he : er ≠ 0) (y : Nat) : Calls Tryz.prog 17 #[.pointer (some ⟨p, 0, none⟩), .int .i64 y] w fun e w' => e = .returned (.tuple #[]) ∧ w = w' := by
 obtain ⟨l, ⟨a, n, c, h⟩, _⟩ := h; exact fail_no p a n c l er y w h he
theorem Fail_at {p : Nat} {w : World} {l : List Nat} (h : RdrS w p l 0) (y : Nat) : Calls Tryz.prog 17 #[.pointer (some ⟨p, 0, none⟩), .int .i64 y] w fun e w' => e = .returned (.tuple #[]) ∧ RdrS w' p l y ∧ w.grownBy w' (some p) := by
 obtain ⟨a, n, c, h⟩ := h; exact (fail_ok p a n c l y w h).mono fun e w' ⟨h1, h2, h3⟩ => ⟨h1, ⟨a, n, c, h2⟩, h3⟩
def OpX (B : Nat) (w : World) (x : Value) (o : Om.O) : Prop := ∃ pa pl pc da dl dc, x = opV o.kind pa pl pc o.n o.text da dl dc ∧ o.path.length = pl ∧ o.dots.length = dl ∧ OB 9 1 encS B w (.slice pa pl pc) o.path ∧ OB 27 3 encT B w (.slice da dl dc) o.dots ∧
 o.kind < 256 ∧ -9223372036854775808 ≤ o.n ∧ o.n ≤ 9223372036854775807 ∧ (∀ s ∈ o.path, s.size ≤ 9223372036854775807) ∧ (∀ d ∈ o.dots, Dt.okD d) ∧ o.path.length ≤ 1000 ∧ o.dots.length ≤ 1000
set_option maxRecDepth 100000 in
set_option maxHeartbeats 3200000 in
theorem take_x (q : Nat) (k : Nat) (hk : k < 256) (pl : Nat) (n : Int) (hn1 : -9223372036854775808 ≤ n) (hn2 : n ≤ 9223372036854775807) (t : ByteArray) (dl : Nat) (p : List ByteArray) (d : List Dt.Dot) (hpl : p.length = pl) (hdl : d.length = dl) (hok : ∀ x ∈ d, Dt.okD x) (hm : Om.may ⟨k, p, n, t, d⟩ = true) (R z : List Nat) (er : Nat) (W : World) (h : RdX W q (opE ⟨k, p, n, t, d⟩ ++ R) z er) :
    Calls Tryz.prog 36 #[.pointer (some ⟨q, 0, none⟩)] W fun e w' => ∃ x o' er', e = .returned x ∧ OpX W.heap.size w' x o' ∧ (er' = 0 → o' = ⟨k, p, n, t, d⟩ ∧ er = 0) ∧ RdX w' q R z er' ∧ W.grownBy w' (some q) := by
  obtain ⟨m1, m2, m3, m4⟩ := names_of_may hm
  simp only at m1 m2 m3 m4
  rw [hpl] at m2
  rw [hdl] at m4
  have hplt := h.lt
  have hh : RdX W q (Cd.num k ++ (Cd.num pl ++ (p.flatMap txtE ++ (Cd.num (Cd.uns n) ++ (txtE t ++ (Cd.num dl ++ (d.flatMap dotE ++ R))))))) z er := by
    have e : opE ⟨k, p, n, t, d⟩ ++ R = Cd.num k ++ (Cd.num pl ++ (p.flatMap txtE ++ (Cd.num (Cd.uns n) ++ (txtE t ++ (Cd.num dl ++ (d.flatMap dotE ++ R)))))) := by simp only [opE, hpl, hdl, List.append_assoc]
    rw [← e]; exact h
  have HH := Lib.hid hh; have HM := Lib.hid hm; have HPl := Lib.hid hpl; have HDl := Lib.hid hdl; have HOk := Lib.hid hok; have HM1 := Lib.hid m1; have HN1 := Lib.hid hn1; have HN2 := Lib.hid hn2
  clear h hh hm hpl hdl hok m1 hn1 hn2
  go_enter Tryz.func36, Tryz.ntmps36
  go_wp2_with fail
  refine (atMost_x q k 255 (by omega) (by omega) _ z er _ (HH.out.below (below_box _ _ _))).mono ?_
  rintro e w1 ⟨k1, e1, rfl, hv1, hr1, hg1⟩
  have hk1 : k1 < 256 := by omega
  have hw1 : IntKind.u8.wrap (k1 : Int) = (k1 : Int) := by simp [IntKind.wrap, IntKind.bits, IntKind.signed]; omega
  have HV1 := Lib.hid hv1; have HR1 := Lib.hid hr1; have HG1 := Lib.hid hg1; have hs1 := fresh_lt hg1
  clear hr1 hg1 hv1
  go_wp2_with fail
  refine (listS_x q p pl 3 HPl.out m2 (by omega) HM1.out _ z e1 _ HR1.out).mono ?_
  rintro e w2 ⟨v2, p2, e2, rfl, ho2, hl2, hok2, hv2, hr2, hg2⟩
  have HO2 := Lib.hid ho2; have HR2 := Lib.hid hr2; have HG2 := Lib.hid (grownR HG1.out hg2); have HV2 := Lib.hid hv2; have HOk2 := Lib.hid hok2; have HL2 := Lib.hid hl2
  clear ho2 hr2 hg2 hl2 hv2 hok2
  go_wp2_with fail
  refine (Int_x n HN1.out HN2.out HR2.out).mono ?_
  rintro e w3 ⟨n3, e3, rfl, hv3, hr3, hg3⟩
  have HO3 := Lib.hid (HO2.out.grown hg3 (fun j hj => by cases hj; omega)); have HR3 := Lib.hid hr3; have HG3 := Lib.hid (grownR HG2.out hg3); have HV3 := Lib.hid hv3
  clear hr3 hg3 hv3
  go_wp2_with fail
  refine (Text_x t 40 (by omega) (by omega) HR3.out).mono ?_
  rintro e w4 ⟨t4, e4, rfl, hv4, hr4, hg4⟩
  have HO4 := Lib.hid (HO3.out.grown hg4 (fun j hj => by cases hj; omega)); have HR4 := Lib.hid hr4; have HG4 := Lib.hid (grownR HG3.out hg4); have hs4 := fresh_lt (grownR HG3.out hg4); have HV4 := Lib.hid hv4
  clear hr4 hg4 hv4
  go_wp2_with fail
  refine (listD_x q d dl 64 HDl.out m4 (by omega) HOk.out _ z e4 _ HR4.out).mono ?_
  rintro e w5 ⟨v5, d5, e5, rfl, ho5, hl5, hok5, hv5, hr5, hg5⟩
  have HO5 := Lib.hid (HO4.out.grown hg5 (fun j hj => by cases hj; omega)); have HD5 := Lib.hid ho5; have HR5 := Lib.hid hr5; have HG5 := Lib.hid (grownR HG4.out hg5); have hs5 := fresh_lt (grownR HG4.out hg5); have HV5 := Lib.hid hv5; have HOk5 := Lib.hid hok5; have HL5 := Lib.hid hl5
  clear hr5 hg5 ho5 hl5 hv5 hok5
  have hs2 : ∀ s ∈ p2, s.size ≤ 9223372036854775807 := fun s hs => by have := HOk2.out s hs; omega
  obtain ⟨pl2, hpl2⟩ : ∃ m, p2.length = m := ⟨_, rfl⟩
  obtain ⟨dl5, hdl5⟩ : ∃ m, d5.length = m := ⟨_, rfl⟩
  obtain ⟨pa, pc, e2q, hsr⟩ := srow_of_ob HO5.out hpl2 hs2
  obtain ⟨da, dc, e5q, hvr⟩ := vrow_of_ob HD5.out hdl5 HOk5.out
  subst e2q; subst e5q
  have HSr := Lib.hid hsr; have HVr := Lib.hid hvr; have HS2 := Lib.hid hs2; have HPl2 := Lib.hid hpl2; have HDl5 := Lib.hid hdl5; clear hsr hvr hs2 hpl2 hdl5
  have hsame : e5 = 0 → (⟨k1, p2, n3, t4, d5⟩ : Om.O) = ⟨k, p, n, t, d⟩ ∧ er = 0 := fun h0 => by
    obtain ⟨rfl, h0⟩ := HV5.out h0
    rcases HV4.out with ⟨rfl, _, h0'⟩ | ⟨_, h⟩
    · rcases HV3.out with ⟨rfl, _, h0''⟩ | ⟨_, h⟩
      · obtain ⟨rfl, h1⟩ := HV2.out h0''
        rcases HV1.out with ⟨rfl, _, h2⟩ | ⟨_, h⟩
        · exact ⟨rfl, h2⟩
        · exact absurd h1 h
      · exact absurd h0' h
    · exact absurd h0 h
  have hnb : -9223372036854775808 ≤ n3 ∧ n3 ≤ 9223372036854775807 := by have a := HN1.out; have b := HN2.out; rcases HV3.out with ⟨rfl, _⟩ | ⟨rfl, _⟩ <;> omega
  have HSame := Lib.hid hsame; have HNb := Lib.hid hnb
  clear hsame hnb
  go_wp2_with fail
  have HBox := Lib.hid (below_box w5 #[.int .u8 (k1 : Int), .slice pa pl2 pc, .int .i64 n3, .string t4, .slice da dl5 dc] 32)
  refine (opmay_any k1 hk1 pa pl2 pc n3 t4 da dl5 dc p2 d5 _ (HSr.out.below HBox.out) HPl2.out (HVr.out.below HBox.out) HDl5.out).mono ?_
  rintro e w6 ⟨rfl, hb⟩
  obtain ⟨hc0, hc1, hc2, hc3, hc4⟩ := opcells hb
  have hb6 := HBox.out.trans (hb.mono HBox.out.size)
  have HO6 := Lib.hid (HO5.out.below hb6); have HD6 := Lib.hid (HD5.out.below hb6); have HR6 := Lib.hid (HR5.out.below hb6); have HG6 := Lib.hid (grownR HG5.out (grown_of_below (row := some q) hb6)); have hs6 := hb6.size
  clear hb hb6
  have hblk := boxKept HG6.out hplt
  have hd0 : w6.cell? ⟨W.heap.size, 0, none⟩ = some (.int .u8 0) := by rw [cell_of_row w6 W.heap.size 0 _ _ _ hblk]; rfl
  have hd1 : w6.cell? ⟨W.heap.size, 1, none⟩ = some (.slice none 0 0) := by rw [cell_of_row w6 W.heap.size 1 _ _ _ hblk]; rfl
  have hd2 : w6.cell? ⟨W.heap.size, 2, none⟩ = some (.int .i64 0) := by rw [cell_of_row w6 W.heap.size 2 _ _ _ hblk]; rfl
  have hd3 : w6.cell? ⟨W.heap.size, 3, none⟩ = some (.string ⟨#[]⟩) := by rw [cell_of_row w6 W.heap.size 3 _ _ _ hblk]; rfl
  have hd4 : w6.cell? ⟨W.heap.size, 4, none⟩ = some (.slice none 0 0) := by rw [cell_of_row w6 W.heap.size 4 _ _ _ hblk]; rfl
  have hf0 := frozen_of_row w6 W.heap.size 0 _ _ hblk
  have hf1 := frozen_of_row w6 W.heap.size 1 _ _ hblk
  have hf2 := frozen_of_row w6 W.heap.size 2 _ _ hblk
  have hf3 := frozen_of_row w6 W.heap.size 3 _ _ hblk
  have hf4 := frozen_of_row w6 W.heap.size 4 _ _ hblk
  have HGW := Lib.hid (grownR (grown_of_below (row := some q) (below_box W _ _)) HG6.out)
  clear hblk
  by_cases he : e5 = 0
  · obtain ⟨hq, h00⟩ := HSame.out he
    simp only [Om.O.mk.injEq] at hq
    obtain ⟨q1, q2, q3, q4, q5⟩ := hq
    have hmt : Om.may ⟨k1, p2, n3, t4, d5⟩ = true := by rw [q1, q2, q3, q4, q5]; exact HM.out
    rw [hmt]
    have HQ := Lib.hid q1; have HQ2 := Lib.hid q2; have HQ3 := Lib.hid q3; have HQ4 := Lib.hid q4; have HQ5 := Lib.hid q5; have H00 := Lib.hid h00
    subst he
    clear q1 q2 q3 q4 q5 hmt h00
    go_wp2_with fail
    refine (Err_x HR6.out).mono ?_
    rintro e w7 ⟨rfl, rfl⟩
    go_wp2_with fail
    refine bodyPost_ret (v := opV k1 pa pl2 pc n3 t4 da dl5 dc) (by simp [results, Tryz.results36, go_sem, hd0, hd1, hd2, hd3, hd4]) rfl ⟨_, ⟨k1, p2, n3, t4, d5⟩, 0, rfl, ⟨pa, pl2, pc, da, dl5, dc, rfl, HPl2.out, HDl5.out, ?_, ?_, hk1, HNb.out.1, HNb.out.2, HS2.out, HOk5.out, by have := HL2.out; simp only; omega, by have := HL5.out; simp only; omega⟩, fun _ => ⟨by rw [HQ.out, HQ2.out, HQ3.out, HQ4.out, HQ5.out], H00.out⟩, ?_, ?_⟩
    · exact (HO6.out.grown (grown_set5 w6 W.heap.size _ _ _ _ _) (fun j hj => by cases hj; omega)).base (by omega)
    · exact (HD6.out.grown (grown_set5 w6 W.heap.size _ _ _ _ _) (fun j hj => by cases hj; omega)).base (by omega)
    · exact ((((HR6.out.setCell hplt _ _).setCell hplt _ _).setCell hplt _ _).setCell hplt _ _).setCell hplt _ _
    · exact grownCell (grownCell (grownCell (grownCell (grownCell HGW.out (Nat.le_refl _) _ _) (Nat.le_refl _) _ _) (Nat.le_refl _) _ _) (Nat.le_refl _) _ _) (Nat.le_refl _) _ _
  · have t1 : ((e5 : Int) == 0) = false := by simp; omega
    have t2 : ((e5 : Int) != 0) = true := by simp; omega
    have hw : W.heap.size ≤ w6.heap.size := by omega
    cases hb : Om.may ⟨k1, p2, n3, t4, d5⟩
    all_goals
      clear hb
      go_wp2_with fail
      first
        | (refine (Fail_x HR6.out he 4).mono ?_
           rintro e w7 ⟨rfl, rfl⟩
           go_wp2_with fail
           refine (Err_x HR6.out).mono ?_
           rintro e w7 ⟨rfl, rfl⟩
           go_wp2_with fail)
        | (refine (Err_x HR6.out).mono ?_
           rintro e w7 ⟨rfl, rfl⟩
           go_wp2_with fail)
      refine bodyPost_ret (v := opV 0 none 0 0 0 ⟨#[]⟩ none 0 0) (by simp [results, Tryz.results36, go_sem, hd0, hd1, hd2, hd3, hd4]) rfl ⟨_, ⟨0, [], 0, ⟨#[]⟩, []⟩, e5, rfl, ⟨none, 0, 0, none, 0, 0, rfl, rfl, rfl, OB.nil (by simpa [World.setCell] using hw), OB.nil (by simpa [World.setCell] using hw), by decide, by decide, by decide, by simp, by simp, by simp, by simp⟩, fun h0 => absurd h0 he, ?_, ?_⟩
      · exact ((((HR6.out.setCell hplt _ _).setCell hplt _ _).setCell hplt _ _).setCell hplt _ _).setCell hplt _ _
      · exact grownCell (grownCell (grownCell (grownCell (grownCell HGW.out (Nat.le_refl _) _ _) (Nat.le_refl _) _ _) (Nat.le_refl _) _ _) (Nat.le_refl _) _ _) (Nat.le_refl _) _ _
end Go.Proofs.YthbkieghkfpbhaaGreat
