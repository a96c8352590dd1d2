import Derived.Test.YtbciopieciglmaaZFuse5
namespace Go.Proofs.Ytbciopieciglmaa
open Go.RowKit Go.Buf Go.LB Go.Lib
set_option linter.unusedSimpArgs false
set_option linter.unusedVariables false
theorem took_init (W : World) : Took W (((W.alloc (.cells #[.slice none 0 0] 38)).alloc (.map #[] 0)).alloc (.cells #[.map (some (W.heap.size + 1))] 24)) (W.heap.size + 1 + 1) W.heap.size (W.heap.size + 1) ([], []) := by
 have up : ∀ (w : World) (o : Obj), Below w.heap.size w (w.alloc o) := fun w o => (Below.refl _ _).alloc (Nat.le_refl _) o
 have h1 := ((Blk.new W #[.slice none 0 0] 38).below (up _ (.map #[] 0))).below (up _ (.cells #[.map (some (W.heap.size + 1))] 24))
 have h2 := Blk.new ((W.alloc (.cells #[.slice none 0 0] 38)).alloc (.map #[] 0)) #[.map (some (W.heap.size + 1))] 24
 have h3 := (Numd.made (W.alloc (.cells #[.slice none 0 0] 38))).below (up _ (.cells #[.map (some (W.heap.size + 1))] 24))
 simp only [World.size_alloc] at h1 h2 h3
 have hb : Below W.heap.size W (((W.alloc (.cells #[.slice none 0 0] 38)).alloc (.map #[] 0)).alloc (.cells #[.map (some (W.heap.size + 1))] 24)) := (((Below.refl _ _).alloc (Nat.le_refl _) _).alloc (by simp) _).alloc (by simp; omega) _
 exact ⟨.slice none 0 0, none, h2, h1, Own.empty hb.size none, h3, hb⟩
set_option maxRecDepth 100000 in
set_option maxHeartbeats 6400000 in
theorem gather_any (da : Option Addr) (dl dc : Nat) (ia : Option Addr) (il ic : Nat) (ia' : Option Addr) (il' ic' : Nat) (ld : List Dt.Dot) (li li' : List Lm.It) (W : World) (hd : VRow W da dc ld) (hdl : ld.length = dl) (hi : IRow W ia ic li) (hil : li.length = il) (hi' : IRow W ia' ic' li') (hil' : li'.length = il') (hn1 : dl ≤ 10000) (hn2 : il ≤ 10000) (hn3 : il' ≤ 10000) :
  Calls Try.prog 48 #[.slice da dl dc, .slice ia il ic, .slice ia' il' ic'] W fun e w' => (∃ v row s, e = .returned v ∧ OwnI W.heap.size w' v s row ∧ s.Perm (Lm.gath ld li li') ∧ s.Pairwise (fun x y => ¬ Lm.aheadI y x = true)) ∧ Below W.heap.size W w' := by
 have HD := Lib.hid hd; have HDl := Lib.hid hdl; have HI := Lib.hid hi; have HIl := Lib.hid hil; have HI' := Lib.hid hi'; have HIl' := Lib.hid hil'
 have hdle := hd.le
 have hdcap := hd.cap
 rw [hdl] at hdle
 clear hd hdl hi hil hi' hil'
 have hmm : ∀ (x : Int) (w : World), (Instr.makeMap 24 (some (.int .i64 x))).run Try.prog w = .ok (.map (some w.heap.size)) (w.alloc (.map #[] 0)) := fun x w => by
  simp [Instr.makeMap, run_underlying Try.underlying24, asInt, asIntOf, newObj, Result.andThen]
  rfl
 go_enter Try.func48, Try.ntmps48
 go_wp2_with fail
 go_loopw [10, 23] (fun _ i wr => ∃ k : Nat, i = .int .i64 k ∧ k ≤ dl ∧ Took W wr (W.heap.size + 1 + 1) W.heap.size (W.heap.size + 1) (ld.take k, [])) (fun _ i _ => dl - (intOf i).toNat)
 case atStart => exact ⟨0, rfl, by omega, took_init W⟩
 case round =>
  obtain ⟨k, rfl, hkn, hk⟩ := hrel
  by_cases hlt : k < dl
  ·obtain ⟨d, hd⟩ := getD_some (l := ld) (i := k) (by rw [HDl.out]; exact hlt)
   have hlen : (ld.take k).length = k := by rw [List.length_take, HDl.out]; omega
   have HTk := Lib.hid (show ld.take (k + 1) = ld.take k ++ [d] by rw [List.take_add_one, hd]; rfl)
   obtain ⟨v, row, hbS, hbI, hO, hM, hW⟩ := hk
   have hokd := HD.out.ok d (List.mem_of_getElem? hd)
   obtain ⟨blk, off, rfl, hblk, hcells⟩ := HD.out.at (by rw [HDl.out]; omega)
   obtain ⟨g0, g1, g2⟩ := hcells k d hd
   have q0 := (hW.cell (p := ⟨blk, off + k * 3, none⟩) hblk).trans g0
   have q1 := (hW.cell (p := ⟨blk, off + k * 3 + 1, none⟩) hblk).trans g1
   have q2 := (hW.cell (p := ⟨blk, off + k * 3 + 2, none⟩) hblk).trans g2
   have k0 : (0 : Int) ≤ (k : Int) := by omega
   have k1 : (k : Int) < (dl : Int) := by omega
   have hw1 : IntKind.i64.wrap ((k : Int) + 1) = (k : Int) + 1 := by simp [IntKind.wrap, IntKind.bits, IntKind.signed]; omega
   clear hcells g0 g1 g2 hd
   have hup : Below wr.heap.size wr (wr.alloc (.cells #[.int .u8 (d.1.1 : Int), .int .u32 (d.1.2 : Int), .int .u64 (d.2 : Int)] 31)) := (Below.refl _ _).alloc (Nat.le_refl _) _
   have fS := hbS.below hup; have fI := hbI.below hup; have fO := hO.below hup; have fM := hM.below hup
   have fC : Blk (wr.alloc (.cells #[.int .u8 (d.1.1 : Int), .int .u32 (d.1.2 : Int), .int .u64 (d.2 : Int)] 31)) wr.heap.size 31 (encD d) := Blk.new _ _ _
   have fW := hW.alloc hW.size (.cells #[.int .u8 (d.1.1 : Int), .int .u32 (d.1.2 : Int), .int .u64 (d.2 : Int)] 31)
   obtain ⟨W2, hW2⟩ : ∃ W2, W2 = wr.alloc (.cells #[.int .u8 (d.1.1 : Int), .int .u32 (d.1.2 : Int), .int .u64 (d.2 : Int)] 31) := ⟨_, rfl⟩
   rw [← hW2] at fS fC fI fM fO fW
   obtain ⟨c2, st, w1, w3, hc2, hc3, e1, e2, e3, e4, hN3, hg3⟩ := fM.drew.bump hokd (by rw [hlen]; omega)
   have HN3 := Lib.hid hN3; have HG3 := Lib.hid hg3
   have p0 : W2.cell? ⟨W.heap.size + 1 + 1, 0, none⟩ = some (.map (some (W.heap.size + 1))) := fS.cell 0
   have y1 : W2.cell? ⟨wr.heap.size, 0, none⟩ = some (.int .u8 (d.1.1 : Int)) := fC.cell 0
   have y2 : W2.cell? ⟨wr.heap.size, 1, none⟩ = some (.int .u32 (d.1.2 : Int)) := fC.cell 1
   have y3 : W2.cell? ⟨wr.heap.size, 2, none⟩ = some (.int .u64 (d.2 : Int)) := fC.cell 2
   have hwc : IntKind.i64.wrap ((c2 : Int) + 1) = (c2 : Int) + 1 := by simp [IntKind.wrap, IntKind.bits, IntKind.signed]; omega
   simp only [goInt] at e2 e4
   have FS := Lib.hid fS; have FC := Lib.hid fC; have FI := Lib.hid fI; have FM := Lib.hid fM; have FO := Lib.hid fO; have FW := Lib.hid fW
   clear fS fC fI fM fO fW hN3 hg3 hup hc2 hbS hbI hO hM hW hokd hlen
   go_wp2_with fail
   rw [← hW2]
   clear hW2 q0 q1 q2
   go_region
   all_goals
    go_wp2_with fail
    clear p0 y1 y2 y3 e1 e2 e3 e4
    go_roundw
    case rel => exact ⟨k + 1, by go_num, by omega, by rw [HTk.out]; exact took_of FS.out FI.out FO.out FM.out FW.out (by omega) HN3.out HG3.out⟩
    case measure => simp [intOf]; omega
  ·obtain rfl : k = dl := by omega
   have hfin : ld.take k = ld := by rw [List.take_of_length_le (by rw [HDl.out]; omega)]
   rw [hfin] at hk
   have HK := Lib.hid hk; clear hk hfin
   go_wp2_with fail
   have hl0 := HDl.out
   refine (take_any ia il ic li W wr _ _ _ (ld, []) HI.out HIl.out (by omega) (by simp only; omega) (by simp) (by omega) (by omega) (by omega) HK.out).mono ?_
   rintro e w1 ⟨rfl, hT1⟩
   have HT1 := Lib.hid hT1; clear hT1
   go_wp2_with fail
   obtain ⟨hn1', hn2'⟩ := takeS_len li (ld, [])
   rw [HIl.out] at hn1' hn2'
   simp only [List.length_nil] at hn1' hn2'
   refine (take_any ia' il' ic' li' W w1 _ _ _ _ HI'.out HIl'.out (by omega) (by omega) (by omega) (by omega) (by omega) (by omega) HT1.out).mono ?_
   rintro e w2 ⟨rfl, hT2⟩
   obtain ⟨v, row, hbS, hbI, hO, hM, hW⟩ := hT2
   obtain ⟨hm1, hm2⟩ := takeS_len li' (li.foldl Lm.takeS (ld, []))
   rw [HIl'.out] at hm1 hm2
   obtain ⟨va, vc, rfl, _⟩ := hO.reads encI_len
   obtain ⟨N, hN⟩ : ∃ N, N = (li'.foldl Lm.takeS (li.foldl Lm.takeS (ld, []))).2.length := ⟨_, rfl⟩
   have HO := Lib.hid hO
   rw [← hN] at hbI HO
   have z0 : w2.cell? ⟨W.heap.size, 0, none⟩ = some (.slice va N vc) := hbI.cell 0
   have HI2 := Lib.hid hbI; have HW := Lib.hid hW
   clear hbI hbS hO hM hW hN
   go_wp2_with fail
   refine (sortD_anyI _ row _ W.heap.size w2 HO.out (by omega)).mono ?_
   rintro e w3 ⟨rfl, ⟨s, hp, hs, hO3⟩, hc⟩
   have z1 : w3.cell? ⟨W.heap.size, 0, none⟩ = some (.slice va N vc) := (HI2.out.chg hc (fun e => ownI_ne HO.out HI2.out (by decide) e.symm)).cell 0
   have HP := Lib.hid hp; have HS := Lib.hid hs; have HO3 := Lib.hid hO3
   have HB := Lib.hid (Chg.belowTrans HW.out hc (fun b _ e => (HO.out.lt b e.symm).1) HW.out.size)
   clear hp hs hO3 hc z0
   go_wp2_with fail
   go_ret
   exact ⟨⟨_, row, s, rfl, HO3.out, HP.out, HS.out⟩, HB.out⟩
end Go.Proofs.Ytbciopieciglmaa
