import Derived.Test.YtfebbdnibimmmaaDot19
import Derived.Deep.Slices
import Derived.ChangeSame
import Derived.WalkKit
import Derived.ProofKit
import Derived.OpenShut
import Derived.ChangeOld
import Derived.Below
namespace Go.Proofs.Ytfebbdnibimmmaa
open Go.RowKit Go.ChangeShapes Go.WideShapes Go.Deep
theorem order_big (a : Option Addr) (n ca : Nat) (b : Option Addr) (m cb : Nat) (c : Option Addr) (k cc : Nat) (W : World) (h : 60 < n ∨ 60 < m ∨ 60 < k) (hn : n ≤ 9223372036854775807) (hm : m ≤ 9223372036854775807) (hk : k ≤ 9223372036854775807) :
    Calls Try.prog 4 #[.slice a n ca, .slice b m cb, .slice c k cc] W fun e w' => e = .returned (.bool true) ∧ Below W.heap.size W w' := by
  by_cases h1 : 60 < n
  · clear h
    go_enter Try.func4, Try.ntmps4
    go_wp2_with fail
    refine (known_any _).mono ?_
    rintro e w1 ⟨rfl, hb⟩
    go_wp2_with fail
    go_ret
    exact ⟨rfl, hb⟩
  · by_cases h2 : 60 < m
    · clear h
      go_enter Try.func4, Try.ntmps4
      go_wp2_with fail
      refine (known_any _).mono ?_
      rintro e w1 ⟨rfl, hb⟩
      go_wp2_with fail
      go_ret
      exact ⟨rfl, hb⟩
    · have h3 : 60 < k := by omega
      clear h
      go_enter Try.func4, Try.ntmps4
      go_wp2_with fail
      refine (known_any _).mono ?_
      rintro e w1 ⟨rfl, hb⟩
      go_wp2_with fail
      go_ret
      exact ⟨rfl, hb⟩
section
variable {H : Type} {enc : TypeId × Value → H} {w : World} {base : Nat} {spare : Nat → Bool} {held : Bool}
theorem open_dotCells {fuel : Nat} {cs : List Value} {x : DataW H × List MemPlace} (h : DataW.trod enc Try.prog w base spare held fuel 29 cs = some x) : ∃ d : Dt.Dot, Dt.okD d ∧ cs = encD d := by
  obtain ⟨ys, n, rfl, rfl, hlen, hyl, hf⟩ := DataW.trod_struct Try.underlying29 h
  have hc3 : Try.prog.cellsOf 29 = 3 := by kernel_rfl
  rw [hc3] at hlen
  match cs, hlen with
  | [c0, c1, c2], _ =>
    have hc1 : Try.prog.cellsOf 27 = 1 := by kernel_rfl
    have f0 : DataW.trod enc Try.prog w base spare held n 26 (List.take (Try.prog.cellsOf 26) [c0, c1, c2]) = ys[0]? := hf 0 _ rfl
    have f1 : DataW.trod enc Try.prog w base spare held n 27 (List.take (Try.prog.cellsOf 27) [c2]) = ys[1]? := hf 1 _ rfl
    rw [cells_act] at f0
    rw [hc1] at f1
    match ys, hyl with
    | [y0, y1], _ =>
      obtain ⟨s, hs, _, ws⟩ := DataW.trod_int (x := y1) Try.underlying27 f1
      obtain ⟨zs, n2, rfl, _, _, hzl, hg⟩ := DataW.trod_struct (x := y0) Try.underlying26 f0
      have g0 : DataW.trod enc Try.prog w base spare held n2 5 (List.take (Try.prog.cellsOf 5) [c0, c1]) = zs[0]? := hg 0 _ rfl
      have g1 : DataW.trod enc Try.prog w base spare held n2 24 (List.take (Try.prog.cellsOf 24) [c1]) = zs[1]? := hg 1 _ rfl
      rw [cells_u8] at g0
      rw [cells_u32] at g1
      match zs, hzl with
      | [z0, z1], _ =>
        obtain ⟨r, hr, _, wr⟩ := DataW.trod_int (x := z0) Try.underlying5 g0
        obtain ⟨i, hi, _, wi⟩ := DataW.trod_int (x := z1) Try.underlying24 g1
        simp only [List.take_succ_cons, List.take_zero, List.cons.injEq, and_true] at hs hr hi
        subst hs; subst hr; subst hi
        have br := bounds_u8 wr; have bi := bounds_u32 wi; have bs := bounds_u64 ws
        obtain ⟨r, rfl⟩ := Int.eq_ofNat_of_zero_le br.1
        obtain ⟨i, rfl⟩ := Int.eq_ofNat_of_zero_le bi.1
        obtain ⟨s, rfl⟩ := Int.eq_ofNat_of_zero_le bs.1
        exact ⟨((r, i), s), ⟨by simp only; omega, by simp only; omega, by simp only; omega⟩, rfl⟩
theorem open_dots {fuel : Nat} {cs : List Value} {x : DataW H × List MemPlace} (h : DataW.trod enc Try.prog w base spare held fuel 23 cs = some x) :
    ∃ (a : Option Addr) (len cap : Nat) (l : List Dt.Dot), cs = [.slice a len cap] ∧ VRow w a cap l ∧ l.length = len ∧ len ≤ 9223372036854775807 := by
  rcases open_slice Try.underlying23 h with ⟨rfl, _⟩ | ⟨a, len, cap, m, n, D, Pl, rfl, hb, hl, hm, hmm, hx, hi⟩
  · exact ⟨none, 0, 0, [], rfl, VRow.nil _, rfl, by omega⟩
  · have hlm : len ≤ m := by rw [hmm]; split <;> omega
    have hc3 : Try.prog.cellsOf 29 = 3 := by kernel_rfl
    have hex : ∀ i, i < len → ∃ d : Dt.Dot, Dt.okD d ∧ w.cell? (a.add (i * 3)) = some (.int .u8 (d.1.1 : Int)) ∧ w.cell? (a.add (i * 3 + 1)) = some (.int .u32 (d.1.2 : Int)) ∧ w.cell? (a.add (i * 3 + 2)) = some (.int .u64 (d.2 : Int)) := by
      intro i hil
      obtain ⟨cs', hc, ht'⟩ := hi i (by omega)
      obtain ⟨d, hd, rfl⟩ := open_dotCells ht'
      obtain ⟨_, _, hat⟩ := World.cells?_some hc
      rw [hc3] at hat
      refine ⟨d, hd, ?_, ?_, ?_⟩
      · have := hat 0 (by omega); rw [Go.Deep.add_add] at this; rw [← Nat.add_zero (i * 3), this]; rfl
      · have := hat 1 (by omega); rw [Go.Deep.add_add] at this; rw [this]; rfl
      · have := hat 2 (by omega); rw [Go.Deep.add_add] at this; rw [this]; rfl
    have hlist : ∃ l : List Dt.Dot, l.length = len ∧ ∀ i d, l[i]? = some d → Dt.okD d ∧ w.cell? (a.add (i * 3)) = some (.int .u8 (d.1.1 : Int)) ∧ w.cell? (a.add (i * 3 + 1)) = some (.int .u32 (d.1.2 : Int)) ∧ w.cell? (a.add (i * 3 + 2)) = some (.int .u64 (d.2 : Int)) := by
      clear hi hx hmm hl hm hb hlm h
      induction len with
      | zero => exact ⟨[], rfl, fun i d h => by simp at h⟩
      | succ k ih =>
        obtain ⟨l, hl, hc⟩ := ih (fun i hi => hex i (by omega))
        obtain ⟨d, hd⟩ := hex k (by omega)
        refine ⟨l ++ [d], by simp [hl], fun i e he => ?_⟩
        by_cases hik : i < k
        · rw [List.getElem?_append_left (by omega)] at he; exact hc i e he
        · have hik2 : i = k := by have := (List.getElem?_eq_some_iff.1 he).1; simp at this; omega
          subst hik2
          rw [List.getElem?_append_right (by omega), hl, Nat.sub_self] at he
          simp at he; subst he; exact hd
    obtain ⟨l, hll, hc⟩ := hlist
    unfold maxLen at hm
    refine ⟨some a, len, cap, l, rfl, ⟨by omega, hm, fun d hd => ?_, (fun e => by cases e), fun i d hd => ⟨a, rfl, (hc i d hd).2⟩⟩, hll, by omega⟩
    obtain ⟨i, hi2⟩ := List.getElem?_of_mem hd
    exact (hc i d hi2).1
end
end Go.Proofs.Ytfebbdnibimmmaa
