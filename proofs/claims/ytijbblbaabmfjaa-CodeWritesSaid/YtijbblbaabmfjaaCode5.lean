import Derived.Test.YtijbblbaabmfjaaCode4
namespace Go.Proofs.Ytijbblbaabmfjaa
open Go.RowKit Go.Buf
theorem Row.dropMid {w : World} {b off cap : Nat} {l : List Nat} (h : Row w (some ⟨b, off, none⟩) cap l) (k : Nat) (hk : k ≤ l.length) : Row w (some ⟨b, off + k, none⟩) (cap - k) (l.drop k) := by
  obtain ⟨h1, h2, h3, _, h5⟩ := h
  refine ⟨by simp; omega, by omega, fun x hx => h3 x (List.mem_of_mem_drop hx), fun h => (by cases h), fun i x hx => ⟨_, rfl, ?_⟩⟩
  rw [List.getElem?_drop] at hx
  obtain ⟨p, hp, hc⟩ := h5 (k + i) x hx
  obtain rfl := Option.some.inj hp
  rw [Addr.add_mid] at hc ⊢
  rw [Nat.add_assoc]; exact hc
def unfr (l : List Nat) : List Nat × Nat × Nat := Cd.unframe Crc.ends l
def RetUn (w : World) (r : List Nat × Nat × Nat) (e : Ending) (w' : World) : Prop := ∃ v row', e = .returned (.tuple #[v, .int .i64 (r.2.1 : Nat), .int .i64 (r.2.2 : Nat)]) ∧ BB w.heap.size w' v r.1 row' ∧ Below w.heap.size w w'
theorem un_none {w w' : World} {r : List Nat × Nat × Nat} {k : Nat} (h : r = ([], 0, k)) (hb : Below w.heap.size w w') {z : Int} (hz : z = k) : RetUn w r (.returned (.tuple #[.slice none 0 0, .int .i64 0, .int .i64 z])) w' := by
  subst h; subst hz
  exact ⟨_, none, rfl, BB.nil hb.size, hb⟩
set_option maxRecDepth 100000 in
set_option maxHeartbeats 800000 in
theorem unframe_any (a : Option Addr) (n cap : Nat) (l : List Nat) (w : World) (hr : Row w a cap l) (hn : l.length = n) :
    Calls Try.prog 21 #[.slice a n cap] w (RetUn w (unfr l)) := by
  have hcap := hr.cap
  have hle : n ≤ cap := by rw [← hn]; exact hr.le
  have hsz := Cd.rd_size l
  have hs10 := Cd.rd_size10 l
  have hlt := Cd.rd_lt hr.byte
  obtain ⟨x, hx⟩ : ∃ x, x = (Cd.rd l).1 := ⟨_, rfl⟩
  obtain ⟨s, hs⟩ : ∃ s, s = (Cd.rd l).2.1 := ⟨_, rfl⟩
  obtain ⟨er, he⟩ : ∃ er, er = (Cd.rd l).2.2 := ⟨_, rfl⟩
  have hrd : Cd.rd l = (x, s, er) := by rw [hx, hs, he]
  rw [← hs] at hsz hs10
  rw [← hx] at hlt
  have hun : unfr l = if er ≠ 0 then ([], 0, er) else if 1048576 < x then ([], 0, 3) else if l.length < s + x + 4 then ([], 0, 5) else if Crc.ends (l.take (s + x + 4)) then ((l.drop s).take x, s + x + 4, 0) else ([], 0, 6) := by
    unfold unfr Cd.unframe; rw [hrd]
  rw [hn] at hun
  have Hr := Lib.hid hr; have Hn := Lib.hid hn; have Hrd := Lib.hid hrd; have HL := Lib.hid hlt
  clear hr hx hs he hrd hlt
  by_cases h0 : er ≠ 0
  · rw [if_pos h0] at hun
    have HU := Lib.hid hun
    have t0 : ((er : Int) != 0) = true := by simp; omega
    clear hun hn h0
    go_enter Try.func21, Try.ntmps21
    go_wp2_with fail
    refine (number_any a n cap l _ Hr.out Hn.out).mono ?_
    rintro e w' ⟨rfl, rfl⟩
    rw [Hrd.out]
    unfold num3
    go_wp2_with fail
    go_ret3
    exact un_none HU.out (Below.refl _ _) rfl
  · rw [if_neg h0] at hun
    obtain rfl : er = 0 := by omega
    by_cases h1 : 1048576 < x
    · rw [if_pos h1] at hun
      have HU := Lib.hid hun
      clear hun hn h0
      go_enter Try.func21, Try.ntmps21
      go_wp2_with fail
      refine (number_any a n cap l _ Hr.out Hn.out).mono ?_
      rintro e w' ⟨rfl, rfl⟩
      rw [Hrd.out]
      unfold num3
      go_wp2_with fail
      go_ret3
      exact un_none HU.out (Below.refl _ _) rfl
    · rw [if_neg h1] at hun
      have h1' : x ≤ 1048576 := by omega
      by_cases h2 : n < s + x + 4
      · rw [if_pos h2] at hun
        have HU := Lib.hid hun
        clear hun hn h0
        go_enter Try.func21, Try.ntmps21
        go_wp2_with fail
        refine (number_any a n cap l _ Hr.out Hn.out).mono ?_
        rintro e w' ⟨rfl, rfl⟩
        rw [Hrd.out]
        unfold num3
        go_wp2_with fail
        go_ret3
        exact un_none HU.out (Below.refl _ _) rfl
      · rw [if_neg h2] at hun
        obtain ⟨b, off, rfl, hb, _⟩ := Hr.out.opened (by omega)
        have hend : Calls Try.prog 34 #[.slice (some ⟨b, off, none⟩) (s + x + 4) cap] w (RetBool w.heap.size w (Crc.ends (l.take (s + x + 4)))) :=
          ends_any _ _ _ _ w (Hr.out.take (s + x + 4) cap (by omega) (Nat.le_refl _) (fun h => by cases h)) (by simp; omega)
        obtain ⟨r, hrr⟩ : ∃ r, r = Crc.ends (l.take (s + x + 4)) := ⟨_, rfl⟩
        rw [← hrr] at hend hun
        have HE := Lib.hid hend; have HU := Lib.hid hun; have HR := Lib.hid hrr
        clear hun hn h0 hend hrr
        cases r with
        | false =>
          go_enter Try.func21, Try.ntmps21
          go_wp2_with fail
          refine (number_any _ n cap l _ Hr.out Hn.out).mono ?_
          rintro e w' ⟨rfl, rfl⟩
          rw [Hrd.out]
          unfold num3
          go_wp2_with fail
          refine HE.out.mono ?_
          rintro e w1 ⟨rfl, hb1⟩
          have HB := Lib.hid hb1; clear hb1
          go_wp2_with fail
          go_ret3
          exact un_none HU.out HB.out rfl
        | true =>
          have hbody : ((l.drop s).take x).length = x := by simp; have := Hn.out; omega
          have HBd := Lib.hid hbody; clear hbody
          go_enter Try.func21, Try.ntmps21
          go_wp2_with fail
          refine (number_any _ n cap l _ Hr.out Hn.out).mono ?_
          rintro e w' ⟨rfl, rfl⟩
          rw [Hrd.out]
          unfold num3
          go_wp2_with fail
          refine HE.out.mono ?_
          rintro e w1 ⟨rfl, hb1⟩
          have HB := Lib.hid hb1; clear hb1
          go_wp2_with fail
          have hrow : Row w1 (some ⟨b, off + s, none⟩) (cap - s) ((l.drop s).take x) := ((Hr.out.below HB.out).dropMid s (by rw [Hn.out]; omega)).take x (cap - s) (by omega) (Nat.le_refl _) (fun h => by cases h)
          refine (clone_any _ x (cap - s) _ w1 hrow HBd.out (by omega)).mono ?_
          rintro e w2 hret
          obtain ⟨v2, row2, rfl, h3, h4⟩ := hret.below
          have hfin : RetUn w (unfr l) (.returned (.tuple #[v2, .int .i64 ((s : Int) + x + 4), .int .i64 0])) w2 := by
            rw [HU.out]
            exact ⟨v2, row2, by simp, h3.base HB.out.size, HB.out.trans (h4.mono HB.out.size)⟩
          have HF := Lib.hid hfin
          clear hfin h3 h4 hret hrow
          go_wp2_with fail
          go_ret3
          exact HF.out
end Go.Proofs.Ytijbblbaabmfjaa
