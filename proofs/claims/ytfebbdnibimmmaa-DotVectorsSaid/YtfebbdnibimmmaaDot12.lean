import Derived.Test.YtfebbdnibimmmaaDot11
namespace Go.Proofs.Ytfebbdnibimmmaa
open Go.RowKit Go.Maps
set_option maxHeartbeats 400000 in
theorem canon_any (a : Option Addr) (n cap : Nat) (l : List Dt.Dot) (w : World) (hr : VRow w a cap l) (hl : l.length = n) (hn : n ≤ 100000000) :
    Calls Try.prog 13 #[.slice a n cap] w (RetVec w (Dt.canon l)) := by
  have HR := Lib.hid hr; have HL := Lib.hid hl
  clear hr hl
  go_enter Try.func13, Try.ntmps13
  go_wp2_with fail
  refine (stands_any a n cap l w HR.out HL.out hn).mono ?_
  rintro e w1 ⟨b, rfl, hN, hB, hb⟩
  have HN := Lib.hid hN; have HB := Lib.hid hB; have Hb := Lib.hid hb
  clear hN hB hb
  go_wp2_with fail
  refine (vector_any b n (Dt.get l) w1 HN.out (by omega) (fun a _ h => Dt.get_may h)).mono ?_
  rintro e w2 ⟨a2, c2, rfl, hr2, hb2⟩
  have HR2 := Lib.hid hr2; have Hb2 := Lib.hid hb2
  clear hr2 hb2
  go_wp2_with fail
  go_ret
  exact ⟨a2, c2, rfl, HR2.out, Hb.out.trans (Hb2.out.mono Hb.out.size)⟩
set_option maxHeartbeats 400000 in
theorem pickJ (x y : Nat) (w : World) : Calls Try.prog 39 #[.int .u64 (x : Int), .int .u64 (y : Int)] w fun e w' => e = .returned (.int .u64 (max x y : Nat)) ∧ w' = w := by
  go_enter Try.func39, Try.ntmps39
  go_wp2
  all_goals
    go_ret
    exact ⟨ret_int (by omega), rfl⟩
set_option maxHeartbeats 400000 in
theorem pickM (x y : Nat) (w : World) : Calls Try.prog 40 #[.int .u64 (x : Int), .int .u64 (y : Int)] w fun e w' => e = .returned (.int .u64 (min x y : Nat)) ∧ w' = w := by
  go_enter Try.func40, Try.ntmps40
  go_wp2
  all_goals
    go_ret
    exact ⟨ret_int (by omega), rfl⟩
/-- what the map holds: of the actors that have been gone through, the picked number -/
def bothG (p : Dt.Ac → Nat) (seen : Lit → Bool) : Dt.Ac → Nat := fun a => if seen (kl a) = true then p a else 0
theorem bothG_upd {p : Dt.Ac → Nat} {seen : Lit → Bool} {x : Dt.Ac} (hx : okAc x) : ∀ a, okAc a → upd (bothG p seen) x (p x) a = bothG p (fun z => seen z || z.sameKey (kl x)) a := by
  intro a ha
  unfold upd bothG
  by_cases e : a = x
  · subst e
    have := WideAt.sameKey_self (actLaw.key (keyOf_act ha))
    simp [this]
  · have := sameKey_ne (fun g => e (kl_inj ha hx g))
    simp [e, this]
theorem Nums.congr {w : World} {b n : Nat} {D : DataW Unit} {f g : Dt.Ac → Nat} (h : Nums w b n D f) (e : ∀ a, okAc a → f a = g a) : Nums w b n D g := ⟨h.1, fun a ha => by rw [h.2 a ha, e a ha]⟩
theorem NumX.congr' {w : World} {b n : Nat} {f g : Dt.Ac → Nat} (h : NumX w b n f) (e : ∀ a, okAc a → f a = g a) : NumX w b n g := by obtain ⟨D, h⟩ := h; exact ⟨D, h.congr e⟩
end Go.Proofs.Ytfebbdnibimmmaa
