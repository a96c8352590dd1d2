import Derived.Test.YtmnblimnoaockaaZLeaf28
import Derived.Test.YtmnblimnoaockaaZLeaf29
import Derived.Test.YtmnblimnoaockaaZFuse8
namespace Go.Proofs.Ytmnblimnoaockaa
open Go.RowKit Go.Buf Go.LB Go.Lib
set_option linter.unusedSimpArgs false
set_option linter.unusedVariables false
theorem refmay05_any (kk : Nat) (n : Int) (t r i s : Nat) (x : ByteArray) (ia : Option Addr) (il ic : Nat) (da : Option Addr) (dl dc : Nat) (li : List Lm.It) (ld : List Dt.Dot) (W : World) (hi : IRow W ia ic li) (hil : li.length = il) (hd : VRow W da dc ld) (hdl : ld.length = dl) (hx : x.size ≤ 9223372036854775807) (hn1 : il ≤ 1000000) (hn2 : dl ≤ 1000000) :
  Calls Try.prog 16 #[leafV kk n t r i s x ia il ic da dl dc] W fun e w' => e = .returned (.bool (Lm.may ⟨kk, n, t, ((r, i), s), x, li, ld⟩)) ∧ Below W.heap.size W w' := by
 rw [← Lm.refMay_eq]
 by_cases k0 : kk < 1
 ·exact refmayK0 kk n t r i s x ia il ic da dl dc li ld W hi hil hd hdl hx k0
 by_cases k5 : 4 < kk
 ·exact refmayK5 kk n t r i s x ia il ic da dl dc li ld W hi hil hd hdl hx k5
 have hs : kk = 1 ∨ kk = 2 ∨ kk = 3 ∨ kk = 4 := by omega
 clear k0 k5
 rcases hs with hk | hk | hk | hk
 ·by_cases h0 : il = 0
  case neg => exact refmayI1 kk n t r i s x ia il ic da dl dc li ld W hi hil hd hdl hx hk (by omega)
  by_cases h1 : dl = 0
  case neg => exact refmayD1 kk n t r i s x ia il ic da dl dc li ld W hi hil hd hdl hx hk h0 (by omega)
  by_cases ht : t = 0
  case neg => exact refmayT1 kk n t r i s x ia il ic da dl dc li ld W hi hil hd hdl hx hk h0 h1 ht
  by_cases zr : r = 0
  case neg => exact refmayB1_r kk n t r i s x ia il ic da dl dc li ld W hi hil hd hdl hx hk h0 h1 ht zr
  by_cases zi : i = 0
  case neg => exact refmayB1_i kk n t r i s x ia il ic da dl dc li ld W hi hil hd hdl hx hk h0 h1 ht zr zi
  by_cases zs : s = 0
  case neg => exact refmayB1_s kk n t r i s x ia il ic da dl dc li ld W hi hil hd hdl hx hk h0 h1 ht zr zi zs
  by_cases zx : x.size = 0
  case neg => exact refmayB1_x kk n t r i s x ia il ic da dl dc li ld W hi hil hd hdl hx hk h0 h1 ht zr zi zs zx
  exact refmayY1 kk n t r i s x ia il ic da dl dc li ld W hi hil hd hdl hx hn1 hn2 hk ht zr zi zs (Lm.text_zero.2 zx) h0 h1
 ·by_cases hn : n = 0
  case neg => exact refmayN2 kk n t r i s x ia il ic da dl dc li ld W hi hil hd hdl hx hk hn
  by_cases h0 : il = 0
  case neg => exact refmayI2 kk n t r i s x ia il ic da dl dc li ld W hi hil hd hdl hx hk hn (by omega)
  by_cases h1 : dl = 0
  case neg => exact refmayD2 kk n t r i s x ia il ic da dl dc li ld W hi hil hd hdl hx hk hn h0 (by omega)
  by_cases ht : t = 0
  ·by_cases zr : r = 0
   case neg => exact refmayB2_r kk n t r i s x ia il ic da dl dc li ld W hi hil hd hdl hx hk hn h0 h1 ht zr
   by_cases zi : i = 0
   case neg => exact refmayB2_i kk n t r i s x ia il ic da dl dc li ld W hi hil hd hdl hx hk hn h0 h1 ht zr zi
   by_cases zs : s = 0
   case neg => exact refmayB2_s kk n t r i s x ia il ic da dl dc li ld W hi hil hd hdl hx hk hn h0 h1 ht zr zi zs
   by_cases zx : x.size = 0
   case neg => exact refmayB2_x kk n t r i s x ia il ic da dl dc li ld W hi hil hd hdl hx hk hn h0 h1 ht zr zi zs zx
   exact refmayY2 kk n t r i s x ia il ic da dl dc li ld W hi hil hd hdl hx hn1 hn2 hk hn ht zr zi zs (Lm.text_zero.2 zx) h0 h1
  by_cases ht2 : 1099511627776 < t
  ·exact refmayT2 kk n t r i s x ia il ic da dl dc li ld W hi hil hd hdl hx hk hn h0 h1 ht ht2
  cases hm : Dt.may ((r, i), s)
  ·exact refmayM2 kk n t r i s x ia il ic da dl dc li ld W hi hil hd hdl hx hk hn h0 h1 ht (by omega) hm
  by_cases hxs : 40 < x.size
  ·exact refmayX2 kk n t r i s x ia il ic da dl dc li ld W hi hil hd hdl hx hk hn h0 h1 ht (by omega) hm hxs
  exact refmayX2y kk n t r i s x ia il ic da dl dc li ld W hi hil hd hdl hx hn1 hn2 hk hn h0 h1 ht (by omega) hm (by omega)
 ·by_cases hn : n = 0
  case neg => exact refmayN3 kk n t r i s x ia il ic da dl dc li ld W hi hil hd hdl hx hk hn
  by_cases ht : t = 0
  case neg => exact refmayT3 kk n t r i s x ia il ic da dl dc li ld W hi hil hd hdl hx hk hn ht
  by_cases zr : r = 0
  case neg => exact refmayB3_r kk n t r i s x ia il ic da dl dc li ld W hi hil hd hdl hx hk hn ht zr
  by_cases zi : i = 0
  case neg => exact refmayB3_i kk n t r i s x ia il ic da dl dc li ld W hi hil hd hdl hx hk hn ht zr zi
  by_cases zs : s = 0
  case neg => exact refmayB3_s kk n t r i s x ia il ic da dl dc li ld W hi hil hd hdl hx hk hn ht zr zi zs
  by_cases zx : x.size = 0
  case neg => exact refmayB3_x kk n t r i s x ia il ic da dl dc li ld W hi hil hd hdl hx hk hn ht zr zi zs zx
  exact refmayY3 kk n t r i s x ia il ic da dl dc li ld W hi hil hd hdl hx hn1 hn2 hk hn ht zr zi zs (Lm.text_zero.2 zx)
 ·by_cases hn : n = 0
  case neg => exact refmayN4 kk n t r i s x ia il ic da dl dc li ld W hi hil hd hdl hx hk hn
  by_cases h1 : dl = 0
  case neg => exact refmayD4 kk n t r i s x ia il ic da dl dc li ld W hi hil hd hdl hx hk hn (by omega)
  by_cases ht : t = 0
  case neg => exact refmayT4 kk n t r i s x ia il ic da dl dc li ld W hi hil hd hdl hx hk hn h1 ht
  by_cases zr : r = 0
  case neg => exact refmayB4_r kk n t r i s x ia il ic da dl dc li ld W hi hil hd hdl hx hk hn h1 ht zr
  by_cases zi : i = 0
  case neg => exact refmayB4_i kk n t r i s x ia il ic da dl dc li ld W hi hil hd hdl hx hk hn h1 ht zr zi
  by_cases zs : s = 0
  case neg => exact refmayB4_s kk n t r i s x ia il ic da dl dc li ld W hi hil hd hdl hx hk hn h1 ht zr zi zs
  by_cases zx : x.size = 0
  case neg => exact refmayB4_x kk n t r i s x ia il ic da dl dc li ld W hi hil hd hdl hx hk hn h1 ht zr zi zs zx
  exact refmayY4 kk n t r i s x ia il ic da dl dc li ld W hi hil hd hdl hx hn1 hn2 hk hn ht zr zi zs (Lm.text_zero.2 zx) h1
end Go.Proofs.Ytmnblimnoaockaa
