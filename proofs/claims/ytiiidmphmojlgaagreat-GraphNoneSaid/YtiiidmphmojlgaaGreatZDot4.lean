import Derived.Test.YtiiidmphmojlgaaGreatZBytes
import Derived.Test.YtiiidmphmojlgaaGreatZBuf
import Derived.Laws.ShiftsVarLaws
namespace Go.Proofs.YtiiidmphmojlgaaGreat
open Go.RowKit
def VRow (w : World) (a : Option Addr) (cap : Nat) (l : List Dt.Dot) : Prop :=
 l.length ≤ cap ∧ cap ≤ 9223372036854775807 ∧ (∀ d ∈ l, Dt.okD d) ∧ (a = none → cap = 0) ∧
 ∀ i d, l[i]? = some d → ∃ p, a = some p ∧ w.cell? (p.add (i * 3)) = some (.int .u8 (d.1.1 : Int)) ∧ w.cell? (p.add (i * 3 + 1)) = some (.int .u32 (d.1.2 : Int)) ∧ w.cell? (p.add (i * 3 + 2)) = some (.int .u64 (d.2 : Int))
theorem VRow.le {w : World} {a : Option Addr} {cap : Nat} {l : List Dt.Dot} (h : VRow w a cap l) : l.length ≤ cap := h.1
theorem VRow.cap {w : World} {a : Option Addr} {cap : Nat} {l : List Dt.Dot} (h : VRow w a cap l) : cap ≤ 9223372036854775807 := h.2.1
theorem VRow.ok {w : World} {a : Option Addr} {cap : Nat} {l : List Dt.Dot} (h : VRow w a cap l) : ∀ d ∈ l, Dt.okD d := h.2.2.1
theorem VRow.below {w w' : World} {a : Option Addr} {cap : Nat} {l : List Dt.Dot} (h : VRow w a cap l) (hb : Below w.heap.size w w') : VRow w' a cap l := by
 refine ⟨h.1, h.2.1, h.2.2.1, h.2.2.2.1, fun i d hd => ?_⟩
 obtain ⟨p, hp, h1, h2, h3⟩ := h.2.2.2.2 i d hd
 refine ⟨p, hp, ?_, ?_, ?_⟩
 ·exact (hb.cell (World.block_lt_of_cell? _ _ h1)).trans h1
 ·exact (hb.cell (World.block_lt_of_cell? _ _ h2)).trans h2
 ·exact (hb.cell (World.block_lt_of_cell? _ _ h3)).trans h3
theorem VRow.nil (w : World) : VRow w none 0 [] := ⟨by simp, by omega, by simp, by simp, by simp⟩
theorem VRow.at {w : World} {a : Option Addr} {cap : Nat} {l : List Dt.Dot} (h : VRow w a cap l) (hl : 0 < l.length) :
  ∃ b off, a = some ⟨b, off, none⟩ ∧ b < w.heap.size ∧ ∀ i d, l[i]? = some d → w.cell? ⟨b, off + i * 3, none⟩ = some (.int .u8 (d.1.1 : Int)) ∧ w.cell? ⟨b, off + i * 3 + 1, none⟩ = some (.int .u32 (d.1.2 : Int)) ∧ w.cell? ⟨b, off + i * 3 + 2, none⟩ = some (.int .u64 (d.2 : Int)) := by
 obtain ⟨p, hp, hc, _⟩ := h.2.2.2.2 0 l[0] (by simp [hl])
 have hs := World.cell?_spot hc
 obtain ⟨b, off, spot⟩ := p
 have hspot : spot = none := by simpa [Addr.add] using hs
 subst hspot
 refine ⟨b, off, hp, by simpa [Addr.add] using World.block_lt_of_cell? w _ hc, fun i d hd => ?_⟩
 obtain ⟨q, hq, h1, h2, h3⟩ := h.2.2.2.2 i d hd
 rw [hp] at hq
 obtain rfl := Option.some.inj hq
 rw [Addr.add_mid] at h1 h2 h3
 exact ⟨h1, by rw [← h2]; rfl, by rw [← h3]; rfl⟩
theorem getD_some {l : List Dt.Dot} {i : Nat} (hi : i < l.length) : ∃ d, l[i]? = some d := ⟨l[i], List.getElem?_eq_getElem hi⟩
set_option maxHeartbeats 400000 in
theorem getClosure (b : Nat) (a : Dt.Ac) (n : Nat) (d : Dt.Dot) (w : World) (hm : Dt.may d = true) (h0 : w.cell? ⟨b, 0, none⟩ = some (.int .u8 (a.1 : Int))) (h1 : w.cell? ⟨b, 1, none⟩ = some (.int .u32 (a.2 : Int))) :
  Calls Tryz.prog 70 #[.int .u64 (n : Int), dotV d, .pointer (some ⟨b, 0, none⟩)] w fun e w' => e = .returned (.int .u64 (Dt.getStep a n d : Nat)) ∧ Below w.heap.size w w' := by
 obtain ⟨⟨r, i⟩, s⟩ := d
 obtain ⟨r', i'⟩ := a
 have hb := World.block_lt_of_cell? _ _ h0
 simp only at hb h0 h1
 by_cases e1 : r = r'
 ·subst e1
  by_cases e2 : i = i'
  ·subst e2
   go_enter Tryz.func70, Tryz.ntmps70
   go_wp2
   all_goals
    go_ret
    exact ⟨ret_int (by simp only [Dt.getStep, hm]; simp; try omega), (Below.refl _ _).alloc (Nat.le_refl _) _⟩
  ·have d1 : ((i : Int) == (i' : Int)) = false := by simp; omega
   go_enter Tryz.func70, Tryz.ntmps70
   go_wp2
   go_ret
   exact ⟨ret_int (by simp [Dt.getStep, e2]), (Below.refl _ _).alloc (Nat.le_refl _) _⟩
 ·have d1 : ((r : Int) == (r' : Int)) = false := by simp; omega
  go_enter Tryz.func70, Tryz.ntmps70
  go_wp2
  go_ret
  exact ⟨ret_int (by simp [Dt.getStep, e1]), (Below.refl _ _).alloc (Nat.le_refl _) _⟩
def getF (a : Dt.Ac) (l : List Dt.Dot) (k : Nat) : Nat := Dt.get (l.take k) a
theorem getF_succ {a : Dt.Ac} {l : List Dt.Dot} {k : Nat} {d : Dt.Dot} (hd : l[k]? = some d) : getF a l (k + 1) = Dt.getStep a (getF a l k) d := by
 unfold getF
 obtain ⟨hk, rfl⟩ := List.getElem?_eq_some_iff.1 hd
 rw [List.take_succ_eq_append_getElem hk, Dt.get_snoc]
theorem getStep_not {a : Dt.Ac} {n : Nat} {d : Dt.Dot} (h : Dt.may d = false) : Dt.getStep a n d = n := by simp [Dt.getStep, h]
set_option maxRecDepth 100000 in
set_option maxHeartbeats 1600000 in
theorem throughU (a : Option Addr) (n cap b : Nat) (c : Dt.Ac) (l : List Dt.Dot) (w : World) (hr : VRow w a cap l) (hl : l.length = n) (h0 : w.cell? ⟨b, 0, none⟩ = some (.int .u8 (c.1 : Int))) (h1 : w.cell? ⟨b, 1, none⟩ = some (.int .u32 (c.2 : Int))) :
  Calls Tryz.prog 69 #[.slice a n cap, .int .u64 0, .func (.func 70) #[] #[.pointer (some ⟨b, 0, none⟩)]] w fun e w' => e = .returned (.int .u64 (Dt.get l c : Nat)) ∧ Below w.heap.size w w' := by
 have hle := hr.le
 have hcap := hr.cap
 have hb := World.block_lt_of_cell? _ _ h0
 have HR := Lib.hid hr; have HL := Lib.hid hl; have H0 := Lib.hid h0; have H1 := Lib.hid h1; have HB := Lib.hid hb
 rw [hl] at hle
 clear hr hl h0 h1 hb
 go_enter Tryz.func69, Tryz.ntmps69
 go_wp2
 go_loopw [1, 8, 11] (fun u _ i wr => ∃ k : Nat, k ≤ n ∧ i = .int .i64 k ∧ u = .int .u64 (getF c l k : Nat) ∧ Below w.heap.size w wr) (fun _ _ i _ => n - (intOf i).toNat)
 case atStart => exact ⟨0, Nat.zero_le _, rfl, rfl, Below.refl _ _⟩
 case round =>
  obtain ⟨k, hk, rfl, rfl, hbel⟩ := hrel
  have HBel := Lib.hid hbel; clear hbel
  by_cases hlt : k < n
  ·obtain ⟨d, hd⟩ := getD_some (l := l) (i := k) (by rw [HL.out]; exact hlt)
   obtain ⟨blk, off, rfl, hblk, hcells⟩ := HR.out.at (by rw [HL.out]; omega)
   obtain ⟨g0, g1, g2⟩ := hcells k d hd
   have q0 := (HBel.out.cell (p := ⟨blk, off + k * 3, none⟩) hblk).trans g0
   have q1 := (HBel.out.cell (p := ⟨blk, off + k * 3 + 1, none⟩) hblk).trans g1
   have q2 := (HBel.out.cell (p := ⟨blk, off + k * 3 + 2, none⟩) hblk).trans g2
   have Hs := Lib.hid (getF_succ (a := c) hd)
   obtain ⟨⟨r, i⟩, s⟩ := d
   simp only at q0 q1 q2
   clear hcells g0 g1 g2 hd
   cases hm : Dt.may ((r, i), s)
   ·have Hf := Lib.hid (getStep_not (a := c) (n := getF c l k) hm)
    go_wp2_with fail
    refine (may_any r i s _).mono ?_
    rintro e w1 ⟨rfl, hb⟩
    go_wp2_with fail
    clear q0 q1 q2
    go_roundw
    case rel => exact ⟨k + 1, by omega, by go_num, by rw [Hs.out, Hf.out], HBel.out.trans (((Below.refl _ _).alloc HBel.out.size _).trans (hb.mono (by have := HBel.out.size; simp; omega)))⟩
    case measure => simp [intOf]; omega
   ·go_wp2_with fail
    refine (may_any r i s _).mono ?_
    rintro e w1 ⟨rfl, hb⟩
    obtain ⟨hc, hf⟩ := bcell hb
    have hb2 : Below w.heap.size w w1 := HBel.out.trans (((Below.refl _ _).alloc HBel.out.size _).trans (hb.mono (by have := HBel.out.size; simp; omega)))
    have c0 := (hb2.cell (p := ⟨b, 0, none⟩) HB.out).trans H0.out
    have c1 := (hb2.cell (p := ⟨b, 1, none⟩) HB.out).trans H1.out
    have Hb := Lib.hid hb2; have C0 := Lib.hid c0; have C1 := Lib.hid c1
    clear hb2 c0 c1
    go_wp2_with fail
    refine (getClosure b c (getF c l k) ((r, i), s) _ hm C0.out C1.out).mono ?_
    rintro e w2 ⟨rfl, hb3⟩
    clear hc hf q0 q1 q2
    go_wp2_with fail
    go_roundw
    case rel => exact ⟨k + 1, by omega, by go_num, by rw [Hs.out], Hb.out.trans (hb3.mono Hb.out.size)⟩
    case measure => simp [intOf]; omega
  ·have hfin : getF c l k = Dt.get l c := by
    show Dt.get (l.take k) c = Dt.get l c
    rw [List.take_of_length_le (by rw [HL.out]; omega)]
   have Hfin := Lib.hid hfin; clear hfin
   go_wp2
   go_ret
   exact ⟨ret_int (by rw [Hfin.out]), HBel.out⟩
set_option maxHeartbeats 400000 in
theorem get_any (a : Option Addr) (n cap : Nat) (r i : Nat) (l : List Dt.Dot) (w : World) (hr : VRow w a cap l) (hl : l.length = n) :
  Calls Tryz.prog 43 #[.slice a n cap, acV (r, i)] w fun e w' => e = .returned (.int .u64 (Dt.get l (r, i) : Nat)) ∧ Below w.heap.size w w' := by
 have HR := Lib.hid hr; have HL := Lib.hid hl
 clear hr hl
 go_enter Tryz.func43, Tryz.ntmps43
 go_wp2_with fail
 refine (throughU a n cap w.heap.size (r, i) l _ (HR.out.below ((Below.refl _ _).alloc (Nat.le_refl _) _)) HL.out (by simp) (by simp)).mono ?_
 rintro e w1 ⟨rfl, hb⟩
 go_wp2_with fail
 go_ret
 exact ⟨rfl, ((Below.refl _ _).alloc (Nat.le_refl _) _).trans (hb.mono (by simp))⟩
end Go.Proofs.YtiiidmphmojlgaaGreat
/- Plain mathematics of layer 2: canonical numbers and their reading. No Go. -/
namespace Go.Proofs.YtiiidmphmojlgaaGreat
namespace Cd
def numF : Nat → Nat → List Nat
 | 0, n => [n]
 | k + 1, n => if n < 128 then [n] else (n % 128 + 128) :: numF k (n / 128)
def num (n : Nat) : List Nat := numF 9 n
def ended (n i x : Nat) : Nat × Nat × Nat := if i = 9 ∧ 1 < x then (0, 0, 14) else if 0 < i ∧ x = 0 then (0, 0, 4) else (n, i + 1, 0)
def readF : Nat → Nat → Nat → List Nat → Nat × Nat × Nat
 | 0, _, _, _ => (0, 0, 14)
 | _ + 1, _, _, [] => (0, 0, 5)
 | f + 1, i, acc, x :: r => if x < 128 then ended (acc + x * 128 ^ i) i x else readF f (i + 1) (acc + (x - 128) * 128 ^ i) r
def rd (l : List Nat) : Nat × Nat × Nat := readF 10 0 0 l
def uns (m : Int) : Nat := if m < 0 then (2 * (-m - 1) + 1).toNat else (2 * m).toNat
def sgn (n : Nat) : Int := if n % 2 = 1 then -(n / 2 : Nat) - 1 else (n / 2 : Nat)
def rdText (l : List Nat) (most : Int) : List Nat × Nat × Nat :=
 if (rd l).2.2 ≠ 0 then ([], 0, (rd l).2.2) else if (max most 0).toNat < (rd l).1 then ([], 0, 3) else if l.length - (rd l).2.1 < (rd l).1 then ([], 0, 5)
 else ((l.drop (rd l).2.1).take (rd l).1, (rd l).2.1 + (rd l).1, 0)
def frame (sum : List Nat → List Nat) (b : List Nat) : List Nat := (num b.length ++ b) ++ sum (num b.length ++ b)
def unframe (ends : List Nat → Bool) (l : List Nat) : List Nat × Nat × Nat :=
 if (rd l).2.2 ≠ 0 then ([], 0, (rd l).2.2) else if 1048576 < (rd l).1 then ([], 0, 3) else if l.length < (rd l).2.1 + (rd l).1 + 4 then ([], 0, 5)
 else if ends (l.take ((rd l).2.1 + (rd l).1 + 4)) then ((l.drop (rd l).2.1).take (rd l).1, (rd l).2.1 + (rd l).1 + 4, 0) else ([], 0, 6)
end Cd
end Go.Proofs.YtiiidmphmojlgaaGreat
namespace Go.Proofs.YtiiidmphmojlgaaGreat
open Go.RowKit Go.Buf
def BB (B : Nat) (w : World) (v : Value) (l : List Nat) (row : Option Nat) : Prop := (∀ x ∈ l, x < 256) ∧ Buf 5 1 B w v l.length (bytesV l) row
def RetBB (B : Nat) (w : World) (row : Option Nat) (l : List Nat) (e : Ending) (w' : World) : Prop := ∃ v row', e = .returned v ∧ BB B w' v l row' ∧ w.grownBy w' row ∧ New w row row'
theorem BB.nil {B : Nat} {w : World} (hB : B ≤ w.heap.size) : BB B w (.slice none 0 0) [] none := ⟨by simp, Buf.nil hB⟩
def strL (s : ByteArray) : List Nat := s.data.toList.map UInt8.toNat
theorem BB.row {B : Nat} {w : World} {v : Value} {l : List Nat} {row : Option Nat} (h : BB B w v l row) : ∃ a c, v = .slice a l.length c ∧ Row w a c l := by
 obtain ⟨a, c, rfl, h1, h2, h3⟩ := h.2.shape
 refine ⟨a, c, rfl, h1, by unfold maxLen at h2; omega, h.1, h3, fun i x hx => ?_⟩
 cases a with
 | none =>
  have := h3 rfl
  have hi := (List.getElem?_eq_some_iff.1 hx).1
  omega
 | some p => exact ⟨p, rfl, h.2.cells p rfl i _ (by simp [bytesV, hx])⟩
theorem BB.base {B B' : Nat} {w : World} {v : Value} {l : List Nat} {row : Option Nat} (h : BB B w v l row) (hB : B' ≤ B) : BB B' w v l row := ⟨h.1, h.2.base hB⟩
theorem BB.alloc {B : Nat} {w : World} {v : Value} {l : List Nat} {row : Option Nat} (h : BB B w v l row) (o : Obj) : BB B (w.alloc o) v l row := ⟨h.1, h.2.kept (World.grownBy_alloc w o none) (Or.inl rfl)⟩
theorem BB.below {B : Nat} {w w' : World} {v : Value} {l : List Nat} {row : Option Nat} (h : BB B w v l row) (hb : Below w.heap.size w w') : BB B w' v l row := ⟨h.1, h.2.kept (grown_of_below (row := none) hb) (Or.inl rfl)⟩
theorem grown_alloc {w w' : World} {row : Option Nat} (o : Obj) (h : (w.alloc o).grownBy w' row) : w.grownBy w' row :=
 ⟨h.os, h.tape, h.output, Nat.le_trans (by simp) h.size, fun k hk hne => (h.block k (by simp; omega) hne).trans (Below.heap_alloc w o k hk)⟩
end Go.Proofs.YtiiidmphmojlgaaGreat
namespace Go.Proofs.YtiiidmphmojlgaaGreat
open Go.RowKit Go.Buf
def num3 (r : Nat × Nat × Nat) : Value := .tuple #[.int .u64 (r.1 : Nat), .int .i64 (r.2.1 : Nat), .int .i64 (r.2.2 : Nat)]
end Go.Proofs.YtiiidmphmojlgaaGreat
namespace Go.Proofs.YtiiidmphmojlgaaGreat
open Go.RowKit Go.Buf
end Go.Proofs.YtiiidmphmojlgaaGreat
/- Plain mathematics of CRC-32: the register's step, eight of them, their linearity and injectivity. No Go. -/
namespace Go.Proofs.YtiiidmphmojlgaaGreat
namespace Crc

def st (r : Nat) : Nat := if r % 2 = 1 then (r / 2) ^^^ 3988292384 else r / 2
def stn : Nat → Nat → Nat
 | 0, r => r
 | n + 1, r => stn n (st r)
def st8 (r : Nat) : Nat := st (st (st (st (st (st (st (st r)))))))
def byteStep (reg x : Nat) : Nat := st8 ((reg % 256) ^^^ x) ^^^ (reg / 256)
def run (reg : Nat) (l : List Nat) : Nat := l.foldl byteStep reg
def more (sum : Nat) (l : List Nat) : Nat := 4294967295 - run (4294967295 - sum) l
def sum (l : List Nat) : Nat := more 0 l

def four (s : Nat) : List Nat := [s % 256, s / 256 % 256, s / 65536 % 256, s / 16777216 % 256]
def ends (l : List Nat) : Bool := decide (4 ≤ l.length) && (l.drop (l.length - 4) == four (sum (l.take (l.length - 4))))
end Crc
end Go.Proofs.YtiiidmphmojlgaaGreat
namespace Go.Proofs.YtiiidmphmojlgaaGreat
open Go.RowKit
def tblVals (F : Nat → Nat) : List Value := (List.range 256).map fun i => .int .u32 (F i : Nat)
def OnlyBlock (b : Nat) (w w' : World) : Prop := w'.os = w.os ∧ w'.tape = w.tape ∧ w'.output = w.output ∧ w'.heap.size = w.heap.size ∧ ∀ k, k ≠ b → w'.heap[k]? = w.heap[k]?
theorem OnlyBlock.refl (b : Nat) (w : World) : OnlyBlock b w w := ⟨rfl, rfl, rfl, rfl, fun _ _ => rfl⟩
theorem OnlyBlock.set {b : Nat} {w w' : World} (h : OnlyBlock b w w') (i : Nat) (v : Value) : OnlyBlock b w (w'.setCell ⟨b, i, none⟩ v) := by
 obtain ⟨h1, h2, h3, h4, h5⟩ := h
 refine ⟨h1, h2, h3, by simpa [World.setCell] using h4, fun k hk => ?_⟩
 rw [heap_setCell_other _ _ _ _ hk]; exact h5 k hk
def FF (F : Nat → Nat) (bit reg q : Nat) : Nat → Nat := fun i => if i % (2 * bit) = bit ∧ i < q then F (i - bit) ^^^ reg else F i
def TT (bit : Nat) : Nat → Nat := fun i => if i % bit = 0 then Crc.st8 (i % 256) else 0
def tbl (F : Nat → Nat) : Array Value := (tblVals F).toArray
end Go.Proofs.YtiiidmphmojlgaaGreat
namespace Go.Proofs.YtiiidmphmojlgaaGreat
open Go.RowKit
end Go.Proofs.YtiiidmphmojlgaaGreat
namespace Go.Proofs.YtiiidmphmojlgaaGreat
open Go.RowKit
def fourV (s : Nat) : List Value := (Crc.four s).map fun x => .int .u8 (x : Nat)
def zero4 : Array Value := #[.int .u8 0, .int .u8 0, .int .u8 0, .int .u8 0]
end Go.Proofs.YtiiidmphmojlgaaGreat
namespace Go.Proofs.YtiiidmphmojlgaaGreat
open Go.RowKit
end Go.Proofs.YtiiidmphmojlgaaGreat
namespace Go.Proofs.YtiiidmphmojlgaaGreat
open Go.RowKit Go.Buf
theorem Row.alloc {w : World} {a : Option Addr} {cap : Nat} {l : List Nat} (h : Row w a cap l) (o : Obj) : Row (w.alloc o) a cap l := h.below ((Below.refl _ _).alloc (Nat.le_refl _) o)
theorem BB.empty (w : World) : BB w.heap.size (w.alloc (.cells #[] 5)) (.slice (some ⟨w.heap.size, 0, none⟩) 0 0) [] (some w.heap.size) :=
 ⟨by simp, Buf.own (World.ownsRow_made w #[] 0 (Nat.le_refl _) (by unfold maxLen; omega) rfl) (by simp)⟩
theorem RetBB.below {w w' : World} {l : List Nat} {e : Ending} (h : RetBB w.heap.size w none l e w') : ∃ v row', e = .returned v ∧ BB w.heap.size w' v l row' ∧ Below w.heap.size w w' := by
 obtain ⟨v, row', h1, h2, h3, h4⟩ := h
 exact ⟨v, row', h1, h2, below_of_grown h3 (Nat.le_refl _) (fun k hk => by cases hk)⟩
def frameL (l : List Nat) : List Nat := Cd.frame (fun x => Crc.four (Crc.sum x)) l
end Go.Proofs.YtiiidmphmojlgaaGreat
namespace Go.Proofs.YtiiidmphmojlgaaGreat
open Go.RowKit Go.Buf
structure PT (B : Nat) (X w : World) (v : Value) (l : List Nat) : Prop where
  bb : ∃ row, BB B w v l row
  below : Below B X w
theorem PT.step {B : Nat} {X w w' : World} {v v' : Value} {l l' : List Nat} {row row' : Option Nat} (hb : BB B w v l row) (h : Below B X w) (hB : B ≤ X.heap.size) (h1 : BB B w' v' l' row') (h2 : w.grownBy w' row) : PT B X w' v' l' :=
 ⟨⟨row', h1⟩, h.trans (below_of_grown h2 (Nat.le_trans hB h.size) (fun k hk => (hb.2.row_le k hk).1))⟩
def dotE (d : Dt.Dot) : List Nat := Cd.num d.1.1 ++ Cd.num d.1.2 ++ Cd.num d.2
def txtE (s : ByteArray) : List Nat := Cd.num s.size ++ strL s
def upE {α : Type} (f : α → List Nat) (l : List α) (k : Nat) : List Nat := (l.take k).flatMap f
end Go.Proofs.YtiiidmphmojlgaaGreat
namespace Go.Proofs.YtiiidmphmojlgaaGreat
open Go.RowKit Go.Buf
def unfr (l : List Nat) : List Nat × Nat × Nat := Cd.unframe Crc.ends l
def RetUn (w : World) (r : List Nat × Nat × Nat) (e : Ending) (w' : World) : Prop := ∃ v row', e = .returned (.tuple #[v, .int .i64 (r.2.1 : Nat), .int .i64 (r.2.2 : Nat)]) ∧ BB w.heap.size w' v r.1 row' ∧ Below w.heap.size w w'
end Go.Proofs.YtiiidmphmojlgaaGreat
namespace Go.Proofs.YtiiidmphmojlgaaGreat
open Go.RowKit Go.Buf
def tailAt (a : Option Addr) (lo c : Nat) : Option Addr := if c = lo then a else a.map (·.add lo)
theorem Addr.add_add (p : Addr) (i j : Nat) : (p.add i).add j = p.add (i + j) := by
 unfold Addr.add
 by_cases hi : i = 0
 ·subst hi; simp
 ·by_cases hj : j = 0
  ·subst hj; simp
  ·simp [hi, hj, Nat.add_assoc]
theorem Row.drop {w : World} {a : Option Addr} {cap : Nat} {l : List Nat} (h : Row w a cap l) (k : Nat) (hk : k ≤ l.length) : Row w (tailAt a k cap) (cap - k) (l.drop k) := by
 have hle := h.le
 obtain ⟨h1, h2, h3, h4, h5⟩ := h
 refine ⟨by simp; omega, by omega, fun x hx => h3 x (List.mem_of_mem_drop hx), fun hn => ?_, fun i x hx => ?_⟩
 ·unfold tailAt at hn
  split at hn
  ·omega
  ·cases a with
   | none => have := h4 rfl; omega
   | some p => simp at hn
 ·rw [List.getElem?_drop] at hx
  obtain ⟨p, hp, hc⟩ := h5 (k + i) x hx
  have hlt : k + i < l.length := (List.getElem?_eq_some_iff.1 hx).1
  refine ⟨p.add k, ?_, by rw [Addr.add_add]; exact hc⟩
  unfold tailAt
  rw [if_neg (by omega), hp]; rfl
end Go.Proofs.YtiiidmphmojlgaaGreat
namespace Go.Proofs.YtiiidmphmojlgaaGreat
open Go.RowKit Go.Buf
def txt3 (r : List Nat × Nat × Nat) : Value := .tuple #[.string (strB r.1), .int .i64 (r.2.1 : Nat), .int .i64 (r.2.2 : Nat)]
def step {α : Type} (none : α) (l : List Nat) (er : Nat) (r : α × Nat × Nat) : α × List Nat × Nat := if er ≠ 0 then (none, l, er) else if r.2.2 ≠ 0 then (none, l, r.2.2) else (r.1, l.drop r.2.1, 0)
end Go.Proofs.YtiiidmphmojlgaaGreat
namespace Go.Proofs.YtiiidmphmojlgaaGreat
open Go.RowKit Go.Buf
def numR (l : List Nat) (er : Nat) : Nat × List Nat × Nat := step 0 l er (Cd.rd l)
def intR (l : List Nat) (er : Nat) : Int × List Nat × Nat := step 0 l er (Cd.sgn (Cd.rd l).1, (Cd.rd l).2)
def txtR (l : List Nat) (er : Nat) (most : Int) : List Nat × List Nat × Nat := step [] l er (Cd.rdText l most)
def mkU (x : Nat) : Value := .int .u64 (x : Nat)
def mkI (x : Int) : Value := .int .i64 x
def mkS (x : List Nat) : Value := .string (strB x)
end Go.Proofs.YtiiidmphmojlgaaGreat
namespace Go.Proofs.YtiiidmphmojlgaaGreat
open Go.RowKit Go.Buf
end Go.Proofs.YtiiidmphmojlgaaGreat
namespace Go.Proofs.YtiiidmphmojlgaaGreat
open Go.RowKit
def L14 : List Nat := [26, 23, 22, 16, 12, 11, 10, 8, 7, 5, 4, 2, 1, 0]
def divB (p : Nat) : Bool := L14.contains p
end Go.Proofs.YtiiidmphmojlgaaGreat
/- Plain mathematics: the long division of a row of bits by the polynomial leaves the register. No Go. -/
namespace Go.Proofs.YtiiidmphmojlgaaGreat
namespace Crc
def bitsOf (l : List Nat) (i : Nat) : Bool := (l.getD (i / 8) 0).testBit (i % 8)
def bstep (reg : Nat) (m : Bool) : Nat := st (reg ^^^ (if m then 1 else 0))
def rg (l : List Nat) : Nat → Nat
 | 0 => 4294967295
 | i + 1 => bstep (rg l i) (bitsOf l i)
def row0 (l : List Nat) (j : Nat) : Bool := bitsOf l j != decide (j < 32)
def rowAt (l : List Nat) (i j : Nat) : Bool := if i ≤ j then bitsOf l j != (decide (j < i + 32) && (rg l i).testBit (j - i)) else false
def div32 (p : Nat) : Bool := [26, 23, 22, 16, 12, 11, 10, 8, 7, 5, 4, 2, 1, 0].contains p
end Crc
end Go.Proofs.YtiiidmphmojlgaaGreat
namespace Go.Proofs.YtiiidmphmojlgaaGreat
open Go.RowKit
def boolsV (N : Nat) (F : Nat → Bool) : List Value := (List.range N).map fun i => .bool (F i)
def HasB (w : World) (g N : Nat) (F : Nat → Bool) : Prop := w.heap[g]? = some (.cells (boolsV N F).toArray 4 (0, 0))
theorem HasB.cell {w : World} {g N : Nat} {F : Nat → Bool} (h : HasB w g N F) (i : Nat) (hi : i < N) : w.cell? ⟨g, i, none⟩ = some (.bool (F i)) := by
 rw [cell_of_row w g i _ _ _ h]; simp [boolsV, hi]
theorem HasB.frozen {w : World} {g N : Nat} {F : Nat → Bool} (h : HasB w g N F) (i : Nat) : w.frozen? ⟨g, i, none⟩ = false := frozen_of_row w g i _ _ h
theorem HasB.congr {w : World} {g N : Nat} {F G : Nat → Bool} (h : HasB w g N F) (he : ∀ i, i < N → F i = G i) : HasB w g N G := by
 unfold HasB at *
 rw [h]
 congr 2
 apply Array.ext'
 simp only [boolsV]
 exact List.map_congr_left fun i hi => by rw [he i (by simpa using hi)]
theorem HasB.set {w : World} {g N : Nat} {F G : Nat → Bool} (h : HasB w g N F) (i : Nat) (x : Bool) (hx : x = G i) (hG : ∀ j, j < N → j ≠ i → G j = F j) :
  HasB (w.setCell ⟨g, i, none⟩ (.bool x)) g N G := by
 unfold HasB
 rw [heap_setCell_same w g i _ _ _ h]
 congr 2
 apply Array.ext'
 simp only [Array.toList_setIfInBounds]
 apply List.ext_getElem (by simp [boolsV])
 intro j h1 h2
 have hj : j < N := by simpa [boolsV] using h2
 by_cases e : i = j
 ·subst e; simp [boolsV, hx]
 ·rw [List.getElem_set_ne e]; simp [boolsV, hG j hj (fun c => e c.symm)]
theorem HasB.below {w w' : World} {g N B : Nat} {F : Nat → Bool} (h : HasB w g N F) (hb : Below B w w') (hg : g < B) : HasB w' g N F := by
 unfold HasB at *; rw [hb.block g hg]; exact h
theorem HasB.lt {w : World} {g N : Nat} {F : Nat → Bool} (h : HasB w g N F) : g < w.heap.size := (Array.getElem?_eq_some_iff.1 h).1
def RetB (B : Nat) (w : World) (N : Nat) (F : Nat → Bool) (e : Ending) (w' : World) : Prop := ∃ g, e = .returned (.slice (some ⟨g, 0, none⟩) N N) ∧ B ≤ g ∧ HasB w' g N F ∧ Below B w w'
end Go.Proofs.YtiiidmphmojlgaaGreat
namespace Go.Proofs.YtiiidmphmojlgaaGreat
open Go.RowKit
end Go.Proofs.YtiiidmphmojlgaaGreat
namespace Go.Proofs.YtiiidmphmojlgaaGreat
open Go.RowKit Go.Buf
theorem BB.step {B : Nat} {w w1 w2 : World} {v : Value} {l : List Nat} {r : Option Nat} (hb : Below B w w1) (h : BB B w1 v l r) (hg : w1.grownBy w2 r) (hB : B ≤ w.heap.size) : Below B w w2 :=
 hb.trans (below_of_grown hg (Nat.le_trans hB hb.size) (fun k hk => (h.2.row_le k hk).1))
end Go.Proofs.YtiiidmphmojlgaaGreat
namespace Go.Proofs.YtiiidmphmojlgaaGreat
open Go.RowKit Go.Buf
structure BTo (B : Nat) (W0 : World) (row0 : Option Nat) (g : Nat) (w : World) (v : Value) (l : List Nat) (row : Option Nat) : Prop where
  bb : BB B w v l row
  grown : W0.grownBy w row0
  new : New W0 row0 row
  ne : ∀ k, row = some k → k ≠ g
  lt : g < w.heap.size
end Go.Proofs.YtiiidmphmojlgaaGreat
