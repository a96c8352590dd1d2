import Derived.Test.YtpkfjgoimaomfaaRows
import Derived.WalkKit
import Derived.WalkSpells
import Derived.WalkLawsBesides
import Derived.Deep.MidRow
import Derived.Laws.CopyOwn
import Derived.Deep.WholeRow
import Derived.Lib.Hide
import Derived.Deep.QuietTactic
import Derived.BigQuiet
import Derived.Deep.RegionLaw
import Derived.Deep.RegionHeld3
import Derived.Deep.RegionLawGrows
import Derived.Deep.RegionWith
import Derived.Lib.SlBytesConst
import Derived.Laws.AppendOwnNone
import Derived.Laws.BytesArg
import Derived.Test.YtpkfjgoimaomfaaReg
namespace Go.Proofs.Ytpkfjgoimaomfaa
open Go.RowKit
theorem ret_int {k : IntKind} {a b : Int} (h : a = b) : Ending.returned (.int k a) = .returned (.int k b) := by rw [h]
/-- A slice of bytes that reads as l: whatever its address while it has no element. -/
def Row (w : World) (a : Option Addr) (cap : Nat) (l : List Nat) : Prop :=
  l.length ≤ cap ∧ cap ≤ 9223372036854775807 ∧ (∀ x ∈ l, x < 256) ∧ (a = none → cap = 0) ∧ ∀ i x, l[i]? = some x → ∃ p, a = some p ∧ w.cell? (p.add i) = some (.int .u8 (x : Nat))
theorem Row.le {w : World} {a : Option Addr} {cap : Nat} {l : List Nat} (h : Row w a cap l) : l.length ≤ cap := h.1
theorem Row.cap {w : World} {a : Option Addr} {cap : Nat} {l : List Nat} (h : Row w a cap l) : cap ≤ 9223372036854775807 := h.2.1
theorem Row.byte {w : World} {a : Option Addr} {cap : Nat} {l : List Nat} (h : Row w a cap l) : ∀ x ∈ l, x < 256 := h.2.2.1
theorem Row.opened {w : World} {a : Option Addr} {cap : Nat} {l : List Nat} (h : Row w a cap l) (hl : 0 < l.length) :
    ∃ b off, a = some ⟨b, off, none⟩ ∧ b < w.heap.size ∧ ∀ i, i < l.length → w.cell? ⟨b, off + i, none⟩ = some (.int .u8 (l.getD i 0 : Nat)) := by
  obtain ⟨p, hp, hc⟩ := h.2.2.2.2 0 l[0] (by simp [hl])
  have hs := World.cell?_spot hc
  obtain ⟨b, off, spot⟩ := p
  have hspot : spot = none := by simpa [Addr.add] using hs
  subst hspot
  refine ⟨b, off, hp, by simpa [Addr.add] using World.block_lt_of_cell? w _ hc, fun i hi => ?_⟩
  obtain ⟨q, hq, hc'⟩ := h.2.2.2.2 i l[i] (by simp [hi])
  rw [hp] at hq
  obtain rfl := Option.some.inj hq
  rw [Addr.add_mid] at hc'
  rw [hc']; simp [List.getD, hi]
theorem Row.below {w w' : World} {a : Option Addr} {cap : Nat} {l : List Nat} (h : Row w a cap l) (hb : Below w.heap.size w w') : Row w' a cap l := by
  obtain ⟨h1, h2, h3, h4, h5⟩ := h
  refine ⟨h1, h2, h3, h4, fun i x hx => ?_⟩
  obtain ⟨p, hp, hc⟩ := h5 i x hx
  exact ⟨p, hp, (hb.cell (World.block_lt_of_cell? w _ hc)).trans hc⟩
theorem info5 : (Try.prog.info? 5).map (fun i => (i.zero, i.size, i.bytes)) = some (some (.int .u8 0), 1, 1) := by kernel_rfl
def bytesV (l : List Nat) : List Value := l.map fun x => .int .u8 (x : Nat)
theorem bytesV_length (l : List Nat) : (bytesV l).length = l.length := by simp [bytesV]
theorem bytesV_append (l m : List Nat) : bytesV (l ++ m) = bytesV l ++ bytesV m := by simp [bytesV]
theorem bytesV_one (l : List Nat) : ∀ u ∈ bytesV l, u.oneCell' = true := by
  intro u hu; simp [bytesV] at hu; obtain ⟨x, _, rfl⟩ := hu; rfl
theorem Row.holds {w : World} {a : Option Addr} {cap : Nat} {l : List Nat} (h : Row w a cap l) : ∀ b, a = some b → ∀ j u, (bytesV l)[j]? = some u → w.cell? (b.add j) = some u := by
  intro b hb j u hu
  simp [bytesV] at hu
  obtain ⟨x, hx, rfl⟩ := hu
  obtain ⟨p, hp, hc⟩ := h.2.2.2.2 j x hx
  rw [hb] at hp; obtain rfl := Option.some.inj hp
  exact hc
theorem Row.drew {w : World} {a : Option Addr} {cap : Nat} {l : List Nat} (h : Row w a cap l) : Row w.drew a cap l := by
  obtain ⟨h1, h2, h3, h4, h5⟩ := h
  exact ⟨h1, h2, h3, h4, fun i x hx => by obtain ⟨p, hp, hc⟩ := h5 i x hx; exact ⟨p, hp, by simpa using hc⟩⟩
theorem ownsRow_base {w : World} {B B' : Nat} {e : TypeId} {k : Nat} {v : Value} {n : Nat} {xs : List Value} (h : w.ownsRow B e k v n xs) (hB : B' ≤ B) : w.ownsRow B' e k v n xs := by
  obtain ⟨h1, h2⟩ := h
  refine ⟨h1, ?_⟩
  rcases h2 with h2 | ⟨g, cap, cur, hv, hg, r⟩
  · exact Or.inl h2
  · exact Or.inr ⟨g, cap, cur, hv, Nat.le_trans hB hg, r⟩
/-- It returns a slice of its own, from block B on, that reads as l. -/
def RetOwn (B : Nat) (w : World) (l : List Nat) (e : Ending) (w' : World) : Prop := ∃ v, e = .returned v ∧ w'.ownsRow B 5 1 v l.length (bytesV l) ∧ Below B w w'
theorem Row.take {w : World} {a : Option Addr} {cap : Nat} {l : List Nat} (h : Row w a cap l) (k c : Nat) (hk : k ≤ c) (hc : c ≤ cap) (ha : a = none → c = 0) : Row w a c (l.take k) := by
  obtain ⟨h1, h2, h3, h4, h5⟩ := h
  refine ⟨by simp; omega, by omega, fun x hx => h3 x (List.mem_of_mem_take hx), ha, fun i x hx => ?_⟩
  rw [List.getElem?_take] at hx
  split at hx
  · exact h5 i x hx
  · cases hx
def RetBool (B : Nat) (w : World) (r : Bool) (e : Ending) (w' : World) : Prop := e = .returned (.bool r) ∧ Below B w w'
theorem row_of_block {w : World} {b : Nat} {l : List Nat} {cs : Array Value} {t : TypeId} {fr : Nat × Nat} (h : w.heap[b]? = some (.cells cs t fr)) (hb : ∀ x ∈ l, x < 256) (o cap : Nat) (hcap : cap ≤ 9223372036854775807)
    (hl : l.length ≤ cap) (hc : ∀ i x, l[i]? = some x → cs[o + i]? = some (.int .u8 (x : Nat))) : Row w (some ⟨b, o, none⟩) cap l := by
  refine ⟨hl, hcap, hb, fun h => (by cases h), fun i x hx => ⟨_, rfl, ?_⟩⟩
  rw [Addr.add_mid, cell_of_row w b _ cs t fr h]
  exact hc i x hx
theorem own_open {w : World} {B n : Nat} {v : Value} {l : List Nat} (h : w.ownsRow B 5 1 v n (bytesV l)) (hn : 0 < n) :
    ∃ g cap cur, v = .slice (some ⟨g, 0, none⟩) n cap ∧ B ≤ g ∧ w.heap[g]? = some (.cells cur 5 (0, 0)) ∧ n ≤ cap ∧ cap ≤ 9223372036854775807 ∧ cur.size = cap ∧ cur.toList.take n = bytesV l := by
  obtain ⟨h1, h2⟩ := h
  rcases h2 with ⟨_, h0⟩ | ⟨g, cap, cur, hv, hg, hh, hc, hm, hs, ht⟩
  · omega
  · exact ⟨g, cap, cur, hv, hg, hh, hc, by unfold maxLen at hm; omega, by simpa using hs, by simpa using ht⟩
theorem own_row {w : World} {g n cap : Nat} {l : List Nat} {cur : Array Value} (hh : w.heap[g]? = some (.cells cur 5 (0, 0))) (hl : l.length = n) (hb : ∀ x ∈ l, x < 256) (hc : n ≤ cap) (hm : cap ≤ 9223372036854775807) (ht : cur.toList.take n = bytesV l) :
    Row w (some ⟨g, 0, none⟩) cap l := by
  refine row_of_block hh hb 0 cap hm (by omega) (fun i x hx => ?_)
  have hi : i < n := by have := (List.getElem?_eq_some_iff.1 hx).1; omega
  have : (cur.toList.take n)[i]? = some (.int .u8 (x : Nat)) := by rw [ht]; simp [bytesV, hx]
  rw [List.getElem?_take, if_pos hi] at this
  simpa using this
theorem own_set {w : World} {g n cap : Nat} {l : List Nat} {cur : Array Value} (hh : w.heap[g]? = some (.cells cur 5 (0, 0))) (hl : l.length = n) (hb : ∀ x ∈ l, x < 256) (hc : n ≤ cap) (hm : cap ≤ 9223372036854775807) (ht : cur.toList.take n = bytesV l)
    (i x : Nat) (hx : x < 256) : Row (w.setCell ⟨g, i, none⟩ (.int .u8 (x : Nat))) (some ⟨g, 0, none⟩) cap (l.set i x) := by
  have hh' := heap_setCell_same w g i cur 5 (.int .u8 (x : Nat)) hh
  refine own_row (n := n) hh' (by simp [hl]) (fun y hy => ?_) hc hm ?_
  · rcases List.mem_or_eq_of_mem_set hy with h1 | h1
    · exact hb y h1
    · omega
  · rw [Array.toList_setIfInBounds, List.take_set, ht]
    simp [bytesV, List.map_set]
theorem u64_wrap_bounds (n : Int) : 0 ≤ IntKind.u64.wrap n ∧ IntKind.u64.wrap n < 18446744073709551616 := by
  simp [IntKind.wrap, IntKind.bits, IntKind.signed]
  omega
/-- 'append(v, b...)' where v is the call's own and b is any slice of bytes. -/
theorem wpList_append_row {w : World} {ops : Array Oper} {rest : List Oper} {o : Oper} {ac : Act} {Q : Exit → Act → World → Prop} (hgd : o.guard = none) (s x : Operand)
    (ho : o.op = .call { callee := .builtin .append, args := #[s, x], argTypes := #[42, 42] })
    (base : Nat) (v : Value) (m : Nat) (xs : List Nat) (hs : ac.eval s = v) (hown : w.ownsRow base 5 1 v m (bytesV xs))
    (a : Option Addr) (n cap : Nat) (l : List Nat) (hx : ac.eval x = .slice a n cap) (hr : Row w a cap l) (hn : l.length = n) (hb : m + n ≤ 140737488355328) (hbase : base ≤ w.heap.size)
    (h : ∀ v' w', w'.ownsRow base 5 1 v' (m + n) (bytesV (xs ++ l)) → w.grownBy w' v.ownBlock → wpList Try.prog ops Q rest (ac.put o.dst v') w') : wpList Try.prog ops Q (o :: rest) ac w := by
  obtain ⟨i0, hi, hz0, hz1, hz2⟩ := info_parts info5
  cases a with
  | none =>
    have hc := hr.2.2.2.1 rfl
    have hle := hr.le
    obtain rfl : n = 0 := by omega
    subst hc
    have hl : l = [] := List.eq_nil_of_length_eq_zero hn
    subst hl
    refine wpList_append_own_none hgd s x 42 ho base 5 i0 1 Try.underlying42 hi v m _ hs hown hx ?_
    have := h v w (by simpa using hown) ⟨rfl, rfl, rfl, Nat.le_refl _, fun _ _ _ => rfl⟩
    exact this
  | some p =>
    refine wpList_append_own w hgd s x 42 ho base 5 i0 (.int .u8 0) 1 1 Try.underlying42 hi hz0 hz1 hz2 rfl (by decide) v m _ hs hown p n cap (bytesV l) hx (by rw [bytesV_length, hn, Nat.mul_one]) (hr.holds p rfl) (bytesV_one l) (by unfold maxLen; omega) (by omega) hbase ?_
    intro v' w' h1 h2 _
    exact h v' w' (by rw [bytesV_append]; exact h1) h2
/-- the string of these bytes -/
def strB (l : List Nat) : ByteArray := ⟨(l.map fun x => UInt8.ofNat x).toArray⟩
theorem strB_eq {l m : List Nat} (hl : ∀ x ∈ l, x < 256) (hm : ∀ x ∈ m, x < 256) : ((strB l).toList == (strB m).toList) = (l == m) := by
  rw [Bool.eq_iff_iff]
  simp only [beq_iff_eq]
  constructor
  · intro h
    have h2 : (strB l).data.toList = (strB m).data.toList := by
      have e : ∀ s : ByteArray, s.toList = s.data.toList := fun s => ByteArray.toList_eq s
      rw [e, e] at h; exact h
    simp only [strB] at h2
    have inj : ∀ (l m : List Nat), (∀ x ∈ l, x < 256) → (∀ x ∈ m, x < 256) → l.map (fun x => UInt8.ofNat x) = m.map (fun x => UInt8.ofNat x) → l = m := by
      intro l
      induction l with
      | nil => intro m _ _ h; cases m with
        | nil => rfl
        | cons y m => simp at h
      | cons x l ih => intro m hl hm h; cases m with
        | nil => simp at h
        | cons y m =>
          simp only [List.map_cons, List.cons.injEq] at h
          have hx := hl x (by simp); have hy := hm y (by simp)
          have h1 := congrArg UInt8.toNat h.1
          simp only [UInt8.toNat_ofNat'] at h1
          rw [ih m (fun z hz => hl z (by simp [hz])) (fun z hz => hm z (by simp [hz])) h.2]
          have : x = y := by omega
          rw [this]
    exact inj l m hl hm h2
  · intro h; rw [h]
theorem conv_row {w : World} {a : Option Addr} {n cap : Nat} {l : List Nat} (hr : Row w a cap l) (hn : l.length = n) :
    Sem.run Try.prog (convert 42 9 (.slice a n cap)) w = .ok (.string (strB l)) w := by
  cases a with
  | none =>
    have hc := hr.2.2.2.1 rfl
    have hle := hr.le
    have hl : l = [] := List.eq_nil_of_length_eq_zero (by omega)
    subst hl
    exact run_convert_bytes_nil w 42 5 Try.underlying42 Try.underlying5 n cap 9 Try.underlying9
  | some p =>
    rw [run_convert_bytes_string w 42 9 5 (some p) n cap Try.underlying42 Try.underlying5 Try.underlying9]
    have hl := run_loadCells_list (P := Try.prog) w p (bytesV l) (hr.holds p rfl)
    have e : bytesV l = (l.map Int.ofNat).map (Value.int .u8) := by simp [bytesV]
    rw [bytesV_length, hn, e] at hl
    rw [run_bytesToString w p n cap (l.map Int.ofNat) hl, foldl_push_bytes]
    congr 2
    simp [strB]
end Go.Proofs.Ytpkfjgoimaomfaa
