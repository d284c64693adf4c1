/-
  Plain mathematics of layer 3 (address spaces): no program is named here.
  Layer 3: how a space lies in memory.
  Layer 3, contracts: isDataPerm, hasPage, refusal, Check.
  Layer 3, contracts: the cell at an address.
  A range over a function whose iterator may panic; its rounds are counted. No program is named here.
  Layer 3, contracts: the bytes of an access as an iterator.
  Layer 3, contracts: a fault is caught.
  Layer 3: what a round of 'read' keeps; append of one byte within a round.
  Layer 3, contracts: the closure that reads.
  Layer 3, contracts: read.
  Layer 3: a page is laid into a slice of one page.
  Layer 3, contracts: the memory of a space.
  Layer 3, contracts of the library: Clone.
  Layer 3, contracts: the closure that writes.
  Layer 3, contracts: Check, checkLength.
  Layer 3, contracts: checkLength, Access.
  Layer 3, contracts: write.
  Layer 3, contracts: the space that a memory has become.
  Layer 3, contracts: Access.
  Layer 3, contracts: replaced.
  Layer 3, contracts: replaced, with a fault.
  Layer 3, contracts: hasPage, Poke.
-/
import Derived.WalkKit
import Derived.Test.YtnapbpfofpaakaaGA
import Derived.Test.YtnapbpfofpaakaaRows
import Derived.BigQuiet
import Derived.Deep.QuietTactic
import Derived.Deep.DeepCutAuto
import Derived.Lib.Hide
import Derived.Outline
import Derived.RangeFuncNested
import Derived.RangeFuncBound
import Derived.RangeFuncCalls
import Derived.RangeFuncLeaves
import Derived.OwnWalkIn
import Derived.TacticsInMore
import Derived.LoopNIn
import Derived.LoopIn
import Derived.Below
import Derived.Defers
import Derived.Recover
import Derived.Laws.Pointers
import Derived.Deep.AppendLies
import Derived.Maps.AppendAt
import Derived.RangeFuncBox
import Derived.Shelf.Abstract
import Derived.Deep.MidRow
import Derived.Deep.RegionHeld3
import Derived.Deep.RegionLaw
import Derived.Shelf.RegionOpenPlain
import Derived.Lib.Walk
import Derived.Lib.SliceRun
import Derived.Lib.LazyBuf
namespace Go.Proofs.Ytnapbpfofpaakaa
open Go.RowKit

/-- The kind of the fault that an access without a permission has. -/
def refI (perm : Int) : Int := if perm = 1 then 2 else if perm = 2 then 3 else 4
/-- The k-th address of an access. -/
def adr (at0 : Int) (k : Nat) : Int := wrap64 (at0 + k)
/-- The kind of the fault of an access to one address; 0: none. 'n' is the number of bytes of the space. -/
def kindA (P : List Int) (perm a : Int) : Int :=
  if a < 0 ∨ 64 * (P.length : Int) ≤ a then 1
  else if perm ≠ 0 ∧ bits .and .i64 (P.getD (a / 64).toNat 0) perm = 0 then refI perm else 0
def okA (P : List Int) (perm at0 : Int) (k : Nat) : Bool := kindA P perm (adr at0 k) == 0

/-- How many of n steps are taken until one is refused. -/
def cnt (ok : Nat → Bool) : Nat → Nat
  | 0 => 0
  | n + 1 => if cnt ok n = n ∧ ok n = true then n + 1 else cnt ok n
theorem cnt_le (ok : Nat → Bool) : ∀ n, cnt ok n ≤ n
  | 0 => Nat.le_refl _
  | n + 1 => by unfold cnt; have := cnt_le ok n; split <;> omega
theorem cnt_all (ok : Nat → Bool) : ∀ n, (∀ j, j < n → ok j = true) → cnt ok n = n
  | 0, _ => rfl
  | n + 1, h => by
    unfold cnt
    rw [if_pos ⟨cnt_all ok n (fun j hj => h j (by omega)), h n (by omega)⟩]
theorem cnt_ok (ok : Nat → Bool) : ∀ n j, j < cnt ok n → ok j = true
  | 0, j, h => by simp [cnt] at h
  | n + 1, j, h => by
    unfold cnt at h
    split at h
    · rename_i hc
      by_cases e : j = n
      · exact e ▸ hc.2
      · exact cnt_ok ok n j (by rw [hc.1]; omega)
    · exact cnt_ok ok n j h
theorem cnt_stop (ok : Nat → Bool) : ∀ n, cnt ok n < n → ok (cnt ok n) = false
  | 0, h => by simp at h
  | n + 1, h => by
    have hle := cnt_le ok n
    by_cases hc : cnt ok n = n ∧ ok n = true
    · have e : cnt ok (n + 1) = n + 1 := by rw [cnt]; simp [hc]
      omega
    · have e : cnt ok (n + 1) = cnt ok n := by rw [cnt]; simp [hc]
      rw [e]
      by_cases e' : cnt ok n = n
      · have : ¬ ok n = true := fun h => hc ⟨e', h⟩
        rw [e']
        simpa using this
      · exact cnt_stop ok n (by omega)
/-- The count by its properties. -/
theorem cnt_eq {ok : Nat → Bool} {n m : Nat} (hm : m ≤ n) (h : ∀ j, j < m → ok j = true) (hs : m < n → ok m = false) : cnt ok n = m := by
  rcases Nat.lt_trichotomy (cnt ok n) m with h1 | h1 | h1
  · have h2 := cnt_stop ok n (by omega)
    have h3 := h _ h1
    rw [h2] at h3; cases h3
  · exact h1
  · have h2 := cnt_ok ok n m h1
    have h3 := hs (by have := cnt_le ok n; omega)
    rw [h2] at h3; cases h3

/-- How many bytes of an access have no fault; the fault. -/
def goodA (P : List Int) (perm at0 : Int) (n : Nat) : Nat := cnt (okA P perm at0) n
def fltK (P : List Int) (perm at0 : Int) (n : Nat) : Int := if goodA P perm at0 n = n then 0 else kindA P perm (adr at0 (goodA P perm at0 n))
def fltA (P : List Int) (perm at0 : Int) (n : Nat) : Int := if goodA P perm at0 n = n then 0 else adr at0 (goodA P perm at0 n)
/-- The k-th byte of an access. -/
def rdA (B : List UInt8) (at0 : Int) (k : Nat) : UInt8 := B.getD (adr at0 k).toNat 0
def rdL (B : List UInt8) (at0 : Int) (m : Nat) : List UInt8 := (List.range m).map (rdA B at0)
/-- The bytes behind the k first bytes of a store. -/
def wrL (B : List UInt8) (at0 : Int) (bs : List UInt8) : Nat → List UInt8
  | 0 => B
  | k + 1 => (wrL B at0 bs k).set (adr at0 k).toNat (bs.getD k 0)
theorem wrL_len (B : List UInt8) (at0 : Int) (bs : List UInt8) : ∀ k, (wrL B at0 bs k).length = B.length
  | 0 => rfl
  | k + 1 => by simp [wrL, wrL_len B at0 bs k]
theorem rdL_snoc (B : List UInt8) (at0 : Int) (m : Nat) : rdL B at0 (m + 1) = rdL B at0 m ++ [rdA B at0 m] := by simp [rdL, List.range_succ]
theorem rdL_len (B : List UInt8) (at0 : Int) (m : Nat) : (rdL B at0 m).length = m := by simp [rdL]

theorem refI_ne (perm : Int) : refI perm ≠ 0 := by unfold refI; split <;> (try split) <;> decide
theorem okA_in {P : List Int} {perm at0 : Int} {k : Nat} (h : okA P perm at0 k = true) : 0 ≤ adr at0 k ∧ adr at0 k < 64 * P.length := by
  unfold okA kindA at h
  split at h
  · simp at h
  · omega
theorem fltK_zero {P : List Int} {perm at0 : Int} {n : Nat} : fltK P perm at0 n = 0 ↔ goodA P perm at0 n = n := by
  unfold fltK
  constructor
  · intro h
    by_cases e : goodA P perm at0 n = n
    · exact e
    · rw [if_neg e] at h
      have h1 : goodA P perm at0 n < n := by have := cnt_le (okA P perm at0) n; unfold goodA at e ⊢; omega
      have h2 := cnt_stop (okA P perm at0) n h1
      unfold goodA at h
      have h3 : (kindA P perm (adr at0 (cnt (okA P perm at0) n)) == 0) = false := h2
      rw [h] at h3
      simp at h3
  · intro h; rw [if_pos h]

/-- A permission that a page can have. -/
def permB (p : Int) : Bool := p == 0 || p == 1 || p == 3 || p == 4
/-- The list of permissions of a valid space. -/
def spB (P : List Int) (B : Nat) : Bool := decide (P.length ≤ 32) && (B == 64 * P.length) && P.all permB
end Go.Proofs.Ytnapbpfofpaakaa

namespace Go.Proofs.Ytnapbpfofpaakaa
open Go.RowKit

theorem retI {k : IntKind} {a b : Int} (h : a = b) : Ending.returned (.int k a) = .returned (.int k b) := by rw [h]
theorem retB {a b : Bool} (h : a = b) : Ending.returned (.bool a) = .returned (.bool b) := by rw [h]

theorem lt_of_cell {W : World} {b o : Nat} {v : Value} (h : W.cell? ⟨b, o, none⟩ = some v) : b < W.heap.size := by
  rcases Nat.lt_or_ge b W.heap.size with h' | h'
  · exact h'
  · simp [World.cell?, Array.getElem?_eq_none h'] at h
theorem cell_up {B : Nat} {W W' : World} (g : Below B W W') {b o : Nat} {v : Value} (hb : b < B) (h : W.cell? ⟨b, o, none⟩ = some v) : W'.cell? ⟨b, o, none⟩ = some v := by
  rw [g.cell hb]; exact h

/-- The cells of a slice from its address on. -/
def SeqAt (w : World) (p : Option Addr) (xs : List Value) : Prop := xs = [] ∨ ∃ b o, p = some ⟨b, o, none⟩ ∧ ∀ j v, xs[j]? = some v → w.cell? ⟨b, o + j, none⟩ = some v
theorem SeqAt.up {W W' : World} (g : Below W.heap.size W W') {p : Option Addr} {xs : List Value} (h : SeqAt W p xs) : SeqAt W' p xs := by
  rcases h with h | ⟨b, o, hp, h⟩
  · exact .inl h
  · exact .inr ⟨b, o, hp, fun j v hj => cell_up g (lt_of_cell (h j v hj)) (h j v hj)⟩
/-- .. below a number. -/
theorem SeqAt.upB {B : Nat} {W W' : World} (g : Below B W W') {p : Option Addr} {xs : List Value} (h : SeqAt W p xs) (hp : ∀ b o, p = some ⟨b, o, none⟩ → xs ≠ [] → b < B) : SeqAt W' p xs := by
  rcases h with h | ⟨b, o, hp', h⟩
  · exact .inl h
  · refine .inr ⟨b, o, hp', fun j v hj => cell_up g (hp b o hp' ?_) (h j v hj)⟩
    rintro rfl; simp at hj

def iV (P : List Int) : List Value := P.map (Value.int .i64)
def bV (B : List UInt8) : List Value := B.map fun c => .int .u8 (c.toNat : Int)
theorem iV_get (P : List Int) (j : Nat) (h : j < P.length) : (iV P)[j]? = some (.int .i64 P[j]) := by simp [iV, h]
theorem bV_get (B : List UInt8) (j : Nat) (h : j < B.length) : (bV B)[j]? = some (.int .u8 (B[j].toNat : Int)) := by simp [bV, h]
theorem iV_len (P : List Int) : (iV P).length = P.length := by simp [iV]
theorem bV_len (B : List UInt8) : (bV B).length = B.length := by simp [bV]

/-- A space's value. -/
@[reducible] def spV (p : Option Addr) (n pc : Nat) (q : Option Addr) (m qc : Nat) : Value := .agg #[.slice p n pc, .slice q m qc]
/-- A fault's value. -/
@[reducible] def ftV (k a : Int) : Value := .agg #[.int .i64 k, .int .i64 a]

/-- A result that is a slice with such elements. -/
def OutS (w : World) (v : Value) (xs : List Value) : Prop := ∃ p c, v = .slice p xs.length c ∧ SeqAt w p xs
theorem OutS.up {W W' : World} (g : Below W.heap.size W W') {v : Value} {xs : List Value} (h : OutS W v xs) : OutS W' v xs := by
  obtain ⟨p, c, e, h⟩ := h; exact ⟨p, c, e, h.up g⟩
/-- A result that is a space. -/
def OutP (w : World) (v : Value) (P : List Int) (B : List UInt8) : Prop := ∃ p pc q qc, v = spV p P.length pc q B.length qc ∧ SeqAt w p (iV P) ∧ SeqAt w q (bV B)
theorem OutP.up {W W' : World} (g : Below W.heap.size W W') {v : Value} {P : List Int} {B : List UInt8} (h : OutP W v P B) : OutP W' v P B := by
  obtain ⟨p, pc, q, qc, e, h1, h2⟩ := h; exact ⟨p, pc, q, qc, e, h1.up g, h2.up g⟩
theorem OutS.of_own {w : World} {base : Nat} {e : TypeId} {v : Value} {n : Nat} {xs : List Value} (h : w.ownsRow base e 1 v n xs) : OutS w v xs := by
  have hl : xs.length = n := by simpa using h.1
  rcases h.2 with ⟨rfl, rfl⟩ | ⟨g, cap, cur, rfl, h2⟩
  · have : xs = [] := List.eq_nil_of_length_eq_zero hl
    subst this
    exact ⟨none, 0, rfl, .inl rfl⟩
  · refine ⟨_, cap, by rw [hl], .inr ⟨g, 0, rfl, fun j u hj => ?_⟩⟩
    have := h.cells (g := g) rfl j u hj
    rwa [Addr.add_lit] at this
end Go.Proofs.Ytnapbpfofpaakaa

namespace Go.Proofs.Ytnapbpfofpaakaa
open Go.RowKit

def dpB (p : Int) : Bool := p == 0 || p == 1 || p == 3
theorem permB_eq (p : Int) : permB p = (p == 4 || dpB p) := by
  unfold permB dpB
  cases (p == 4) <;> cases (p == 0) <;> cases (p == 1) <;> cases (p == 3) <;> rfl
theorem dataPerm_any (p : Int) (w : World) : Calls Try.prog 48 #[.int .i64 p] w fun e w' => e = .returned (.bool (dpB p)) ∧ w = w' := by
  by_cases h0 : p = 0
  · subst h0
    go_enter Try.func48, Try.ntmps48
    go_wp2
    go_ret
    exact ⟨retB rfl, rfl⟩
  · by_cases h1 : p = 1
    · subst h1
      go_enter Try.func48, Try.ntmps48
      go_wp2
      go_ret
      exact ⟨retB rfl, rfl⟩
    · have e0 : (p == 0) = false := beq_eq_false_iff_ne.2 h0
      have e1 : (p == 1) = false := beq_eq_false_iff_ne.2 h1
      have e : dpB p = (p == 3) := by simp [dpB, e0, e1]
      rw [e]
      clear e h0 h1
      go_enter Try.func48, Try.ntmps48
      go_wp2
      go_ret
      exact ⟨retB rfl, rfl⟩
theorem refusal_any (p : Int) (w : World) : Calls Try.prog 83 #[.int .i64 p] w fun e w' => e = .returned (.int .i64 (refI p)) ∧ w = w' := by
  by_cases h1 : p = 1
  · subst h1
    go_enter Try.func83, Try.ntmps83
    go_wp2
    go_ret
    exact ⟨retI rfl, rfl⟩
  · by_cases h2 : p = 2
    · subst h2
      go_enter Try.func83, Try.ntmps83
      go_wp2
      go_ret
      exact ⟨retI rfl, rfl⟩
    · have e1 : (p == 1) = false := beq_eq_false_iff_ne.2 h1
      have e2 : (p == 2) = false := beq_eq_false_iff_ne.2 h2
      have e : refI p = 4 := by simp [refI, h1, h2]
      rw [e]
      clear e
      go_enter Try.func83, Try.ntmps83
      go_wp2
      go_ret
      exact ⟨retI rfl, rfl⟩

/-- Is there such a page? -/
def hpB (n : Nat) (page : Int) : Bool := decide (0 ≤ page) && decide (page < n)
theorem hasPage_any (p : Option Addr) (n pc : Nat) (q : Option Addr) (m qc : Nat) (page : Int) (w : World) : Calls Try.prog 47 #[spV p n pc q m qc, .int .i64 page] w fun e w' => e = .returned (.bool (hpB n page)) ∧ Below w.heap.size w w' := by
  by_cases h0 : 0 ≤ page
  · by_cases h1 : page < (n : Int)
    all_goals
      have e : hpB n page = decide (page < (n : Int)) := by simp [hpB, h0]
      rw [e]
      clear e
      go_enter Try.func47, Try.ntmps47
      go_wp2
      go_ret
      exact ⟨retB (by simp [h1]), (Below.refl _ _).alloc (Nat.le_refl _) _⟩
  · have e : hpB n page = false := by simp [hpB, h0]
    rw [e]
    clear e
    go_enter Try.func47, Try.ntmps47
    go_wp2
    go_ret
    exact ⟨retB rfl, (Below.refl _ _).alloc (Nat.le_refl _) _⟩
end Go.Proofs.Ytnapbpfofpaakaa

namespace Go.Proofs.Ytnapbpfofpaakaa
open Go.RowKit

theorem page_off {a : Int} (h : 0 ≤ a) : (a / 64).toNat * 64 + (a % 64).toNat = a.toNat := by omega
theorem retP {b x y : Nat} (h : x = y) : Ending.returned (.pointer (some ⟨b, x, none⟩)) = .returned (.pointer (some ⟨b, y, none⟩)) := by rw [h]
/-- What a faulting access panics with. -/
@[reducible] def chV (k a : Int) : List PanicEntry := [{ v := .iface 34 (ftV k a), recovered := false }]

set_option maxHeartbeats 1000000 in
theorem cell_map (p : Option Addr) (n pc : Nat) (q : Option Addr) (m qc : Nat) (a perm : Int) (w : World) (hm : m ≤ 32) (h : a < 0 ∨ 64 * (m : Int) ≤ a) : Calls Try.prog 76 #[spV p n pc q m qc, .int .i64 a, .int .i64 perm] w fun e w' => e = .panicked (chV 1 a) ∧ Below w.heap.size w w' := by
  have hm0 : (m : Int) ≤ 32 := by omega
  by_cases h0 : a < 0
  · clear h
    go_enter Try.func76, Try.ntmps76
    go_wp2
    exact ⟨rfl, rfl, (Below.refl _ _).alloc (Nat.le_refl _) _⟩
  · have h1 : 64 * (m : Int) ≤ a := by omega
    clear h
    go_enter Try.func76, Try.ntmps76
    go_wp2
    exact ⟨rfl, rfl, (Below.refl _ _).alloc (Nat.le_refl _) _⟩

set_option maxHeartbeats 1000000 in
theorem cell_bad (b o n pc : Nat) (q : Option Addr) (m qc : Nat) (a perm x : Int) (w : World) (hm : m ≤ 32) (hmn : m = n) (h0 : 0 ≤ a) (h1 : a < 64 * (m : Int)) (hp : perm ≠ 0) (hc : w.cell? ⟨b, o + (a / 64).toNat, none⟩ = some (.int .i64 x)) (hx : bits .and .i64 x perm = 0) :
    Calls Try.prog 76 #[spV (some ⟨b, o, none⟩) n pc q m qc, .int .i64 a, .int .i64 perm] w fun e w' => e = .panicked (chV (refI perm) a) ∧ Below w.heap.size w w' := by
  subst hmn
  have hm0 : (m : Int) ≤ 32 := by omega
  have hp' : (perm != 0) = true := bne_iff_ne.2 hp
  have hx' : (bits .and .i64 x perm == 0) = true := beq_iff_eq.2 hx
  have i0 : 0 ≤ a / 64 := by omega
  have i1 : a / 64 < (m : Int) := by omega
  have hb := lt_of_cell hc
  clear hx hp
  go_enter Try.func76, Try.ntmps76
  go_wp2_with (go_at_call 83; (refine (refusal_any _ _).mono ?_); rintro e w1 ⟨rfl, rfl⟩)
  exact ⟨rfl, rfl, (Below.refl _ _).alloc (Nat.le_refl _) _⟩

set_option maxHeartbeats 1000000 in
theorem cell_any (p : Option Addr) (n pc PB m qc : Nat) (a : Int) (w : World) (hm : m ≤ 32) (h0 : 0 ≤ a) (h1 : a < 64 * (m : Int)) :
    Calls Try.prog 76 #[spV p n pc (some ⟨PB, 0, none⟩) m qc, .int .i64 a, .int .i64 0] w fun e w' => e = .returned (.pointer (some ⟨PB, a.toNat, none⟩)) ∧ Below w.heap.size w w' := by
  have hm0 : (m : Int) ≤ 32 := by omega
  have i0 : 0 ≤ a / 64 := by omega
  have i1 : a / 64 < (m : Int) := by omega
  have j0 : 0 ≤ a % 64 := by omega
  have j1 : a % 64 < 64 := by omega
  go_enter Try.func76, Try.ntmps76
  go_wp2
  go_ret
  exact ⟨retP (page_off h0), (Below.refl _ _).alloc (Nat.le_refl _) _⟩

set_option maxHeartbeats 1000000 in
theorem cell_perm (b o n pc PB m qc : Nat) (a perm x : Int) (w : World) (hm : m ≤ 32) (hmn : m = n) (h0 : 0 ≤ a) (h1 : a < 64 * (m : Int)) (hp : perm ≠ 0) (hc : w.cell? ⟨b, o + (a / 64).toNat, none⟩ = some (.int .i64 x)) (hx : bits .and .i64 x perm ≠ 0) :
    Calls Try.prog 76 #[spV (some ⟨b, o, none⟩) n pc (some ⟨PB, 0, none⟩) m qc, .int .i64 a, .int .i64 perm] w fun e w' => e = .returned (.pointer (some ⟨PB, a.toNat, none⟩)) ∧ Below w.heap.size w w' := by
  subst hmn
  have hm0 : (m : Int) ≤ 32 := by omega
  have hp' : (perm != 0) = true := bne_iff_ne.2 hp
  have hx' : (bits .and .i64 x perm == 0) = false := beq_eq_false_iff_ne.2 hx
  have i0 : 0 ≤ a / 64 := by omega
  have i1 : a / 64 < (m : Int) := by omega
  have j0 : 0 ≤ a % 64 := by omega
  have j1 : a % 64 < 64 := by omega
  have hb := lt_of_cell hc
  clear hx hp
  go_enter Try.func76, Try.ntmps76
  go_wp2
  go_ret
  exact ⟨retP (page_off h0), (Below.refl _ _).alloc (Nat.le_refl _) _⟩

/-- The cell of an access: a pointer, or a panic. -/
theorem cell_spec (P : List Int) (p : Option Addr) (pc PB qc : Nat) (q : Option Addr) (hq : q = some ⟨PB, 0, none⟩ ∨ P = []) (a perm : Int) (w : World) (hm : P.length ≤ 32) (hP : SeqAt w p (iV P)) :
    Calls Try.prog 76 #[spV p P.length pc q P.length qc, .int .i64 a, .int .i64 perm] w fun e w' =>
      (if kindA P perm a = 0 then e = .returned (.pointer (some ⟨PB, a.toNat, none⟩)) else e = .panicked (chV (kindA P perm a) a)) ∧ Below w.heap.size w w' := by
  have fin : ∀ {k : Int} {R : Ending → World → Prop}, kindA P perm a = k → (if k = 0 then Calls Try.prog 76 #[spV p P.length pc q P.length qc, .int .i64 a, .int .i64 perm] w (fun e w' => e = .returned (.pointer (some ⟨PB, a.toNat, none⟩)) ∧ Below w.heap.size w w')
      else Calls Try.prog 76 #[spV p P.length pc q P.length qc, .int .i64 a, .int .i64 perm] w (fun e w' => e = .panicked (chV k a) ∧ Below w.heap.size w w')) →
      (∀ e w', (if k = 0 then e = .returned (.pointer (some ⟨PB, a.toNat, none⟩)) else e = .panicked (chV k a)) ∧ Below w.heap.size w w' → R e w') → Calls Try.prog 76 #[spV p P.length pc q P.length qc, .int .i64 a, .int .i64 perm] w R := by
    intro k R _ h hR
    by_cases hk : k = 0
    · rw [if_pos hk] at h
      exact h.mono fun e w' he => hR e w' ⟨by rw [if_pos hk]; exact he.1, he.2⟩
    · rw [if_neg hk] at h
      exact h.mono fun e w' he => hR e w' ⟨by rw [if_neg hk]; exact he.1, he.2⟩
  by_cases h : a < 0 ∨ 64 * (P.length : Int) ≤ a
  · have hk : kindA P perm a = 1 := by unfold kindA; rw [if_pos h]
    refine fin hk ?_ fun e w' he => by rw [hk]; exact he
    rw [if_neg (by decide)]
    exact cell_map _ _ _ _ _ _ _ _ _ hm h
  · replace hq : q = some ⟨PB, 0, none⟩ := by
      rcases hq with hq | hq
      · exact hq
      · subst hq; simp at h; omega
    subst hq
    by_cases hp : perm = 0
    · have hk : kindA P perm a = 0 := by unfold kindA; rw [if_neg h, if_neg (by simp [hp])]
      refine fin hk ?_ fun e w' he => by rw [hk]; exact he
      rw [if_pos rfl, hp]
      exact cell_any _ _ _ _ _ _ _ _ hm (by omega) (by omega)
    · rcases hP with hn | ⟨b, o, rfl, hP⟩
      · have : P.length = 0 := by simpa [iV] using hn
        omega
      · have hl : (a / 64).toNat < P.length := by omega
        have hc := hP _ _ (iV_get P _ hl)
        have hg : P.getD (a / 64).toNat 0 = P[(a / 64).toNat] := by simp [List.getD, hl]
        by_cases hx : bits .and .i64 P[(a / 64).toNat] perm = 0
        · have hk : kindA P perm a = refI perm := by unfold kindA; rw [if_neg h, hg, if_pos ⟨hp, hx⟩]
          refine fin hk ?_ fun e w' he => by rw [hk]; exact he
          rw [if_neg (refI_ne perm)]
          exact cell_bad _ _ _ _ _ _ _ _ _ _ _ hm rfl (by omega) (by omega) hp hc hx
        · have hk : kindA P perm a = 0 := by unfold kindA; rw [if_neg h, hg, if_neg (fun h => hx h.2)]
          refine fin hk ?_ fun e w' he => by rw [hk]; exact he
          rw [if_pos rfl]
          exact cell_perm _ _ _ _ _ _ _ _ _ _ _ hm rfl (by omega) (by omega) hp hc hx

theorem cell_good (P : List Int) (p : Option Addr) (pc PB qc : Nat) (q : Option Addr) (hq : q = some ⟨PB, 0, none⟩ ∨ P = []) (a perm : Int) (w : World) (hm : P.length ≤ 32) (hP : SeqAt w p (iV P)) (h : kindA P perm a = 0) :
    Calls Try.prog 76 #[spV p P.length pc q P.length qc, .int .i64 a, .int .i64 perm] w fun e w' => e = .returned (.pointer (some ⟨PB, a.toNat, none⟩)) ∧ Below w.heap.size w w' :=
  (cell_spec P p pc PB qc q hq a perm w hm hP).mono fun e w' he => by rw [if_pos h] at he; exact he
theorem cell_fault (P : List Int) (p : Option Addr) (pc PB qc : Nat) (q : Option Addr) (hq : q = some ⟨PB, 0, none⟩ ∨ P = []) (a perm : Int) (w : World) (hm : P.length ≤ 32) (hP : SeqAt w p (iV P)) (h : kindA P perm a ≠ 0) :
    Calls Try.prog 76 #[spV p P.length pc q P.length qc, .int .i64 a, .int .i64 perm] w fun e w' => e = .panicked (chV (kindA P perm a) a) ∧ Below w.heap.size w w' :=
  (cell_spec P p pc PB qc q hq a perm w hm hP).mono fun e w' he => by rw [if_neg h] at he; exact he
end Go.Proofs.Ytnapbpfofpaakaa

namespace Go.Proofs.Ytnapbpfofpaakaa
open Go Go.RowKit

/-- What stands between two rounds abides the growth of memory. -/
def Grows (J : Nat → World → Prop) : Prop := ∀ k W W', J k W → Below W.heap.size W W' → J k W'
/-- .. and a turn of what is no cells: a loop's record, a block for deferred calls. -/
def Turns (B : Nat) (J : Nat → World → Prop) : Prop := ∀ k W l o o', B ≤ l → J k W → W.heap[l]? = some o → o.isCells = false → J k (W.putObj l o')

/-- How an iterator ends: all rounds made; a round said 'no more'; a panic. -/
def IterEnd (n : Nat) (bad : Nat → List PanicEntry → Prop) (J Jx : Nat → World → Prop) (e : Ending) (W' : World) : Prop :=
  ((∃ v, e = .returned v) ∧ (J n W' ∨ ∃ k, k ≤ n ∧ Jx k W')) ∨ (∃ chain k, e = .panicked chain ∧ bad k chain ∧ J k W')
/-- The contract of an iterator: n rounds, the k-th is handed 'xs k'; it may panic ahead of a round. -/
def Iter (P : Program) (g : Nat) (lb : Array Value) (xs : Nat → Array Value) (n : Nat) (ok : Nat → Prop) (bad : Nat → List PanicEntry → Prop) (F : World → Prop) : Prop :=
  ∀ (l : Nat) (J Jx : Nat → World → Prop) (W : World), Grows J → Grows Jx → (∀ k W, J k W → F W) →
    (∀ k W1, J k W1 → k < n → ok k → YieldAt Fence.wide 0 P l (xs k) W1 fun e W' => (e = .returned (.bool true) ∧ J (k + 1) W') ∨ (e = .returned (.bool false) ∧ Jx (k + 1) W')) →
    J 0 W → CallsIn Fence.wide 0 P g (#[.func (.yield l) #[] #[]] ++ lb) W (IterEnd n bad J Jx)

/-- What a round's body must come to: on to the next one; or out. -/
def roundEnd (I : Nat → World → Prop) (Ix : Code → Nat → World → Prop) (k : Nat) (W : World) : Exit → Act → World → Prop
  | .normal, _, W' => KeepsOthers W W' ∧ I (k + 1) W'
  | .ret, _, W' => KeepsOthers W W' ∧ Ix .ret (k + 1) W'
  | .exit id, _, W' => KeepsOthers W W' ∧ Ix (.exit id) (k + 1) W'
  | _, _, _ => False

/-- The loop's record lies at D + 1, the block for its rounds' deferred calls at D. -/
structure Recs (D : Nat) (X : Loop) (W : World) : Prop where
  marks : W.heap[D]? = some (.deferred (some []))
  loop : W.heap[D + 1]? = some (.loop X)

theorem lt_heap {W : World} {k : Nat} {o : Obj} (h : W.heap[k]? = some o) : k < W.heap.size := (Array.getElem?_eq_some_iff.1 h).1
theorem Recs.grow {D : Nat} {X : Loop} {W W' : World} (h : Recs D X W) (hb : Below W.heap.size W W') : Recs D X W' :=
  ⟨(hb.block _ (lt_heap h.marks)).trans h.marks, (hb.block _ (lt_heap h.loop)).trans h.loop⟩
theorem Recs.keep {D : Nat} {X : Loop} {W W' : World} (h : Recs D X W) (hk : KeepsOthers W W') : Recs D X W' :=
  ⟨hk.same _ _ h.marks rfl, hk.same _ _ h.loop rfl⟩
theorem Recs.put {D : Nat} {X : Loop} {W : World} (h : Recs D X W) (Y : Loop) : Recs D Y (W.putObj (D + 1) (.loop Y)) :=
  ⟨(World.putObj_heap_other (by omega)).trans h.marks, World.putObj_heap_same (lt_heap h.loop)⟩
theorem Recs.laid (w : World) (X : Loop) : Recs w.heap.size X ((w.alloc (.deferred (some []))).alloc (.loop X)) := by
  constructor
  · exact (Below.heap_alloc _ _ _ (by simp)).trans (World.alloc_heap_new w _)
  · simpa [World.size_alloc] using World.alloc_heap_new (w.alloc (.deferred (some []))) (.loop X)

variable {P : Program}

/-- One round: yield is called where the record is ready. -/
theorem round_yields {D : Nat} {X : Loop} {args : Array Value} {W : World} {I : Nat → World → Prop} {Ix : Code → Nat → World → Prop} {k : Nat} (h : Recs D X W) (hx : X.state = .ready) (hp : X.pending = none) (hs : args.size = X.params.size)
    {B : Nat} (hB0 : B ≤ D + 1) (hIt : Turns B I) (hIxt : ∀ c, Turns B (Ix c)) (hi : I k W) {a₁ : Act}
    (hassign : ∀ (W : World) (K : Act → World → Prop), K a₁ W → X.assign.wpIn (Fence.wide.inRound (D + 1)) 0 P (Exit.then K (fun _ _ _ => False)) { tmps := (X.params.zip args).foldl (fun t (p, v) => t.setIfInBounds p v) X.tmps, defers := [] } W)
    (hbody : ∀ W, I k W → X.body.wpIn (Fence.wide.inRound (D + 1)) 0 P (roundEnd I Ix k W) a₁ W) :
    YieldAt Fence.wide 0 P (D + 1) args W fun e W' => (e = .returned (.bool true) ∧ I (k + 1) W' ∧ Recs D X W') ∨ (e = .returned (.bool false) ∧ ∃ c, Ix c (k + 1) W' ∧ Recs D { X with state := .done, pending := some c } W') := by
  obtain ⟨st, pe, fn, tm, pa, ag, bo, de⟩ := X
  simp only at hx hp
  subst hx hp
  refine ⟨_, _, _, _, run_yield h.loop hs, roundIn_of_wpIn (by exact trivial) (hassign W _ ⟨_, run_beginRound h.loop rfl, ?_⟩)⟩
  have hB := h.put { state := .busy, pending := none, fn := fn, tmps := tm, params := pa, assign := ag, body := bo, defers := de }
  refine wpIn_mono (hbody _ (hIt _ _ _ _ _ hB0 hi h.loop rfl)) ?_
  rintro e a3 W3 hq
  cases e with
  | normal =>
    have h3 := hB.keep hq.1
    exact ⟨_, _, run_endRound none h3.loop, .inl ⟨rfl, hIt _ _ _ _ _ hB0 hq.2 h3.loop rfl, h3.put _⟩⟩
  | ret =>
    have h3 := hB.keep hq.1
    exact ⟨_, _, run_endRound (some .ret) h3.loop, .inr ⟨rfl, .ret, hIxt _ _ _ _ _ _ hB0 hq.2 h3.loop rfl, h3.put _⟩⟩
  | exit id =>
    have h3 := hB.keep hq.1
    exact ⟨_, _, run_endRound (some (.exit id)) h3.loop, .inr ⟨rfl, .exit id, hIxt _ _ _ _ _ _ hB0 hq.2 h3.loop rfl, h3.put _⟩⟩
  | goto t => exact hq.elim
  | panic ch => exact hq.elim
  | outgrown => exact hq.elim

theorem wp_range {g : Operand} {ps : Array Tmp} {assign body : Code} {Q : Exit → Act → World → Prop} {a : Act} {w : World} {gf : Nat} {lb : Array Value}
    (hg : a.eval g = .func (.func gf) #[] lb) (eg : ∀ args w, (callFunc gf args).run P w = .ok (.enter gf args) w)
    {xs : Nat → Array Value} {n : Nat} {ok : Nat → Prop} {bad : Nat → List PanicEntry → Prop} {F : World → Prop} (hit : Iter P gf lb xs n ok bad F) (hps : ∀ k, (xs k).size = ps.size)
    (I : Nat → World → Prop) (Ix : Code → Nat → World → Prop) (hI : Grows I) (hIt : Turns w.heap.size I) (hIx : ∀ c, Grows (Ix c)) (hIxt : ∀ c, Turns w.heap.size (Ix c)) (hF : ∀ k W, I k W → F W)
    (h0 : I 0 w) (a₁ : Nat → Act)
    (hassign : ∀ (l : Nat) (k : Nat) (W : World) (K : Act → World → Prop), K (a₁ k) W →
      assign.wpIn (Fence.wide.inRound l) 0 P (Exit.then K (fun _ _ _ => False)) { tmps := (ps.zip (xs k)).foldl (fun t (p, v) => t.setIfInBounds p v) a.tmps, defers := [] } W)
    (hbody : ∀ (l : Nat) (k : Nat) (W : World), I k W → k < n → ok k → body.wpIn (Fence.wide.inRound l) 0 P (roundEnd I Ix k W) (a₁ k) W)
    (hdone : ∀ (D : Nat) (W : World), w.heap.size ≤ D → I n W → W.heap[D]? = some (.deferred (some [])) → Q .normal { a with defers := { target := .collected D, args := #[] } :: a.defers } W)
    (hstop : ∀ (D : Nat) (c : Code) (k : Nat) (W : World), w.heap.size ≤ D → k ≤ n → Ix c k W → W.heap[D]? = some (.deferred (some [])) → c.wpIn Fence.wide 0 P Q { a with defers := { target := .collected D, args := #[] } :: a.defers } W)
    (hpanic : ∀ (D : Nat) (k : Nat) (chain : List PanicEntry) (W : World), w.heap.size ≤ D → bad k chain → I k W → W.heap[D]? = some (.deferred (some [])) → Q (.panic chain) { a with defers := { target := .collected D, args := #[] } :: a.defers } W) :
    (Code.rangeFunc g ps assign body).wpIn Fence.wide 0 P Q a w := by
  refine wpIn_rangeFunc fun fn _ => ?_
  obtain ⟨X, hX⟩ : ∃ X : Loop, X = { state := .ready, pending := none, fn, tmps := a.tmps, params := ps, assign, body, defers := w.heap.size } := ⟨_, rfl⟩
  have hR := Recs.laid w X
  have hb : Below w.heap.size w ((w.alloc (.deferred (some []))).alloc (.loop X)) := ((Below.refl _ w).alloc (Nat.le_refl _) _).alloc (by simp) _
  refine ⟨w.heap.size + 1, [{ target := .collected w.heap.size, args := #[] }], (w.alloc (.deferred (some []))).alloc (.loop X), { target := .fn (.func gf) lb, args := #[.func (.yield (w.heap.size + 1)) #[] #[]] }, (w.alloc (.deferred (some []))).alloc (.loop X), gf,
    #[.func (.yield (w.heap.size + 1)) #[] #[]] ++ lb, (w.alloc (.deferred (some []))).alloc (.loop X), ?_, ?_, fun _ _ => trivial, ?_, fun h => by simp [Fence.wide] at h, ?_⟩
  · rw [hX]; exact run_enterLoop_outer _ _ _ _ _
  · simp only [resolve, hg]
    simp [go_sem]
  · simp [invoke, go_sem, eg]
  · refine (hit (w.heap.size + 1) (fun k W => I k W ∧ Recs w.heap.size X W) (fun k W => ∃ c, Ix c k W ∧ Recs w.heap.size { X with state := .done, pending := some c } W) _
      (fun k W W' h hb => ⟨hI _ _ _ h.1 hb, h.2.grow hb⟩) (fun k W W' ⟨c, h⟩ hb => ⟨c, hIx c _ _ _ h.1 hb, h.2.grow hb⟩) (fun k W h => hF k W h.1) ?_ ⟨hI _ _ _ h0 hb, hR⟩).mono ?_
    · intro k W h hlt hok
      have hy := round_yields (P := P) (args := xs k) (I := I) (Ix := Ix) (k := k) h.2 (by rw [hX]) (by rw [hX]) (by rw [hX]; exact hps k) (Nat.le_succ _) hIt hIxt h.1 (a₁ := a₁ k)
        (fun W K hK => by have := hassign (w.heap.size + 1) k W K hK; rw [hX]; exact this) (fun W hi => by have := hbody (w.heap.size + 1) k W hi hlt hok; rw [hX]; exact this)
      obtain ⟨f', t', ag', bo', h1, h2⟩ := hy
      exact ⟨f', t', ag', bo', h1, h2⟩
    · rintro e W2 (⟨⟨v, rfl⟩, (⟨hi, hr⟩ | ⟨k, hkn, c, hi, hr⟩)⟩ | ⟨chain, k, rfl, hbad, hi, hr⟩)
      · exact ⟨X.pending, _, run_endLoop hr.loop (by rw [hX]; simp), by rw [hX]; exact hdone _ _ (Nat.le_refl _) (hIt _ _ _ _ _ (Nat.le_succ _) hi hr.loop rfl) ((World.putObj_heap_other (by omega)).trans hr.marks)⟩
      · exact ⟨some c, _, run_endLoop hr.loop (by simp), hstop _ c k _ (Nat.le_refl _) hkn (hIxt c _ _ _ _ _ (Nat.le_succ _) hi hr.loop rfl) ((World.putObj_heap_other (by omega)).trans hr.marks)⟩
      · exact hpanic _ k chain _ (Nat.le_refl _) hbad hi hr.marks
end Go.Proofs.Ytnapbpfofpaakaa

namespace Go.Proofs.Ytnapbpfofpaakaa
open Go.RowKit
attribute [local go_sem] Oper.semAt_some

/-- What the iterator has captured. -/
structure CapF (P : List Int) (p : Option Addr) (pc PB qc : Nat) (q : Option Addr) (at0 : Int) (n : Nat) (perm : Int) (bn bm ba bp : Nat) (W : World) : Prop where
  m0 : W.cell? ⟨bm, 0, none⟩ = some (.slice p P.length pc)
  m1 : W.cell? ⟨bm, 1, none⟩ = some (.slice q P.length qc)
  a0 : W.cell? ⟨ba, 0, none⟩ = some (.int .i64 at0)
  n0 : W.cell? ⟨bn, 0, none⟩ = some (.int .i64 (n : Int))
  p0 : W.cell? ⟨bp, 0, none⟩ = some (.int .i64 perm)
  ps : SeqAt W p (iV P)

theorem cells_any (p : Option Addr) (n pc : Nat) (q : Option Addr) (m qc : Nat) (at0 cnt perm : Int) (w : World) : Calls Try.prog 60 #[spV p n pc q m qc, .int .i64 at0, .int .i64 cnt, .int .i64 perm] w fun e w' =>
    e = .returned (.func (.func 75) #[] #[.pointer (some ⟨w.heap.size + 1 + 1, 0, none⟩), .pointer (some ⟨w.heap.size, 0, none⟩), .pointer (some ⟨w.heap.size + 1, 0, none⟩), .pointer (some ⟨w.heap.size + 1 + 1 + 1, 0, none⟩)]) ∧
    w' = ((((w.alloc (.cells #[.slice p n pc, .slice q m qc] 106)).alloc (.cells #[.int .i64 at0] 2)).alloc (.cells #[.int .i64 cnt] 3)).alloc (.cells #[.int .i64 perm] 3)) := by
  have hmf : ∀ (fn : Fn) (first cap : Array Value) (w : World), (Instr.makeFunc fn first cap).run Try.prog w = .ok (.func fn first cap) w := fun _ _ _ _ => rfl
  go_enter Try.func60, Try.ntmps60
  go_wp2
  go_ret
  exact ⟨rfl, rfl⟩

set_option maxHeartbeats 1000000 in
theorem cells_iter (P : List Int) (p : Option Addr) (pc PB qc : Nat) (q : Option Addr) (hq : q = some ⟨PB, 0, none⟩ ∨ P = []) (at0 : Int) (n : Nat) (perm : Int) (bn bm ba bp : Nat) (hm : P.length ≤ 32) (hn : n ≤ 2048) :
    Iter Try.prog 75 #[.pointer (some ⟨bn, 0, none⟩), .pointer (some ⟨bm, 0, none⟩), .pointer (some ⟨ba, 0, none⟩), .pointer (some ⟨bp, 0, none⟩)]
      (fun k => #[.int .i64 (k : Int), .pointer (some ⟨PB, (adr at0 k).toNat, none⟩)]) n (fun k => kindA P perm (adr at0 k) = 0)
      (fun k chain => k < n ∧ kindA P perm (adr at0 k) ≠ 0 ∧ chain = chV (kindA P perm (adr at0 k)) (adr at0 k)) (CapF P p pc PB qc q at0 n perm bn bm ba bp) := by
  intro l J Jx W hJ hJx hF hY h0
  have hn0 : (n : Int) ≤ 2048 := by omega
  obtain ⟨m0, m1, a0, n0, p0, ps⟩ := hF _ _ h0
  refine callsIn_of_wp Try.func75 rfl trivial ?_ rfl
  simp only [Try.ntmps75, List.size_toArray, List.length_cons, List.length_nil, Nat.reduceAdd, Nat.reduceSub, Array.replicate_succ, Array.replicate_zero, List.push_toArray, List.append_toArray, List.nil_append, List.cons_append]
  gi_wp2
  clear m0 m1 a0 n0 p0 ps
  gi_loopw [8] (fun i wr => ∃ k : Nat, k ≤ n ∧ i = .int .i64 (k : Int) ∧ J k wr) (fun i _ => n - (intOf i).toNat)
  case atStart => exact ⟨0, Nat.zero_le _, rfl, h0⟩
  case round =>
    obtain ⟨k, hk, rfl, hJk⟩ := hrel
    obtain ⟨m0, m1, a0, n0, p0, ps⟩ := hF _ _ hJk
    by_cases hlt : k < n
    · by_cases h : kindA P perm (adr at0 k) = 0
      · have hki : (k : Int) < (n : Int) := by omega
        have ea : wrap64 (at0 + (k : Int)) = adr at0 k := rfl
        gi_wp2
        refine ⟨trivial, rfl, ?_⟩
        refine (callsIn_wide.2 (cell_good P p pc PB qc q hq (adr at0 k) perm _ hm ps h)).mono ?_
        rintro e w1 ⟨rfl, hb⟩
        obtain ⟨fn, tmps, assign, body, hy, hR⟩ := hY k w1 (hJ _ _ _ hJk hb) hlt h
        gi_wp2
        refine ⟨rfl, ?_⟩
        refine hR.mono ?_
        rintro e W' (⟨rfl, hJ'⟩ | ⟨rfl, hJx'⟩)
        · gi_wp2
          go_roundw
          case rel => exact ⟨k + 1, hlt, by go_num, hJ'⟩
          case measure => simp [intOf]; omega
        · gi_wp2
          refine bodyPost_ret (results_none rfl _ _ _) rfl ?_
          exact .inl ⟨⟨_, rfl⟩, .inr ⟨k + 1, hlt, hJx'⟩⟩
      · have hki : (k : Int) < (n : Int) := by omega
        have ea : wrap64 (at0 + (k : Int)) = adr at0 k := rfl
        gi_wp2
        refine ⟨trivial, rfl, ?_⟩
        refine (callsIn_wide.2 (cell_fault P p pc PB qc q hq (adr at0 k) perm _ hm ps h)).mono ?_
        rintro e w1 ⟨rfl, hb⟩
        exact ⟨rfl, .inr ⟨_, k, rfl, ⟨hlt, h, rfl⟩, hJ _ _ _ hJk hb⟩⟩
    · have hki : ¬ (k : Int) < (n : Int) := by omega
      obtain rfl : k = n := by omega
      gi_wp2
      refine bodyPost_end (results_none rfl _ _ _) rfl ?_
      exact .inl ⟨⟨_, rfl⟩, .inl hJk⟩
end Go.Proofs.Ytnapbpfofpaakaa

namespace Go.Proofs.Ytnapbpfofpaakaa
open Go.RowKit

set_option maxRecDepth 100000 in
theorem catch_fault (B : Nat) (x y k a : Int) (w : World) (hx : w.cell? ⟨B, 0, none⟩ = some (.int .i64 x)) (hy : w.cell? ⟨B, 1, none⟩ = some (.int .i64 y)) (fx : w.frozen? ⟨B, 0, none⟩ = false) (fy : w.frozen? ⟨B, 1, none⟩ = false) :
    CallsD Try.prog 74 #[.pointer (some ⟨B, 0, none⟩)] (.panicking (chV k a)) w fun e u' w' =>
      e = .returned (.tuple #[]) ∧ u' = .panicking [{ v := .iface 34 (ftV k a), recovered := true }] ∧ w' = ((w.setCell ⟨B, 0, none⟩ (.int .i64 k)).setCell ⟨B, 1, none⟩ (.int .i64 a)).alloc (.cells #[.int .i64 k, .int .i64 a] 34) := by
  have hb := lt_of_cell hx
  have hta : ∀ (k a : Int) (w : World), (Instr.typeAssert (.iface 34 (ftV k a)) 20 34 true).run Try.prog w = .ok (.tuple #[ftV k a, .bool true]) w := fun _ _ _ => by kernel_rfl
  refine callsD_of_wpS Try.func74 rfl fun c₀ cs hu => ?_
  simp only [Try.ntmps74, List.size_toArray, List.length_cons, List.length_nil, Nat.reduceAdd, Nat.reduceSub, Array.replicate_succ, Array.replicate_zero, List.push_toArray, List.append_toArray, List.nil_append, List.cons_append]
  apply wpS_seq
  apply wpS_region
  simp [wpOpsS, go_sem, recoverD, hu, Exit.thenS]
  have Hu := Lib.hid hu
  clear hu
  refine wpS_of_wp ?_
  go_wp2
  exact ⟨rfl, _, rfl, _, results_none rfl _ _ _, rfl, rfl, rfl⟩

set_option maxRecDepth 100000 in
theorem catch_idle (B : Nat) (w : World) :
    CallsD Try.prog 74 #[.pointer (some ⟨B, 0, none⟩)] .returning w fun e u' w' => e = .returned (.tuple #[]) ∧ u' = .returning ∧ w' = w := by
  refine callsD_of_wpS Try.func74 rfl fun c₀ cs hu => ?_
  simp only [Try.ntmps74, List.size_toArray, List.length_cons, List.length_nil, Nat.reduceAdd, Nat.reduceSub, Array.replicate_succ, Array.replicate_zero, List.push_toArray, List.append_toArray, List.nil_append, List.cons_append]
  apply wpS_seq
  apply wpS_region
  simp [wpOpsS, go_sem, recoverD, hu, Exit.thenS]
  have Hu := Lib.hid hu
  clear hu
  refine wpS_of_wp ?_
  go_wp2
  exact ⟨rfl, .returning, by have := Hu.out; cases c₀; simp_all, _, results_none rfl _ _ _, rfl, rfl, rfl⟩

/-- The world behind 'caught': the box of the fault, B, and what was made behind it. -/
structure Caught (B : Nat) (wm w' : World) : Prop where
  os : w'.os = wm.os
  tape : w'.tape = wm.tape
  output : w'.output = wm.output
  size : wm.heap.size ≤ w'.heap.size
  other : ∀ k, k < wm.heap.size → k ≠ B → w'.heap[k]? = wm.heap[k]?

theorem Caught.refl (B : Nat) (w : World) : Caught B w w := ⟨rfl, rfl, rfl, Nat.le_refl _, fun _ _ _ => rfl⟩
theorem Caught.set {B : Nat} {wm w' : World} (h : Caught B wm w') (o : Nat) (v : Value) : Caught B wm (w'.setCell ⟨B, o, none⟩ v) :=
  ⟨h.os, h.tape, h.output, by rw [World.size_setCell]; exact h.size, fun k hk hne => (Below.heap_setCell _ _ _ _ hne).trans (h.other k hk hne)⟩
theorem Caught.alloc {B : Nat} {wm w' : World} (h : Caught B wm w') (o : Obj) : Caught B wm (w'.alloc o) :=
  ⟨h.os, h.tape, h.output, by rw [World.size_alloc]; exact Nat.le_succ_of_le h.size, fun k hk hne => (Below.heap_alloc _ _ _ (Nat.lt_of_lt_of_le hk h.size)).trans (h.other k hk hne)⟩

set_option maxRecDepth 100000 in
theorem caught_any (F : Nat) (caps : Array Value) (hF : ∀ args w, (callFunc F args).run Try.prog w = .ok (.enter F args) w) (w : World) (R : Int → Int → World → Prop)
    (H : Calls Try.prog F caps (w.alloc (.cells #[.int .i64 0, .int .i64 0] 34)) fun e w' => w.heap.size < w'.heap.size ∧ w'.heap[w.heap.size]? = some (.cells #[.int .i64 0, .int .i64 0] 34 (0, 0)) ∧ ((e = .returned (.tuple #[]) ∧ R 0 0 w') ∨ ∃ k a, e = .panicked (chV k a) ∧ R k a w')) :
    Calls Try.prog 58 #[.func (.func F) #[] caps] w fun e w' => ∃ k a wm, e = .returned (ftV k a) ∧ R k a wm ∧ Caught w.heap.size wm w' := by
  have hmf : ∀ (fn : Fn) (first cap : Array Value) (w : World), (Instr.makeFunc fn first cap).run Try.prog w = .ok (.func fn first cap) w := fun _ _ _ _ => rfl
  go_enter_defers Try.func58, Try.ntmps58
  go_wp2
  refine H.mono ?_
  rintro e w1 ⟨hz, hB, h⟩
  have c0 : w1.cell? ⟨w.heap.size, 0, none⟩ = some (.int .i64 0) := by simp [World.cell?, hB]
  have c1 : w1.cell? ⟨w.heap.size, 1, none⟩ = some (.int .i64 0) := by simp [World.cell?, hB]
  have f0 : w1.frozen? ⟨w.heap.size, 0, none⟩ = false := by simp [World.frozen?, hB]
  have f1 : w1.frozen? ⟨w.heap.size, 1, none⟩ = false := by simp [World.frozen?, hB]
  rcases h with ⟨rfl, hR⟩ | ⟨k, a, rfl, hR⟩
  · go_wp2
    refine leaves_cons (f := 74) (args := #[.pointer (some ⟨w.heap.size, 0, none⟩)]) (by simp) (by simp [go_sem]) ?_
    refine (catch_idle w.heap.size _).mono ?_
    rintro e u' w'' ⟨rfl, rfl, rfl⟩
    have g0 : ((w1.setCell ⟨w.heap.size, 0, none⟩ (.int .i64 0)).setCell ⟨w.heap.size, 1, none⟩ (.int .i64 0)).cell? ⟨w.heap.size, 0, none⟩ = some (.int .i64 0) := by go_simp
    have g1 : ((w1.setCell ⟨w.heap.size, 0, none⟩ (.int .i64 0)).setCell ⟨w.heap.size, 1, none⟩ (.int .i64 0)).cell? ⟨w.heap.size, 1, none⟩ = some (.int .i64 0) := by go_simp
    refine ⟨ftV 0 0, by simp [results, Try.results58, go_sem, g0, g1], 0, 0, w1, rfl, hR, ?_⟩
    exact ((Caught.refl _ _).set _ _).set _ _
  · go_wp2
    refine leaves_cons (f := 74) (args := #[.pointer (some ⟨w.heap.size, 0, none⟩)]) (by simp) (by simp [go_sem]) ?_
    refine (catch_fault w.heap.size 0 0 k a _ c0 c1 f0 f1).mono ?_
    rintro e u' w'' ⟨rfl, rfl, rfl⟩
    have g0 : (((w1.setCell ⟨w.heap.size, 0, none⟩ (.int .i64 k)).setCell ⟨w.heap.size, 1, none⟩ (.int .i64 a)).alloc (.cells #[.int .i64 k, .int .i64 a] 34)).cell? ⟨w.heap.size, 0, none⟩ = some (.int .i64 k) := by go_simp
    have g1 : (((w1.setCell ⟨w.heap.size, 0, none⟩ (.int .i64 k)).setCell ⟨w.heap.size, 1, none⟩ (.int .i64 a)).alloc (.cells #[.int .i64 k, .int .i64 a] 34)).cell? ⟨w.heap.size, 1, none⟩ = some (.int .i64 a) := by go_simp
    refine ⟨ftV k a, by simp [results, Try.results58, go_sem, g0, g1], k, a, w1, rfl, hR, ?_⟩
    exact (((Caught.refl _ _).set _ _).set _ _).alloc _
end Go.Proofs.Ytnapbpfofpaakaa

namespace Go.Proofs.Ytnapbpfofpaakaa
open Go.RowKit

/-- Whatever holds cells is as it was, and so is whatever lies below B. -/
structure Keep (B : Nat) (W W' : World) : Prop where
  os : W'.os = W.os
  tape : W'.tape = W.tape
  output : W'.output = W.output
  size : W.heap.size ≤ W'.heap.size
  below : ∀ k, k < B → W'.heap[k]? = W.heap[k]?
  cells : ∀ (k : Nat) (o : Obj), W.heap[k]? = some o → o.isCells = true → W'.heap[k]? = some o
theorem Keep.of_below {B : Nat} {W W' : World} (h : Below W.heap.size W W') (hB : B ≤ W.heap.size) : Keep B W W' :=
  ⟨h.os, h.tape, h.output, h.size, fun k hk => h.block k (by omega), fun k o ho _ => (h.block k (lt_heap ho)).trans ho⟩
theorem Keep.of_put {B : Nat} {W : World} {l : Nat} {o : Obj} (o' : Obj) (hl : B ≤ l) (h : W.heap[l]? = some o) (hc : o.isCells = false) : Keep B W (W.putObj l o') :=
  ⟨rfl, rfl, rfl, by simp, fun k hk => World.putObj_heap_other (by omega), fun k x hx hxc => by
    by_cases e : k = l
    · subst e; rw [h] at hx; cases hx; rw [hc] at hxc; cases hxc
    · exact (World.putObj_heap_other e).trans hx⟩
theorem Keep.block {B : Nat} {W W' : World} (g : Keep B W W') {a : Addr} {v : Value} (h : W.cell? a = some v) : W'.heap[a.block]? = W.heap[a.block]? := by
  obtain ⟨o, ho, hc⟩ := cells_of_cell h
  rw [ho]; exact g.cells _ _ ho hc
theorem Keep.cell {B : Nat} {W W' : World} (g : Keep B W W') {a : Addr} {v : Value} (h : W.cell? a = some v) : W'.cell? a = some v :=
  (World.cell?_of_block (w := W) (g.block h)).trans h
theorem Keep.frozen {B : Nat} {W W' : World} (g : Keep B W W') {a : Addr} {v : Value} (h : W.cell? a = some v) : W'.frozen? a = W.frozen? a :=
  World.frozen?_of_block (w := W) (g.block h)
theorem Keep.seq {B : Nat} {W W' : World} (g : Keep B W W') {p : Option Addr} {xs : List Value} (h : SeqAt W p xs) : SeqAt W' p xs := by
  rcases h with h | ⟨b, o, hp, h⟩
  · exact .inl h
  · exact .inr ⟨b, o, hp, fun j v hj => g.cell (h j v hj)⟩
theorem Keep.own {B : Nat} {W W' : World} (g : Keep B W W') {base : Nat} {e : TypeId} {v : Value} {n : Nat} {xs : List Value} (h : W.ownsRow base e 1 v n xs) : W'.ownsRow base e 1 v n xs := by
  obtain ⟨h1, h2⟩ := h
  refine ⟨h1, ?_⟩
  rcases h2 with h2 | ⟨gg, cap, cur, hv, hb, hg, h3⟩
  · exact .inl h2
  · exact .inr ⟨gg, cap, cur, hv, hb, g.cells _ _ hg rfl, h3⟩
theorem CapF.keep {P : List Int} {p : Option Addr} {pc PB qc : Nat} {q : Option Addr} {at0 : Int} {n : Nat} {perm : Int} {bn bm ba bp B : Nat} {W W' : World} (g : Keep B W W') (h : CapF P p pc PB qc q at0 n perm bn bm ba bp W) : CapF P p pc PB qc q at0 n perm bn bm ba bp W' :=
  ⟨g.cell h.m0, g.cell h.m1, g.cell h.a0, g.cell h.n0, g.cell h.p0, g.seq h.ps⟩
theorem Caught.keep {cb : Nat} {w W W' : World} (h : Caught cb w W) (g : Keep w.heap.size W W') : Caught cb w W' :=
  ⟨g.os.trans h.os, g.tape.trans h.tape, g.output.trans h.output, Nat.le_trans h.size g.size, fun k hk hne => (g.below k hk).trans (h.other k hk hne)⟩

/-- What lies below 'base', and not in block cb, is as it was. -/
def Same (base cb : Nat) (W W' : World) : Prop := ∀ k, k < base → k ≠ cb → W'.heap[k]? = W.heap[k]?
theorem Same.cell {base cb : Nat} {W W' : World} (g : Same base cb W W') {b o : Nat} {v : Value} (hb : b < base) (hc : b ≠ cb) (h : W.cell? ⟨b, o, none⟩ = some v) : W'.cell? ⟨b, o, none⟩ = some v :=
  (World.cell?_of_block (w := W) (g b hb hc)).trans h
theorem Same.seq {base cb : Nat} {W W' : World} (g : Same base cb W W') {p : Option Addr} {xs : List Value} (hp : ∀ b o, p = some ⟨b, o, none⟩ → b < base ∧ b ≠ cb) (h : SeqAt W p xs) : SeqAt W' p xs := by
  rcases h with h | ⟨b, o, e, h⟩
  · exact .inl h
  · exact .inr ⟨b, o, e, fun j v hj => g.cell (hp b o e).1 (hp b o e).2 (h j v hj)⟩

/-- What stands between two rounds of 'read'. -/
structure RI (w : World) (P : List Int) (p : Option Addr) (pc PB qc : Nat) (q : Option Addr) (at0 : Int) (n : Nat) (perm : Int) (B : List UInt8) (bn bm ba bp cb base : Nat) (k : Nat) (W : World) : Prop where
  cap : CapF P p pc PB qc q at0 n perm bn bm ba bp W
  pg : SeqAt W (some ⟨PB, 0, none⟩) (bV B)
  ok : ∀ j, j < k → kindA P perm (adr at0 j) = 0
  row : ∃ v, W.cell? ⟨cb, 0, none⟩ = some v ∧ W.frozen? ⟨cb, 0, none⟩ = false ∧ W.ownsRow base 5 1 v k (bV (rdL B at0 k))
  but : Caught cb w W
  sz : w.heap.size ≤ base ∧ base ≤ W.heap.size
theorem RI.keep {w : World} {P : List Int} {p : Option Addr} {pc PB qc : Nat} {q : Option Addr} {at0 : Int} {n : Nat} {perm : Int} {B : List UInt8} {bn bm ba bp cb base : Nat} {k : Nat} {W W' : World}
    (h : RI w P p pc PB qc q at0 n perm B bn bm ba bp cb base k W) (g : Keep base W W') : RI w P p pc PB qc q at0 n perm B bn bm ba bp cb base k W' := by
  obtain ⟨v, h1, h2, h3⟩ := h.row
  exact ⟨h.cap.keep g, g.seq h.pg, h.ok, ⟨v, g.cell h1, (g.frozen h1).trans h2, g.own h3⟩, h.but.keep ⟨g.os, g.tape, g.output, g.size, fun k hk => g.below k (by have := h.sz.1; omega), g.cells⟩, h.sz.1, Nat.le_trans h.sz.2 g.size⟩

theorem rdL_bV (B : List UInt8) (at0 : Int) (k : Nat) (h : (adr at0 k).toNat < B.length) : bV (rdL B at0 k) ++ [.int .u8 (B[(adr at0 k).toNat].toNat : Int)] = bV (rdL B at0 (k + 1)) := by
  rw [rdL_snoc]
  simp [bV, rdA, List.getD, h]

/-- One round: the byte is appended, the slice stored back. -/
theorem RI.step {w : World} {P : List Int} {p : Option Addr} {pc PB qc : Nat} {q : Option Addr} {at0 : Int} {n : Nat} {perm : Int} {B : List UInt8} {cb : Nat} {k : Nat} {W w1 : World} {v : Value} {g cap : Nat} {t : TypeId} {u : Value}
    (h : RI w P p pc PB qc q at0 n perm B (w.heap.size + 1 + 1) w.heap.size (w.heap.size + 1) (w.heap.size + 1 + 1 + 1) cb (w.heap.size + 4) k W) (hok : kindA P perm (adr at0 k) = 0) (hcb : cb < w.heap.size) (hp : ∀ b o, p = some ⟨b, o, none⟩ → b < cb) (hPB : PB < cb)
    (hrow : W.ownsRow (w.heap.size + 4) 5 1 v k (bV (rdL B at0 k)))
    (hl : (adr at0 k).toNat < B.length) (hu : u = .int .u8 (B[(adr at0 k).toNat].toNat : Int))
    (hown : w1.ownsRow (w.heap.size + 4) 5 1 (.slice (some ⟨g, 0, none⟩) (k + 1) cap) (k + 1) (bV (rdL B at0 k) ++ [u])) (hg : (W.drew.alloc (.cells #[u] t)).grownBy w1 v.ownBlock)
    (c0 : w1.cell? ⟨cb, 0, none⟩ = some v) (f0 : w1.frozen? ⟨cb, 0, none⟩ = false) :
    KeepsOthers W (w1.setCell ⟨cb, 0, none⟩ (.slice (some ⟨g, 0, none⟩) (k + 1) cap)) ∧ RI w P p pc PB qc q at0 n perm B (w.heap.size + 1 + 1) w.heap.size (w.heap.size + 1) (w.heap.size + 1 + 1 + 1) cb (w.heap.size + 4) (k + 1) (w1.setCell ⟨cb, 0, none⟩ (.slice (some ⟨g, 0, none⟩) (k + 1) cap)) := by
  have hsz := h.sz.2
  have hB : Below W.heap.size W (W.drew.alloc (.cells #[u] t)) := (Below.refl _ W).drew.alloc (Nat.le_refl _) _
  have hne : ∀ j, j < w.heap.size + 4 → some j ≠ v.ownBlock := by
    intro j hj e
    have := (hrow.lt j e.symm).1
    omega
  have hs : Same (w.heap.size + 4) cb W (w1.setCell ⟨cb, 0, none⟩ (.slice (some ⟨g, 0, none⟩) (k + 1) cap)) := by
    intro j hj hjc
    rw [Below.heap_setCell _ _ _ _ hjc, hg.block j (by have := hB.size; omega) (hne j hj)]
    exact hB.block j (by omega)
  refine ⟨?_, ?_⟩
  · refine KeepsOthers.trans (KeepsOthers.trans (B := W.drew.alloc (.cells #[u] t)) ⟨hB.size, fun j o hj _ => (hB.block j (lt_heap hj)).trans hj⟩ (KeepsOthers.of_grownBy hg ?_)) (KeepsOthers.setCell _ _ _)
    intro j o hj ho
    rcases hrow.2 with ⟨e, _⟩ | ⟨gg, cap', cur, e, _, hgg, _⟩
    · rw [e] at hj; cases hj
    · rw [e] at hj
      have hj' : gg = j := by simpa [Value.ownBlock] using hj
      subst hj'
      rw [hB.block _ (lt_heap hgg), hgg] at ho
      cases ho; rfl
  · refine ⟨⟨hs.cell (by omega) (by omega) h.cap.m0, hs.cell (by omega) (by omega) h.cap.m1, hs.cell (by omega) (by omega) h.cap.a0, hs.cell (by omega) (by omega) h.cap.n0, hs.cell (by omega) (by omega) h.cap.p0,
      hs.seq (fun b o e => ⟨by have := hp b o e; omega, by have := hp b o e; omega⟩) h.cap.ps⟩, hs.seq (fun b o e => by injection e with e; injection e with e1 e2; omega) h.pg, ?_, ?_, ?_, ?_⟩
    · intro j hj
      by_cases e : j = k
      · exact e ▸ hok
      · exact h.ok j (by omega)
    · refine ⟨.slice (some ⟨g, 0, none⟩) (k + 1) cap, World.cell?_setCell_same' _ _ _ (by rw [c0]; rfl), by rw [World.frozen?_setCell]; exact f0, ?_⟩
      rw [hu, rdL_bV B at0 k hl] at hown
      have hgb : w.heap.size + 4 ≤ g := (hown.lt g rfl).1
      exact hown.kept (row := some cb) ⟨rfl, rfl, rfl, by rw [World.size_setCell]; exact Nat.le_refl _, fun j hj hne => Below.heap_setCell _ _ _ _ (fun e => hne (by rw [e]))⟩ (.inr (by simp [Value.ownBlock]; omega))
    · have hb := h.but
      refine ⟨hg.os.trans hb.os, hg.tape.trans hb.tape, hg.output.trans hb.output, ?_, ?_⟩
      · rw [World.size_setCell]; exact Nat.le_trans hb.size (Nat.le_trans hB.size hg.size)
      · intro j hj hjc
        exact (hs j (by omega) hjc).trans (hb.other j hj hjc)
    · refine ⟨h.sz.1, ?_⟩
      rw [World.size_setCell]; exact Nat.le_trans h.sz.2 (Nat.le_trans hB.size hg.size)

theorem A_info8 : (Try.prog.info? 5).map (fun i => (i.zero, i.size, i.bytes)) = some (some (.int .u8 0), 1, 1) := by kernel_rfl

/-- append of one byte, at the operation, within a round. -/
theorem wpIn_app8 {F : Fence} {m : Nat} {o : Oper} {a : Act} {w : World} {K : Act → World → Prop} {Q : Exit → Act → World → Prop} (s x : Operand)
    (ho : o.op = .call { callee := .builtin .append, args := #[s, x], argTypes := #[23, 23] }) (base : Nat) (v : Value) (n : Nat) (xs : List Value) (hs : a.eval s = v) (hown : w.ownsRow base 5 1 v n xs)
    (b c : Nat) (u : Value) (hu : u.oneCell' = true) (hx : a.eval x = .slice (some ⟨b, 0, none⟩) 1 c) (hb : w.cell? ⟨b, 0, none⟩ = some u) (hn : n ≤ 4096) (hbase : base ≤ w.heap.size)
    (h : ∀ g cap w', w'.ownsRow base 5 1 (.slice (some ⟨g, 0, none⟩) (n + 1) cap) (n + 1) (xs ++ [u]) → w.grownBy w' v.ownBlock → K (a.put o.dst (.slice (some ⟨g, 0, none⟩) (n + 1) cap)) w') : o.wpIn F m Try.prog a w K Q := by
  obtain ⟨i0, hi, hz0, hz1, hz2⟩ := info_parts A_info8
  obtain ⟨g, cap, w', hr, h2, h3, _, _⟩ := run_append_lies (P := Try.prog) (w := w) 23 o.type base 5 i0 (.int .u8 0) 1 1 Try.underlying23 hi hz0 hz1 hz2 rfl (by decide) v n xs hown ⟨b, 0, none⟩ 1 c [u] rfl
    (fun j z hj => by
      cases j with
      | zero => simp at hj; subst hj; rw [Addr.add_lit]; exact hb
      | succ j => simp at hj) (fun z hz => by simp at hz; subst hz; exact hu) (by decide) (by unfold maxLen; omega) (by omega) hbase _ rfl
  unfold Oper.wpIn
  refine ⟨by simp [Oper.about, ho, resolve, Target.leads, Sem.run_pure], ?_⟩
  rw [Oper.semAt_plain F _ _ (by rw [ho]; intro c hc'; cases hc')]
  simp [execOp, ho, resolve, invoke, builtin, hs, hx, hr, Result.andThen]
  exact h g cap w' h2 h3
end Go.Proofs.Ytnapbpfofpaakaa

namespace Go.Proofs.Ytnapbpfofpaakaa
open Go.RowKit Go.Shelf
attribute [local go_sem] Oper.semAt_some

/-- How 'read' has left its closure. -/
def ReadEnd (w : World) (P : List Int) (at0 : Int) (n : Nat) (perm : Int) (B : List UInt8) (cb base : Nat) (e : Ending) (w' : World) : Prop :=
  ∃ k v, w'.cell? ⟨cb, 0, none⟩ = some v ∧ w'.ownsRow base 5 1 v k (bV (rdL B at0 k)) ∧ (∀ j, j < k → kindA P perm (adr at0 j) = 0) ∧ Caught cb w w' ∧
    ((k = n ∧ e = .returned (.tuple #[])) ∨ (k < n ∧ kindA P perm (adr at0 k) ≠ 0 ∧ e = .panicked (chV (kindA P perm (adr at0 k)) (adr at0 k))))
theorem RI.ends {w : World} {P : List Int} {p : Option Addr} {pc PB qc : Nat} {q : Option Addr} {at0 : Int} {n : Nat} {perm : Int} {B : List UInt8} {bn bm ba bp cb base : Nat} {k : Nat} {W : World} {e : Ending}
    (h : RI w P p pc PB qc q at0 n perm B bn bm ba bp cb base k W) (he : (k = n ∧ e = .returned (.tuple #[])) ∨ (k < n ∧ kindA P perm (adr at0 k) ≠ 0 ∧ e = .panicked (chV (kindA P perm (adr at0 k)) (adr at0 k)))) : ReadEnd w P at0 n perm B cb base e W := by
  obtain ⟨v, h1, _, h3⟩ := h.row
  exact ⟨k, v, h1, h3, h.ok, h.but, he⟩

set_option maxRecDepth 100000 in
set_option maxHeartbeats 1000000 in
theorem read1_any (P : List Int) (p : Option Addr) (pc PB qc : Nat) (q : Option Addr) (hq : q = some ⟨PB, 0, none⟩ ∨ P = []) (at0 : Int) (n : Nat) (perm : Int) (B : List UInt8) (cm ca cn cp cb : Nat) (w : World) (hm : P.length ≤ 32) (hn : n ≤ 2048)
    (m0 : w.cell? ⟨cm, 0, none⟩ = some (.slice p P.length pc)) (m1 : w.cell? ⟨cm, 1, none⟩ = some (.slice q P.length qc)) (a0 : w.cell? ⟨ca, 0, none⟩ = some (.int .i64 at0)) (n0 : w.cell? ⟨cn, 0, none⟩ = some (.int .i64 (n : Int))) (p0 : w.cell? ⟨cp, 0, none⟩ = some (.int .i64 perm))
    (ps : SeqAt w p (iV P)) (pg : SeqAt w (some ⟨PB, 0, none⟩) (bV B)) (b0 : w.cell? ⟨cb, 0, none⟩ = some (.slice none 0 0)) (fb : w.frozen? ⟨cb, 0, none⟩ = false)
    (hp : ∀ b o, p = some ⟨b, o, none⟩ → b < cb) (hPB : PB < cb) (hBl : B.length = 64 * P.length) :
    Calls Try.prog 73 #[.pointer (some ⟨cm, 0, none⟩), .pointer (some ⟨ca, 0, none⟩), .pointer (some ⟨cn, 0, none⟩), .pointer (some ⟨cp, 0, none⟩), .pointer (some ⟨cb, 0, none⟩)] w (ReadEnd w P at0 n perm B cb (w.heap.size + 4)) := by
  have hcb := lt_of_cell b0
  refine callsIn_wide.1 (callsIn_of_wp_marks (n := 0) Try.func73 rfl trivial ?_ rfl)
  simp only [Try.ntmps73, List.size_toArray, List.length_cons, List.length_nil, Nat.reduceAdd, Nat.reduceSub, Array.replicate_succ, Array.replicate_zero, List.push_toArray, List.append_toArray, List.nil_append, List.cons_append]
  gi_wp2
  refine ⟨trivial, rfl, ?_⟩
  refine (callsIn_wide.2 (cells_any p P.length pc q P.length qc at0 n perm w)).mono ?_
  rintro e w' ⟨rfl, rfl⟩
  gi_wp2
  have hcap : CapF P p pc PB qc q at0 n perm (w.heap.size + 1 + 1) w.heap.size (w.heap.size + 1) (w.heap.size + 1 + 1 + 1) ((((w.alloc (.cells #[.slice p P.length pc, .slice q P.length qc] 106)).alloc (.cells #[.int .i64 at0] 2)).alloc (.cells #[.int .i64 (n : Int)] 3)).alloc (.cells #[.int .i64 perm] 3)) :=
    ⟨by go_simp, by go_simp, by go_simp, by go_simp, by go_simp, ps.up (((((Below.refl _ w).alloc (Nat.le_refl _) _).alloc (by simp) _).alloc (by simp; omega) _).alloc (by simp; omega) _)⟩
  refine wp_range (gf := 75) rfl (enters_of Try.func75 (by kernel_rfl) rfl)
    (cells_iter P p pc PB qc q hq at0 n perm (w.heap.size + 1 + 1) w.heap.size (w.heap.size + 1) (w.heap.size + 1 + 1 + 1) hm hn) (fun _ => rfl)
    (fun k W => RI w P p pc PB qc q at0 n perm B (w.heap.size + 1 + 1) w.heap.size (w.heap.size + 1) (w.heap.size + 1 + 1 + 1) cb (w.heap.size + 4) k W) (fun _ _ _ => False)
    (fun k W W' h g => h.keep (.of_below g h.sz.2)) (fun k W l o o' hl h ho hc => h.keep (.of_put o' (by simpa using hl) ho hc)) (fun _ _ _ _ h _ => h) (fun _ _ _ _ _ _ _ h _ _ => h) (fun k W h => h.cap)
    ?start (fun k => { tmps := #[.pointer (some ⟨cm, 0, none⟩), .pointer (some ⟨ca, 0, none⟩), .pointer (some ⟨cn, 0, none⟩), .pointer (some ⟨cp, 0, none⟩), .pointer (some ⟨cb, 0, none⟩), undef, .pointer (some ⟨PB, (adr at0 k).toNat, none⟩), .agg #[.slice p P.length pc, .slice q P.length qc], .int .i64 at0, .int .i64 (n : Int), .int .i64 perm, .func (.func 75) #[] #[.pointer (some ⟨w.heap.size + 1 + 1, 0, none⟩), .pointer (some ⟨w.heap.size, 0, none⟩), .pointer (some ⟨w.heap.size + 1, 0, none⟩), .pointer (some ⟨w.heap.size + 1 + 1 + 1, 0, none⟩)], .int .i64 (k : Int), .pointer (some ⟨PB, (adr at0 k).toNat, none⟩), undef, undef, undef, undef, undef, undef], defers := [] }) ?assign ?body ?done ?stop ?panic
  case start =>
    have hb4 : Below w.heap.size w ((((w.alloc (.cells #[.slice p P.length pc, .slice q P.length qc] 106)).alloc (.cells #[.int .i64 at0] 2)).alloc (.cells #[.int .i64 (n : Int)] 3)).alloc (.cells #[.int .i64 perm] 3)) :=
      ((((Below.refl _ w).alloc (Nat.le_refl _) _).alloc (by simp) _).alloc (by simp; omega) _).alloc (by simp; omega) _
    exact ⟨hcap, pg.up hb4, fun j hj => by omega, ⟨_, by rw [hb4.cell hcb]; exact b0, by rw [hb4.frozen hcb]; exact fb, by exact World.ownsRow_nil _ _ _ _⟩, ⟨hb4.os, hb4.tape, hb4.output, hb4.size, fun k hk _ => hb4.block k hk⟩, by omega, by simp⟩
  case assign =>
    intro l k W K hK
    gi_wp2
    exact hK
  case body =>
    intro l k W h hlt hok
    obtain ⟨v, c0, c1, hrow⟩ := h.row
    have hin := okA_in (P := P) (perm := perm) (at0 := at0) (k := k) (by unfold okA; simp [hok])
    have hlB : (adr at0 k).toNat < B.length := by omega
    have hcell : W.cell? ⟨PB, (adr at0 k).toNat, none⟩ = some (.int .u8 (B[(adr at0 k).toNat].toNat : Int)) := by
      rcases h.pg with he | ⟨b, o, e, hg⟩
      · have : B.length = 0 := by simpa [bV] using he
        omega
      · obtain ⟨rfl, rfl⟩ : PB = b ∧ 0 = o := by injection e with e; injection e with e1 e2; exact ⟨e1, e2⟩
        have := hg _ _ (bV_get B _ hlB)
        rwa [Nat.zero_add] at this
    have hsz := h.sz.2
    have hzB := lt_of_cell hcell
    have hzb := lt_of_cell c0
    have hne : some (⟨cb, 0, none⟩ : Addr).block ≠ v.ownBlock := by
      intro e
      have := (hrow.lt cb e.symm).1
      omega
    gi_wp2
    refine wpIn_region_any (by kernel_rfl) ?_
    refine wpAnyIn_ready (rs := [0, 1]) (by kernel_rfl) (by simp) ?_
    refine AllReadyIn.cons (o := ⟨_, _, _, _, _, _⟩) rfl (fun K hK => ?_) ?_
    · rw [if_pos (by rfl)]
      go_simp
      refine hK _ _ ?_
      clear hK K
      try simp only [Act.put, List.setIfInBounds_toArray, List.set_cons_zero, List.set_cons_succ]
      refine wpAnyIn_ready (rs := [1]) (by kernel_rfl) (by simp) ?_
      refine AllReadyIn.cons (o := ⟨_, _, _, _, _, _⟩) rfl (fun K hK => ?_) ?_
      · rw [if_pos (by rfl)]
        go_simp
        refine hK _ _ ?_
        clear hK K
        try simp only [Act.put, List.setIfInBounds_toArray, List.set_cons_zero, List.set_cons_succ]
        refine wpAnyIn_ready (rs := [2]) (by kernel_rfl) (by simp) ?_
        refine AllReadyIn.cons (o := ⟨_, _, _, _, _, _⟩) rfl (fun K hK => ?_) ?_
        · rw [if_pos (by rfl)]
          go_simp
          refine hK _ _ ?_
          clear hK K
          try simp only [Act.put, List.setIfInBounds_toArray, List.set_cons_zero, List.set_cons_succ]
          refine wpAnyIn_ready (rs := [3]) (by kernel_rfl) (by simp) ?_
          refine AllReadyIn.cons (o := ⟨_, _, _, _, _, _⟩) rfl (fun K hK => ?_) ?_
          · rw [if_pos (by rfl)]
            go_simp
            refine hK _ _ ?_
            clear hK K
            try simp only [Act.put, List.setIfInBounds_toArray, List.set_cons_zero, List.set_cons_succ]
            refine wpAnyIn_ready (rs := [4]) (by kernel_rfl) (by simp) ?_
            refine AllReadyIn.cons (o := ⟨_, _, _, _, _, _⟩) rfl (fun K hK => ?_) ?_
            · rw [if_pos (by rfl)]
              go_simp
              refine hK _ _ ?_
              clear hK K
              try simp only [Act.put, List.setIfInBounds_toArray, List.set_cons_zero, List.set_cons_succ]
              refine wpAnyIn_ready (rs := [5]) (by kernel_rfl) (by simp) ?_
              refine AllReadyIn.cons (o := ⟨_, _, _, _, _, _⟩) rfl (fun K hK => ?_) ?_
              · rw [if_pos (by rfl)]
                refine wpIn_app8 _ _ rfl (w.heap.size + 4) v k (bV (rdL B at0 k)) rfl ?_ _ _ (.int .u8 (B[(adr at0 k).toNat].toNat : Int)) rfl rfl ?_ (by omega) ?_ ?_
                · exact hrow.alloc _
                · go_simp
                · simp; omega
                intro g cap w1 hown1 hgrow
                have d0 : w1.cell? ⟨cb, 0, none⟩ = some v := by rw [hgrow.cell_far _ (by simp; omega) hne]; go_simp
                have d1 : w1.frozen? ⟨cb, 0, none⟩ = false := by rw [hgrow.frozen_far _ (by simp; omega) hne]; go_simp
                refine hK _ _ ?_
                clear hK K
                try simp only [Act.put, List.setIfInBounds_toArray, List.set_cons_zero, List.set_cons_succ]
                refine wpAnyIn_ready (rs := [6]) (by kernel_rfl) (by simp) ?_
                refine AllReadyIn.cons (o := ⟨_, _, _, _, _, _⟩) rfl (fun K hK => ?_) ?_
                · rw [if_pos (by rfl)]
                  go_simp
                  refine hK _ _ ?_
                  clear hK K
                  try simp only [Act.put, List.setIfInBounds_toArray, List.set_cons_zero, List.set_cons_succ]
                  refine wpAnyIn_done (by kernel_rfl) ?_ _
                  exact h.step hok hcb hp hPB hrow hlB rfl hown1 hgrow d0 d1
                exact AllReadyIn.nil
              exact AllReadyIn.nil
            exact AllReadyIn.nil
          exact AllReadyIn.nil
        exact AllReadyIn.nil
      exact AllReadyIn.nil
    refine AllReadyIn.cons (o := ⟨_, _, _, _, _, _⟩) rfl (fun K hK => ?_) ?_
    · rw [if_pos (by rfl)]
      go_simp
      refine hK _ _ ?_
      clear hK K
      try simp only [Act.put, List.setIfInBounds_toArray, List.set_cons_zero, List.set_cons_succ]
      refine wpAnyIn_ready (rs := [0, 2]) (by kernel_rfl) (by simp) ?_
      refine AllReadyIn.cons (o := ⟨_, _, _, _, _, _⟩) rfl (fun K hK => ?_) ?_
      · rw [if_pos (by rfl)]
        go_simp
        refine hK _ _ ?_
        clear hK K
        try simp only [Act.put, List.setIfInBounds_toArray, List.set_cons_zero, List.set_cons_succ]
        refine wpAnyIn_ready (rs := [2]) (by kernel_rfl) (by simp) ?_
        refine AllReadyIn.cons (o := ⟨_, _, _, _, _, _⟩) rfl (fun K hK => ?_) ?_
        · rw [if_pos (by rfl)]
          go_simp
          refine hK _ _ ?_
          clear hK K
          try simp only [Act.put, List.setIfInBounds_toArray, List.set_cons_zero, List.set_cons_succ]
          refine wpAnyIn_ready (rs := [3]) (by kernel_rfl) (by simp) ?_
          refine AllReadyIn.cons (o := ⟨_, _, _, _, _, _⟩) rfl (fun K hK => ?_) ?_
          · rw [if_pos (by rfl)]
            go_simp
            refine hK _ _ ?_
            clear hK K
            try simp only [Act.put, List.setIfInBounds_toArray, List.set_cons_zero, List.set_cons_succ]
            refine wpAnyIn_ready (rs := [4]) (by kernel_rfl) (by simp) ?_
            refine AllReadyIn.cons (o := ⟨_, _, _, _, _, _⟩) rfl (fun K hK => ?_) ?_
            · rw [if_pos (by rfl)]
              go_simp
              refine hK _ _ ?_
              clear hK K
              try simp only [Act.put, List.setIfInBounds_toArray, List.set_cons_zero, List.set_cons_succ]
              refine wpAnyIn_ready (rs := [5]) (by kernel_rfl) (by simp) ?_
              refine AllReadyIn.cons (o := ⟨_, _, _, _, _, _⟩) rfl (fun K hK => ?_) ?_
              · rw [if_pos (by rfl)]
                refine wpIn_app8 _ _ rfl (w.heap.size + 4) v k (bV (rdL B at0 k)) rfl ?_ _ _ (.int .u8 (B[(adr at0 k).toNat].toNat : Int)) rfl rfl ?_ (by omega) ?_ ?_
                · exact hrow.alloc _
                · go_simp
                · simp; omega
                intro g cap w1 hown1 hgrow
                have d0 : w1.cell? ⟨cb, 0, none⟩ = some v := by rw [hgrow.cell_far _ (by simp; omega) hne]; go_simp
                have d1 : w1.frozen? ⟨cb, 0, none⟩ = false := by rw [hgrow.frozen_far _ (by simp; omega) hne]; go_simp
                refine hK _ _ ?_
                clear hK K
                try simp only [Act.put, List.setIfInBounds_toArray, List.set_cons_zero, List.set_cons_succ]
                refine wpAnyIn_ready (rs := [6]) (by kernel_rfl) (by simp) ?_
                refine AllReadyIn.cons (o := ⟨_, _, _, _, _, _⟩) rfl (fun K hK => ?_) ?_
                · rw [if_pos (by rfl)]
                  go_simp
                  refine hK _ _ ?_
                  clear hK K
                  try simp only [Act.put, List.setIfInBounds_toArray, List.set_cons_zero, List.set_cons_succ]
                  refine wpAnyIn_done (by kernel_rfl) ?_ _
                  exact h.step hok hcb hp hPB hrow hlB rfl hown1 hgrow d0 d1
                exact AllReadyIn.nil
              exact AllReadyIn.nil
            exact AllReadyIn.nil
          exact AllReadyIn.nil
        exact AllReadyIn.nil
      refine AllReadyIn.cons (o := ⟨_, _, _, _, _, _⟩) rfl (fun K hK => ?_) ?_
      · rw [if_pos (by rfl)]
        go_simp
        refine hK _ _ ?_
        clear hK K
        try simp only [Act.put, List.setIfInBounds_toArray, List.set_cons_zero, List.set_cons_succ]
        refine wpAnyIn_ready (rs := [0, 3]) (by kernel_rfl) (by simp) ?_
        refine AllReadyIn.cons (o := ⟨_, _, _, _, _, _⟩) rfl (fun K hK => ?_) ?_
        · rw [if_pos (by rfl)]
          go_simp
          refine hK _ _ ?_
          clear hK K
          try simp only [Act.put, List.setIfInBounds_toArray, List.set_cons_zero, List.set_cons_succ]
          refine wpAnyIn_ready (rs := [3]) (by kernel_rfl) (by simp) ?_
          refine AllReadyIn.cons (o := ⟨_, _, _, _, _, _⟩) rfl (fun K hK => ?_) ?_
          · rw [if_pos (by rfl)]
            go_simp
            refine hK _ _ ?_
            clear hK K
            try simp only [Act.put, List.setIfInBounds_toArray, List.set_cons_zero, List.set_cons_succ]
            refine wpAnyIn_ready (rs := [4]) (by kernel_rfl) (by simp) ?_
            refine AllReadyIn.cons (o := ⟨_, _, _, _, _, _⟩) rfl (fun K hK => ?_) ?_
            · rw [if_pos (by rfl)]
              go_simp
              refine hK _ _ ?_
              clear hK K
              try simp only [Act.put, List.setIfInBounds_toArray, List.set_cons_zero, List.set_cons_succ]
              refine wpAnyIn_ready (rs := [5]) (by kernel_rfl) (by simp) ?_
              refine AllReadyIn.cons (o := ⟨_, _, _, _, _, _⟩) rfl (fun K hK => ?_) ?_
              · rw [if_pos (by rfl)]
                refine wpIn_app8 _ _ rfl (w.heap.size + 4) v k (bV (rdL B at0 k)) rfl ?_ _ _ (.int .u8 (B[(adr at0 k).toNat].toNat : Int)) rfl rfl ?_ (by omega) ?_ ?_
                · exact hrow.alloc _
                · go_simp
                · simp; omega
                intro g cap w1 hown1 hgrow
                have d0 : w1.cell? ⟨cb, 0, none⟩ = some v := by rw [hgrow.cell_far _ (by simp; omega) hne]; go_simp
                have d1 : w1.frozen? ⟨cb, 0, none⟩ = false := by rw [hgrow.frozen_far _ (by simp; omega) hne]; go_simp
                refine hK _ _ ?_
                clear hK K
                try simp only [Act.put, List.setIfInBounds_toArray, List.set_cons_zero, List.set_cons_succ]
                refine wpAnyIn_ready (rs := [6]) (by kernel_rfl) (by simp) ?_
                refine AllReadyIn.cons (o := ⟨_, _, _, _, _, _⟩) rfl (fun K hK => ?_) ?_
                · rw [if_pos (by rfl)]
                  go_simp
                  refine hK _ _ ?_
                  clear hK K
                  try simp only [Act.put, List.setIfInBounds_toArray, List.set_cons_zero, List.set_cons_succ]
                  refine wpAnyIn_done (by kernel_rfl) ?_ _
                  exact h.step hok hcb hp hPB hrow hlB rfl hown1 hgrow d0 d1
                exact AllReadyIn.nil
              exact AllReadyIn.nil
            exact AllReadyIn.nil
          exact AllReadyIn.nil
        refine AllReadyIn.cons (o := ⟨_, _, _, _, _, _⟩) rfl (fun K hK => ?_) ?_
        · rw [if_pos (by rfl)]
          go_simp
          refine hK _ _ ?_
          clear hK K
          try simp only [Act.put, List.setIfInBounds_toArray, List.set_cons_zero, List.set_cons_succ]
          refine wpAnyIn_ready (rs := [0, 4]) (by kernel_rfl) (by simp) ?_
          refine AllReadyIn.cons (o := ⟨_, _, _, _, _, _⟩) rfl (fun K hK => ?_) ?_
          · rw [if_pos (by rfl)]
            go_simp
            refine hK _ _ ?_
            clear hK K
            try simp only [Act.put, List.setIfInBounds_toArray, List.set_cons_zero, List.set_cons_succ]
            refine wpAnyIn_ready (rs := [4]) (by kernel_rfl) (by simp) ?_
            refine AllReadyIn.cons (o := ⟨_, _, _, _, _, _⟩) rfl (fun K hK => ?_) ?_
            · rw [if_pos (by rfl)]
              go_simp
              refine hK _ _ ?_
              clear hK K
              try simp only [Act.put, List.setIfInBounds_toArray, List.set_cons_zero, List.set_cons_succ]
              refine wpAnyIn_ready (rs := [5]) (by kernel_rfl) (by simp) ?_
              refine AllReadyIn.cons (o := ⟨_, _, _, _, _, _⟩) rfl (fun K hK => ?_) ?_
              · rw [if_pos (by rfl)]
                refine wpIn_app8 _ _ rfl (w.heap.size + 4) v k (bV (rdL B at0 k)) rfl ?_ _ _ (.int .u8 (B[(adr at0 k).toNat].toNat : Int)) rfl rfl ?_ (by omega) ?_ ?_
                · exact hrow.alloc _
                · go_simp
                · simp; omega
                intro g cap w1 hown1 hgrow
                have d0 : w1.cell? ⟨cb, 0, none⟩ = some v := by rw [hgrow.cell_far _ (by simp; omega) hne]; go_simp
                have d1 : w1.frozen? ⟨cb, 0, none⟩ = false := by rw [hgrow.frozen_far _ (by simp; omega) hne]; go_simp
                refine hK _ _ ?_
                clear hK K
                try simp only [Act.put, List.setIfInBounds_toArray, List.set_cons_zero, List.set_cons_succ]
                refine wpAnyIn_ready (rs := [6]) (by kernel_rfl) (by simp) ?_
                refine AllReadyIn.cons (o := ⟨_, _, _, _, _, _⟩) rfl (fun K hK => ?_) ?_
                · rw [if_pos (by rfl)]
                  go_simp
                  refine hK _ _ ?_
                  clear hK K
                  try simp only [Act.put, List.setIfInBounds_toArray, List.set_cons_zero, List.set_cons_succ]
                  refine wpAnyIn_done (by kernel_rfl) ?_ _
                  exact h.step hok hcb hp hPB hrow hlB rfl hown1 hgrow d0 d1
                exact AllReadyIn.nil
              exact AllReadyIn.nil
            exact AllReadyIn.nil
          refine AllReadyIn.cons (o := ⟨_, _, _, _, _, _⟩) rfl (fun K hK => ?_) ?_
          · rw [if_pos (by rfl)]
            go_simp
            refine hK _ _ ?_
            clear hK K
            try simp only [Act.put, List.setIfInBounds_toArray, List.set_cons_zero, List.set_cons_succ]
            refine wpAnyIn_ready (rs := [0]) (by kernel_rfl) (by simp) ?_
            refine AllReadyIn.cons (o := ⟨_, _, _, _, _, _⟩) rfl (fun K hK => ?_) ?_
            · rw [if_pos (by rfl)]
              go_simp
              refine hK _ _ ?_
              clear hK K
              try simp only [Act.put, List.setIfInBounds_toArray, List.set_cons_zero, List.set_cons_succ]
              refine wpAnyIn_ready (rs := [5]) (by kernel_rfl) (by simp) ?_
              refine AllReadyIn.cons (o := ⟨_, _, _, _, _, _⟩) rfl (fun K hK => ?_) ?_
              · rw [if_pos (by rfl)]
                refine wpIn_app8 _ _ rfl (w.heap.size + 4) v k (bV (rdL B at0 k)) rfl ?_ _ _ (.int .u8 (B[(adr at0 k).toNat].toNat : Int)) rfl rfl ?_ (by omega) ?_ ?_
                · exact hrow.alloc _
                · go_simp
                · simp; omega
                intro g cap w1 hown1 hgrow
                have d0 : w1.cell? ⟨cb, 0, none⟩ = some v := by rw [hgrow.cell_far _ (by simp; omega) hne]; go_simp
                have d1 : w1.frozen? ⟨cb, 0, none⟩ = false := by rw [hgrow.frozen_far _ (by simp; omega) hne]; go_simp
                refine hK _ _ ?_
                clear hK K
                try simp only [Act.put, List.setIfInBounds_toArray, List.set_cons_zero, List.set_cons_succ]
                refine wpAnyIn_ready (rs := [6]) (by kernel_rfl) (by simp) ?_
                refine AllReadyIn.cons (o := ⟨_, _, _, _, _, _⟩) rfl (fun K hK => ?_) ?_
                · rw [if_pos (by rfl)]
                  go_simp
                  refine hK _ _ ?_
                  clear hK K
                  try simp only [Act.put, List.setIfInBounds_toArray, List.set_cons_zero, List.set_cons_succ]
                  refine wpAnyIn_done (by kernel_rfl) ?_ _
                  exact h.step hok hcb hp hPB hrow hlB rfl hown1 hgrow d0 d1
                exact AllReadyIn.nil
              exact AllReadyIn.nil
            exact AllReadyIn.nil
          exact AllReadyIn.nil
        exact AllReadyIn.nil
      exact AllReadyIn.nil
    exact AllReadyIn.nil
  case done =>
    intro D W hDl h hD
    gi_wp2
    refine ⟨by simp, .inl ⟨_, _, rfl, run_takeDeferred hD, ?_⟩⟩
    exact ⟨_, results_none rfl _ _ _, (h.keep (.of_put _ (by simpa using hDl) hD rfl)).ends (.inl ⟨rfl, rfl⟩)⟩
  case stop => exact fun _ _ _ _ _ _ h _ => h.elim
  case panic =>
    intro D k chain W hDl hb h hD
    obtain ⟨hk, hne, rfl⟩ := hb
    refine ⟨by simp, .inl ⟨_, _, rfl, run_takeDeferred hD, ?_⟩⟩
    exact (h.keep (.of_put _ (by simpa using hDl) hD rfl)).ends (.inr ⟨hk, hne, rfl⟩)
end Go.Proofs.Ytnapbpfofpaakaa

namespace Go.Proofs.Ytnapbpfofpaakaa
open Go.RowKit Go.Shelf

/-- What 'caught' hands on of a read. -/
def ReadR (w : World) (P : List Int) (at0 : Int) (n : Nat) (perm : Int) (B : List UInt8) (cb base : Nat) (k a : Int) (w' : World) : Prop :=
  ∃ m v, w'.cell? ⟨cb, 0, none⟩ = some v ∧ w'.ownsRow base 5 1 v m (bV (rdL B at0 m)) ∧ Caught cb w w' ∧ m = goodA P perm at0 n ∧ k = fltK P perm at0 n ∧ a = fltA P perm at0 n

theorem good_of {P : List Int} {at0 : Int} {n : Nat} {perm : Int} {k : Nat} (hok : ∀ j, j < k → kindA P perm (adr at0 j) = 0) (h : k = n ∨ (k < n ∧ kindA P perm (adr at0 k) ≠ 0)) : goodA P perm at0 n = k := by
  refine cnt_eq (by rcases h with h | h <;> omega) (fun j hj => by simp [okA, hok j hj]) (fun hk => ?_)
  rcases h with h | h
  · omega
  · simpa [okA] using h.2
theorem ReadEnd.toR {w : World} {P : List Int} {at0 : Int} {n : Nat} {perm : Int} {B : List UInt8} {cb base : Nat} {e : Ending} {w' : World} (h : ReadEnd w P at0 n perm B cb base e w') :
    (e = .returned (.tuple #[]) ∧ ReadR w P at0 n perm B cb base 0 0 w') ∨ ∃ k a, e = .panicked (chV k a) ∧ ReadR w P at0 n perm B cb base k a w' := by
  obtain ⟨k, v, h1, h2, h3, h4, (⟨hk, he⟩ | ⟨hk, hne, he⟩)⟩ := h
  · have hg := good_of h3 (.inl hk)
    exact .inl ⟨he, k, v, h1, h2, h4, hg.symm, by simp [fltK, hg, hk], by simp [fltA, hg, hk]⟩
  · have hg := good_of h3 (.inr ⟨hk, hne⟩)
    have hne' : k ≠ n := by omega
    exact .inr ⟨_, _, he, k, v, h1, h2, h4, hg.symm, by simp [fltK, hg, hne'], by simp [fltA, hg, hne']⟩

theorem Caught.cell {B : Nat} {wm w' : World} (h : Caught B wm w') {b o : Nat} {v : Value} (hb : b ≠ B) (hc : wm.cell? ⟨b, o, none⟩ = some v) : w'.cell? ⟨b, o, none⟩ = some v :=
  (World.cell?_of_block (w := wm) (h.other b (lt_of_cell hc) hb)).trans hc
theorem Caught.own {B : Nat} {wm w' : World} (h : Caught B wm w') {base : Nat} {e : TypeId} {v : Value} {n : Nat} {xs : List Value} (hb : B < base) (ho : wm.ownsRow base e 1 v n xs) : w'.ownsRow base e 1 v n xs := by
  obtain ⟨h1, h2⟩ := ho
  refine ⟨h1, ?_⟩
  rcases h2 with h2 | ⟨gg, cap, cur, hv, hbg, hg, h3⟩
  · exact .inl h2
  · exact .inr ⟨gg, cap, cur, hv, hbg, (h.other gg (lt_heap hg) (by omega)).trans hg, h3⟩
theorem ownsRow_mono {w : World} {base base' : Nat} {e : TypeId} {v : Value} {n : Nat} {xs : List Value} (hb : base' ≤ base) (ho : w.ownsRow base e 1 v n xs) : w.ownsRow base' e 1 v n xs := by
  obtain ⟨h1, h2⟩ := ho
  refine ⟨h1, ?_⟩
  rcases h2 with h2 | ⟨gg, cap, cur, hv, hbg, hg, h3⟩
  · exact .inl h2
  · exact .inr ⟨gg, cap, cur, hv, by omega, hg, h3⟩

theorem own_set {w : World} {base : Nat} {e : TypeId} {v : Value} {n : Nat} {xs : List Value} (h : w.ownsRow base e 1 v n xs) {b : Nat} (hb : b < base) (o : Nat) (u : Value) : (w.setCell ⟨b, o, none⟩ u).ownsRow base e 1 v n xs := by
  obtain ⟨h1, h2⟩ := h
  refine ⟨h1, ?_⟩
  rcases h2 with h2 | ⟨gg, cap, cur, hv, hbg, hg, h3⟩
  · exact .inl h2
  · exact .inr ⟨gg, cap, cur, hv, hbg, (Below.heap_setCell _ _ _ _ (by dsimp only; omega)).trans hg, h3⟩
theorem own_drew {w : World} {base : Nat} {e : TypeId} {v : Value} {n : Nat} {xs : List Value} (h : w.ownsRow base e 1 v n xs) : w.drew.ownsRow base e 1 v n xs := h

theorem read_caught (P : List Int) (p : Option Addr) (pc PB qc : Nat) (q : Option Addr) (hq : q = some ⟨PB, 0, none⟩ ∨ P = []) (at0 : Int) (n : Nat) (perm : Int) (B : List UInt8) (cm ca cn cp cb : Nat) (w : World) (hm : P.length ≤ 32) (hn : n ≤ 2048)
    (m0 : w.cell? ⟨cm, 0, none⟩ = some (.slice p P.length pc)) (m1 : w.cell? ⟨cm, 1, none⟩ = some (.slice q P.length qc)) (a0 : w.cell? ⟨ca, 0, none⟩ = some (.int .i64 at0)) (n0 : w.cell? ⟨cn, 0, none⟩ = some (.int .i64 (n : Int))) (p0 : w.cell? ⟨cp, 0, none⟩ = some (.int .i64 perm))
    (ps : SeqAt w p (iV P)) (pg : SeqAt w (some ⟨PB, 0, none⟩) (bV B)) (b0 : w.cell? ⟨cb, 0, none⟩ = some (.slice none 0 0)) (fb : w.frozen? ⟨cb, 0, none⟩ = false)
    (hp : ∀ b o, p = some ⟨b, o, none⟩ → b < cb) (hPB : PB < cb) (hBl : B.length = 64 * P.length) :
    Calls Try.prog 58 #[.func (.func 73) #[] #[.pointer (some ⟨cm, 0, none⟩), .pointer (some ⟨ca, 0, none⟩), .pointer (some ⟨cn, 0, none⟩), .pointer (some ⟨cp, 0, none⟩), .pointer (some ⟨cb, 0, none⟩)]] w fun e w' =>
      ∃ v, e = .returned (ftV (fltK P perm at0 n) (fltA P perm at0 n)) ∧ w'.cell? ⟨cb, 0, none⟩ = some v ∧ w'.ownsRow w.heap.size 5 1 v (goodA P perm at0 n) (bV (rdL B at0 (goodA P perm at0 n))) ∧ Caught cb w w' := by
  have hcb := lt_of_cell b0
  have hb1 : Below w.heap.size w (w.alloc (.cells #[.int .i64 0, .int .i64 0] 34)) := (Below.refl _ w).alloc (Nat.le_refl _) _
  have up : ∀ {b o : Nat} {v : Value}, w.cell? ⟨b, o, none⟩ = some v → (w.alloc (.cells #[.int .i64 0, .int .i64 0] 34)).cell? ⟨b, o, none⟩ = some v := fun h => cell_up hb1 (lt_of_cell h) h
  have H := read1_any P p pc PB qc q hq at0 n perm B cm ca cn cp cb _ hm hn (up m0) (up m1) (up a0) (up n0) (up p0) (ps.up hb1) (pg.up hb1) (up b0) (by rw [hb1.frozen hcb]; exact fb) hp hPB hBl
  refine (caught_any 73 _ (enters_of Try.func73 (by kernel_rfl) rfl) w (ReadR (w.alloc (.cells #[.int .i64 0, .int .i64 0] 34)) P at0 n perm B cb (w.heap.size + 1 + 4)) ?_).mono ?_
  · refine H.mono fun e w' h => ?_
    have hR : ReadEnd (w.alloc (.cells #[.int .i64 0, .int .i64 0] 34)) P at0 n perm B cb (w.heap.size + 1 + 4) e w' := by
      have := h; rwa [World.size_alloc] at this
    obtain ⟨k, v, h1, h2, h3, h4, h5⟩ := hR
    have hz : w.heap.size < (w.alloc (.cells #[.int .i64 0, .int .i64 0] 34)).heap.size := by simp
    refine ⟨Nat.lt_of_lt_of_le hz h4.size, ?_, ReadEnd.toR ⟨k, v, h1, h2, h3, h4, h5⟩⟩
    rw [h4.other _ hz (by omega)]
    exact World.alloc_heap_new w _
  · rintro e w' ⟨k, a, wm, rfl, ⟨m, v, h1, h2, h3, rfl, rfl, rfl⟩, hc⟩
    have hz : (w.alloc (.cells #[.int .i64 0, .int .i64 0] 34)).heap.size = w.heap.size + 1 := by simp
    have hle := h3.size
    refine ⟨v, rfl, hc.cell (by omega) h1, ownsRow_mono (by omega) (hc.own (by omega) h2), ?_⟩
    refine ⟨hc.os.trans (h3.os.trans hb1.os), hc.tape.trans (h3.tape.trans hb1.tape), hc.output.trans (h3.output.trans hb1.output), by have := hc.size; omega, fun k hk hne => ?_⟩
    rw [hc.other k (by omega) (by omega), h3.other k (by omega) hne]
    exact hb1.block k hk

set_option maxRecDepth 100000 in
set_option maxHeartbeats 1000000 in
theorem read_any (P : List Int) (p : Option Addr) (pc PB qc : Nat) (q : Option Addr) (hq : q = some ⟨PB, 0, none⟩ ∨ P = []) (at0 : Int) (n : Nat) (perm : Int) (B : List UInt8) (w : World) (hm : P.length ≤ 32) (hn : n ≤ 2048)
    (ps : SeqAt w p (iV P)) (pg : SeqAt w (some ⟨PB, 0, none⟩) (bV B)) (hp : ∀ b o, p = some ⟨b, o, none⟩ → b < w.heap.size) (hPB : PB < w.heap.size) (hBl : B.length = 64 * P.length) :
    Calls Try.prog 57 #[spV p P.length pc q P.length qc, .int .i64 at0, .int .i64 (n : Int), .int .i64 perm] w fun e w' => ∃ v, e = .returned (.tuple #[v, ftV (fltK P perm at0 n) (fltA P perm at0 n)]) ∧
      w'.ownsRow w.heap.size 5 1 v (goodA P perm at0 n) (bV (rdL B at0 (goodA P perm at0 n))) ∧ Below w.heap.size w w' := by
  have hmf : ∀ (fn : Fn) (first cap : Array Value) (w : World), (Instr.makeFunc fn first cap).run Try.prog w = .ok (.func fn first cap) w := fun _ _ _ _ => rfl
  go_enter Try.func57, Try.ntmps57
  go_wp2_with fail
  obtain ⟨W0, hW0⟩ : ∃ W0 : World, W0 = ((((((w.alloc (.cells #[.slice p P.length pc, .slice q P.length qc] 106)).alloc (.cells #[.int .i64 at0] 2)).alloc (.cells #[.int .i64 (n : Int)] 3)).alloc (.cells #[.int .i64 perm] 3)).alloc (.cells #[.int .i64 0, .int .i64 0] 34)).alloc (.cells #[.slice none 0 0] 23)) := ⟨_, rfl⟩
  have hb6 : Below w.heap.size w W0 := by
    rw [hW0]; exact ((((((Below.refl _ w).alloc (Nat.le_refl _) _).alloc (by simp) _).alloc (by simp; omega) _).alloc (by simp; omega) _).alloc (by simp; omega) _).alloc (by simp; omega) _
  have hz6 : W0.heap.size = w.heap.size + 1 + 1 + 1 + 1 + 1 + 1 := by rw [hW0]; simp
  have x0 : W0.cell? ⟨w.heap.size, 0, none⟩ = some (.slice p P.length pc) := by rw [hW0]; go_simp
  have x1 : W0.cell? ⟨w.heap.size, 1, none⟩ = some (.slice q P.length qc) := by rw [hW0]; go_simp
  have x2 : W0.cell? ⟨w.heap.size + 1, 0, none⟩ = some (.int .i64 at0) := by rw [hW0]; go_simp
  have x3 : W0.cell? ⟨w.heap.size + 1 + 1, 0, none⟩ = some (.int .i64 (n : Int)) := by rw [hW0]; go_simp
  have x4 : W0.cell? ⟨w.heap.size + 1 + 1 + 1, 0, none⟩ = some (.int .i64 perm) := by rw [hW0]; go_simp
  have x5 : W0.cell? ⟨w.heap.size + 1 + 1 + 1 + 1 + 1, 0, none⟩ = some (.slice none 0 0) := by rw [hW0]; go_simp
  have x6 : W0.frozen? ⟨w.heap.size + 1 + 1 + 1 + 1 + 1, 0, none⟩ = false := by rw [hW0]; go_simp
  have r0 : W0.cell? ⟨w.heap.size + 1 + 1 + 1 + 1, 0, none⟩ = some (.int .i64 0) := by rw [hW0]; go_simp
  have r1 : W0.cell? ⟨w.heap.size + 1 + 1 + 1 + 1, 1, none⟩ = some (.int .i64 0) := by rw [hW0]; go_simp
  have f0 : W0.frozen? ⟨w.heap.size + 1 + 1 + 1 + 1, 0, none⟩ = false := by rw [hW0]; go_simp
  have f1 : W0.frozen? ⟨w.heap.size + 1 + 1 + 1 + 1, 1, none⟩ = false := by rw [hW0]; go_simp
  rw [← hW0]
  clear hW0
  refine (read_caught P p pc PB qc q hq at0 n perm B _ _ _ _ _ W0 hm hn x0 x1 x2 x3 x4 (ps.up hb6) (pg.up hb6) x5 x6 (fun b o e => by have := hp b o e; omega) (by omega) hBl).mono ?_
  rintro e w1 ⟨v, rfl, c0, hown, hbut⟩
  replace r0 := hbut.cell (by omega) r0
  replace r1 := hbut.cell (by omega) r1
  have hz1 := hbut.size
  have o4 := hbut.other (w.heap.size + 1 + 1 + 1 + 1) (by omega) (by omega)
  replace f0 : w1.frozen? ⟨w.heap.size + 1 + 1 + 1 + 1, 0, none⟩ = false := (World.frozen?_of_block (w := W0) o4).trans f0
  replace f1 : w1.frozen? ⟨w.heap.size + 1 + 1 + 1 + 1, 1, none⟩ = false := (World.frozen?_of_block (w := W0) o4).trans f1
  have hB1 : Below w.heap.size w w1 := ⟨hbut.os.trans hb6.os, hbut.tape.trans hb6.tape, hbut.output.trans hb6.output, by omega, fun k hk => (hbut.other k (by omega) (by omega)).trans (hb6.block k hk)⟩
  clear x0 x1 x2 x3 x4 x5 x6 o4 hbut ps pg hb6
  have hlt : w.heap.size + 1 + 1 + 1 + 1 + 1 + 1 ≤ w1.heap.size := by omega
  clear hz1
  go_wp2
  go_region_held3 (fun w' => w'.cell? ⟨w.heap.size + 1 + 1 + 1 + 1 + 1, 0, none⟩ = some v ∧ w'.cell? ⟨w1.heap.size, 0, none⟩ = some (.int .i64 (fltK P perm at0 n)) ∧ w'.cell? ⟨w1.heap.size, 1, none⟩ = some (.int .i64 (fltA P perm at0 n))) (exact ⟨by go_simp, by go_simp, by go_simp⟩) (fail)
  go_wp2
  refine bodyPost_ret (v := .tuple #[v, ftV (fltK P perm at0 n) (fltA P perm at0 n)]) (by simp [results, Try.results57, go_sem, *]) rfl ⟨v, rfl, ?_, ?_⟩
  · refine ownsRow_mono (base := W0.heap.size) (by omega) ?_
    exact own_drew (own_set (own_set (hown.alloc _) (by omega) _ _) (by omega) _ _)
  · exact (((hB1.alloc (by omega) _).setCell (by dsimp only; omega) _).setCell (by dsimp only; omega) _).drew
end Go.Proofs.Ytnapbpfofpaakaa

namespace Go.Proofs.Ytnapbpfofpaakaa
open Go.RowKit

theorem foldl_set (l : List Value) : ∀ (i : Nat) (a : Array Value), i + l.length ≤ a.size →
    (l.zipIdx i).foldl (fun (cs : Array Value) (x : Value × Nat) => cs.setIfInBounds (0 + x.2) x.1) a = (a.toList.take i ++ l ++ a.toList.drop (i + l.length)).toArray := by
  induction l with
  | nil => intro i a h; simp
  | cons c l ih =>
    intro i a h
    simp only [List.length_cons] at h
    rw [List.zipIdx_cons, List.foldl_cons, ih (i + 1) _ (by simp; omega)]
    apply Array.ext'
    simp only [Array.toList_setIfInBounds, Nat.zero_add]
    apply List.ext_getElem?
    intro k
    have hlen : a.toList.length = a.size := by simp
    simp only [List.getElem?_append, List.getElem?_take, List.length_take, List.length_append, List.length_cons, List.length_set, List.getElem?_set, List.getElem?_drop, hlen]
    by_cases h1 : k < i
    · simp [h1, show k < i + 1 by omega, show k < min (i + 1) a.size by omega, show k < min i a.size by omega, show i ≠ k by omega, show k < min (i + 1) a.size + l.length by omega, show k < min i a.size + (l.length + 1) by omega]
    · by_cases h2 : k = i
      · subst h2
        simp [show k < min (k + 1) a.size by omega, show ¬ k < min k a.size by omega, show k < min (k + 1) a.size + l.length by omega, show k < min k a.size + (l.length + 1) by omega, show k < a.size by omega, show k - min k a.size = 0 by omega]
      · by_cases h3 : k < i + 1 + l.length
        · simp [show ¬ k < min (i + 1) a.size by omega, show ¬ k < min i a.size by omega, show k < min (i + 1) a.size + l.length by omega, show k < min i a.size + (l.length + 1) by omega, show k - min (i + 1) a.size = k - (i + 1) by omega, show k - min i a.size = (k - (i + 1)) + 1 by omega]
        · simp [show ¬ k < min (i + 1) a.size + l.length by omega, show ¬ k < min i a.size + (l.length + 1) by omega, show i + 1 + l.length + (k - (min (i + 1) a.size + l.length)) = k by omega, show i + (l.length + 1) + (k - (min i a.size + (l.length + 1))) = k by omega, show i ≠ k by omega]

/-- Sixty-four cells are laid over sixty-four zeros. -/
def Z64 : Array Value := #[.int .u8 0, .int .u8 0, .int .u8 0, .int .u8 0, .int .u8 0, .int .u8 0, .int .u8 0, .int .u8 0, .int .u8 0, .int .u8 0, .int .u8 0, .int .u8 0, .int .u8 0, .int .u8 0, .int .u8 0, .int .u8 0, .int .u8 0, .int .u8 0, .int .u8 0, .int .u8 0, .int .u8 0, .int .u8 0, .int .u8 0, .int .u8 0, .int .u8 0, .int .u8 0, .int .u8 0, .int .u8 0, .int .u8 0, .int .u8 0, .int .u8 0, .int .u8 0, .int .u8 0, .int .u8 0, .int .u8 0, .int .u8 0, .int .u8 0, .int .u8 0, .int .u8 0, .int .u8 0, .int .u8 0, .int .u8 0, .int .u8 0, .int .u8 0, .int .u8 0, .int .u8 0, .int .u8 0, .int .u8 0, .int .u8 0, .int .u8 0, .int .u8 0, .int .u8 0, .int .u8 0, .int .u8 0, .int .u8 0, .int .u8 0, .int .u8 0, .int .u8 0, .int .u8 0, .int .u8 0, .int .u8 0, .int .u8 0, .int .u8 0, .int .u8 0]
theorem fold_page (cs : List Value) (h : cs.length = 64) : List.foldl (fun (cs : Array Value) (x : Value × Nat) => cs.setIfInBounds x.snd x.fst) #[.int .u8 0, .int .u8 0, .int .u8 0, .int .u8 0, .int .u8 0, .int .u8 0, .int .u8 0, .int .u8 0, .int .u8 0, .int .u8 0, .int .u8 0, .int .u8 0, .int .u8 0, .int .u8 0, .int .u8 0, .int .u8 0, .int .u8 0, .int .u8 0, .int .u8 0, .int .u8 0, .int .u8 0, .int .u8 0, .int .u8 0, .int .u8 0, .int .u8 0, .int .u8 0, .int .u8 0, .int .u8 0, .int .u8 0, .int .u8 0, .int .u8 0, .int .u8 0, .int .u8 0, .int .u8 0, .int .u8 0, .int .u8 0, .int .u8 0, .int .u8 0, .int .u8 0, .int .u8 0, .int .u8 0, .int .u8 0, .int .u8 0, .int .u8 0, .int .u8 0, .int .u8 0, .int .u8 0, .int .u8 0, .int .u8 0, .int .u8 0, .int .u8 0, .int .u8 0, .int .u8 0, .int .u8 0, .int .u8 0, .int .u8 0, .int .u8 0, .int .u8 0, .int .u8 0, .int .u8 0, .int .u8 0, .int .u8 0, .int .u8 0, .int .u8 0] cs.zipIdx = cs.toArray := by
  show List.foldl (fun (cs : Array Value) (x : Value × Nat) => cs.setIfInBounds x.snd x.fst) Z64 cs.zipIdx = cs.toArray
  have hz : Z64.size = 64 := rfl
  generalize Z64 = a at *
  have hf := foldl_set cs 0 a (by omega)
  simp only [Nat.zero_add] at hf
  rw [hf]
  simp [h, hz]
end Go.Proofs.Ytnapbpfofpaakaa

namespace Go.Proofs.Ytnapbpfofpaakaa
open Go.RowKit

theorem A_info64 : (Try.prog.info? 124).map (fun i => (i.zero, i.size, i.bytes)) = some (some (.agg (Array.replicate 64 (.int .u8 0))), 64, 64) := by kernel_rfl
/-- The k-th page. -/
def pgV (B : List UInt8) (k : Nat) : List Value := ((bV B).drop (64 * k)).take 64
theorem pgV_len {B : List UInt8} {k : Nat} (h : 64 * k + 64 ≤ B.length) : (pgV B k).length = 64 := by simp [pgV, bV]; omega
theorem pgV_one (B : List UInt8) (k : Nat) : ∀ v ∈ pgV B k, v.oneCell' = true := by
  intro v hv
  have h1 := List.mem_of_mem_drop (List.mem_of_mem_take hv)
  simp [bV] at h1
  obtain ⟨c, _, rfl⟩ := h1
  rfl
theorem pgV_snoc {B : List UInt8} {k : Nat} (h : 64 * k + 64 ≤ B.length) : (bV B).take (64 * k) ++ pgV B k = (bV B).take (64 * (k + 1)) := by
  unfold pgV
  rw [show 64 * (k + 1) = 64 * k + 64 by omega, List.take_add]

theorem slice_page (b o m qc k : Nat) (h : 64 * k + 64 ≤ m) (hq : m ≤ qc) (hz : (m : Int) ≤ 9223372036854775807) (w : World) :
    (Instr.slice 23 (.slice (some ⟨b, o, none⟩) m qc) (some (.int .i64 (64 * (k : Int)))) none none).run Try.prog w = .ok (.slice (some ⟨b, o + 64 * k, none⟩) (m - 64 * k) (qc - 64 * k)) w := by
  have h1 : 0 ≤ 64 * (k : Int) := by omega
  have h2 : 64 * (k : Int) ≤ (m : Int) := by omega
  have h3 : (64 * (k : Int)).toNat = 64 * k := by omega
  have h4 : ¬ qc = 64 * k := by omega
  simp [Instr.slice, Instr.sliceBounds, Instr.sliceBound, go_sem, h1, h2, h3, h4]
theorem slice_pageA (b o m qc k : Nat) (h : 64 * k + 64 ≤ m) (hq : m ≤ qc) (hz : (m : Int) ≤ 9223372036854775807) (w : World) :
    (Instr.sliceAt 23 (.slice (some ⟨b, o, none⟩) m qc) (some (.int .i64 (64 * (k : Int)))) none none).run Try.prog w = .ok (.slice (some ⟨b, o + 64 * k, none⟩) (m - 64 * k) (qc - 64 * k)) w := by
  have := slice_page b o m qc k h hq hz w
  simp only [Instr.sliceAt, Sem.run_bind, run_underlying Try.underlying23, Result.andThen_ok, this]
theorem own_drew64 {w : World} {base : Nat} {e : TypeId} {v : Value} {n : Nat} {xs : List Value} (h : w.ownsRow base e 64 v n xs) : w.drew.ownsRow base e 64 v n xs := h
theorem range_up {W W' : World} {b o : Nat} {cs : List Value} (h : W.rangeAt b o cs) (g : Below W.heap.size W W') : W'.rangeAt b o cs := fun j u hj => cell_up g (lt_of_cell (h j u hj)) (h j u hj)
theorem page_at (b o m qc : Nat) (h : 64 ≤ m) (w : World) : (Instr.arrayAt 124 (.slice (some ⟨b, o, none⟩) m qc)).run Try.prog w = .ok (.pointer (some ⟨b, o, none⟩)) w := by
  simp [Instr.arrayAt, go_sem, h]

theorem ps_drew {w : World} {a : Addr} {u : Value} {b o : Nat} {cs : List Value} (h : w.cell? a = some u ∧ w.rangeAt b o cs) : w.drew.cell? a = some u ∧ w.drew.rangeAt b o cs := h
theorem ps_alloc {w : World} {a : Addr} {u : Value} {b o : Nat} {cs : List Value} (h : w.cell? a = some u ∧ w.rangeAt b o cs) (ob : Obj) : (w.alloc ob).cell? a = some u ∧ (w.alloc ob).rangeAt b o cs :=
  ⟨by rw [World.cell?_alloc_some _ _ _ (by rw [h.1]; rfl)]; exact h.1, World.rangeAt_alloc h.2 _⟩
theorem ps_grown {w w' : World} {a : Addr} {u : Value} {b o : Nat} {cs : List Value} {q : Option Nat} (h : w.cell? a = some u ∧ w.rangeAt b o cs) (g : w.grownBy w' q) (ha : some a.block ≠ q) (hb : some b ≠ q) : w'.cell? a = some u ∧ w'.rangeAt b o cs :=
  ⟨g.cell h.1 ha, fun j v hj => g.cell (h.2 j v hj) hb⟩
theorem ps_store {w : World} {a : Addr} {u : Value} {b o : Nat} {cs : List Value} (h : w.cell? a = some u ∧ w.rangeAt b o cs) (p : Addr) (x : Value) (ha : p.block ≠ a.block) (hb : p.block ≠ b) : (w.setCell p x).cell? a = some u ∧ (w.setCell p x).rangeAt b o cs :=
  ⟨by rw [World.cell?_setCell_far _ _ _ _ ha]; exact h.1, fun j v hj => by rw [World.cell?_setCell_far _ _ _ _ hb]; exact h.2 j v hj⟩

theorem World.frozen?_alloc_lt64 (w : World) (o : Obj) (a : Addr) (h : a.block < w.heap.size) : (w.alloc o).frozen? a = w.frozen? a := by
  exact World.frozen?_alloc_old w o a (Nat.ne_of_lt h)
theorem pf_grown {w w' : World} {a : Addr} {u : Value} {q : Option Nat} {ob : Obj} (h : w.cell? a = some u) (f : w.frozen? a = false) (g : (w.drew.alloc ob).grownBy w' q) (ha : some a.block ≠ q) : w'.cell? a = some u ∧ w'.frozen? a = false := by
  have hlt := World.block_lt_of_cell? w a h
  have h1 : (w.drew.alloc ob).cell? a = some u := by rw [World.cell?_alloc_some _ _ _ (by show (w.cell? a).isSome = true; rw [h]; rfl)]; exact h
  have h2 : (w.drew.alloc ob).frozen? a = false := by
    rw [World.frozen?_alloc_lt64 _ _ _ (by exact hlt)]; exact f
  have hlt2 := World.block_lt_of_cell? _ a h1
  exact ⟨by rw [g.cell_far a hlt2 ha]; exact h1, by rw [g.frozen_far a hlt2 ha]; exact h2⟩

theorem st_far {w w' : World} {a : Addr} {u : Value} {q : Option Nat} {ob : Obj} (h : w.cell? a = some u) (g : (w.drew.alloc ob).grownBy w' q) (ha : some a.block ≠ q) (x : Value) {p : Addr} (hp : p ≠ a) : (w'.setCell p x).cell? a = some u := by
  have h1 : (w.drew.alloc ob).cell? a = some u := by rw [World.cell?_alloc_some _ _ _ (by show (w.cell? a).isSome = true; rw [h]; rfl)]; exact h
  rw [World.cell?_setCell_other _ _ _ _ hp, g.cell_far a (World.block_lt_of_cell? _ a h1) ha]; exact h1
theorem sf_far {w w' : World} {a : Addr} {u : Value} {q : Option Nat} {ob : Obj} (h : w.cell? a = some u) (f : w.frozen? a = false) (g : (w.drew.alloc ob).grownBy w' q) (ha : some a.block ≠ q) (x : Value) (p : Addr) : (w'.setCell p x).frozen? a = false := by
  rw [World.frozen?_setCell]; exact (pf_grown h f g ha).2
theorem own_sl {w : World} {base sz : Nat} {e : TypeId} {v : Value} {n : Nat} {xs : List Value} (h : w.ownsRow base e sz v n xs) : ∃ q c, v = .slice q n c := by
  obtain ⟨h1, h2⟩ := h
  rcases h2 with ⟨h2, h3⟩ | ⟨gg, cap, cur, hv, hbg, hg, h3⟩
  · subst h2; subst h3; exact ⟨_, _, rfl⟩
  · exact ⟨_, _, hv⟩
theorem cell_put {w : World} {a : Addr} {u : Value} (h : w.cell? a = some u) (x : Value) : (w.setCell a x).cell? a = some x := World.cell?_setCell_same _ _ _ h
theorem own_setN {w : World} {base sz : Nat} {e : TypeId} {v : Value} {n : Nat} {xs : List Value} (h : w.ownsRow base e sz v n xs) {b : Nat} (hb : b < base) (o : Nat) (u : Value) : (w.setCell ⟨b, o, none⟩ u).ownsRow base e sz v n xs := by
  obtain ⟨h1, h2⟩ := h
  refine ⟨h1, ?_⟩
  rcases h2 with h2 | ⟨gg, cap, cur, hv, hbg, hg, h3⟩
  · exact .inl h2
  · exact .inr ⟨gg, cap, cur, hv, hbg, (Below.heap_setCell _ _ _ _ (by dsimp only; omega)).trans hg, h3⟩

set_option maxRecDepth 100000 in
set_option maxHeartbeats 2000000 in
theorem memoryOf_any (P : List Int) (p : Option Addr) (pc : Nat) (B : List UInt8) (q : Option Addr) (qc : Nat) (w : World) (hm : P.length ≤ 32) (hBl : B.length = 64 * P.length) (hqc : B.length ≤ qc) (hq : SeqAt w q (bV B)) :
    Calls Try.prog 56 #[spV p P.length pc q B.length qc] w fun e w' => ∃ v, e = .returned (.agg #[.slice p P.length pc, v]) ∧ w'.ownsRow (w.heap.size + 3) 124 64 v P.length (bV B) ∧ Below w.heap.size w w' ∧ w.heap.size + 3 ≤ w'.heap.size := by
  have hl : (P.length : Int) ≤ 32 := by omega
  obtain ⟨i0, hi, hz0, hz1, hz2⟩ := info_parts A_info64
  have HQ := Lib.hid hq
  have HB := Lib.hid hBl
  clear hq hBl
  go_enter Try.func56, Try.ntmps56
  go_wp2_with fail
  go_loopw [11] (fun i wr => ∃ k : Nat, k ≤ P.length ∧ i = .int .i64 (k : Int) ∧ wr.cell? ⟨w.heap.size, 0, none⟩ = some (.slice p P.length pc) ∧ wr.cell? ⟨w.heap.size, 1, none⟩ = some (.slice q B.length qc) ∧
      wr.cell? ⟨w.heap.size + 1, 0, none⟩ = some (.slice none 0 0) ∧ wr.cell? ⟨w.heap.size + 1, 1, none⟩ = some (.slice none 0 0) ∧ wr.frozen? ⟨w.heap.size + 1, 0, none⟩ = false ∧ wr.frozen? ⟨w.heap.size + 1, 1, none⟩ = false ∧
      wr.cell? ⟨w.heap.size + 1 + 1, 0, none⟩ = some (.slice p P.length pc) ∧ (∃ v, wr.cell? ⟨w.heap.size + 1 + 1, 1, none⟩ = some v ∧ wr.frozen? ⟨w.heap.size + 1 + 1, 1, none⟩ = false ∧ wr.ownsRow (w.heap.size + 3) 124 64 v k ((bV B).take (64 * k))) ∧
      w.heap.size + 3 ≤ wr.heap.size ∧ Below w.heap.size w wr) (fun i _ => P.length - (intOf i).toNat)
  case atStart =>
    exact ⟨0, Nat.zero_le _, rfl, by go_simp, by go_simp, by go_simp, by go_simp, by go_simp, by go_simp, by go_simp, ⟨_, by go_simp, by go_simp, World.ownsRow_nil _ _ _ _⟩, by simp, (((Below.refl _ w).alloc (Nat.le_refl _) _).alloc (by simp) _).alloc (by simp; omega) _⟩
  case round =>
    obtain ⟨k, hk, rfl, s0, s1, r0, r1, f0, f1, m0, ⟨v, m1, g1, hown⟩, hz, hB⟩ := hrel
    by_cases hlt : k < P.length
    · have hlt' : (k : Int) < (P.length : Int) := by omega
      have hBl := HB.out
      rcases HQ.out with hn | ⟨b, o, rfl, hc⟩
      · have : B.length = 0 := by simpa [bV] using hn
        omega
      · have hw64 : IntKind.i64.wrap (64 * (k : Int)) = 64 * (k : Int) := by rw [IntKind.wrap_i64]; omega
        have hsl := slice_pageA b o B.length qc k (by omega) hqc (by omega)
        have hap := page_at b (o + 64 * k) (B.length - 64 * k) (qc - 64 * k) (by omega)
        have hrw : w.rangeAt b (o + 64 * k) (pgV B k) := by
          intro j u hj
          have hj2 : (bV B)[64 * k + j]? = some u := by
            unfold pgV at hj
            rw [List.getElem?_take] at hj
            split at hj
            · rwa [List.getElem?_drop] at hj
            · cases hj
          have := hc _ _ hj2
          rwa [Nat.add_assoc]
        have hu := Try.underlying124
        have hi' : (Try.prog.info? 124).map (·.size) = some (pgV B k).length := by rw [pgV_len (by omega), hi]; simp [hz1]
        have hpl := pgV_len (B := B) (k := k) (by omega)
        have hp1 := pgV_one B k
        have hbs := fold_page (pgV B k) hpl
        have hge : ∀ j, v.ownBlock = some j → w.heap.size + 3 ≤ j := fun j hj => (hown.lt j hj).1
        have hne1 : some (⟨w.heap.size + 1 + 1, 1, none⟩ : Addr).block ≠ v.ownBlock := fun e => absurd (hge _ e.symm) (by dsimp only; omega)
        have hne2 : some (⟨w.heap.size, 1, none⟩ : Addr).block ≠ v.ownBlock := fun e => absurd (hge _ e.symm) (by dsimp only; omega)
        have hrr : wr.rangeAt b (o + 64 * k) (pgV B k) := range_up hrw hB
        have hbk : b ≠ w.heap.size + 1 + 1 := fun e => by
          have := lt_of_cell (hrw 0 _ (by rw [List.getElem?_eq_getElem (by omega)]))
          omega
        have hS0 := ps_drew (And.intro s1 hrr)
        have hb3 : some b ≠ v.ownBlock := fun e => absurd (hge _ e.symm) (by have := lt_of_cell (hrw 0 _ (by rw [List.getElem?_eq_getElem (by omega)])); omega)
        clear hc HQ hBl
        go_wp2_with fail
        -- region 5
        refine wp_region_noPanic ?_
        refine wp_region_held_drew (S := fun w' => w'.cell? ⟨w.heap.size, 1, none⟩ = some (.slice (some ⟨b, o, none⟩) B.length qc) ∧ w'.rangeAt b (o + 64 * k) (pgV B k)) (by kernel_rfl) hS0 (fun hH0 => ?_)
        refine wpAnyH_take (i := 0) (oi := ⟨_, _, _, _, _, _⟩) (v := ?_) rfl (by kernel_rfl) (by kernel_rfl) (by kernel_rfl) (fun _ _ _ h => h) (Or.inl ⟨by rfl, ?_⟩) hH0 ?_
        rotate_left 1
        · intro w hSw
          (try dsimp only at hSw)
          go_simp <;> with_reducible rfl
        simp only [Act.put, List.setIfInBounds_toArray, List.set_cons_zero, List.set_cons_succ]
        refine wpAnyH_take (i := 2) (oi := ⟨_, _, _, _, _, _⟩) (v := ?_) rfl (by kernel_rfl) (by kernel_rfl) (by kernel_rfl) (fun _ _ _ h => h) (Or.inl ⟨by rfl, ?_⟩) hH0 ?_
        rotate_left 1
        · intro w hSw
          (try dsimp only at hSw)
          go_simp <;> with_reducible rfl
        simp only [Act.put, List.setIfInBounds_toArray, List.set_cons_zero, List.set_cons_succ]
        refine wpAnyH_take (i := 3) (oi := ⟨_, _, _, _, _, _⟩) (v := ?_) rfl (by kernel_rfl) (by kernel_rfl) (by kernel_rfl) (fun _ _ _ h => h) (Or.inl ⟨by rfl, ?_⟩) hH0 ?_
        rotate_left 1
        · intro w hSw
          (try dsimp only at hSw)
          go_simp <;> with_reducible rfl
        simp only [Act.put, List.setIfInBounds_toArray, List.set_cons_zero, List.set_cons_succ]
        refine wpAnyH_take (i := 4) (oi := ⟨_, _, _, _, _, _⟩) (v := ?_) rfl (by kernel_rfl) (by kernel_rfl) (by kernel_rfl) (fun _ _ _ h => h) (Or.inl ⟨by rfl, ?_⟩) hH0 ?_
        rotate_left 1
        · intro w hSw
          (try dsimp only at hSw)
          go_simp <;> with_reducible rfl
        simp only [Act.put, List.setIfInBounds_toArray, List.set_cons_zero, List.set_cons_succ]
        refine wpAnyH_take (i := 5) (oi := ⟨_, _, _, _, _, _⟩) (v := ?_) rfl (by kernel_rfl) (by kernel_rfl) (by kernel_rfl) (fun _ _ _ h => h) (Or.inl ⟨by rfl, ?_⟩) hH0 ?_
        rotate_left 1
        · intro w hSw
          (try dsimp only at hSw)
          go_simp <;> with_reducible rfl
        simp only [Act.put, List.setIfInBounds_toArray, List.set_cons_zero, List.set_cons_succ]
        refine wpAnyH_take (i := 6) (oi := ⟨_, _, _, _, _, _⟩) (v := ?_) rfl (by kernel_rfl) (by kernel_rfl) (by kernel_rfl) (fun _ _ _ h => h) (Or.inl ⟨by rfl, ?_⟩) hH0 ?_
        rotate_left 1
        · intro w hSw
          (try dsimp only at hSw)
          go_simp <;> with_reducible rfl
        simp only [Act.put, List.setIfInBounds_toArray, List.set_cons_zero, List.set_cons_succ]
        refine wpAnyH_take (i := 7) (oi := ⟨_, _, _, _, _, _⟩) (v := ?_) rfl (by kernel_rfl) (by kernel_rfl) (by kernel_rfl) (fun _ _ _ h => h) (Or.inl ⟨by rfl, ?_⟩) hH0 ?_
        rotate_left 1
        · intro w hSw
          (try dsimp only at hSw)
          go_simp <;> with_reducible rfl
        simp only [Act.put, List.setIfInBounds_toArray, List.set_cons_zero, List.set_cons_succ]
        refine wpAnyH_take (i := 8) (oi := ⟨_, _, _, _, _, _⟩) (v := _) rfl (by kernel_rfl) (by kernel_rfl) (by kernel_rfl) (fun _ _ _ h => h) (yieldsIf_load_mid (by rfl) _ _ rfl _ _ rfl _ _ (fun w hw => hw.2) hu rfl hi') hH0 ?_
        simp only [Act.put, List.setIfInBounds_toArray, List.set_cons_zero, List.set_cons_succ]
        refine wpAnyH_ready (rs := [1, 9]) (by kernel_rfl) (by simp) ?_
        refine AllReadyH.cons (o := ⟨_, _, _, _, _, _⟩) rfl (fun K1 hK1 => ?_) ?_
        · go_simp
          refine hK1.out _ _ ?_ (fun hH1 => ?_)
          · (first | assumption | (refine ps_alloc ?_ _; assumption) | (refine ps_grown ?_ (by assumption) hne2 hb3; assumption) | (refine ps_store ?_ _ _ (by dsimp only; omega) (by dsimp only; omega); assumption))
          clear hK1 K1
          refine wpAnyH_ready (rs := [9]) (by kernel_rfl) (by simp) ?_
          refine AllReadyH.cons (o := ⟨_, _, _, _, _, _⟩) rfl (fun K2 hK2 => ?_) ?_
          · go_simp
            refine hK2.out _ _ ?_ (fun hH2 => ?_)
            · (first | assumption | (refine ps_alloc ?_ _; assumption) | (refine ps_grown ?_ (by assumption) hne2 hb3; assumption) | (refine ps_store ?_ _ _ (by dsimp only; omega) (by dsimp only; omega); assumption))
            clear hK2 K2
            refine wpAnyH_ready (rs := [10]) (by kernel_rfl) (by simp) ?_
            refine AllReadyH.cons (o := ⟨_, _, _, _, _, _⟩) rfl (fun K3 hK3 => ?_) ?_
            · (refine step_append_lies _ (by rfl) _ _ 104 (by rfl) (w.heap.size + 3) 124 i0 _ 64 64 Try.underlying104 hi hz0 hz1 hz2 (by rfl) (by decide) v k ((bV B).take (64 * k)) (by rfl) (own_drew64 (hown.alloc _)) ⟨wr.heap.size, 0, none⟩ 1 1 (pgV B k) (by rfl) hpl (World.news_of_block (cs := (pgV B k).toArray) (World.alloc_heap_new _ _)) hp1 (by decide) (by unfold maxLen; omega) (by omega) (by simp; omega) _ rfl ?_; intro g cap w1 hown1 hgrow hat hlt1; have hst := pf_grown m1 g1 hgrow hne1; obtain ⟨hst1, hst2⟩ := hst)
              try go_simp
              refine hK3.out _ _ ?_ (fun hH3 => ?_)
              · (first | assumption | (refine ps_alloc ?_ _; assumption) | (refine ps_grown ?_ (by assumption) hne2 hb3; assumption) | (refine ps_store ?_ _ _ (by dsimp only; omega) (by dsimp only; omega); assumption))
              clear hK3 K3
              refine wpAnyH_take (i := 11) (oi := ⟨_, _, _, _, _, _⟩) (v := ?_) rfl (by kernel_rfl) (by kernel_rfl) (by kernel_rfl) (fun _ _ _ h => h) (Or.inl ⟨by rfl, ?_⟩) hH3 ?_
              rotate_left 1
              · intro w hSw
                (try dsimp only at hSw)
                go_simp <;> with_reducible rfl
              simp only [Act.put, List.setIfInBounds_toArray, List.set_cons_zero, List.set_cons_succ]
              refine wpAnyH_ready (rs := [12]) (by kernel_rfl) (by simp) ?_
              refine AllReadyH.cons (o := ⟨_, _, _, _, _, _⟩) rfl (fun K4 hK4 => ?_) ?_
              · go_simp
                refine hK4.out _ _ ?_ (fun hH4 => ?_)
                · (first | assumption | (refine ps_alloc ?_ _; assumption) | (refine ps_grown ?_ (by assumption) hne2 hb3; assumption) | (refine ps_store ?_ _ _ (by dsimp only; omega) (by dsimp only; omega); assumption))
                clear hK4 K4
                refine wpAnyH_done (by kernel_rfl) ?_ _
                refine NoPanic.normal ?_
                go_wp2_with fail
                have d0 := st_far s0 hgrow (fun e => absurd (hge _ e.symm) (by dsimp only; omega)) (.slice (some ⟨g, 0, none⟩) (k + 1) cap) (p := ⟨w.heap.size + 1 + 1, 1, none⟩) (by simp)
                have d1 := st_far s1 hgrow (fun e => absurd (hge _ e.symm) (by dsimp only; omega)) (.slice (some ⟨g, 0, none⟩) (k + 1) cap) (p := ⟨w.heap.size + 1 + 1, 1, none⟩) (by simp)
                have d2 := st_far r0 hgrow (fun e => absurd (hge _ e.symm) (by dsimp only; omega)) (.slice (some ⟨g, 0, none⟩) (k + 1) cap) (p := ⟨w.heap.size + 1 + 1, 1, none⟩) (by simp)
                have d3 := st_far r1 hgrow (fun e => absurd (hge _ e.symm) (by dsimp only; omega)) (.slice (some ⟨g, 0, none⟩) (k + 1) cap) (p := ⟨w.heap.size + 1 + 1, 1, none⟩) (by simp)
                have d4 := st_far m0 hgrow (fun e => absurd (hge _ e.symm) (by dsimp only; omega)) (.slice (some ⟨g, 0, none⟩) (k + 1) cap) (p := ⟨w.heap.size + 1 + 1, 1, none⟩) (by simp)
                have e2 := sf_far r0 f0 hgrow (fun e => absurd (hge _ e.symm) (by dsimp only; omega)) (.slice (some ⟨g, 0, none⟩) (k + 1) cap) ⟨w.heap.size + 1 + 1, 1, none⟩
                have e3 := sf_far r1 f1 hgrow (fun e => absurd (hge _ e.symm) (by dsimp only; omega)) (.slice (some ⟨g, 0, none⟩) (k + 1) cap) ⟨w.heap.size + 1 + 1, 1, none⟩
                have e4 : (w1.setCell ⟨w.heap.size + 1 + 1, 1, none⟩ (.slice (some ⟨g, 0, none⟩) (k + 1) cap)).frozen? ⟨w.heap.size + 1 + 1, 1, none⟩ = false := by rw [World.frozen?_setCell]; exact hst2
                have c4 : (w1.setCell ⟨w.heap.size + 1 + 1, 1, none⟩ (.slice (some ⟨g, 0, none⟩) (k + 1) cap)).cell? ⟨w.heap.size + 1 + 1, 1, none⟩ = some (.slice (some ⟨g, 0, none⟩) (k + 1) cap) := cell_put hst1 _
                have o4 : (w1.setCell ⟨w.heap.size + 1 + 1, 1, none⟩ (.slice (some ⟨g, 0, none⟩) (k + 1) cap)).ownsRow (w.heap.size + 3) 124 64 (.slice (some ⟨g, 0, none⟩) (k + 1) cap) (k + 1) ((bV B).take (64 * (k + 1))) := by
                  rw [← pgV_snoc (by have := HB.out; omega)]
                  exact own_setN hown1 (by omega) _ _
                have z4 : w.heap.size + 3 ≤ w1.heap.size := by have := hgrow.size; simp at this; omega
                have b4 : Below w.heap.size w (w1.setCell ⟨w.heap.size + 1 + 1, 1, none⟩ (.slice (some ⟨g, 0, none⟩) (k + 1) cap)) :=
                  ((((hB.drew).alloc (by show w.heap.size ≤ wr.heap.size; omega) _).grown hgrow (by simp; omega) (fun q hq => by have := hge q hq; omega)).setCell (by dsimp only; omega) _)
                exact ⟨⟨k + 1, hlt, by push_cast; rfl, d0, d1, d2, d3, e2, e3, d4, ⟨_, c4, e4, o4⟩, by simpa using z4, b4⟩, by show P.length - ((k : Int) + 1).toNat < P.length - (k : Int).toNat; omega⟩
              exact AllReadyH.nil
            exact AllReadyH.nil
          exact AllReadyH.nil
        refine AllReadyH.cons (o := ⟨_, _, _, _, _, _⟩) rfl (fun K1 hK1 => ?_) ?_
        · go_simp
          refine hK1.out _ _ ?_ (fun hH1 => ?_)
          · (first | assumption | (refine ps_alloc ?_ _; assumption) | (refine ps_grown ?_ (by assumption) hne2 hb3; assumption) | (refine ps_store ?_ _ _ (by dsimp only; omega) (by dsimp only; omega); assumption))
          clear hK1 K1
          refine wpAnyH_ready (rs := [1]) (by kernel_rfl) (by simp) ?_
          refine AllReadyH.cons (o := ⟨_, _, _, _, _, _⟩) rfl (fun K2 hK2 => ?_) ?_
          · go_simp
            refine hK2.out _ _ ?_ (fun hH2 => ?_)
            · (first | assumption | (refine ps_alloc ?_ _; assumption) | (refine ps_grown ?_ (by assumption) hne2 hb3; assumption) | (refine ps_store ?_ _ _ (by dsimp only; omega) (by dsimp only; omega); assumption))
            clear hK2 K2
            refine wpAnyH_ready (rs := [10]) (by kernel_rfl) (by simp) ?_
            refine AllReadyH.cons (o := ⟨_, _, _, _, _, _⟩) rfl (fun K3 hK3 => ?_) ?_
            · (refine step_append_lies _ (by rfl) _ _ 104 (by rfl) (w.heap.size + 3) 124 i0 _ 64 64 Try.underlying104 hi hz0 hz1 hz2 (by rfl) (by decide) v k ((bV B).take (64 * k)) (by rfl) (own_drew64 (hown.alloc _)) ⟨wr.heap.size, 0, none⟩ 1 1 (pgV B k) (by rfl) hpl (World.news_of_block (cs := (pgV B k).toArray) (World.alloc_heap_new _ _)) hp1 (by decide) (by unfold maxLen; omega) (by omega) (by simp; omega) _ rfl ?_; intro g cap w1 hown1 hgrow hat hlt1; have hst := pf_grown m1 g1 hgrow hne1; obtain ⟨hst1, hst2⟩ := hst)
              try go_simp
              refine hK3.out _ _ ?_ (fun hH3 => ?_)
              · (first | assumption | (refine ps_alloc ?_ _; assumption) | (refine ps_grown ?_ (by assumption) hne2 hb3; assumption) | (refine ps_store ?_ _ _ (by dsimp only; omega) (by dsimp only; omega); assumption))
              clear hK3 K3
              refine wpAnyH_take (i := 11) (oi := ⟨_, _, _, _, _, _⟩) (v := ?_) rfl (by kernel_rfl) (by kernel_rfl) (by kernel_rfl) (fun _ _ _ h => h) (Or.inl ⟨by rfl, ?_⟩) hH3 ?_
              rotate_left 1
              · intro w hSw
                (try dsimp only at hSw)
                go_simp <;> with_reducible rfl
              simp only [Act.put, List.setIfInBounds_toArray, List.set_cons_zero, List.set_cons_succ]
              refine wpAnyH_ready (rs := [12]) (by kernel_rfl) (by simp) ?_
              refine AllReadyH.cons (o := ⟨_, _, _, _, _, _⟩) rfl (fun K4 hK4 => ?_) ?_
              · go_simp
                refine hK4.out _ _ ?_ (fun hH4 => ?_)
                · (first | assumption | (refine ps_alloc ?_ _; assumption) | (refine ps_grown ?_ (by assumption) hne2 hb3; assumption) | (refine ps_store ?_ _ _ (by dsimp only; omega) (by dsimp only; omega); assumption))
                clear hK4 K4
                refine wpAnyH_done (by kernel_rfl) ?_ _
                refine NoPanic.normal ?_
                go_wp2_with fail
                have d0 := st_far s0 hgrow (fun e => absurd (hge _ e.symm) (by dsimp only; omega)) (.slice (some ⟨g, 0, none⟩) (k + 1) cap) (p := ⟨w.heap.size + 1 + 1, 1, none⟩) (by simp)
                have d1 := st_far s1 hgrow (fun e => absurd (hge _ e.symm) (by dsimp only; omega)) (.slice (some ⟨g, 0, none⟩) (k + 1) cap) (p := ⟨w.heap.size + 1 + 1, 1, none⟩) (by simp)
                have d2 := st_far r0 hgrow (fun e => absurd (hge _ e.symm) (by dsimp only; omega)) (.slice (some ⟨g, 0, none⟩) (k + 1) cap) (p := ⟨w.heap.size + 1 + 1, 1, none⟩) (by simp)
                have d3 := st_far r1 hgrow (fun e => absurd (hge _ e.symm) (by dsimp only; omega)) (.slice (some ⟨g, 0, none⟩) (k + 1) cap) (p := ⟨w.heap.size + 1 + 1, 1, none⟩) (by simp)
                have d4 := st_far m0 hgrow (fun e => absurd (hge _ e.symm) (by dsimp only; omega)) (.slice (some ⟨g, 0, none⟩) (k + 1) cap) (p := ⟨w.heap.size + 1 + 1, 1, none⟩) (by simp)
                have e2 := sf_far r0 f0 hgrow (fun e => absurd (hge _ e.symm) (by dsimp only; omega)) (.slice (some ⟨g, 0, none⟩) (k + 1) cap) ⟨w.heap.size + 1 + 1, 1, none⟩
                have e3 := sf_far r1 f1 hgrow (fun e => absurd (hge _ e.symm) (by dsimp only; omega)) (.slice (some ⟨g, 0, none⟩) (k + 1) cap) ⟨w.heap.size + 1 + 1, 1, none⟩
                have e4 : (w1.setCell ⟨w.heap.size + 1 + 1, 1, none⟩ (.slice (some ⟨g, 0, none⟩) (k + 1) cap)).frozen? ⟨w.heap.size + 1 + 1, 1, none⟩ = false := by rw [World.frozen?_setCell]; exact hst2
                have c4 : (w1.setCell ⟨w.heap.size + 1 + 1, 1, none⟩ (.slice (some ⟨g, 0, none⟩) (k + 1) cap)).cell? ⟨w.heap.size + 1 + 1, 1, none⟩ = some (.slice (some ⟨g, 0, none⟩) (k + 1) cap) := cell_put hst1 _
                have o4 : (w1.setCell ⟨w.heap.size + 1 + 1, 1, none⟩ (.slice (some ⟨g, 0, none⟩) (k + 1) cap)).ownsRow (w.heap.size + 3) 124 64 (.slice (some ⟨g, 0, none⟩) (k + 1) cap) (k + 1) ((bV B).take (64 * (k + 1))) := by
                  rw [← pgV_snoc (by have := HB.out; omega)]
                  exact own_setN hown1 (by omega) _ _
                have z4 : w.heap.size + 3 ≤ w1.heap.size := by have := hgrow.size; simp at this; omega
                have b4 : Below w.heap.size w (w1.setCell ⟨w.heap.size + 1 + 1, 1, none⟩ (.slice (some ⟨g, 0, none⟩) (k + 1) cap)) :=
                  ((((hB.drew).alloc (by show w.heap.size ≤ wr.heap.size; omega) _).grown hgrow (by simp; omega) (fun q hq => by have := hge q hq; omega)).setCell (by dsimp only; omega) _)
                exact ⟨⟨k + 1, hlt, by push_cast; rfl, d0, d1, d2, d3, e2, e3, d4, ⟨_, c4, e4, o4⟩, by simpa using z4, b4⟩, by show P.length - ((k : Int) + 1).toNat < P.length - (k : Int).toNat; omega⟩
              exact AllReadyH.nil
            exact AllReadyH.nil
          exact AllReadyH.nil
        exact AllReadyH.nil
    · have hkl : k = P.length := by omega
      subst hkl
      have hBl := HB.out
      have hbt : (bV B).take (64 * P.length) = bV B := by rw [← hBl]; exact List.take_of_length_le (by simp [bV])
      rw [hbt] at hown
      clear hBl HB HQ
      obtain ⟨q2, c2, rfl⟩ := own_sl hown
      go_wp2_with fail
      refine bodyPost_ret (v := .agg #[.slice p P.length pc, .slice q2 P.length c2]) (by simp [results, Try.results56, go_sem, *]) rfl ?_
      exact ⟨_, rfl, own_setN (own_setN hown (by omega) _ _) (by omega) _ _, (hB.setCell (by dsimp only; omega) _).setCell (by dsimp only; omega) _, by simpa using hz⟩
end Go.Proofs.Ytnapbpfofpaakaa

namespace Go.Proofs.Ytnapbpfofpaakaa
open Go.RowKit Go.Shelf Go.Lib

theorem A_infoI : (Try.prog.info? 3).map (fun i => (i.zero, i.size, i.bytes)) = some (some (.int .i64 0), 1, 8) := by kernel_rfl
theorem A_infoB : (Try.prog.info? 5).map (fun i => (i.zero, i.size, i.bytes)) = some (some (.int .u8 0), 1, 1) := by kernel_rfl
theorem iV_one (P : List Int) : ∀ v ∈ iV P, v.oneCell' = true := by
  intro v hv; obtain ⟨x, _, rfl⟩ := List.mem_map.1 hv; rfl
theorem bV_one (B : List UInt8) : ∀ v ∈ bV B, v.oneCell' = true := by
  intro v hv; obtain ⟨x, _, rfl⟩ := List.mem_map.1 hv; rfl
theorem SeqAt.cells {w : World} {a : Addr} {xs : List Value} (h : SeqAt w (some a) xs) : ∀ j u, xs[j]? = some u → w.cell? (a.add j) = some u := by
  intro j u hj
  rcases h with h | ⟨b, o, e, h⟩
  · subst h; simp at hj
  · injection e with e; subst e
    rw [Addr.add_lit]; exact h j u hj

set_option maxHeartbeats 2000000 in
set_option maxRecDepth 100000 in
theorem clone_ints (X : List Int) (p : Option Addr) (pc : Nat) (w : World) (hX : X.length ≤ 4096) (hS : SeqAt w p (iV X)) :
    Calls Try.prog 71 #[.slice p X.length pc] w fun e w' => ∃ v, e = .returned v ∧ w'.ownsRow w.heap.size 3 1 v X.length (iV X) ∧ Below w.heap.size w w' := by
  obtain ⟨i0, hi, hz0, hz1, hz2⟩ := info_parts A_infoI
  have q22 : ∀ (w : World) (a : Option Addr) (n c : Nat), (binOp .eql 22 (.slice a n c) (.slice none 0 0)).run Try.prog w = .ok (.bool a.isNone) w := fun w a n c => Lib.run_eql_slice_nil w _ _ a n c 0 0 Try.underlying22
  cases p with
  | none =>
    have hX0 : X = [] := by
      rcases hS with h | ⟨b, o, e, _⟩
      · simpa [iV] using h
      · cases e
    subst hX0
    clear hS hX
    go_enter Try.func71, Try.ntmps71
    go_wp2
    go_ret
    exact ⟨_, rfl, World.ownsRow_nil _ _ _ _, Below.refl _ _⟩
  | some a =>
    have HC := Lib.hid hS.cells
    have HX := Lib.hid hX
    clear hS hX
    go_enter Try.func71, Try.ntmps71
    go_wp2_with (at_builtin; refine wpList_append_own _ rfl _ _ 22 rfl w.heap.size 3 i0 (.int .i64 0) 1 8 Try.underlying22 hi hz0 hz1 hz2 rfl (by decide) _ _ _ rfl (World.ownsRow_made w #[] 0 (Nat.le_refl _) (Nat.zero_le _) rfl) a X.length pc (iV X) rfl ?qc1 ?qc2 ?qc3 ?qc4 ?qc5 ?qc6 ?_)
    case qc1 => simp [iV]
    case qc2 =>
      intro j u hj
      exact Lib.cell?_alloc_some _ (HC.out j u hj)
    case qc3 => exact iV_one X
    case qc4 => have := HX.out; unfold maxLen; omega
    case qc5 => have := HX.out; omega
    case qc6 => simp
    intro v' w1 hown hgrow hnil
    go_wp2
    go_ret
    refine ⟨v', rfl, by simpa using hown, ?_⟩
    exact ((Below.refl _ w).alloc (Nat.le_refl _) _).grown hgrow (by simp) (by intro k hk; simp [Value.ownBlock] at hk; omega)

set_option maxHeartbeats 2000000 in
set_option maxRecDepth 100000 in
theorem clone_bytes (X : List UInt8) (p : Option Addr) (pc : Nat) (w : World) (hX : X.length ≤ 4096) (hS : SeqAt w p (bV X)) :
    Calls Try.prog 72 #[.slice p X.length pc] w fun e w' => ∃ v, e = .returned v ∧ w'.ownsRow w.heap.size 5 1 v X.length (bV X) ∧ Below w.heap.size w w' := by
  obtain ⟨i0, hi, hz0, hz1, hz2⟩ := info_parts A_infoB
  have q22 : ∀ (w : World) (a : Option Addr) (n c : Nat), (binOp .eql 23 (.slice a n c) (.slice none 0 0)).run Try.prog w = .ok (.bool a.isNone) w := fun w a n c => Lib.run_eql_slice_nil w _ _ a n c 0 0 Try.underlying23
  cases p with
  | none =>
    have hX0 : X = [] := by
      rcases hS with h | ⟨b, o, e, _⟩
      · simpa [bV] using h
      · cases e
    subst hX0
    clear hS hX
    go_enter Try.func72, Try.ntmps72
    go_wp2
    go_ret
    exact ⟨_, rfl, World.ownsRow_nil _ _ _ _, Below.refl _ _⟩
  | some a =>
    have HC := Lib.hid hS.cells
    have HX := Lib.hid hX
    clear hS hX
    go_enter Try.func72, Try.ntmps72
    go_wp2_with (at_builtin; refine wpList_append_own _ rfl _ _ 23 rfl w.heap.size 5 i0 (.int .u8 0) 1 1 Try.underlying23 hi hz0 hz1 hz2 rfl (by decide) _ _ _ rfl (World.ownsRow_made w #[] 0 (Nat.le_refl _) (Nat.zero_le _) rfl) a X.length pc (bV X) rfl ?qc1 ?qc2 ?qc3 ?qc4 ?qc5 ?qc6 ?_)
    case qc1 => simp [bV]
    case qc2 =>
      intro j u hj
      exact Lib.cell?_alloc_some _ (HC.out j u hj)
    case qc3 => exact bV_one X
    case qc4 => have := HX.out; unfold maxLen; omega
    case qc5 => have := HX.out; omega
    case qc6 => simp
    intro v' w1 hown hgrow hnil
    go_wp2
    go_ret
    refine ⟨v', rfl, by simpa using hown, ?_⟩
    exact ((Below.refl _ w).alloc (Nat.le_refl _) _).grown hgrow (by simp) (by intro k hk; simp [Value.ownBlock] at hk; omega)
end Go.Proofs.Ytnapbpfofpaakaa

namespace Go.Proofs.Ytnapbpfofpaakaa
open Go.RowKit Go.Shelf
attribute [local go_sem] Oper.semAt_some

/-- What stands between two rounds of 'write'. -/
structure WI (w : World) (P : List Int) (p : Option Addr) (pc PB qc : Nat) (q : Option Addr) (at0 : Int) (bs : List UInt8) (bq : Option Addr) (bc : Nat) (perm : Int) (B : List UInt8) (bn bm ba bp cb base : Nat) (k : Nat) (W : World) : Prop where
  cap : CapF P p pc PB qc q at0 bs.length perm bn bm ba bp W
  pg : SeqAt W (some ⟨PB, 0, none⟩) (bV (wrL B at0 bs k))
  fz : ∀ j, j < B.length → W.frozen? ⟨PB, j, none⟩ = false
  by0 : W.cell? ⟨cb, 0, none⟩ = some (.slice bq bs.length bc)
  byt : SeqAt W bq (bV bs)
  ok : ∀ j, j < k → kindA P perm (adr at0 j) = 0
  but : Caught PB w W
  sz : w.heap.size ≤ base ∧ base ≤ W.heap.size

theorem SeqAt.pages {W : World} {PB : Nat} {L : List UInt8} (h : SeqAt W (some ⟨PB, 0, none⟩) (bV L)) {j : Nat} (hj : j < L.length) : W.cell? ⟨PB, j, none⟩ = some (.int .u8 (L[j].toNat : Int)) := by
  rcases h with he | ⟨b, o, e, hg⟩
  · have : L.length = 0 := by simpa [bV] using he
    omega
  · obtain ⟨rfl, rfl⟩ : PB = b ∧ 0 = o := by injection e with e; injection e with e1 e2; exact ⟨e1, e2⟩
    have := hg _ _ (bV_get L _ hj)
    rwa [Nat.zero_add] at this

theorem WI.keep {w : World} {P : List Int} {p : Option Addr} {pc PB qc : Nat} {q : Option Addr} {at0 : Int} {bs : List UInt8} {bq : Option Addr} {bc : Nat} {perm : Int} {B : List UInt8} {bn bm ba bp cb base : Nat} {k : Nat} {W W' : World}
    (h : WI w P p pc PB qc q at0 bs bq bc perm B bn bm ba bp cb base k W) (g : Keep base W W') : WI w P p pc PB qc q at0 bs bq bc perm B bn bm ba bp cb base k W' :=
  ⟨h.cap.keep g, g.seq h.pg, fun j hj => (g.frozen (h.pg.pages (j := j) (by rw [wrL_len]; exact hj))).trans (h.fz j hj), g.cell h.by0, g.seq h.byt, h.ok, h.but.keep ⟨g.os, g.tape, g.output, g.size, fun k hk => g.below k (by have := h.sz.1; omega), g.cells⟩, h.sz.1, Nat.le_trans h.sz.2 g.size⟩

theorem seq_far {W : World} {p : Option Addr} {xs : List Value} (h : SeqAt W p xs) {PB : Nat} (hp : ∀ b o, p = some ⟨b, o, none⟩ → b ≠ PB) (o : Nat) (u : Value) : SeqAt (W.setCell ⟨PB, o, none⟩ u) p xs := by
  rcases h with h | ⟨b, o', e, h⟩
  · exact .inl h
  · exact .inr ⟨b, o', e, fun j v hj => by rw [World.cell?_setCell_far _ _ _ _ (by have := hp b o' e; dsimp only; omega)]; exact h j v hj⟩

theorem pg_step {W : World} {PB : Nat} {L : List UInt8} {i : Nat} {c : UInt8} (h : SeqAt W (some ⟨PB, 0, none⟩) (bV L)) (hi : i < L.length) : SeqAt (W.setCell ⟨PB, i, none⟩ (.int .u8 (c.toNat : Int))) (some ⟨PB, 0, none⟩) (bV (L.set i c)) := by
  refine .inr ⟨PB, 0, rfl, fun j v hj => ?_⟩
  rw [Nat.zero_add]
  have hjl : j < L.length := by
    have := (List.getElem?_eq_some_iff.1 hj).1
    simpa [bV] using this
  by_cases e : j = i
  · subst e
    have hv : v = .int .u8 (c.toNat : Int) := by
      rw [bV_get _ j (by simpa using hjl)] at hj
      simp at hj
      exact hj.symm
    subst hv
    exact World.cell?_setCell_same _ _ _ (h.pages hi)
  · rw [World.cell?_setCell_other _ _ _ _ (by intro e2; injection e2 with _ e2; exact e e2.symm)]
    rw [bV_get _ j (by simpa using hjl)] at hj
    rw [h.pages hjl]
    simp [Ne.symm e] at hj
    rw [← hj]

theorem wrL_step {B : List UInt8} {at0 : Int} {bs : List UInt8} {k : Nat} (hk : k < bs.length) : wrL B at0 bs (k + 1) = (wrL B at0 bs k).set (adr at0 k).toNat bs[k] := by
  simp [wrL, List.getD, hk]

/-- How 'write' has left its closure. -/
def WriteEnd (w : World) (P : List Int) (at0 : Int) (bs : List UInt8) (perm : Int) (B : List UInt8) (PB : Nat) (e : Ending) (w' : World) : Prop :=
  ∃ k, SeqAt w' (some ⟨PB, 0, none⟩) (bV (wrL B at0 bs k)) ∧ (∀ j, j < k → kindA P perm (adr at0 j) = 0) ∧ Caught PB w w' ∧
    ((k = bs.length ∧ e = .returned (.tuple #[])) ∨ (k < bs.length ∧ kindA P perm (adr at0 k) ≠ 0 ∧ e = .panicked (chV (kindA P perm (adr at0 k)) (adr at0 k))))
theorem WI.ends {w : World} {P : List Int} {p : Option Addr} {pc PB qc : Nat} {q : Option Addr} {at0 : Int} {bs : List UInt8} {bq : Option Addr} {bc : Nat} {perm : Int} {B : List UInt8} {bn bm ba bp cb base : Nat} {k : Nat} {W : World} {e : Ending}
    (h : WI w P p pc PB qc q at0 bs bq bc perm B bn bm ba bp cb base k W) (he : (k = bs.length ∧ e = .returned (.tuple #[])) ∨ (k < bs.length ∧ kindA P perm (adr at0 k) ≠ 0 ∧ e = .panicked (chV (kindA P perm (adr at0 k)) (adr at0 k)))) : WriteEnd w P at0 bs perm B PB e W :=
  ⟨k, h.pg, h.ok, h.but, he⟩

theorem WI.step {w : World} {P : List Int} {p : Option Addr} {pc PB qc : Nat} {q : Option Addr} {at0 : Int} {bs : List UInt8} {bq : Option Addr} {bc : Nat} {perm : Int} {B : List UInt8} {cb : Nat} {k : Nat} {W : World}
    (h : WI w P p pc PB qc q at0 bs bq bc perm B (w.heap.size + 1 + 1) w.heap.size (w.heap.size + 1) (w.heap.size + 1 + 1 + 1) cb (w.heap.size + 4) k W) (hok : kindA P perm (adr at0 k) = 0) (hPB : PB < w.heap.size) (hcb : cb ≠ PB)
    (hp : ∀ b o, p = some ⟨b, o, none⟩ → b ≠ PB) (hbq : ∀ b o, bq = some ⟨b, o, none⟩ → b ≠ PB) (hk : k < bs.length) (hl : (adr at0 k).toNat < B.length) :
    KeepsOthers W (W.setCell ⟨PB, (adr at0 k).toNat, none⟩ (.int .u8 (bs[k].toNat : Int))) ∧ WI w P p pc PB qc q at0 bs bq bc perm B (w.heap.size + 1 + 1) w.heap.size (w.heap.size + 1) (w.heap.size + 1 + 1 + 1) cb (w.heap.size + 4) (k + 1) (W.setCell ⟨PB, (adr at0 k).toNat, none⟩ (.int .u8 (bs[k].toNat : Int))) := by
  have far : ∀ {b o : Nat} {v : Value}, b ≠ PB → W.cell? ⟨b, o, none⟩ = some v → (W.setCell ⟨PB, (adr at0 k).toNat, none⟩ (.int .u8 (bs[k].toNat : Int))).cell? ⟨b, o, none⟩ = some v := fun hb hc => by
    rw [World.cell?_setCell_far _ _ _ _ (by dsimp only; omega)]; exact hc
  refine ⟨KeepsOthers.setCell _ _ _, ⟨far (by omega) h.cap.m0, far (by omega) h.cap.m1, far (by omega) h.cap.a0, far (by omega) h.cap.n0, far (by omega) h.cap.p0, seq_far h.cap.ps hp _ _⟩, ?_, fun j hj => by rw [World.frozen?_setCell]; exact h.fz j hj, far hcb h.by0, seq_far h.byt hbq _ _, ?_, h.but.set _ _, h.sz.1, by rw [World.size_setCell]; exact h.sz.2⟩
  · have := pg_step (c := bs[k]) h.pg (i := (adr at0 k).toNat) (by rw [wrL_len]; exact hl)
    rwa [← wrL_step hk] at this
  · intro j hj
    by_cases e : j = k
    · exact e ▸ hok
    · exact h.ok j (by omega)

set_option maxRecDepth 100000 in
set_option maxHeartbeats 1000000 in
theorem write1_any (P : List Int) (p : Option Addr) (pc PB qc : Nat) (q : Option Addr) (hq : q = some ⟨PB, 0, none⟩ ∨ P = []) (at0 : Int) (bs : List UInt8) (bq : Option Addr) (bc : Nat) (perm : Int) (B : List UInt8) (cm ca cb cp : Nat) (w : World) (hm : P.length ≤ 32) (hn : bs.length ≤ 2048)
    (m0 : w.cell? ⟨cm, 0, none⟩ = some (.slice p P.length pc)) (m1 : w.cell? ⟨cm, 1, none⟩ = some (.slice q P.length qc)) (a0 : w.cell? ⟨ca, 0, none⟩ = some (.int .i64 at0)) (b0 : w.cell? ⟨cb, 0, none⟩ = some (.slice bq bs.length bc)) (p0 : w.cell? ⟨cp, 0, none⟩ = some (.int .i64 perm))
    (ps : SeqAt w p (iV P)) (pg : SeqAt w (some ⟨PB, 0, none⟩) (bV B)) (fz : ∀ j, j < B.length → w.frozen? ⟨PB, j, none⟩ = false) (byt : SeqAt w bq (bV bs))
    (hp : ∀ b o, p = some ⟨b, o, none⟩ → b ≠ PB) (hbq : ∀ b o, bq = some ⟨b, o, none⟩ → b ≠ PB) (hcb : cb ≠ PB) (hPB : PB < w.heap.size) (hBl : B.length = 64 * P.length) :
    Calls Try.prog 90 #[.pointer (some ⟨cm, 0, none⟩), .pointer (some ⟨ca, 0, none⟩), .pointer (some ⟨cb, 0, none⟩), .pointer (some ⟨cp, 0, none⟩)] w (WriteEnd w P at0 bs perm B PB) := by
  refine callsIn_wide.1 (callsIn_of_wp_marks (n := 0) Try.func90 rfl trivial ?_ rfl)
  simp only [Try.ntmps90, List.size_toArray, List.length_cons, List.length_nil, Nat.reduceAdd, Nat.reduceSub, Array.replicate_succ, Array.replicate_zero, List.push_toArray, List.append_toArray, List.nil_append, List.cons_append]
  gi_wp2
  refine ⟨trivial, rfl, ?_⟩
  refine (callsIn_wide.2 (cells_any p P.length pc q P.length qc at0 bs.length perm w)).mono ?_
  rintro e w' ⟨rfl, rfl⟩
  gi_wp2
  have hb4 : Below w.heap.size w ((((w.alloc (.cells #[.slice p P.length pc, .slice q P.length qc] 106)).alloc (.cells #[.int .i64 at0] 2)).alloc (.cells #[.int .i64 (bs.length : Int)] 3)).alloc (.cells #[.int .i64 perm] 3)) :=
    ((((Below.refl _ w).alloc (Nat.le_refl _) _).alloc (by simp) _).alloc (by simp; omega) _).alloc (by simp; omega) _
  have hcap : CapF P p pc PB qc q at0 bs.length perm (w.heap.size + 1 + 1) w.heap.size (w.heap.size + 1) (w.heap.size + 1 + 1 + 1) ((((w.alloc (.cells #[.slice p P.length pc, .slice q P.length qc] 106)).alloc (.cells #[.int .i64 at0] 2)).alloc (.cells #[.int .i64 (bs.length : Int)] 3)).alloc (.cells #[.int .i64 perm] 3)) :=
    ⟨by go_simp, by go_simp, by go_simp, by go_simp, by go_simp, ps.up hb4⟩
  refine wp_range (gf := 75) rfl (enters_of Try.func75 (by kernel_rfl) rfl)
    (cells_iter P p pc PB qc q hq at0 bs.length perm (w.heap.size + 1 + 1) w.heap.size (w.heap.size + 1) (w.heap.size + 1 + 1 + 1) hm hn) (fun _ => rfl)
    (fun k W => WI w P p pc PB qc q at0 bs bq bc perm B (w.heap.size + 1 + 1) w.heap.size (w.heap.size + 1) (w.heap.size + 1 + 1 + 1) cb (w.heap.size + 4) k W) (fun _ _ _ => False)
    (fun k W W' h g => h.keep (.of_below g h.sz.2)) (fun k W l o o' hl h ho hc => h.keep (.of_put o' (by simpa using hl) ho hc)) (fun _ _ _ _ h _ => h) (fun _ _ _ _ _ _ _ h _ _ => h) (fun k W h => h.cap)
    ?start (fun k => { tmps := #[.pointer (some ⟨cm, 0, none⟩), .pointer (some ⟨ca, 0, none⟩), .pointer (some ⟨cb, 0, none⟩), .pointer (some ⟨cp, 0, none⟩), .int .i64 (k : Int), .pointer (some ⟨PB, (adr at0 k).toNat, none⟩), .agg #[.slice p P.length pc, .slice q P.length qc], .int .i64 at0, .slice bq bs.length bc, .int .i64 (bs.length : Int), .int .i64 perm, .func (.func 75) #[] #[.pointer (some ⟨w.heap.size + 1 + 1, 0, none⟩), .pointer (some ⟨w.heap.size, 0, none⟩), .pointer (some ⟨w.heap.size + 1, 0, none⟩), .pointer (some ⟨w.heap.size + 1 + 1 + 1, 0, none⟩)], .int .i64 (k : Int), .pointer (some ⟨PB, (adr at0 k).toNat, none⟩), undef, undef, undef, undef, undef, undef], defers := [] }) ?assign ?body ?done ?stop ?panic
  case start =>
    exact ⟨hcap, pg.up hb4, fun j hj => by rw [hb4.frozen hPB]; exact fz j hj, cell_up hb4 (lt_of_cell b0) b0, byt.up hb4, fun j hj => by omega, ⟨hb4.os, hb4.tape, hb4.output, hb4.size, fun k hk _ => hb4.block k hk⟩, by omega, by simp⟩
  case assign =>
    intro l k W K hK
    gi_wp2
    exact hK
  case body =>
    intro l k W h hlt hok
    have hin := okA_in (P := P) (perm := perm) (at0 := at0) (k := k) (by unfold okA; simp [hok])
    have hlB : (adr at0 k).toNat < B.length := by omega
    have hcell := h.pg.pages (j := (adr at0 k).toNat) (by rw [wrL_len]; exact hlB)
    have hfz := h.fz _ hlB
    have hby := h.by0
    have hstep := h.step hok hPB hcb hp hbq hlt hlB
    have hlt' : (k : Int) < (bs.length : Int) := by omega
    rcases h.byt with hnil | ⟨b, o, rfl, hg⟩
    · have : bs.length = 0 := by simpa [bV] using hnil
      omega
    · have hbk := hg k _ (bV_get bs k hlt)
      clear hg pg fz byt ps hp hbq
      gi_wp2
      exact hstep
  case done =>
    intro D W hDl h hD
    gi_wp2
    refine ⟨by simp, .inl ⟨_, _, rfl, run_takeDeferred hD, ?_⟩⟩
    exact ⟨_, results_none rfl _ _ _, (h.keep (.of_put _ (by simpa using hDl) hD rfl)).ends (.inl ⟨rfl, rfl⟩)⟩
  case stop => exact fun _ _ _ _ _ _ h _ => h.elim
  case panic =>
    intro D k chain W hDl hb h hD
    obtain ⟨hk, hne, rfl⟩ := hb
    refine ⟨by simp, .inl ⟨_, _, rfl, run_takeDeferred hD, ?_⟩⟩
    exact (h.keep (.of_put _ (by simpa using hDl) hD rfl)).ends (.inr ⟨hk, hne, rfl⟩)
end Go.Proofs.Ytnapbpfofpaakaa

namespace Go.Proofs.Ytnapbpfofpaakaa
open Go.RowKit

def spE (P : List Int) (m : Nat) : Int := if spB P m = true then 0 else 30
theorem spE_ok {P : List Int} {m : Nat} (h : spB P m = true) : spE P m = 0 := by simp [spE, h]
theorem spE_bad {P : List Int} {m : Nat} (h : spB P m = false) : spE P m = 30 := by simp [spE, h]
theorem dataPerm_t {p : Int} (h : dpB p = true) (w : World) : Calls Try.prog 48 #[.int .i64 p] w fun e w' => e = .returned (.bool true) ∧ w = w' := by
  have := dataPerm_any p w; rwa [h] at this
theorem dataPerm_f {p : Int} (h : dpB p = false) (w : World) : Calls Try.prog 48 #[.int .i64 p] w fun e w' => e = .returned (.bool false) ∧ w = w' := by
  have := dataPerm_any p w; rwa [h] at this

set_option maxHeartbeats 1000000 in
theorem mcheck_any (P : List Int) (p : Option Addr) (pc : Nat) (q : Option Addr) (m qc : Nat) (w : World) (hP : SeqAt w p (iV P)) : Calls Try.prog 21 #[spV p P.length pc q m qc] w fun e w' => e = .returned (.int .i64 (spE P m)) ∧ Below w.heap.size w w' := by
  by_cases h32 : 32 < P.length
  · rw [spE_bad (by simp [spB]; intro h; omega)]
    have h : (32 : Int) < (P.length : Int) := by omega
    clear h32
    go_enter Try.func21, Try.ntmps21
    go_wp2
    go_ret
    exact ⟨rfl, (Below.refl _ _).alloc (Nat.le_refl _) _⟩
  · have h : ¬ (32 : Int) < (P.length : Int) := by omega
    have hl : (P.length : Int) ≤ 32 := by omega
    by_cases hm : m = 64 * P.length
    · have hm' : ((m : Int) != 64 * (P.length : Int)) = false := by rw [bne_eq_false_iff_eq]; omega
      have Hm := Lib.hid hm
      clear h32 hm
      have hP2 : SeqAt (w.alloc (.cells #[.slice p P.length pc, .slice q m qc] 25)) p (iV P) := hP.up ((Below.refl _ w).alloc (Nat.le_refl _) _)
      have HP := Lib.hid hP2
      clear hP hP2
      go_enter Try.func21, Try.ntmps21
      go_wp2_with fail
      go_loop [22] (fun i => ∃ k : Nat, k ≤ P.length ∧ i = .int .i64 (k : Int) ∧ Hid (∀ j (hj : j < P.length), j < k → permB P[j] = true)) (fun i => P.length - (intOf i).toNat)
      case atStart => exact ⟨0, Nat.zero_le _, rfl, Lib.hid (fun j _ hj => by omega)⟩
      case round =>
        obtain ⟨k, hk, rfl, hok⟩ := hrel
        by_cases hlt : k < P.length
        · rcases HP.out with hn | ⟨b, o, rfl, hc⟩
          · have : P.length = 0 := by simpa [iV] using hn
            omega
          · have hc1 := hc k _ (iV_get P k hlt)
            clear hc HP
            have hlt' : (k : Int) < (P.length : Int) := by omega
            have hb0 := lt_of_cell hc1
            have step : permB P[k] = true → Hid (∀ j (hj : j < P.length), j < k + 1 → permB P[j] = true) := fun hp => Lib.hid (fun j hj h1 => by
              by_cases e : j = k
              · subst e; exact hp
              · exact hok.out j hj (by omega))
            have stop : permB P[k] = false → spE P m = 30 := fun hp => spE_bad (by
              rw [Bool.eq_false_iff]
              intro hs
              simp [spB] at hs
              have := hs.2 P[k] (List.getElem_mem hlt)
              rw [hp] at this; cases this)
            by_cases h4 : P[k] = 4
            · have h4' : (P[k] != 4) = false := by rw [bne_eq_false_iff_eq]; exact h4
              have hst := step (by rw [h4]; rfl)
              clear h4 step stop hok
              go_wp2_with fail
              go_round
              case rel => exact ⟨k + 1, by omega, by go_num, hst⟩
              case measure => simp [intOf]; omega
            · have h4' : (P[k] != 4) = true := bne_iff_ne.2 h4
              have e4 : (P[k] == 4) = false := beq_eq_false_iff_ne.2 h4
              cases hd : dpB P[k]
              · have hst := stop (by rw [permB_eq, e4, hd]; rfl)
                have hD := fun w => dataPerm_f hd w
                have Hst := Lib.hid hst
                clear h4 step stop hok hd e4 hst
                go_wp2_with (go_at_call 48; (refine (hD _).mono ?_); rintro e w1 ⟨rfl, rfl⟩)
                go_ret
                exact ⟨retI Hst.out.symm, (Below.refl _ _).alloc (Nat.le_refl _) _⟩
              · have hst := step (by rw [permB_eq, e4, hd]; rfl)
                have hD := fun w => dataPerm_t hd w
                clear h4 step stop hok hd e4
                go_wp2_with (go_at_call 48; (refine (hD _).mono ?_); rintro e w1 ⟨rfl, rfl⟩)
                go_round
                case rel => exact ⟨k + 1, by omega, by go_num, hst⟩
                case measure => simp [intOf]; omega
        · have hge : ¬ (k : Int) < (P.length : Int) := by omega
          have hst : spE P m = 0 := spE_ok (by
            simp [spB, Hm.out]
            refine ⟨by omega, fun x hx => ?_⟩
            obtain ⟨j, hj, rfl⟩ := List.getElem_of_mem hx
            exact hok.out j hj (by omega))
          have Hst := Lib.hid hst
          clear hst hok HP
          go_wp2_with fail
          go_ret
          exact ⟨retI Hst.out.symm, (Below.refl _ _).alloc (Nat.le_refl _) _⟩
    · rw [spE_bad (by simp [spB, hm])]
      have hm' : ((m : Int) != 64 * (P.length : Int)) = true := by rw [bne_iff_ne]; omega
      clear h32 hm hP
      go_enter Try.func21, Try.ntmps21
      go_wp2
      go_ret
      exact ⟨rfl, (Below.refl _ _).alloc (Nat.le_refl _) _⟩
end Go.Proofs.Ytnapbpfofpaakaa

namespace Go.Proofs.Ytnapbpfofpaakaa
open Go.RowKit

/-- A space in memory. -/
structure SpAt (w : World) (P : List Int) (p : Option Addr) (B : List UInt8) (q : Option Addr) (qc : Nat) : Prop where
  perm : SeqAt w p (iV P)
  byte : SeqAt w q (bV B)
  old : ∀ b o, p = some ⟨b, o, none⟩ → b < w.heap.size
  cap : B.length ≤ qc
theorem SpAt.up {W W' : World} {P : List Int} {p : Option Addr} {B : List UInt8} {q : Option Addr} {qc : Nat} (h : SpAt W P p B q qc) (g : Below W.heap.size W W') : SpAt W' P p B q qc :=
  ⟨h.perm.up g, h.byte.up g, fun b o e => Nat.lt_of_lt_of_le (h.old b o e) g.size, h.cap⟩

/-- The cells of a slice that lies in blocks from a number on. -/
def SeqFar (B : Nat) (w : World) (p : Option Addr) (xs : List Value) : Prop := xs = [] ∨ ∃ b o, p = some ⟨b, o, none⟩ ∧ B ≤ b ∧ ∀ j v, xs[j]? = some v → w.cell? ⟨b, o + j, none⟩ = some v
theorem SeqFar.at {B : Nat} {w : World} {p : Option Addr} {xs : List Value} (h : SeqFar B w p xs) : SeqAt w p xs := by
  rcases h with h | ⟨b, o, hp, hB, h⟩
  · exact .inl h
  · exact .inr ⟨b, o, hp, h⟩
theorem SeqFar.up {B : Nat} {W W' : World} {p : Option Addr} {xs : List Value} (h : SeqFar B W p xs) (g : Below W.heap.size W W') : SeqFar B W' p xs := by
  rcases h with h | ⟨b, o, hp, hB, h⟩
  · exact .inl h
  · exact .inr ⟨b, o, hp, hB, fun j v hj => cell_up g (lt_of_cell (h j v hj)) (h j v hj)⟩
theorem SeqFar.atOf {B : Nat} {W W' : World} {p : Option Addr} {xs : List Value} (h : SeqFar B W p xs) (g : SeqFar B W p xs → SeqFar B W' p xs) : SeqAt W' p xs := (g h).at
theorem SeqFar.alloc {B : Nat} {W : World} {p : Option Addr} {xs : List Value} (h : SeqFar B W p xs) (ob : Obj) : SeqFar B (W.alloc ob) p xs := h.up ((Below.refl _ _).alloc (Nat.le_refl _) _)
theorem SeqFar.more {B : Nat} {W : World} {p : Option Addr} {xs : List Value} (h : SeqFar B W p xs) (os : Array Obj) (n : Nat) : SeqFar B (W.more os n) p xs := h.up (World.more_below _ _ _)
theorem SeqFar.drew {B : Nat} {W : World} {p : Option Addr} {xs : List Value} (h : SeqFar B W p xs) : SeqFar B W.drew p xs := h
theorem SeqFar.set {B : Nat} {W : World} {p : Option Addr} {xs : List Value} (h : SeqFar B W p xs) {a : Addr} (ha : a.block < B) (u : Value) : SeqFar B (W.setCell a u) p xs := by
  rcases h with h | ⟨b, o, hp, hB, h⟩
  · exact .inl h
  · exact .inr ⟨b, o, hp, hB, fun j v hj => by rw [World.cell?_setCell_far _ _ _ _ (by dsimp only; omega)]; exact h j v hj⟩
theorem SeqFar.of_own {w : World} {base n : Nat} {e : TypeId} {v : Value} {xs : List Value} (h : w.ownsRow base e 1 v n xs) : ∃ p c, v = .slice p xs.length c ∧ SeqFar base w p xs := by
  have hl : xs.length = n := by simpa using h.1
  rcases h.2 with ⟨rfl, rfl⟩ | ⟨g, cap, cur, rfl, h2⟩
  · have : xs = [] := List.eq_nil_of_length_eq_zero hl
    subst this
    exact ⟨none, 0, rfl, .inl rfl⟩
  · refine ⟨_, cap, by rw [hl], .inr ⟨g, 0, rfl, h2.1, fun j u hj => ?_⟩⟩
    have := h.cells (g := g) rfl j u hj
    rwa [Addr.add_lit] at this

theorem memoryOf_r (P : List Int) (p : Option Addr) (pc : Nat) (B : List UInt8) (q : Option Addr) (qc : Nat) (w : World) (hm : P.length ≤ 32) (hBl : B.length = 64 * P.length) (hS : SpAt w P p B q qc) :
    Calls Try.prog 56 #[spV p P.length pc q B.length qc] w fun e w' => ∃ q2 c PB, e = .returned (spV p P.length pc q2 P.length c) ∧ (q2 = some ⟨PB, 0, none⟩ ∨ P = []) ∧ SeqAt w' (some ⟨PB, 0, none⟩) (bV B) ∧ PB < w'.heap.size ∧ Below w.heap.size w w' := by
  refine (memoryOf_any P p pc B q qc w hm hBl hS.cap hS.byte).mono ?_
  rintro e w' ⟨v, rfl, hown, hb, hz3⟩
  rcases hown.2 with ⟨rfl, hz⟩ | ⟨g, cap, cur, rfl, h2⟩
  · have hP : P = [] := List.eq_nil_of_length_eq_zero hz
    subst hP
    have hB : B = [] := List.eq_nil_of_length_eq_zero (by simpa using hBl)
    subst hB
    exact ⟨none, 0, 0, rfl, .inr rfl, .inl rfl, by omega, hb⟩
  · have hlt : g < w'.heap.size := by
      rcases h2 with ⟨h2, h3, h4⟩
      rcases Nat.lt_or_ge g w'.heap.size with h' | h'
      · exact h'
      · simp [Array.getElem?_eq_none h'] at h3
    refine ⟨_, cap, g, rfl, .inl rfl, .inr ⟨g, 0, rfl, fun j u hj => ?_⟩, hlt, hb⟩
    have := hown.cells (g := g) rfl j u hj
    rwa [Addr.add_lit] at this

theorem rd_r (P : List Int) (p : Option Addr) (pc : Nat) (B : List UInt8) (q2 : Option Addr) (c2 PB : Nat) (at0 : Int) (n : Nat) (perm : Int) (w : World) (hm : P.length ≤ 32 ∧ B.length = 64 * P.length) (hn : n ≤ 2048) (hS : SeqAt w p (iV P)) (hp : ∀ b o, p = some ⟨b, o, none⟩ → b < w.heap.size)
    (hq : q2 = some ⟨PB, 0, none⟩ ∨ P = []) (pg : SeqAt w (some ⟨PB, 0, none⟩) (bV B)) (hPB : PB < w.heap.size) :
    Calls Try.prog 57 #[spV p P.length pc q2 P.length c2, .int .i64 at0, .int .i64 (n : Int), .int .i64 perm] w fun e w' => ∃ vp vc, e = .returned (.tuple #[.slice vp (goodA P perm at0 n) vc, ftV (fltK P perm at0 n) (fltA P perm at0 n)]) ∧
      SeqFar w.heap.size w' vp (bV (rdL B at0 (goodA P perm at0 n))) ∧ Below w.heap.size w w' := by
  refine (read_any P p pc PB c2 q2 hq at0 n perm B w hm.1 hn hS pg hp hPB hm.2).mono ?_
  rintro e w' ⟨v, rfl, hown, hb⟩
  obtain ⟨vp, vc, rfl, hv⟩ := SeqFar.of_own hown
  rw [bV_len, rdL_len]
  exact ⟨vp, vc, rfl, hv, hb⟩

theorem checkLength_bad (P : List Int) (p : Option Addr) (pc : Nat) (q : Option Addr) (m qc : Nat) (n most : Int) (w : World) (hP : SeqAt w p (iV P)) (hs : spB P m = false) :
    Calls Try.prog 55 #[spV p P.length pc q m qc, .int .i64 n, .int .i64 most] w fun e w' => e = .returned (.int .i64 30) ∧ Below w.heap.size w w' := by
  have hC := fun w (hP : SeqAt w p (iV P)) => mcheck_any P p pc q m qc w hP
  rw [spE_bad hs] at hC
  go_enter Try.func55, Try.ntmps55
  go_wp2_with (go_at_call 21; (refine (hC _ (hP.up (Gr.below (by repeat (first | (with_reducible exact Gr.refl _) | with_reducible refine Gr.alloc ?_ _ | with_reducible refine Gr.more ?_ _ _ | with_reducible refine Gr.setCell ?_ (by dsimp only; omega) _ | with_reducible refine Gr.drew ?_))))).mono ?_); rintro e w1 ⟨rfl, hb⟩; obtain ⟨os, n, rfl⟩ := Below.moreE hb; clear hb)
  go_ret
  exact ⟨rfl, (Gr.below (by repeat (first | (with_reducible exact Gr.refl _) | with_reducible refine Gr.alloc ?_ _ | with_reducible refine Gr.more ?_ _ _ | with_reducible refine Gr.setCell ?_ (by dsimp only; omega) _ | with_reducible refine Gr.drew ?_)))⟩
theorem checkLength_arg (P : List Int) (p : Option Addr) (pc : Nat) (q : Option Addr) (m qc : Nat) (n most : Int) (w : World) (hP : SeqAt w p (iV P)) (hs : spB P m = true) (hn : n < 0 ∨ most < n) :
    Calls Try.prog 55 #[spV p P.length pc q m qc, .int .i64 n, .int .i64 most] w fun e w' => e = .returned (.int .i64 1) ∧ Below w.heap.size w w' := by
  have hC := fun w (hP : SeqAt w p (iV P)) => mcheck_any P p pc q m qc w hP
  rw [spE_ok hs] at hC
  by_cases h0 : n < 0
  · clear hn
    go_enter Try.func55, Try.ntmps55
    go_wp2_with (go_at_call 21; (refine (hC _ (hP.up (Gr.below (by repeat (first | (with_reducible exact Gr.refl _) | with_reducible refine Gr.alloc ?_ _ | with_reducible refine Gr.more ?_ _ _ | with_reducible refine Gr.setCell ?_ (by dsimp only; omega) _ | with_reducible refine Gr.drew ?_))))).mono ?_); rintro e w1 ⟨rfl, hb⟩; obtain ⟨os, n, rfl⟩ := Below.moreE hb; clear hb)
    go_ret
    exact ⟨rfl, (Gr.below (by repeat (first | (with_reducible exact Gr.refl _) | with_reducible refine Gr.alloc ?_ _ | with_reducible refine Gr.more ?_ _ _ | with_reducible refine Gr.setCell ?_ (by dsimp only; omega) _ | with_reducible refine Gr.drew ?_)))⟩
  · have h1 : most < n := hn.resolve_left h0
    clear hn
    go_enter Try.func55, Try.ntmps55
    go_wp2_with (go_at_call 21; (refine (hC _ (hP.up (Gr.below (by repeat (first | (with_reducible exact Gr.refl _) | with_reducible refine Gr.alloc ?_ _ | with_reducible refine Gr.more ?_ _ _ | with_reducible refine Gr.setCell ?_ (by dsimp only; omega) _ | with_reducible refine Gr.drew ?_))))).mono ?_); rintro e w1 ⟨rfl, hb⟩; obtain ⟨os, n, rfl⟩ := Below.moreE hb; clear hb)
    go_ret
    exact ⟨rfl, (Gr.below (by repeat (first | (with_reducible exact Gr.refl _) | with_reducible refine Gr.alloc ?_ _ | with_reducible refine Gr.more ?_ _ _ | with_reducible refine Gr.setCell ?_ (by dsimp only; omega) _ | with_reducible refine Gr.drew ?_)))⟩
theorem checkLength_ok (P : List Int) (p : Option Addr) (pc : Nat) (q : Option Addr) (m qc : Nat) (n most : Int) (w : World) (hP : SeqAt w p (iV P)) (hs : spB P m = true) (h0 : ¬ n < 0) (h1 : ¬ most < n) :
    Calls Try.prog 55 #[spV p P.length pc q m qc, .int .i64 n, .int .i64 most] w fun e w' => e = .returned (.int .i64 0) ∧ Below w.heap.size w w' := by
  have hC := fun w (hP : SeqAt w p (iV P)) => mcheck_any P p pc q m qc w hP
  rw [spE_ok hs] at hC
  go_enter Try.func55, Try.ntmps55
  go_wp2_with (go_at_call 21; (refine (hC _ (hP.up (Gr.below (by repeat (first | (with_reducible exact Gr.refl _) | with_reducible refine Gr.alloc ?_ _ | with_reducible refine Gr.more ?_ _ _ | with_reducible refine Gr.setCell ?_ (by dsimp only; omega) _ | with_reducible refine Gr.drew ?_))))).mono ?_); rintro e w1 ⟨rfl, hb⟩; obtain ⟨os, n, rfl⟩ := Below.moreE hb; clear hb)
  go_ret
  exact ⟨rfl, (Gr.below (by repeat (first | (with_reducible exact Gr.refl _) | with_reducible refine Gr.alloc ?_ _ | with_reducible refine Gr.more ?_ _ _ | with_reducible refine Gr.setCell ?_ (by dsimp only; omega) _ | with_reducible refine Gr.drew ?_)))⟩
end Go.Proofs.Ytnapbpfofpaakaa

namespace Go.Proofs.Ytnapbpfofpaakaa
open Go.RowKit Go.Shelf

/-- What 'caught' hands on of a write. -/
def WriteR (w : World) (P : List Int) (at0 : Int) (bs : List UInt8) (perm : Int) (B : List UInt8) (PB : Nat) (k a : Int) (w' : World) : Prop :=
  SeqAt w' (some ⟨PB, 0, none⟩) (bV (wrL B at0 bs (goodA P perm at0 bs.length))) ∧ Caught PB w w' ∧ k = fltK P perm at0 bs.length ∧ a = fltA P perm at0 bs.length
theorem WriteEnd.toR {w : World} {P : List Int} {at0 : Int} {bs : List UInt8} {perm : Int} {B : List UInt8} {PB : Nat} {e : Ending} {w' : World} (h : WriteEnd w P at0 bs perm B PB e w') :
    (e = .returned (.tuple #[]) ∧ WriteR w P at0 bs perm B PB 0 0 w') ∨ ∃ k a, e = .panicked (chV k a) ∧ WriteR w P at0 bs perm B PB k a w' := by
  obtain ⟨k, h1, h3, h4, (⟨hk, he⟩ | ⟨hk, hne, he⟩)⟩ := h
  · have hg := good_of h3 (.inl hk)
    exact .inl ⟨he, by rw [hg]; exact h1, h4, by simp [fltK, hg, hk], by simp [fltA, hg, hk]⟩
  · have hg := good_of h3 (.inr ⟨hk, hne⟩)
    have hne' : k ≠ bs.length := by omega
    exact .inr ⟨_, _, he, by rw [hg]; exact h1, h4, by simp [fltK, hg, hne'], by simp [fltA, hg, hne']⟩

theorem write_caught (P : List Int) (p : Option Addr) (pc PB qc : Nat) (q : Option Addr) (hq : q = some ⟨PB, 0, none⟩ ∨ P = []) (at0 : Int) (bs : List UInt8) (bq : Option Addr) (bc : Nat) (perm : Int) (B : List UInt8) (cm ca cb cp : Nat) (w : World) (hm : P.length ≤ 32) (hn : bs.length ≤ 2048)
    (m0 : w.cell? ⟨cm, 0, none⟩ = some (.slice p P.length pc)) (m1 : w.cell? ⟨cm, 1, none⟩ = some (.slice q P.length qc)) (a0 : w.cell? ⟨ca, 0, none⟩ = some (.int .i64 at0)) (b0 : w.cell? ⟨cb, 0, none⟩ = some (.slice bq bs.length bc)) (p0 : w.cell? ⟨cp, 0, none⟩ = some (.int .i64 perm))
    (ps : SeqAt w p (iV P)) (pg : SeqAt w (some ⟨PB, 0, none⟩) (bV B)) (fz : ∀ j, j < B.length → w.frozen? ⟨PB, j, none⟩ = false) (byt : SeqAt w bq (bV bs))
    (hp : ∀ b o, p = some ⟨b, o, none⟩ → b ≠ PB) (hbq : ∀ b o, bq = some ⟨b, o, none⟩ → b ≠ PB) (hcb : cb ≠ PB) (hPB : PB < w.heap.size) (hBl : B.length = 64 * P.length) :
    Calls Try.prog 58 #[.func (.func 90) #[] #[.pointer (some ⟨cm, 0, none⟩), .pointer (some ⟨ca, 0, none⟩), .pointer (some ⟨cb, 0, none⟩), .pointer (some ⟨cp, 0, none⟩)]] w fun e w' =>
      e = .returned (ftV (fltK P perm at0 bs.length) (fltA P perm at0 bs.length)) ∧ SeqAt w' (some ⟨PB, 0, none⟩) (bV (wrL B at0 bs (goodA P perm at0 bs.length))) ∧ Caught PB w w' := by
  have hb1 : Below w.heap.size w (w.alloc (.cells #[.int .i64 0, .int .i64 0] 34)) := (Below.refl _ w).alloc (Nat.le_refl _) _
  have up : ∀ {b o : Nat} {v : Value}, w.cell? ⟨b, o, none⟩ = some v → (w.alloc (.cells #[.int .i64 0, .int .i64 0] 34)).cell? ⟨b, o, none⟩ = some v := fun h => cell_up hb1 (lt_of_cell h) h
  have H := write1_any P p pc PB qc q hq at0 bs bq bc perm B cm ca cb cp _ hm hn (up m0) (up m1) (up a0) (up b0) (up p0) (ps.up hb1) (pg.up hb1) (fun j hj => by rw [hb1.frozen hPB]; exact fz j hj) (byt.up hb1) hp hbq hcb (by simp; omega) hBl
  refine (caught_any 90 _ (enters_of Try.func90 (by kernel_rfl) rfl) w (WriteR (w.alloc (.cells #[.int .i64 0, .int .i64 0] 34)) P at0 bs perm B PB) ?_).mono ?_
  · refine H.mono fun e w' h => ?_
    have hz : w.heap.size < (w.alloc (.cells #[.int .i64 0, .int .i64 0] 34)).heap.size := by simp
    have h4 : Caught PB (w.alloc (.cells #[.int .i64 0, .int .i64 0] 34)) w' := by obtain ⟨_, _, _, h4, _⟩ := h; exact h4
    refine ⟨Nat.lt_of_lt_of_le hz h4.size, ?_, h.toR⟩
    rw [h4.other _ hz (by omega)]
    exact World.alloc_heap_new w _
  · rintro e w' ⟨k, a, wm, rfl, ⟨h1, h3, rfl, rfl⟩, hc⟩
    have hz : (w.alloc (.cells #[.int .i64 0, .int .i64 0] 34)).heap.size = w.heap.size + 1 := by simp
    have hle := h3.size
    refine ⟨rfl, ?_, ?_⟩
    · rcases h1 with h1 | ⟨b, o, e, h1⟩
      · exact .inl h1
      · exact .inr ⟨b, o, e, fun j v hj => hc.cell (by injection e with e; injection e with e1 e2; omega) (h1 j v hj)⟩
    · refine ⟨hc.os.trans (h3.os.trans hb1.os), hc.tape.trans (h3.tape.trans hb1.tape), hc.output.trans (h3.output.trans hb1.output), by have := hc.size; omega, fun k hk hne => ?_⟩
      rw [hc.other k (by omega) (by omega), h3.other k (by omega) hne]
      exact hb1.block k hk

set_option maxRecDepth 100000 in
set_option maxHeartbeats 1000000 in
theorem write_any (P : List Int) (p : Option Addr) (pc PB qc : Nat) (q : Option Addr) (hq : q = some ⟨PB, 0, none⟩ ∨ P = []) (at0 : Int) (bs : List UInt8) (bq : Option Addr) (bc : Nat) (perm : Int) (B : List UInt8) (w : World) (hm : P.length ≤ 32) (hn : bs.length ≤ 2048)
    (ps : SeqAt w p (iV P)) (pg : SeqAt w (some ⟨PB, 0, none⟩) (bV B)) (fz : ∀ j, j < B.length → w.frozen? ⟨PB, j, none⟩ = false) (byt : SeqAt w bq (bV bs))
    (hp : ∀ b o, p = some ⟨b, o, none⟩ → b ≠ PB) (hbq : ∀ b o, bq = some ⟨b, o, none⟩ → b ≠ PB) (hPB : PB < w.heap.size) (hBl : B.length = 64 * P.length) :
    Calls Try.prog 81 #[spV p P.length pc q P.length qc, .int .i64 at0, .slice bq bs.length bc, .int .i64 perm] w fun e w' =>
      e = .returned (ftV (fltK P perm at0 bs.length) (fltA P perm at0 bs.length)) ∧ SeqAt w' (some ⟨PB, 0, none⟩) (bV (wrL B at0 bs (goodA P perm at0 bs.length))) ∧ Caught PB w w' := by
  have hmf : ∀ (fn : Fn) (first cap : Array Value) (w : World), (Instr.makeFunc fn first cap).run Try.prog w = .ok (.func fn first cap) w := fun _ _ _ _ => rfl
  go_enter Try.func81, Try.ntmps81
  go_wp2_with fail
  obtain ⟨W0, hW0⟩ : ∃ W0 : World, W0 = (((((w.alloc (.cells #[.slice p P.length pc, .slice q P.length qc] 106)).alloc (.cells #[.int .i64 at0] 2)).alloc (.cells #[.slice bq bs.length bc] 23)).alloc (.cells #[.int .i64 perm] 3)).alloc (.cells #[.int .i64 0, .int .i64 0] 34)) := ⟨_, rfl⟩
  have hb6 : Below w.heap.size w W0 := by
    rw [hW0]; exact (((((Below.refl _ w).alloc (Nat.le_refl _) _).alloc (by simp) _).alloc (by simp; omega) _).alloc (by simp; omega) _).alloc (by simp; omega) _
  have hz6 : W0.heap.size = w.heap.size + 1 + 1 + 1 + 1 + 1 := by rw [hW0]; simp
  have x0 : W0.cell? ⟨w.heap.size, 0, none⟩ = some (.slice p P.length pc) := by rw [hW0]; go_simp
  have x1 : W0.cell? ⟨w.heap.size, 1, none⟩ = some (.slice q P.length qc) := by rw [hW0]; go_simp
  have x2 : W0.cell? ⟨w.heap.size + 1, 0, none⟩ = some (.int .i64 at0) := by rw [hW0]; go_simp
  have x3 : W0.cell? ⟨w.heap.size + 1 + 1, 0, none⟩ = some (.slice bq bs.length bc) := by rw [hW0]; go_simp
  have x4 : W0.cell? ⟨w.heap.size + 1 + 1 + 1, 0, none⟩ = some (.int .i64 perm) := by rw [hW0]; go_simp
  have r0 : W0.cell? ⟨w.heap.size + 1 + 1 + 1 + 1, 0, none⟩ = some (.int .i64 0) := by rw [hW0]; go_simp
  have r1 : W0.cell? ⟨w.heap.size + 1 + 1 + 1 + 1, 1, none⟩ = some (.int .i64 0) := by rw [hW0]; go_simp
  have f0 : W0.frozen? ⟨w.heap.size + 1 + 1 + 1 + 1, 0, none⟩ = false := by rw [hW0]; go_simp
  have f1 : W0.frozen? ⟨w.heap.size + 1 + 1 + 1 + 1, 1, none⟩ = false := by rw [hW0]; go_simp
  rw [← hW0]
  clear hW0
  refine (write_caught P p pc PB qc q hq at0 bs bq bc perm B _ _ _ _ W0 hm hn x0 x1 x2 x3 x4 (ps.up hb6) (pg.up hb6) (fun j hj => by rw [hb6.frozen hPB]; exact fz j hj) (byt.up hb6) hp hbq (by omega) (by omega) hBl).mono ?_
  rintro e w1 ⟨rfl, hpg, hbut⟩
  replace r0 := hbut.cell (by omega) r0
  replace r1 := hbut.cell (by omega) r1
  have hz1 := hbut.size
  have o4 := hbut.other (w.heap.size + 1 + 1 + 1 + 1) (by omega) (by omega)
  replace f0 : w1.frozen? ⟨w.heap.size + 1 + 1 + 1 + 1, 0, none⟩ = false := (World.frozen?_of_block (w := W0) o4).trans f0
  replace f1 : w1.frozen? ⟨w.heap.size + 1 + 1 + 1 + 1, 1, none⟩ = false := (World.frozen?_of_block (w := W0) o4).trans f1
  have hB1 : Caught PB w w1 := ⟨hbut.os.trans hb6.os, hbut.tape.trans hb6.tape, hbut.output.trans hb6.output, by omega, fun k hk hne => (hbut.other k (by omega) hne).trans (hb6.block k hk)⟩
  clear x0 x1 x2 x3 x4 o4 hbut ps pg hb6
  go_wp2
  refine bodyPost_ret (v := ftV (fltK P perm at0 bs.length) (fltA P perm at0 bs.length)) (by simp [results, Try.results81, go_sem, *]) rfl ⟨rfl, ?_, ?_⟩
  · exact seq_far (seq_far hpg (fun b o e => by injection e with e; injection e with e1 e2; omega) _ _) (fun b o e => by injection e with e; injection e with e1 e2; omega) _ _
  · refine ⟨hB1.os, hB1.tape, hB1.output, by simp; omega, fun k hk hne => ?_⟩
    rw [Below.heap_setCell _ _ _ _ (by dsimp only; omega), Below.heap_setCell _ _ _ _ (by dsimp only; omega)]
    exact hB1.other k hk hne
end Go.Proofs.Ytnapbpfofpaakaa

namespace Go.Proofs.Ytnapbpfofpaakaa
open Go.RowKit Go.Shelf

theorem below_setCells {B : Nat} {a : World} (b : Nat) (hb : B ≤ b) : ∀ (vs : List Value) (o : Nat) (w : World), Below B a w → Below B a (w.setCells b o vs) ∧ (w.setCells b o vs).heap.size = w.heap.size
  | [], o, w, h => ⟨h, rfl⟩
  | v :: vs, o, w, h => by
    have := below_setCells b hb vs (o + 1) (w.setCell ⟨b, o, none⟩ v) (h.setCell hb v)
    exact ⟨this.1, this.2.trans (by rw [World.size_setCell])⟩
theorem there_new (w : World) (Z : Array Value) (t : TypeId) (n : Nat) (hz : Z.size = n) : (w.alloc (.cells Z t)).there w.heap.size 0 n := by
  intro j hj
  have hb := World.alloc_heap_new w (.cells Z t)
  refine ⟨?_, ?_⟩
  · unfold World.cell?
    rw [hb]
    simp [hz, hj]
  · unfold World.frozen?
    rw [hb]
    simp
theorem page_world {w W4 : World} {Z : Array Value} {t : TypeId} {L : List Value} (hz : Z.size = 64) (hL : L.length = 64) (h : (w.alloc (.cells Z t)).setCells w.heap.size 0 L = W4) :
    Below w.heap.size w W4 ∧ W4.heap.size = w.heap.size + 1 ∧ (∀ j u, L[j]? = some u → W4.cell? ((⟨w.heap.size, 0, none⟩ : Addr).add j) = some u) := by
  have h1 := below_setCells (B := w.heap.size) (a := w) w.heap.size (Nat.le_refl _) L 0 _ ((Below.refl _ w).alloc (Nat.le_refl _) (.cells Z t))
  have h2 := World.rangeAt_setCells_same (w.alloc (.cells Z t)) w.heap.size 0 L (there_new w Z t _ (by omega))
  subst h
  refine ⟨h1.1, h1.2.trans (by simp), fun j u hj => ?_⟩
  rw [Addr.add_mid]
  exact h2 j u hj

theorem own_below {w w' : World} {base sz : Nat} {e : TypeId} {v : Value} {n : Nat} {xs : List Value} (h : w.ownsRow base e sz v n xs) (g : Below w.heap.size w w') : w'.ownsRow base e sz v n xs := by
  obtain ⟨h1, h2⟩ := h
  refine ⟨h1, ?_⟩
  rcases h2 with h2 | ⟨gg, cap, cur, hv, hbg, hg, h3⟩
  · exact .inl h2
  · exact .inr ⟨gg, cap, cur, hv, hbg, (g.block gg (lt_heap hg)).trans hg, h3⟩
theorem pd_grown {w w' : World} {a : Addr} {u : Value} {q : Option Nat} (h : w.cell? a = some u) (f : w.frozen? a = false) (g : w.drew.grownBy w' q) (ha : some a.block ≠ q) : w'.cell? a = some u ∧ w'.frozen? a = false := by
  have hlt : a.block < w.drew.heap.size := World.block_lt_of_cell? w a h
  exact ⟨by rw [g.cell_far a hlt ha]; exact h, by rw [g.frozen_far a hlt ha]; exact f⟩

set_option maxRecDepth 100000 in
set_option maxHeartbeats 2000000 in
theorem space_any (P : List Int) (p : Option Addr) (pc PB qc : Nat) (q : Option Addr) (hq : q = some ⟨PB, 0, none⟩ ∨ P = []) (B : List UInt8) (w : World) (hm : P.length ≤ 32)
    (ps : SeqAt w p (iV P)) (pg : SeqAt w (some ⟨PB, 0, none⟩) (bV B)) (hBl : B.length = 64 * P.length) :
    Calls Try.prog 82 #[spV p P.length pc q P.length qc] w fun e w' => ∃ sq sc v, e = .returned (.agg #[.slice sq P.length sc, v]) ∧ w'.ownsRow w.heap.size 3 1 (.slice sq P.length sc) P.length (iV P) ∧ w'.ownsRow w.heap.size 5 1 v (64 * P.length) (bV B) ∧ Below w.heap.size w w' := by
  obtain ⟨i0, hi, hz0, hz1, hz2⟩ := info_parts A_infoB
  have hl : (P.length : Int) ≤ 32 := by omega
  have HB := Lib.hid hBl
  have HG := Lib.hid pg
  have HP := Lib.hid ps
  clear hBl pg ps
  go_enter Try.func82, Try.ntmps82
  go_wp2_with (go_at_call 71; (refine (clone_ints P p pc _ (by omega) (HP.out.up (Gr.below (by repeat (first | (with_reducible exact Gr.refl _) | with_reducible refine Gr.alloc ?_ _ | with_reducible refine Gr.more ?_ _ _ | with_reducible refine Gr.setCell ?_ (by dsimp only; omega) _ | with_reducible refine Gr.drew ?_))))).mono ?_); rintro e w1 ⟨vp, rfl, hvp, hb⟩; obtain ⟨sq, sc, rfl⟩ := own_sl hvp; have hb2 : Below w.heap.size w w1 := Below.trans (Gr.below (by repeat (first | (with_reducible exact Gr.refl _) | with_reducible refine Gr.alloc ?_ _ | with_reducible refine Gr.more ?_ _ _ | with_reducible refine Gr.setCell ?_ (by dsimp only; omega) _ | with_reducible refine Gr.drew ?_))) (hb.mono (by simp; omega)); have c1 : w1.cell? ⟨w.heap.size, 1, none⟩ = some (.slice q P.length qc) := (by rw [hb.cell (by simp; omega)]; go_simp); have r0 : w1.cell? ⟨w.heap.size + 1, 0, none⟩ = some (.slice none 0 0) := (by rw [hb.cell (by simp)]; go_simp); have r1 : w1.cell? ⟨w.heap.size + 1, 1, none⟩ = some (.slice none 0 0) := (by rw [hb.cell (by simp)]; go_simp); have f0 : w1.frozen? ⟨w.heap.size + 1, 0, none⟩ = false := (by rw [hb.frozen (by simp)]; go_simp); have f1 : w1.frozen? ⟨w.heap.size + 1, 1, none⟩ = false := (by rw [hb.frozen (by simp)]; go_simp); have hz := hb.size; simp at hz; clear hb)
  have hu := Try.underlying124
  go_loopw [13] (fun i wr => ∃ k : Nat, k ≤ P.length ∧ i = .int .i64 (k : Int) ∧ wr.cell? ⟨w1.heap.size, 0, none⟩ = some (.slice sq P.length sc) ∧ (∃ v, wr.cell? ⟨w1.heap.size, 1, none⟩ = some v ∧ wr.frozen? ⟨w1.heap.size, 1, none⟩ = false ∧ wr.ownsRow (w1.heap.size + 1) 5 1 v (64 * k) ((bV B).take (64 * k))) ∧
      w1.heap.size + 1 ≤ wr.heap.size ∧ Below w1.heap.size w1 wr) (fun i _ => P.length - (intOf i).toNat)
  case atStart =>
    exact ⟨0, Nat.zero_le _, rfl, by go_simp, ⟨_, by go_simp, by go_simp, World.ownsRow_nil _ _ _ _⟩, by simp, (Below.refl _ w1).alloc (Nat.le_refl _) _⟩
  case round =>
    obtain ⟨k, hk, rfl, s0, ⟨v, s1, g1, hown⟩, hzr, hB⟩ := hrel
    by_cases hlt : k < P.length
    · have hlt' : (k : Int) < (P.length : Int) := by omega
      have hBl := HB.out
      have hpl := pgV_len (B := B) (k := k) (by omega)
      have hp1 := pgV_one B k
      have hi' : (Try.prog.info? 124).map (·.size) = some (pgV B k).length := by rw [hpl]; kernel_rfl
      have hq' : q = some ⟨PB, 0, none⟩ := hq.resolve_right (fun e => by subst e; simp at hlt)
      subst hq'
      have hrg : wr.rangeAt PB (k * 64) (pgV B k) := by
        intro j u hj
        have hj2 : (bV B)[64 * k + j]? = some u := by
          unfold pgV at hj
          rw [List.getElem?_take] at hj
          split at hj
          · rwa [List.getElem?_drop] at hj
          · cases hj
        have hjl : 64 * k + j < B.length := by
          have := (List.getElem?_eq_some_iff.1 hj2).1
          simpa [bV] using this
        rw [bV_get B _ hjl] at hj2
        have hcc := HG.out.pages hjl
        rw [Nat.mul_comm k 64, ← hj2]
        exact cell_up (hb2.trans (hB.mono hb2.size)) (lt_of_cell hcc) hcc
      clear hBl hq
      go_wp2_with first | (refine wpList_load_mid rfl 124 _ rfl _ _ rfl (pgV B k) _ ?hrg hu rfl hi' ?_; (case hrg => first | exact hrg | simpa using hrg)) | (refine wpList_store_mid rfl 124 _ _ rfl _ _ _ rfl rfl ?ht ?hi2 (all_oneCell_toArray hp1) ?_; (case ht => exact there_new _ _ _ _ (by simp [hpl])); (case hi2 => simpa using hi'))
      generalize hW4 : World.setCells _ _ _ _ = W4
      obtain ⟨b4, z4, n4⟩ := page_world rfl hpl hW4
      clear hW4
      replace s0 := cell_up b4 (lt_of_cell s0) s0
      have l1 := lt_of_cell s1
      replace s1 := cell_up b4 l1 s1
      replace g1 : W4.frozen? ⟨w1.heap.size, 1, none⟩ = false := by rw [b4.frozen l1]; exact g1
      replace hown := own_below hown b4
      have hB4 : Below w1.heap.size w1 W4 := hB.trans (b4.mono hB.size)
      have hge : ∀ j, v.ownBlock = some j → w1.heap.size + 1 ≤ j := fun j hj => (hown.lt j hj).1
      have hne1 : some (⟨w1.heap.size, 1, none⟩ : Addr).block ≠ v.ownBlock := fun e => absurd (hge _ e.symm) (by dsimp only; omega)
      clear hrg hB b4 l1
      simp only [Act.put]
      go_region_law ((refine step_append_lies _ (by rfl) _ _ 23 (by rfl) (w1.heap.size + 1) 5 i0 _ 1 1 Try.underlying23 hi hz0 hz1 hz2 (by rfl) (by decide) v (64 * k) ((bV B).take (64 * k)) (by rfl) hown ⟨wr.heap.size, 0, none⟩ 64 64 (pgV B k) (by rfl) hpl n4 hp1 (by decide) (by unfold maxLen; omega) (by omega) (by simp; omega) _ rfl ?_; intro g cap w5 hown5 hgrow hat hlt5; have hst := pd_grown s1 g1 hgrow hne1; obtain ⟨hst1, hst2⟩ := hst))
      go_wp2_with fail
      have e0 : (w5.setCell ⟨w1.heap.size, 1, none⟩ (.slice (some ⟨g, 0, none⟩) (64 * k + 64) cap)).cell? ⟨w1.heap.size, 0, none⟩ = some (.slice sq P.length sc) := by
        rw [World.cell?_setCell_other _ _ _ _ (by simp), hgrow.cell_far ⟨w1.heap.size, 0, none⟩ (World.block_lt_of_cell? W4 _ s0) hne1]
        exact s0
      have e1 : (w5.setCell ⟨w1.heap.size, 1, none⟩ (.slice (some ⟨g, 0, none⟩) (64 * k + 64) cap)).cell? ⟨w1.heap.size, 1, none⟩ = some (.slice (some ⟨g, 0, none⟩) (64 * k + 64) cap) := cell_put hst1 _
      have e2 : (w5.setCell ⟨w1.heap.size, 1, none⟩ (.slice (some ⟨g, 0, none⟩) (64 * k + 64) cap)).frozen? ⟨w1.heap.size, 1, none⟩ = false := by rw [World.frozen?_setCell]; exact hst2
      have e3 : (w5.setCell ⟨w1.heap.size, 1, none⟩ (.slice (some ⟨g, 0, none⟩) (64 * k + 64) cap)).ownsRow (w1.heap.size + 1) 5 1 (.slice (some ⟨g, 0, none⟩) (64 * k + 64) cap) (64 * (k + 1)) ((bV B).take (64 * (k + 1))) := by
        rw [← pgV_snoc (by have := HB.out; omega), show 64 * (k + 1) = 64 * k + 64 by omega]
        exact own_setN hown5 (by omega) _ _
      have z5 : w1.heap.size + 1 ≤ w5.heap.size := by have := hgrow.size; have h6 : W4.drew.heap.size = W4.heap.size := rfl; omega
      have e4 : Below w1.heap.size w1 (w5.setCell ⟨w1.heap.size, 1, none⟩ (.slice (some ⟨g, 0, none⟩) (64 * k + 64) cap)) :=
        ((hB4.drew).grown hgrow (by show w1.heap.size ≤ W4.heap.size; omega) (fun j hj => by have := hge j hj; omega)).setCell (Nat.le_refl _) _
      exact ⟨⟨k + 1, hlt, by push_cast; rfl, e0, ⟨_, e1, e2, e3⟩, by rw [World.size_setCell]; exact z5, e4⟩, by show P.length - ((k : Int) + 1).toNat < P.length - (k : Int).toNat; omega⟩
    · have hkl : k = P.length := by omega
      subst hkl
      have hBl := HB.out
      have hbt : (bV B).take (64 * P.length) = bV B := by rw [← hBl]; exact List.take_of_length_le (by simp [bV])
      rw [hbt] at hown
      clear hBl hbt
      obtain ⟨q2, c2, rfl⟩ := own_sl hown
      have lr := lt_of_cell r0
      replace r0 := cell_up hB lr r0
      replace r1 := cell_up hB lr r1
      replace f0 : wr.frozen? ⟨w.heap.size + 1, 0, none⟩ = false := by rw [hB.frozen lr]; exact f0
      replace f1 : wr.frozen? ⟨w.heap.size + 1, 1, none⟩ = false := by rw [hB.frozen lr]; exact f1
      go_wp2_with fail
      refine bodyPost_ret (v := .agg #[.slice sq P.length sc, .slice q2 (64 * P.length) c2]) (by simp [results, Try.results82, go_sem, *]) rfl ⟨_, _, _, rfl, ?_, ?_, ?_⟩
      · exact ownsRow_mono (by simp; omega) (own_setN (own_setN (own_below hvp hB) (by simp) _ _) (by simp) _ _)
      · exact ownsRow_mono (by omega) (own_setN (own_setN hown (by omega) _ _) (by omega) _ _)
      · exact ((hb2.trans (hB.mono hb2.size)).setCell (by dsimp only; omega) _).setCell (by dsimp only; omega) _
end Go.Proofs.Ytnapbpfofpaakaa

namespace Go.Proofs.Ytnapbpfofpaakaa
open Go.RowKit

set_option maxHeartbeats 1000000 in
theorem access_bad (P : List Int) (p : Option Addr) (pc : Nat) (q : Option Addr) (m qc : Nat) (at0 n perm : Int) (w : World) (hP : SeqAt w p (iV P)) (hs : spB P m = false) :
    Calls Try.prog 25 #[spV p P.length pc q m qc, .int .i64 at0, .int .i64 n, .int .i64 perm] w fun e w' => e = .returned (.tuple #[ftV 0 0, .int .i64 30]) ∧ Below w.heap.size w w' := by
  go_enter Try.func25, Try.ntmps25
  go_wp2_with (go_at_call 55; (refine (checkLength_bad P p pc q m qc _ _ _ (hP.up (Gr.below (by repeat (first | (with_reducible exact Gr.refl _) | with_reducible refine Gr.alloc ?_ _ | with_reducible refine Gr.more ?_ _ _ | with_reducible refine Gr.setCell ?_ (by dsimp only; omega) _ | with_reducible refine Gr.drew ?_)))) hs).mono ?_); rintro e w1 ⟨rfl, hb⟩; obtain ⟨os, n, rfl⟩ := Below.moreE hb; clear hb)
  refine bodyPost_ret (v := .tuple #[ftV 0 0, .int .i64 30]) (by simp [results, Try.results25, go_sem, *]) rfl ⟨rfl, (Gr.below (by repeat (first | (with_reducible exact Gr.refl _) | with_reducible refine Gr.alloc ?_ _ | with_reducible refine Gr.more ?_ _ _ | with_reducible refine Gr.setCell ?_ (by dsimp only; omega) _ | with_reducible refine Gr.drew ?_)))⟩
set_option maxHeartbeats 1000000 in
theorem access_arg (P : List Int) (p : Option Addr) (pc : Nat) (q : Option Addr) (m qc : Nat) (at0 n perm : Int) (w : World) (hP : SeqAt w p (iV P)) (hs : spB P m = true) (hn : n < 0 ∨ 2048 < n) :
    Calls Try.prog 25 #[spV p P.length pc q m qc, .int .i64 at0, .int .i64 n, .int .i64 perm] w fun e w' => e = .returned (.tuple #[ftV 0 0, .int .i64 1]) ∧ Below w.heap.size w w' := by
  go_enter Try.func25, Try.ntmps25
  go_wp2_with (go_at_call 55; (refine (checkLength_arg P p pc q m qc _ _ _ (hP.up (Gr.below (by repeat (first | (with_reducible exact Gr.refl _) | with_reducible refine Gr.alloc ?_ _ | with_reducible refine Gr.more ?_ _ _ | with_reducible refine Gr.setCell ?_ (by dsimp only; omega) _ | with_reducible refine Gr.drew ?_)))) hs hn).mono ?_); rintro e w1 ⟨rfl, hb⟩; obtain ⟨os, n, rfl⟩ := Below.moreE hb; clear hb)
  refine bodyPost_ret (v := .tuple #[ftV 0 0, .int .i64 1]) (by simp [results, Try.results25, go_sem, *]) rfl ⟨rfl, (Gr.below (by repeat (first | (with_reducible exact Gr.refl _) | with_reducible refine Gr.alloc ?_ _ | with_reducible refine Gr.more ?_ _ _ | with_reducible refine Gr.setCell ?_ (by dsimp only; omega) _ | with_reducible refine Gr.drew ?_)))⟩
set_option maxHeartbeats 1000000 in
theorem access_perm (P : List Int) (p : Option Addr) (pc : Nat) (q : Option Addr) (m qc : Nat) (at0 n perm : Int) (w : World) (hP : SeqAt w p (iV P)) (hs : spB P m = true) (h0 : ¬ n < 0) (h1 : ¬ (2048 : Int) < n) (hp1 : (perm != 1) = true) (hp2 : (perm != 2) = true) (hp4 : (perm != 4) = true) :
    Calls Try.prog 25 #[spV p P.length pc q m qc, .int .i64 at0, .int .i64 n, .int .i64 perm] w fun e w' => e = .returned (.tuple #[ftV 0 0, .int .i64 1]) ∧ Below w.heap.size w w' := by
  go_enter Try.func25, Try.ntmps25
  go_wp2_with (go_at_call 55; (refine (checkLength_ok P p pc q m qc _ _ _ (hP.up (Gr.below (by repeat (first | (with_reducible exact Gr.refl _) | with_reducible refine Gr.alloc ?_ _ | with_reducible refine Gr.more ?_ _ _ | with_reducible refine Gr.setCell ?_ (by dsimp only; omega) _ | with_reducible refine Gr.drew ?_)))) hs h0 h1).mono ?_); rintro e w1 ⟨rfl, hb⟩; obtain ⟨os, n, rfl⟩ := Below.moreE hb; clear hb)
  refine bodyPost_ret (v := .tuple #[ftV 0 0, .int .i64 1]) (by simp [results, Try.results25, go_sem, *]) rfl ⟨rfl, (Gr.below (by repeat (first | (with_reducible exact Gr.refl _) | with_reducible refine Gr.alloc ?_ _ | with_reducible refine Gr.more ?_ _ _ | with_reducible refine Gr.setCell ?_ (by dsimp only; omega) _ | with_reducible refine Gr.drew ?_)))⟩
theorem spB_len {P : List Int} {m : Nat} (h : spB P m = true) : P.length ≤ 32 ∧ m = 64 * P.length := by
  simp [spB] at h
  exact ⟨h.1.1, h.1.2⟩
set_option maxHeartbeats 2000000 in
theorem access_ok (P : List Int) (p : Option Addr) (pc : Nat) (B : List UInt8) (q : Option Addr) (qc : Nat) (at0 : Int) (n : Nat) (perm : Int) (w : World) (hS : SpAt w P p B q qc) (hs : spB P B.length = true) (hn : n ≤ 2048) (hp : perm = 1 ∨ perm = 2 ∨ perm = 4) :
    Calls Try.prog 25 #[spV p P.length pc q B.length qc, .int .i64 at0, .int .i64 (n : Int), .int .i64 perm] w fun e w' => e = .returned (.tuple #[ftV (fltK P perm at0 n) (fltA P perm at0 n), .int .i64 0]) ∧ Below w.heap.size w w' := by
  have h0 : ¬ (n : Int) < 0 := by omega
  have h1 : ¬ (2048 : Int) < (n : Int) := by omega
  have HL := Lib.hid (spB_len hs)
  have HO := Lib.hid hn
  have HS := Lib.hid hS
  clear hn
  have R : ∀ W, Below w.heap.size w W → Calls Try.prog 56 #[spV p P.length pc q B.length qc] W fun e w' => ∃ q2 c PB, e = .returned (spV p P.length pc q2 P.length c) ∧ (q2 = some ⟨PB, 0, none⟩ ∨ P = []) ∧ SeqAt w' (some ⟨PB, 0, none⟩) (bV B) ∧ PB < w'.heap.size ∧ Below W.heap.size W w' := fun W hW => memoryOf_r P p pc B q qc W HL.out.1 HL.out.2 (hS.up hW)
  have R2 : ∀ q2 c2 PB perm W, Below w.heap.size w W → (q2 = some ⟨PB, 0, none⟩ ∨ P = []) → SeqAt W (some ⟨PB, 0, none⟩) (bV B) → PB < W.heap.size → Calls Try.prog 57 #[spV p P.length pc q2 P.length c2, .int .i64 at0, .int .i64 (n : Int), .int .i64 perm] W fun e w' => ∃ vp vc, e = .returned (.tuple #[.slice vp (goodA P perm at0 n) vc, ftV (fltK P perm at0 n) (fltA P perm at0 n)]) ∧
      SeqFar W.heap.size w' vp (bV (rdL B at0 (goodA P perm at0 n))) ∧ Below W.heap.size W w' := fun q2 c2 PB perm W hW h1 h2 h3 => rd_r P p pc B q2 c2 PB at0 n perm W HL.out HO.out (HS.out.up hW).perm (HS.out.up hW).old h1 h2 h3
  rcases hp with rfl | rfl | rfl
  all_goals
    go_enter Try.func25, Try.ntmps25
    go_wp2_with first | (go_at_call 55; (refine (checkLength_ok P p pc q B.length qc _ _ _ (hS.perm.up (Gr.below (by repeat (first | (with_reducible exact Gr.refl _) | with_reducible refine Gr.alloc ?_ _ | with_reducible refine Gr.more ?_ _ _ | with_reducible refine Gr.setCell ?_ (by dsimp only; omega) _ | with_reducible refine Gr.drew ?_)))) hs h0 h1).mono ?_); rintro e w1 ⟨rfl, hb⟩; obtain ⟨os, n, rfl⟩ := Below.moreE hb; clear hb) | (go_at_call 56; (refine (R _ (Gr.below (by repeat (first | (with_reducible exact Gr.refl _) | with_reducible refine Gr.alloc ?_ _ | with_reducible refine Gr.more ?_ _ _ | with_reducible refine Gr.setCell ?_ (by dsimp only; omega) _ | with_reducible refine Gr.drew ?_)))).mono ?_); rintro e w1 ⟨q2, c2, PB, rfl, hq2, hs2, hlt2, hb⟩; obtain ⟨os, n, rfl⟩ := Below.moreE hb; clear hb; simp only [World.more_more, Array.append_assoc] at hs2 hlt2) | (go_at_call 57; (refine (R2 _ _ _ _ _ (Gr.below (by repeat (first | (with_reducible exact Gr.refl _) | with_reducible refine Gr.alloc ?_ _ | with_reducible refine Gr.more ?_ _ _ | with_reducible refine Gr.setCell ?_ (by dsimp only; omega) _ | with_reducible refine Gr.drew ?_))) hq2 hs2 hlt2).mono ?_); rintro e w1 ⟨vp, vc, rfl, hv, hb⟩; obtain ⟨os, n, rfl⟩ := Below.moreE hb; clear hb)
    refine bodyPost_ret (v := .tuple #[ftV _ _, .int .i64 0]) (by simp [results, Try.results25, go_sem, *]) rfl ⟨rfl, (Gr.below (by repeat (first | (with_reducible exact Gr.refl _) | with_reducible refine Gr.alloc ?_ _ | with_reducible refine Gr.more ?_ _ _ | with_reducible refine Gr.setCell ?_ (by dsimp only; omega) _ | with_reducible refine Gr.drew ?_)))⟩
end Go.Proofs.Ytnapbpfofpaakaa

namespace Go.Proofs.Ytnapbpfofpaakaa
open Go.RowKit Go.Shelf

/-- A space in memory that was made from a block on. -/
structure SpFar (base : Nat) (w : World) (P : List Int) (p : Option Addr) (B : List UInt8) (q : Option Addr) (qc : Nat) : Prop where
  perm : SeqFar base w p (iV P)
  byte : SeqFar base w q (bV B)
  old : ∀ b o, p = some ⟨b, o, none⟩ → b < w.heap.size
  cap : B.length ≤ qc
theorem SpFar.at {base : Nat} {w : World} {P : List Int} {p : Option Addr} {B : List UInt8} {q : Option Addr} {qc : Nat} (h : SpFar base w P p B q qc) : SpAt w P p B q qc := ⟨h.perm.at, h.byte.at, h.old, h.cap⟩
theorem SpFar.up {base : Nat} {W W' : World} {P : List Int} {p : Option Addr} {B : List UInt8} {q : Option Addr} {qc : Nat} (h : SpFar base W P p B q qc) (g : Below W.heap.size W W') : SpFar base W' P p B q qc :=
  ⟨h.perm.up g, h.byte.up g, fun b o e => Nat.lt_of_lt_of_le (h.old b o e) g.size, h.cap⟩
theorem SpFar.alloc {base : Nat} {W : World} {P : List Int} {p : Option Addr} {B : List UInt8} {q : Option Addr} {qc : Nat} (h : SpFar base W P p B q qc) (ob : Obj) : SpFar base (W.alloc ob) P p B q qc := h.up ((Below.refl _ _).alloc (Nat.le_refl _) _)
theorem SpFar.more {base : Nat} {W : World} {P : List Int} {p : Option Addr} {B : List UInt8} {q : Option Addr} {qc : Nat} (h : SpFar base W P p B q qc) (os : Array Obj) (n : Nat) : SpFar base (W.more os n) P p B q qc := h.up (World.more_below _ _ _)
theorem SpFar.drew {base : Nat} {W : World} {P : List Int} {p : Option Addr} {B : List UInt8} {q : Option Addr} {qc : Nat} (h : SpFar base W P p B q qc) : SpFar base W.drew P p B q qc := ⟨h.perm, h.byte, h.old, h.cap⟩
theorem SpFar.set {base : Nat} {W : World} {P : List Int} {p : Option Addr} {B : List UInt8} {q : Option Addr} {qc : Nat} (h : SpFar base W P p B q qc) {a : Addr} (ha : a.block < base) (u : Value) : SpFar base (W.setCell a u) P p B q qc :=
  ⟨h.perm.set ha u, h.byte.set ha u, fun b o e => by rw [World.size_setCell]; exact h.old b o e, h.cap⟩
theorem SpFar.lower {base base' : Nat} {W : World} {P : List Int} {p : Option Addr} {B : List UInt8} {q : Option Addr} {qc : Nat} (h : SpFar base W P p B q qc) (hb : base' ≤ base) : SpFar base' W P p B q qc := by
  refine ⟨?_, ?_, h.old, h.cap⟩
  · rcases h.perm with h | ⟨b, o, e, h1, h2⟩
    · exact .inl h
    · exact .inr ⟨b, o, e, by omega, h2⟩
  · rcases h.byte with h | ⟨b, o, e, h1, h2⟩
    · exact .inl h
    · exact .inr ⟨b, o, e, by omega, h2⟩
theorem SeqFar.own {w : World} {base n c : Nat} {e : TypeId} {p : Option Addr} {xs : List Value} (h : w.ownsRow base e 1 (.slice p n c) n xs) : SeqFar base w p xs ∧ n ≤ c ∧ (∀ b o, p = some ⟨b, o, none⟩ → b < w.heap.size) := by
  have hl : xs.length = n := by simpa using h.1
  rcases h.2 with ⟨hv, rfl⟩ | ⟨g, cap, cur, hv, h2⟩
  · have : xs = [] := List.eq_nil_of_length_eq_zero hl
    subst this
    injection hv with h1 _ h3
    subst h1
    exact ⟨.inl rfl, by omega, fun b o e => by cases e⟩
  · injection hv with h1 _ h3
    subst h1; subst h3
    refine ⟨.inr ⟨g, 0, rfl, h2.1, fun j u hj => ?_⟩, h2.2.2.1, fun b o e => ?_⟩
    · have := h.cells (g := g) rfl j u hj
      rwa [Addr.add_lit] at this
    · injection e with e; injection e with e1; subst e1; exact lt_heap h2.2.1
theorem SpFar.of_own {base : Nat} {w : World} {P : List Int} {p : Option Addr} {pc : Nat} {B : List UInt8} {q : Option Addr} {qc : Nat} {e f : TypeId} (h1 : w.ownsRow base e 1 (.slice p P.length pc) P.length (iV P)) (h2 : w.ownsRow base f 1 (.slice q B.length qc) B.length (bV B)) : SpFar base w P p B q qc :=
  ⟨(SeqFar.own h1).1, (SeqFar.own h2).1, (SeqFar.own h1).2.2, (SeqFar.own h2).2.1⟩

theorem memoryOf_w (P : List Int) (p : Option Addr) (pc : Nat) (B : List UInt8) (q : Option Addr) (qc : Nat) (w : World) (hm : P.length ≤ 32) (hBl : B.length = 64 * P.length) (hS : SpAt w P p B q qc) :
    Calls Try.prog 56 #[spV p P.length pc q B.length qc] w fun e w' => ∃ q2 c PB, e = .returned (spV p P.length pc q2 P.length c) ∧ (q2 = some ⟨PB, 0, none⟩ ∨ P = []) ∧ SeqAt w' (some ⟨PB, 0, none⟩) (bV B) ∧ (∀ j, j < B.length → w'.frozen? ⟨PB, j, none⟩ = false) ∧ w.heap.size ≤ PB ∧ PB < w'.heap.size ∧ Below w.heap.size w w' := by
  refine (memoryOf_any P p pc B q qc w hm hBl hS.cap hS.byte).mono ?_
  rintro e w' ⟨v, rfl, hown, hb, hz3⟩
  rcases hown.2 with ⟨rfl, hz⟩ | ⟨g, cap, cur, rfl, h2⟩
  · have hP : P = [] := List.eq_nil_of_length_eq_zero hz
    subst hP
    have hB : B = [] := List.eq_nil_of_length_eq_zero (by simpa using hBl)
    subst hB
    exact ⟨none, 0, w.heap.size, rfl, .inr rfl, .inl rfl, fun j hj => by simp at hj, Nat.le_refl _, by omega, hb⟩
  · refine ⟨_, cap, g, rfl, .inl rfl, .inr ⟨g, 0, rfl, fun j u hj => ?_⟩, fun j hj => ?_, by omega, lt_heap h2.2.1, hb⟩
    · have := hown.cells (g := g) rfl j u hj
      rwa [Addr.add_lit] at this
    · simp [World.frozen?, h2.2.1]

theorem up1 {w : World} {a : Addr} {v : Value} (h : w.cell? a = some v) (o : Obj) : (w.alloc o).cell? a = some v := by
  rw [World.cell?_alloc_some _ _ _ (by rw [h]; rfl)]; exact h
theorem fr1 {w : World} {a : Addr} {v : Value} (h : w.cell? a = some v) (f : w.frozen? a = false) (o : Obj) : (w.alloc o).frozen? a = false := by
  rw [World.frozen?_alloc_lt64 _ _ _ (World.block_lt_of_cell? _ _ h)]; exact f

/-- The cells of the results of 'replaced'. -/
structure RC (H : Nat) (w : World) : Prop where
  a0 : w.cell? ⟨H + 1, 0, none⟩ = some (.slice none 0 0)
  a1 : w.cell? ⟨H + 1, 1, none⟩ = some (.slice none 0 0)
  b0 : w.cell? ⟨H + 1 + 1, 0, none⟩ = some (.int .i64 0)
  b1 : w.cell? ⟨H + 1 + 1, 1, none⟩ = some (.int .i64 0)
  fa0 : w.frozen? ⟨H + 1, 0, none⟩ = false
  fa1 : w.frozen? ⟨H + 1, 1, none⟩ = false
  fb0 : w.frozen? ⟨H + 1 + 1, 0, none⟩ = false
  fb1 : w.frozen? ⟨H + 1 + 1, 1, none⟩ = false
theorem RC.of {H : Nat} {w w' : World} (h : RC H w) (g1 : w'.heap[H + 1]? = w.heap[H + 1]?) (g2 : w'.heap[H + 1 + 1]? = w.heap[H + 1 + 1]?) : RC H w' :=
  ⟨(World.cell?_of_block (w := w) g1).trans h.a0, (World.cell?_of_block (w := w) g1).trans h.a1, (World.cell?_of_block (w := w) g2).trans h.b0, (World.cell?_of_block (w := w) g2).trans h.b1,
   (World.frozen?_of_block (w := w) g1).trans h.fa0, (World.frozen?_of_block (w := w) g1).trans h.fa1, (World.frozen?_of_block (w := w) g2).trans h.fb0, (World.frozen?_of_block (w := w) g2).trans h.fb1⟩
theorem RC.below {H B : Nat} {w w' : World} (h : RC H w) (g : Below B w w') (hB : H + 2 < B) : RC H w' := h.of (g.block _ (by omega)) (g.block _ (by omega))
theorem RC.caught {H PB : Nat} {w w' : World} (h : RC H w) (g : Caught PB w w') (hB : H + 2 < PB) (hP : H + 2 < w.heap.size) : RC H w' := h.of (g.other _ (by omega) (by omega)) (g.other _ (by omega) (by omega))

theorem Caught.below {B PB : Nat} {a w w' : World} (h : Below B a w) (g : Caught PB w w') (hB : B ≤ PB) (hz : B ≤ w.heap.size) : Below B a w' :=
  ⟨g.os.trans h.os, g.tape.trans h.tape, g.output.trans h.output, Nat.le_trans h.size g.size, fun k hk => (g.other k (by omega) (by omega)).trans (h.block k hk)⟩

set_option maxRecDepth 100000 in
set_option maxHeartbeats 2000000 in
theorem replaced_ok (P : List Int) (p : Option Addr) (pc : Nat) (B : List UInt8) (q : Option Addr) (qc : Nat) (at0 : Int) (bs : List UInt8) (bq : Option Addr) (bc : Nat) (perm : Int) (w : World) (hS : SpAt w P p B q qc) (hs : spB P B.length = true) (hn : bs.length ≤ 2048)
    (byt : SeqAt w bq (bV bs)) (hbq : ∀ b o, bq = some ⟨b, o, none⟩ → b < w.heap.size) (hf : fltK P perm at0 bs.length = 0) :
    Calls Try.prog 67 #[spV p P.length pc q B.length qc, .int .i64 at0, .slice bq bs.length bc, .int .i64 perm] w fun e w' => ∃ sq sc tq tc, e = .returned (.tuple #[spV sq P.length sc tq B.length tc, ftV 0 0]) ∧ SpFar w.heap.size w' P sq (wrL B at0 bs bs.length) tq tc ∧ Below w.heap.size w w' := by
  have HL := Lib.hid (spB_len hs)
  have HN := Lib.hid hn
  have HS := Lib.hid hS
  have HY := Lib.hid byt
  have HQ := Lib.hid hbq
  have hg := fltK_zero.1 hf
  have ha : fltA P perm at0 bs.length = 0 := by simp [fltA, hg]
  have W : ∀ (PB c2 : Nat) (q2 : Option Addr) (W : World), Below w.heap.size w W → (q2 = some ⟨PB, 0, none⟩ ∨ P = []) → SeqAt W (some ⟨PB, 0, none⟩) (bV B) → (∀ j, j < B.length → W.frozen? ⟨PB, j, none⟩ = false) → w.heap.size ≤ PB → PB < W.heap.size →
      Calls Try.prog 81 #[spV p P.length pc q2 P.length c2, .int .i64 at0, .slice bq bs.length bc, .int .i64 perm] W fun e w' => e = .returned (ftV 0 0) ∧ SeqAt w' (some ⟨PB, 0, none⟩) (bV (wrL B at0 bs bs.length)) ∧ Caught PB W w' := by
    intro PB c2 q2 W hW h1 h2 h3 h4 h5
    have := write_any P p pc PB c2 q2 h1 at0 bs bq bc perm B W HL.out.1 HN.out (HS.out.up hW).perm h2 h3 (HY.out.up hW) (fun b o e => by have := HS.out.old b o e; omega) (fun b o e => by have := HQ.out b o e; omega) h5 HL.out.2
    rw [hf, ha, hg] at this
    exact this
  clear hf hg ha hS byt hbq hn hs
  go_enter Try.func67, Try.ntmps67
  go_wp2_with first | (go_at_call 56; (refine (memoryOf_w P p pc B q qc _ HL.out.1 HL.out.2 (HS.out.up (Gr.below (by repeat (first | (with_reducible exact Gr.refl _) | with_reducible refine Gr.alloc ?_ _ | with_reducible refine Gr.more ?_ _ _ | with_reducible refine Gr.setCell ?_ (by dsimp only; omega) _ | with_reducible refine Gr.drew ?_))))).mono ?_); rintro e w1 ⟨q2, c2, PB, rfl, hq2, hpg, hfz, hge, hlt, hb⟩; have hb1 : Below w.heap.size w w1 := Below.trans (Gr.below (by repeat (first | (with_reducible exact Gr.refl _) | with_reducible refine Gr.alloc ?_ _ | with_reducible refine Gr.more ?_ _ _ | with_reducible refine Gr.setCell ?_ (by dsimp only; omega) _ | with_reducible refine Gr.drew ?_))) (hb.mono (by simp; omega)); have rc : RC w.heap.size w1 := RC.below ⟨by go_simp, by go_simp, by go_simp, by go_simp, by go_simp, by go_simp, by go_simp, by go_simp⟩ hb (by simp); have hz := hb.size; simp at hz hge; clear hb) | (go_at_call 81; (refine (W PB c2 q2 _ (hb1.alloc hb1.size _) hq2 (hpg.up ((Below.refl _ w1).alloc (Nat.le_refl _) _)) (fun j hj => fr1 (hpg.pages hj) (hfz j hj) _) (by omega) (by simp; omega)).mono ?_); rintro e w2 ⟨rfl, hpg2, hbut⟩; have rc2 : RC w.heap.size w2 := RC.caught (rc.below ((Below.refl w1.heap.size w1).alloc (Nat.le_refl _) _) (by omega)) hbut (by omega) (by simp; omega); have m0 : w2.cell? ⟨w1.heap.size, 0, none⟩ = some (.slice p P.length pc) := hbut.cell (by omega) (by go_simp); have m1 : w2.cell? ⟨w1.heap.size, 1, none⟩ = some (.slice q2 P.length c2) := hbut.cell (by omega) (by go_simp); have hz2 := hbut.size; simp at hz2; have hb3 : Below w.heap.size w w2 := Caught.below (hb1.alloc hb1.size _) hbut (by omega) (by simp; omega); clear hpg hfz hbut rc) | (go_at_call 82; (refine (space_any P p pc PB c2 q2 hq2 (wrL B at0 bs bs.length) _ HL.out.1 (HS.out.up (hb3.alloc hb3.size _)).perm (hpg2.up ((Below.refl _ w2).alloc (Nat.le_refl _) _)) (by rw [wrL_len]; exact HL.out.2)).mono ?_); rintro e w3 ⟨sq, sc, v, rfl, ho1, ho2, hb4⟩; obtain ⟨tq, tc, rfl⟩ := own_sl ho2; have rc3 : RC w.heap.size w3 := (rc2.below ((Below.refl w2.heap.size w2).alloc (Nat.le_refl _) _) (by omega)).below hb4 (by simp; omega); have hb5 : Below w.heap.size w w3 := (hb3.alloc hb3.size _).trans (hb4.mono (by simp; omega)); have hz4 := hb4.size; simp at hz4; obtain ⟨ra0, ra1, rb0, rb1, rf0, rf1, rg0, rg1⟩ := rc3; clear rc2 hpg2)
  refine bodyPost_ret (v := .tuple #[spV sq P.length sc tq (64 * P.length) tc, ftV 0 0]) (by simp [results, Try.results67, go_sem, *]) rfl ⟨sq, sc, tq, tc, by rw [HL.out.2], ?_, ?_⟩
  · have hlen : (wrL B at0 bs bs.length).length = 64 * P.length := by rw [wrL_len]; exact HL.out.2
    have hF : SpFar (w2.heap.size + 1) w3 P sq (wrL B at0 bs bs.length) tq tc := SpFar.of_own (pc := sc) (by simpa using ho1) (by rw [hlen]; simpa using ho2)
    exact ((((hF.set (by dsimp only; omega) _).set (by dsimp only; omega) _).set (by dsimp only; omega) _).set (by dsimp only; omega) _).lower (by omega)
  · exact (((hb5.setCell (by dsimp only; omega) _).setCell (by dsimp only; omega) _).setCell (by dsimp only; omega) _).setCell (by dsimp only; omega) _
end Go.Proofs.Ytnapbpfofpaakaa

namespace Go.Proofs.Ytnapbpfofpaakaa
open Go.RowKit Go.Shelf

set_option maxRecDepth 100000 in
set_option maxHeartbeats 2000000 in
theorem replaced_flt (P : List Int) (p : Option Addr) (pc : Nat) (B : List UInt8) (q : Option Addr) (qc : Nat) (at0 : Int) (bs : List UInt8) (bq : Option Addr) (bc : Nat) (perm : Int) (w : World) (hS : SpAt w P p B q qc) (hs : spB P B.length = true) (hn : bs.length ≤ 2048)
    (byt : SeqAt w bq (bV bs)) (hbq : ∀ b o, bq = some ⟨b, o, none⟩ → b < w.heap.size) (hf : fltK P perm at0 bs.length ≠ 0) :
    Calls Try.prog 67 #[spV p P.length pc q B.length qc, .int .i64 at0, .slice bq bs.length bc, .int .i64 perm] w fun e w' => e = .returned (.tuple #[spV none 0 0 none 0 0, ftV (fltK P perm at0 bs.length) (fltA P perm at0 bs.length)]) ∧ Below w.heap.size w w' := by
  have HL := Lib.hid (spB_len hs)
  have HN := Lib.hid hn
  have HS := Lib.hid hS
  have HY := Lib.hid byt
  have HQ := Lib.hid hbq
  have hf' : (fltK P perm at0 bs.length != 0) = true := bne_iff_ne.2 hf
  have W : ∀ (PB c2 : Nat) (q2 : Option Addr) (W : World), Below w.heap.size w W → (q2 = some ⟨PB, 0, none⟩ ∨ P = []) → SeqAt W (some ⟨PB, 0, none⟩) (bV B) → (∀ j, j < B.length → W.frozen? ⟨PB, j, none⟩ = false) → w.heap.size ≤ PB → PB < W.heap.size →
      Calls Try.prog 81 #[spV p P.length pc q2 P.length c2, .int .i64 at0, .slice bq bs.length bc, .int .i64 perm] W fun e w' => e = .returned (ftV (fltK P perm at0 bs.length) (fltA P perm at0 bs.length)) ∧ SeqAt w' (some ⟨PB, 0, none⟩) (bV (wrL B at0 bs (goodA P perm at0 bs.length))) ∧ Caught PB W w' := by
    intro PB c2 q2 W hW h1 h2 h3 h4 h5
    have := write_any P p pc PB c2 q2 h1 at0 bs bq bc perm B W HL.out.1 HN.out (HS.out.up hW).perm h2 h3 (HY.out.up hW) (fun b o e => by have := HS.out.old b o e; omega) (fun b o e => by have := HQ.out b o e; omega) h5 HL.out.2
    exact this
  clear hf hS byt hbq hn hs
  go_enter Try.func67, Try.ntmps67
  go_wp2_with first | (go_at_call 56; (refine (memoryOf_w P p pc B q qc _ HL.out.1 HL.out.2 (HS.out.up (Gr.below (by repeat (first | (with_reducible exact Gr.refl _) | with_reducible refine Gr.alloc ?_ _ | with_reducible refine Gr.more ?_ _ _ | with_reducible refine Gr.setCell ?_ (by dsimp only; omega) _ | with_reducible refine Gr.drew ?_))))).mono ?_); rintro e w1 ⟨q2, c2, PB, rfl, hq2, hpg, hfz, hge, hlt, hb⟩; have hb1 : Below w.heap.size w w1 := Below.trans (Gr.below (by repeat (first | (with_reducible exact Gr.refl _) | with_reducible refine Gr.alloc ?_ _ | with_reducible refine Gr.more ?_ _ _ | with_reducible refine Gr.setCell ?_ (by dsimp only; omega) _ | with_reducible refine Gr.drew ?_))) (hb.mono (by simp; omega)); have rc : RC w.heap.size w1 := RC.below ⟨by go_simp, by go_simp, by go_simp, by go_simp, by go_simp, by go_simp, by go_simp, by go_simp⟩ hb (by simp); have hz := hb.size; simp at hz hge; clear hb) | (go_at_call 81; (refine (W PB c2 q2 _ (hb1.alloc hb1.size _) hq2 (hpg.up ((Below.refl _ w1).alloc (Nat.le_refl _) _)) (fun j hj => fr1 (hpg.pages hj) (hfz j hj) _) (by omega) (by simp; omega)).mono ?_); rintro e w2 ⟨rfl, hpg2, hbut⟩; have rc2 : RC w.heap.size w2 := RC.caught (rc.below ((Below.refl w1.heap.size w1).alloc (Nat.le_refl _) _) (by omega)) hbut (by omega) (by simp; omega); have m0 : w2.cell? ⟨w1.heap.size, 0, none⟩ = some (.slice p P.length pc) := hbut.cell (by omega) (by go_simp); have m1 : w2.cell? ⟨w1.heap.size, 1, none⟩ = some (.slice q2 P.length c2) := hbut.cell (by omega) (by go_simp); have hz2 := hbut.size; simp at hz2; have hb3 : Below w.heap.size w w2 := Caught.below (hb1.alloc hb1.size _) hbut (by omega) (by simp; omega); clear hpg hfz hbut rc)
  obtain ⟨ra0, ra1, rb0, rb1, rf0, rf1, rg0, rg1⟩ := rc2
  have hc1 : w.heap.size + 1 < w2.heap.size := by omega
  have hc2 : w.heap.size + 1 + 1 < w2.heap.size := by omega
  go_region_held3 (fun w' => w'.cell? ⟨w2.heap.size, 0, none⟩ = some (.int .i64 (fltK P perm at0 bs.length)) ∧ w'.cell? ⟨w2.heap.size, 1, none⟩ = some (.int .i64 (fltA P perm at0 bs.length))) (exact ⟨by go_simp, by go_simp⟩) (fail)
  all_goals go_wp2
  all_goals refine bodyPost_ret (v := .tuple #[spV none 0 0 none 0 0, ftV (fltK P perm at0 bs.length) (fltA P perm at0 bs.length)]) (by simp [results, Try.results67, go_sem, *]) rfl ⟨rfl, ?_⟩
  all_goals exact (((((hb3.setCell (by dsimp only; omega) _).setCell (by dsimp only; omega) _).setCell (by dsimp only; omega) _).setCell (by dsimp only; omega) _).alloc (by simp; omega) _).drew
end Go.Proofs.Ytnapbpfofpaakaa

namespace Go.Proofs.Ytnapbpfofpaakaa
open Go.RowKit Go.Shelf

theorem SpFar.of {base base' : Nat} {W W' : World} {P : List Int} {p : Option Addr} {B : List UInt8} {q : Option Addr} {qc : Nat} (h : SpFar base W P p B q qc) (g : SpFar base W P p B q qc → SpFar base W' P p B q qc) (hb : base' ≤ base) : SpFar base' W' P p B q qc := (g h).lower hb

set_option maxHeartbeats 1000000 in
theorem poke_bad (P : List Int) (p : Option Addr) (pc : Nat) (q : Option Addr) (m qc : Nat) (at0 : Int) (bq : Option Addr) (bn bc : Nat) (w : World) (hP : SeqAt w p (iV P)) (hs : spB P m = false) :
    Calls Try.prog 35 #[spV p P.length pc q m qc, .int .i64 at0, .slice bq bn bc] w fun e w' => e = .returned (.tuple #[spV none 0 0 none 0 0, ftV 0 0, .int .i64 30]) ∧ Below w.heap.size w w' := by
  have hC := fun w (hP : SeqAt w p (iV P)) => mcheck_any P p pc q m qc w hP
  rw [spE_bad hs] at hC
  go_enter Try.func35, Try.ntmps35
  go_wp2_with (go_at_call 21; (refine (hC _ (hP.up (Gr.below (by repeat (first | (with_reducible exact Gr.refl _) | with_reducible refine Gr.alloc ?_ _ | with_reducible refine Gr.more ?_ _ _ | with_reducible refine Gr.setCell ?_ (by dsimp only; omega) _ | with_reducible refine Gr.drew ?_))))).mono ?_); rintro e w1 ⟨rfl, hb⟩; obtain ⟨os, n, rfl⟩ := Below.moreE hb; clear hb)
  refine bodyPost_ret (v := .tuple #[spV none 0 0 none 0 0, ftV 0 0, .int .i64 30]) (by simp [results, Try.results35, go_sem, *]) rfl ⟨rfl, (Gr.below (by repeat (first | (with_reducible exact Gr.refl _) | with_reducible refine Gr.alloc ?_ _ | with_reducible refine Gr.more ?_ _ _ | with_reducible refine Gr.setCell ?_ (by dsimp only; omega) _ | with_reducible refine Gr.drew ?_)))⟩
set_option maxHeartbeats 1000000 in
theorem poke_long (P : List Int) (p : Option Addr) (pc : Nat) (q : Option Addr) (m qc : Nat) (at0 : Int) (bq : Option Addr) (bn bc : Nat) (w : World) (hP : SeqAt w p (iV P)) (hs : spB P m = true) (hn : (2048 : Int) < (bn : Int)) :
    Calls Try.prog 35 #[spV p P.length pc q m qc, .int .i64 at0, .slice bq bn bc] w fun e w' => e = .returned (.tuple #[spV none 0 0 none 0 0, ftV 0 0, .int .i64 2]) ∧ Below w.heap.size w w' := by
  have hC := fun w (hP : SeqAt w p (iV P)) => mcheck_any P p pc q m qc w hP
  rw [spE_ok hs] at hC
  go_enter Try.func35, Try.ntmps35
  go_wp2_with (go_at_call 21; (refine (hC _ (hP.up (Gr.below (by repeat (first | (with_reducible exact Gr.refl _) | with_reducible refine Gr.alloc ?_ _ | with_reducible refine Gr.more ?_ _ _ | with_reducible refine Gr.setCell ?_ (by dsimp only; omega) _ | with_reducible refine Gr.drew ?_))))).mono ?_); rintro e w1 ⟨rfl, hb⟩; obtain ⟨os, n, rfl⟩ := Below.moreE hb; clear hb)
  refine bodyPost_ret (v := .tuple #[spV none 0 0 none 0 0, ftV 0 0, .int .i64 2]) (by simp [results, Try.results35, go_sem, *]) rfl ⟨rfl, (Gr.below (by repeat (first | (with_reducible exact Gr.refl _) | with_reducible refine Gr.alloc ?_ _ | with_reducible refine Gr.more ?_ _ _ | with_reducible refine Gr.setCell ?_ (by dsimp only; omega) _ | with_reducible refine Gr.drew ?_)))⟩
set_option maxHeartbeats 2000000 in
theorem poke_flt (P : List Int) (p : Option Addr) (pc : Nat) (B : List UInt8) (q : Option Addr) (qc : Nat) (at0 : Int) (bs : List UInt8) (bq : Option Addr) (bc : Nat) (w : World) (hS : SpAt w P p B q qc) (hs : spB P B.length = true) (hn : bs.length ≤ 2048)
    (byt : SeqAt w bq (bV bs)) (hbq : ∀ b o, bq = some ⟨b, o, none⟩ → b < w.heap.size) (hf : fltK P 0 at0 bs.length ≠ 0) :
    Calls Try.prog 35 #[spV p P.length pc q B.length qc, .int .i64 at0, .slice bq bs.length bc] w fun e w' => e = .returned (.tuple #[spV none 0 0 none 0 0, ftV (fltK P 0 at0 bs.length) (fltA P 0 at0 bs.length), .int .i64 0]) ∧ Below w.heap.size w w' := by
  have hC := fun w (hP : SeqAt w p (iV P)) => mcheck_any P p pc q B.length qc w hP
  rw [spE_ok hs] at hC
  have R := fun W (hW : Below w.heap.size w W) => replaced_flt P p pc B q qc at0 bs bq bc 0 W (hS.up hW) hs hn (byt.up hW) (fun b o e => Nat.lt_of_lt_of_le (hbq b o e) hW.size) hf
  have hn' : ¬ (2048 : Int) < (bs.length : Int) := by omega
  have HP := Lib.hid hS.perm
  clear hf hS byt hbq hn hs
  go_enter Try.func35, Try.ntmps35
  go_wp2_with first | (go_at_call 21; (refine (hC _ (HP.out.up (Gr.below (by repeat (first | (with_reducible exact Gr.refl _) | with_reducible refine Gr.alloc ?_ _ | with_reducible refine Gr.more ?_ _ _ | with_reducible refine Gr.setCell ?_ (by dsimp only; omega) _ | with_reducible refine Gr.drew ?_))))).mono ?_); rintro e w1 ⟨rfl, hb⟩; obtain ⟨oc, zc, rfl⟩ := Below.moreE hb; clear hb) | (go_at_call 67; (refine (R _ (Gr.below (by repeat (first | (with_reducible exact Gr.refl _) | with_reducible refine Gr.alloc ?_ _ | with_reducible refine Gr.more ?_ _ _ | with_reducible refine Gr.setCell ?_ (by dsimp only; omega) _ | with_reducible refine Gr.drew ?_)))).mono ?_); rintro e w1 ⟨rfl, hb⟩; obtain ⟨oz, zz, rfl⟩ := Below.moreE hb; clear hb)
  go_region_held3 (fun w' => w'.cell? ⟨w.heap.size + 1 + 1 + 1 + (oc.size + oz.size), 0, none⟩ = some (.slice none 0 0) ∧ w'.cell? ⟨w.heap.size + 1 + 1 + 1 + (oc.size + oz.size), 1, none⟩ = some (.slice none 0 0) ∧ w'.cell? ⟨w.heap.size + 1 + 1 + 1 + (oc.size + oz.size) + 1, 0, none⟩ = some (.int .i64 (fltK P 0 at0 bs.length)) ∧ w'.cell? ⟨w.heap.size + 1 + 1 + 1 + (oc.size + oz.size) + 1, 1, none⟩ = some (.int .i64 (fltA P 0 at0 bs.length))) (exact ⟨by go_simp, by go_simp, by go_simp, by go_simp⟩) (fail)
  all_goals go_wp2
  all_goals refine bodyPost_ret (v := .tuple #[spV none 0 0 none 0 0, ftV (fltK P 0 at0 bs.length) (fltA P 0 at0 bs.length), .int .i64 0]) (by simp [results, Try.results35, go_sem, *]) rfl ⟨rfl, (Gr.below (by repeat (first | (with_reducible exact Gr.refl _) | with_reducible refine Gr.alloc ?_ _ | with_reducible refine Gr.more ?_ _ _ | with_reducible refine Gr.setCell ?_ (by dsimp only; omega) _ | with_reducible refine Gr.drew ?_)))⟩
set_option maxHeartbeats 2000000 in
theorem poke_ok (P : List Int) (p : Option Addr) (pc : Nat) (B : List UInt8) (q : Option Addr) (qc : Nat) (at0 : Int) (bs : List UInt8) (bq : Option Addr) (bc : Nat) (w : World) (hS : SpAt w P p B q qc) (hs : spB P B.length = true) (hn : bs.length ≤ 2048)
    (byt : SeqAt w bq (bV bs)) (hbq : ∀ b o, bq = some ⟨b, o, none⟩ → b < w.heap.size) (hf : fltK P 0 at0 bs.length = 0) :
    Calls Try.prog 35 #[spV p P.length pc q B.length qc, .int .i64 at0, .slice bq bs.length bc] w fun e w' => ∃ sq sc tq tc, e = .returned (.tuple #[spV sq P.length sc tq B.length tc, ftV 0 0, .int .i64 0]) ∧ SpFar w.heap.size w' P sq (wrL B at0 bs bs.length) tq tc ∧ Below w.heap.size w w' := by
  have hC := fun w (hP : SeqAt w p (iV P)) => mcheck_any P p pc q B.length qc w hP
  rw [spE_ok hs] at hC
  have R := fun W (hW : Below w.heap.size w W) => replaced_ok P p pc B q qc at0 bs bq bc 0 W (hS.up hW) hs hn (byt.up hW) (fun b o e => Nat.lt_of_lt_of_le (hbq b o e) hW.size) hf
  have hn' : ¬ (2048 : Int) < (bs.length : Int) := by omega
  have HP := Lib.hid hS.perm
  clear hf hS byt hbq hn hs
  go_enter Try.func35, Try.ntmps35
  go_wp2_with first | (go_at_call 21; (refine (hC _ (HP.out.up (Gr.below (by repeat (first | (with_reducible exact Gr.refl _) | with_reducible refine Gr.alloc ?_ _ | with_reducible refine Gr.more ?_ _ _ | with_reducible refine Gr.setCell ?_ (by dsimp only; omega) _ | with_reducible refine Gr.drew ?_))))).mono ?_); rintro e w1 ⟨rfl, hb⟩; obtain ⟨oc, zc, rfl⟩ := Below.moreE hb; clear hb) | (go_at_call 67; (refine (R _ (Gr.below (by repeat (first | (with_reducible exact Gr.refl _) | with_reducible refine Gr.alloc ?_ _ | with_reducible refine Gr.more ?_ _ _ | with_reducible refine Gr.setCell ?_ (by dsimp only; omega) _ | with_reducible refine Gr.drew ?_)))).mono ?_); rintro e w1 ⟨sq, sc, tq, tc, rfl, hv, hb⟩; obtain ⟨oz, zz, rfl⟩ := Below.moreE hb; clear hb; simp only [World.more_more, Array.append_assoc] at hv)
  go_region_held3 (fun w' => w'.cell? ⟨w.heap.size + 1 + 1 + 1 + (oc.size + oz.size), 0, none⟩ = some (.slice sq P.length sc) ∧ w'.cell? ⟨w.heap.size + 1 + 1 + 1 + (oc.size + oz.size), 1, none⟩ = some (.slice tq B.length tc) ∧ w'.cell? ⟨w.heap.size + 1 + 1 + 1 + (oc.size + oz.size) + 1, 0, none⟩ = some (.int .i64 0) ∧ w'.cell? ⟨w.heap.size + 1 + 1 + 1 + (oc.size + oz.size) + 1, 1, none⟩ = some (.int .i64 0)) (exact ⟨by go_simp, by go_simp, by go_simp, by go_simp⟩) (fail)
  all_goals go_wp2
  all_goals refine bodyPost_ret (v := .tuple #[spV sq P.length sc tq B.length tc, ftV 0 0, .int .i64 0]) (by simp [results, Try.results35, go_sem, *]) rfl ⟨sq, sc, tq, tc, rfl, hv.of (fun hv => by repeat (first | (with_reducible exact hv) | with_reducible refine SpFar.alloc ?_ _ | with_reducible refine SpFar.more ?_ _ _ | with_reducible refine SpFar.set ?_ (by dsimp only; (try simp only [World.size_more, World.size_alloc, World.size_setCell, World.size_drew]); omega) _ | with_reducible refine SpFar.drew ?_)) (by (try simp only [World.size_more, World.size_alloc, World.size_setCell, World.size_drew]); omega), (Gr.below (by repeat (first | (with_reducible exact Gr.refl _) | with_reducible refine Gr.alloc ?_ _ | with_reducible refine Gr.more ?_ _ _ | with_reducible refine Gr.setCell ?_ (by dsimp only; omega) _ | with_reducible refine Gr.drew ?_)))⟩
end Go.Proofs.Ytnapbpfofpaakaa
