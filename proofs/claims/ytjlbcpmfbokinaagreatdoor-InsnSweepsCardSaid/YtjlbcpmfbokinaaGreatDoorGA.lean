/-
  Plain mathematics of layer 2 (instructions): the table of operations, encodings. No program is named here.
  Plain mathematics of layer 3 (address spaces): no program is named here.
  Plain mathematics of layer 2, continued: encoding and decoding. No program is named here.
  Plain mathematics of layer 2, continued: an encoding is decoded; what is decoded is encoded. No program is named here.
  Plain mathematics of layer 2, continued: what is encoded is decoded, and the other way round. No program is named here.
-/
import Derived.WalkKit
set_option linter.unusedSimpArgs false
set_option linter.unusedVariables false
namespace Go.Proofs.YtjlbcpmfbokinaaGreatDoor
open Go.RowKit

/-- Shapes: how many registers, how many bytes of Imm, its least and greatest value. -/
def rgS (s : Nat) : Nat := [0, 1, 2, 1, 1, 2, 2, 2, 0, 1, 0, 2].getD s 0
def imS (s : Nat) : Nat := [0, 0, 0, 10, 1, 1, 1, 1, 2, 2, 1, 0].getD s 0
def loS (s : Nat) : Int := [0, 0, 0, -9223372036854775808, -64, -64, -64, -64, -8192, -8192, 0, 0].getD s 0
def hiS (s : Nat) : Int := [0, 0, 0, 9223372036854775807, 63, 63, 63, 63, 8191, 8191, 127, 0].getD s 0
/-- The operands of a line: 0 A, 1 B, 2 a number, 3 an address, 4 [B], 5 a target. -/
def opsS (s : Nat) : List Int := [[], [0], [0, 1], [0, 2], [0, 2], [0, 3], [3, 0], [0, 1, 5], [5], [0, 5], [2], [0, 4]].getD s []
/-- The length of an encoding. -/
def lenS (s : Nat) : Nat := (if rgS s = 0 then 1 else 2) + imS s
def relS (s : Nat) : Bool := (opsS s).contains 5

/-- The row of an operation: its shape, the uses of what it reads and writes. -/
structure OpRow where
  op : Int
  sh : Nat
  rd : Int
  wr : Int
def opT : List OpRow := [⟨1, 0, 0, 0⟩, ⟨2, 2, 2, 1⟩, ⟨3, 3, 0, 1⟩, ⟨4, 4, 0, 1⟩, ⟨5, 2, 3, 1⟩, ⟨6, 2, 3, 1⟩, ⟨7, 2, 3, 1⟩, ⟨8, 2, 3, 1⟩, ⟨9, 2, 3, 1⟩, ⟨10, 2, 3, 1⟩, ⟨11, 2, 3, 1⟩, ⟨12, 2, 3, 1⟩, ⟨13, 2, 3, 1⟩, ⟨14, 2, 3, 1⟩, ⟨15, 2, 3, 1⟩, ⟨16, 4, 1, 1⟩, ⟨17, 5, 2, 1⟩, ⟨18, 5, 2, 1⟩, ⟨19, 6, 3, 0⟩, ⟨20, 6, 3, 0⟩, ⟨21, 7, 3, 0⟩, ⟨22, 7, 3, 0⟩, ⟨23, 7, 3, 0⟩, ⟨24, 7, 3, 0⟩, ⟨25, 8, 0, 0⟩, ⟨26, 1, 1, 0⟩, ⟨27, 8, 4, 4⟩, ⟨28, 1, 5, 4⟩, ⟨29, 0, 4, 4⟩, ⟨30, 1, 5, 4⟩, ⟨31, 1, 4, 5⟩, ⟨32, 9, 0, 1⟩, ⟨33, 10, 0, 0⟩, ⟨34, 11, 3, 1⟩, ⟨76, 0, 0, 0⟩]
theorem opT_len : opT.length = 35 := rfl
def opAt (i : Nat) : OpRow := opT.getD i ⟨0, 0, 0, 0⟩
/-- The index of an operation; 35: there is none. -/
def ixO (op : Int) : Nat := opT.findIdx (·.op == op)
def rowO (op : Int) : OpRow := opAt (ixO op)
def knO (op : Int) : Bool := decide (ixO op < 35)
theorem opAt_get {i : Nat} (h : i < opT.length) : opAt i = opT[i] := by simp [opAt, List.getD, h]
theorem ixO_le (op : Int) : ixO op ≤ 35 := List.findIdx_le_length
theorem ixO_hit {op : Int} (h : ixO op < 35) : (opAt (ixO op)).op = op := by
  have h1 : opT.findIdx (·.op == op) < opT.length := h
  have h2 := List.findIdx_getElem (w := h1)
  rw [opAt_get (show ixO op < opT.length from h1)]
  have h3 : (opT[opT.findIdx (·.op == op)]'h1).op = op := by simpa using h2
  exact h3
theorem ixO_miss {op : Int} {i : Nat} (h : i < ixO op) : (opAt i).op ≠ op := by
  have h1 : i < opT.findIdx (·.op == op) := h
  have hl : i < opT.length := Nat.lt_of_lt_of_le h (ixO_le op)
  have h2 := List.not_of_lt_findIdx h1
  rw [opAt_get hl]
  simpa using h2
theorem ixO_is {op : Int} {k : Nat} (hk : k < 35) (h : ∀ j, j < k → (opAt j).op ≠ op) (he : (opAt k).op = op) : ixO op = k := by
  rcases Nat.lt_trichotomy (ixO op) k with h1 | h1 | h1
  · exact absurd (ixO_hit (by omega)) (h _ h1)
  · exact h1
  · exact absurd he (ixO_miss h1)
theorem ixO_none {op : Int} (h : ∀ j, j < 35 → (opAt j).op ≠ op) : ixO op = 35 := by
  rcases Nat.lt_or_ge (ixO op) 35 with h1 | h1
  · exact absurd (ixO_hit h1) (h _ h1)
  · have := ixO_le op; omega
theorem opAt_small : ∀ k : Fin 34, (opAt k.1).op = (k.1 : Int) + 1 := by decide
theorem opAt_range : ∀ k : Fin 35, (1 ≤ (opAt k.1).op ∧ (opAt k.1).op ≤ 34) ∨ (opAt k.1).op = 76 := by decide
theorem opAt_sh : ∀ k : Fin 35, (opAt k.1).sh < 12 := by decide
theorem knO_iff (op : Int) : knO op = true ↔ (1 ≤ op ∧ op ≤ 34) ∨ op = 76 := by
  unfold knO
  rw [decide_eq_true_iff]
  constructor
  · intro h
    have := opAt_range ⟨ixO op, h⟩
    simp only at this
    rwa [ixO_hit h] at this
  · intro h
    rcases Nat.lt_or_ge (ixO op) 35 with h1 | h1
    · exact h1
    · exfalso
      have hm : ∀ j, j < 35 → (opAt j).op ≠ op := fun j hj => ixO_miss (by omega)
      rcases h with h | h
      · have e := opAt_small ⟨(op - 1).toNat, by omega⟩
        exact hm (op - 1).toNat (by omega) (by simp only at e; rw [e]; omega)
      · exact hm 34 (by decide) (by rw [h]; rfl)
theorem rowO_sh {op : Int} (h : knO op = true) : (rowO op).sh < 12 ∧ (rowO op).op = op := by
  have h1 : ixO op < 35 := by unfold knO at h; exact of_decide_eq_true h
  exact ⟨opAt_sh ⟨ixO op, h1⟩, ixO_hit h1⟩
/-- A register operand. -/
def irB (n : Int) (p : Bool) : Bool := n == 0 || (p && decide (0 < n) && decide (n ≤ 7))
def ftB (s : Nat) (n : Int) : Bool := decide (loS s ≤ n) && decide (n ≤ hiS s)
/-- A well-formed instruction. -/
def okX (op a b n : Int) : Bool := knO op && irB a (decide (1 ≤ rgS (rowO op).sh)) && irB b (rgS (rowO op).sh == 2) && ftB (rowO op).sh n
def eX (op a b n : Int) : Int := if okX op a b n then 0 else 20
end Go.Proofs.YtjlbcpmfbokinaaGreatDoor

namespace Go.Proofs.YtjlbcpmfbokinaaGreatDoor
open Go.RowKit

/-- The kind of the fault that an access without a permission has. -/
def refI (perm : Int) : Int := if perm = 1 then 2 else if perm = 2 then 3 else 4
/-- The k-th address of an access. -/
def adr (at0 : Int) (k : Nat) : Int := wrap64 (at0 + k)
/-- The kind of the fault of an access to one address; 0: none. 'n' is the number of bytes of the space. -/
def kindA (P : List Int) (perm a : Int) : Int :=
  if a < 0 ∨ 64 * (P.length : Int) ≤ a then 1
  else if perm ≠ 0 ∧ bits .and .i64 (P.getD (a / 64).toNat 0) perm = 0 then refI perm else 0
def okA (P : List Int) (perm at0 : Int) (k : Nat) : Bool := kindA P perm (adr at0 k) == 0

/-- How many of n steps are taken until one is refused. -/
def cnt (ok : Nat → Bool) : Nat → Nat
  | 0 => 0
  | n + 1 => if cnt ok n = n ∧ ok n = true then n + 1 else cnt ok n
theorem cnt_le (ok : Nat → Bool) : ∀ n, cnt ok n ≤ n
  | 0 => Nat.le_refl _
  | n + 1 => by unfold cnt; have := cnt_le ok n; split <;> omega
theorem cnt_all (ok : Nat → Bool) : ∀ n, (∀ j, j < n → ok j = true) → cnt ok n = n
  | 0, _ => rfl
  | n + 1, h => by
    unfold cnt
    rw [if_pos ⟨cnt_all ok n (fun j hj => h j (by omega)), h n (by omega)⟩]
theorem cnt_ok (ok : Nat → Bool) : ∀ n j, j < cnt ok n → ok j = true
  | 0, j, h => by simp [cnt] at h
  | n + 1, j, h => by
    unfold cnt at h
    split at h
    · rename_i hc
      by_cases e : j = n
      · exact e ▸ hc.2
      · exact cnt_ok ok n j (by rw [hc.1]; omega)
    · exact cnt_ok ok n j h
theorem cnt_stop (ok : Nat → Bool) : ∀ n, cnt ok n < n → ok (cnt ok n) = false
  | 0, h => by simp at h
  | n + 1, h => by
    have hle := cnt_le ok n
    by_cases hc : cnt ok n = n ∧ ok n = true
    · have e : cnt ok (n + 1) = n + 1 := by rw [cnt]; simp [hc]
      omega
    · have e : cnt ok (n + 1) = cnt ok n := by rw [cnt]; simp [hc]
      rw [e]
      by_cases e' : cnt ok n = n
      · have : ¬ ok n = true := fun h => hc ⟨e', h⟩
        rw [e']
        simpa using this
      · exact cnt_stop ok n (by omega)
/-- The count by its properties. -/
theorem cnt_eq {ok : Nat → Bool} {n m : Nat} (hm : m ≤ n) (h : ∀ j, j < m → ok j = true) (hs : m < n → ok m = false) : cnt ok n = m := by
  rcases Nat.lt_trichotomy (cnt ok n) m with h1 | h1 | h1
  · have h2 := cnt_stop ok n (by omega)
    have h3 := h _ h1
    rw [h2] at h3; cases h3
  · exact h1
  · have h2 := cnt_ok ok n m h1
    have h3 := hs (by have := cnt_le ok n; omega)
    rw [h2] at h3; cases h3

/-- How many bytes of an access have no fault; the fault. -/
def goodA (P : List Int) (perm at0 : Int) (n : Nat) : Nat := cnt (okA P perm at0) n
def fltK (P : List Int) (perm at0 : Int) (n : Nat) : Int := if goodA P perm at0 n = n then 0 else kindA P perm (adr at0 (goodA P perm at0 n))
def fltA (P : List Int) (perm at0 : Int) (n : Nat) : Int := if goodA P perm at0 n = n then 0 else adr at0 (goodA P perm at0 n)
/-- The k-th byte of an access. -/
def rdA (B : List UInt8) (at0 : Int) (k : Nat) : UInt8 := B.getD (adr at0 k).toNat 0
def rdL (B : List UInt8) (at0 : Int) (m : Nat) : List UInt8 := (List.range m).map (rdA B at0)
/-- The bytes behind the k first bytes of a store. -/
def wrL (B : List UInt8) (at0 : Int) (bs : List UInt8) : Nat → List UInt8
  | 0 => B
  | k + 1 => (wrL B at0 bs k).set (adr at0 k).toNat (bs.getD k 0)
theorem wrL_len (B : List UInt8) (at0 : Int) (bs : List UInt8) : ∀ k, (wrL B at0 bs k).length = B.length
  | 0 => rfl
  | k + 1 => by simp [wrL, wrL_len B at0 bs k]
theorem rdL_snoc (B : List UInt8) (at0 : Int) (m : Nat) : rdL B at0 (m + 1) = rdL B at0 m ++ [rdA B at0 m] := by simp [rdL, List.range_succ]
theorem rdL_len (B : List UInt8) (at0 : Int) (m : Nat) : (rdL B at0 m).length = m := by simp [rdL]

theorem refI_ne (perm : Int) : refI perm ≠ 0 := by unfold refI; split <;> (try split) <;> decide
theorem okA_in {P : List Int} {perm at0 : Int} {k : Nat} (h : okA P perm at0 k = true) : 0 ≤ adr at0 k ∧ adr at0 k < 64 * P.length := by
  unfold okA kindA at h
  split at h
  · simp at h
  · omega
theorem fltK_zero {P : List Int} {perm at0 : Int} {n : Nat} : fltK P perm at0 n = 0 ↔ goodA P perm at0 n = n := by
  unfold fltK
  constructor
  · intro h
    by_cases e : goodA P perm at0 n = n
    · exact e
    · rw [if_neg e] at h
      have h1 : goodA P perm at0 n < n := by have := cnt_le (okA P perm at0) n; unfold goodA at e ⊢; omega
      have h2 := cnt_stop (okA P perm at0) n h1
      unfold goodA at h
      have h3 : (kindA P perm (adr at0 (cnt (okA P perm at0) n)) == 0) = false := h2
      rw [h] at h3
      simp at h3
  · intro h; rw [if_pos h]

/-- A permission that a page can have. -/
def permB (p : Int) : Bool := p == 0 || p == 1 || p == 3 || p == 4
/-- The list of permissions of a valid space. -/
def spB (P : List Int) (B : Nat) : Bool := decide (P.length ≤ 32) && (B == 64 * P.length) && P.all permB
end Go.Proofs.YtjlbcpmfbokinaaGreatDoor

namespace Go.Proofs.YtjlbcpmfbokinaaGreatDoor
open Go.RowKit

/-- Whether an encoding can have a byte at an offset from 1 on. -/
def goB (s i : Nat) (c : UInt8) : Bool :=
  if i = 1 ∧ rgS s = 1 then decide (c.toNat < 8)
  else if i = 1 ∧ rgS s = 2 then decide (c.toNat < 64)
  else if imS s = 10 ∧ i = lenS s - 1 then decide (c.toNat = 0) || decide (c.toNat = 127)
  else decide (c.toNat < 128)
theorem goB_lt {s i : Nat} {c : UInt8} (h : goB s i c = true) : c.toNat < 128 := by
  unfold goB at h
  split at h
  · simp at h; omega
  · split at h
    · simp at h; omega
    · split at h
      · simp at h; omega
      · simpa using h
/-- The operation of a first byte. -/
def opD (b : List UInt8) : Int := ((b.getD 0 0).toNat : Int) - 128
def shD (b : List UInt8) : Nat := (rowO (opD b)).sh
def okD (s : Nat) (b : List UInt8) (j : Nat) : Bool := decide (j + 1 < b.length) && goB s (j + 1) (b.getD (j + 1) 0)
/-- The first offset at which the encoding does not go on. -/
def stD (s : Nat) (b : List UInt8) : Nat := 1 + cnt (okD s b) (lenS s - 1)
def eD (b : List UInt8) : Int := if b.length = 0 then 21 else if knO (opD b) = false then 20 else if stD (shD b) b = lenS (shD b) then 0 else if b.length ≤ stD (shD b) b then 21 else 20
theorem lenS_pos (s : Nat) : 1 ≤ lenS s := by unfold lenS; split <;> omega
/-- The number of groups of seven bits. -/
def numN : List UInt8 → Nat
  | [] => 0
  | c :: l => c.toNat + 128 * numN l
def immV (s : Nat) (l : List UInt8) : Int := if hiS s < wrap64 (numN l) then wrap64 (numN l) - (128 ^ imS s : Nat) else wrap64 (numN l)
def tail7 (s : Nat) (b : List UInt8) : List UInt8 := (b.take (lenS s)).drop (lenS s - imS s)
def rA (s : Nat) (b : List UInt8) : Int := if rgS s = 1 then (b.getD 1 0).toNat else if rgS s = 2 then ((b.getD 1 0).toNat / 8 : Nat) else 0
def rB (s : Nat) (b : List UInt8) : Int := if rgS s = 2 then ((b.getD 1 0).toNat % 8 : Nat) else 0
/-- What is decoded. -/
def oD (b : List UInt8) : Int := if eD b = 0 then opD b else 0
def aD (b : List UInt8) : Int := if eD b = 0 then rA (shD b) b else 0
def bD (b : List UInt8) : Int := if eD b = 0 then rB (shD b) b else 0
def iD (b : List UInt8) : Int := if eD b = 0 then immV (shD b) (tail7 (shD b) b) else 0
def nD (b : List UInt8) : Nat := if eD b = 0 then lenS (shD b) else 0

theorem eD_zero {b : List UInt8} : eD b = 0 ↔ b.length ≠ 0 ∧ knO (opD b) = true ∧ ∀ i, 1 ≤ i → i < lenS (shD b) → i < b.length ∧ goB (shD b) i (b.getD i 0) = true := by
  unfold eD
  by_cases h0 : b.length = 0
  · simp [h0]
  rw [if_neg h0]
  cases hk : knO (opD b)
  · simp
  rw [if_neg (by simp)]
  have hp := lenS_pos (shD b)
  by_cases hs : stD (shD b) b = lenS (shD b)
  · rw [if_pos hs]
    refine ⟨fun _ => ⟨h0, rfl, fun i h1 h2 => ?_⟩, fun _ => rfl⟩
    unfold stD at hs
    have := cnt_ok (okD (shD b) b) (lenS (shD b) - 1) (i - 1) (by omega)
    unfold okD at this
    rw [show i - 1 + 1 = i by omega] at this
    simpa using this
  · rw [if_neg hs]
    constructor
    · intro h; split at h <;> cases h
    · rintro ⟨_, _, h⟩
      exfalso
      apply hs
      unfold stD
      rw [cnt_all _ _ (fun j hj => by
        have := h (j + 1) (by omega) (by omega)
        unfold okD
        rw [decide_eq_true this.1, this.2]
        rfl)]
      omega
theorem eD_first {b : List UInt8} (h : b.length ≠ 0) (hc : (b.getD 0 0).toNat < 128) : eD b = 20 := by
  unfold eD
  rw [if_neg h, if_pos]
  cases hk : knO (opD b)
  · rfl
  · have := (knO_iff _).1 hk
    unfold opD at this
    omega
theorem getD_drop8 (b : List UInt8) (i j : Nat) : (b.drop i).getD j 0 = b.getD (i + j) 0 := by simp [List.getD, List.getElem?_drop]
/-- Within an encoding no other one begins. -/
theorem eD_apart {b : List UInt8} (h : eD b = 0) {i : Nat} (h1 : 1 ≤ i) (h2 : i < nD b) : eD (b.drop i) = 20 := by
  unfold nD at h2
  rw [if_pos h] at h2
  obtain ⟨h0, hk, hg⟩ := eD_zero.1 h
  obtain ⟨hl, hb⟩ := hg i h1 h2
  refine eD_first (by rw [List.length_drop]; omega) ?_
  rw [getD_drop8, Nat.add_zero]
  exact goB_lt hb
theorem nD_le {b : List UInt8} (h : eD b = 0) : 1 ≤ nD b ∧ nD b ≤ b.length := by
  obtain ⟨h0, hk, hg⟩ := eD_zero.1 h
  unfold nD
  rw [if_pos h]
  have hp := lenS_pos (shD b)
  refine ⟨hp, ?_⟩
  by_cases h1 : lenS (shD b) = 1
  · omega
  · have := (hg (lenS (shD b) - 1) (by omega) (by omega)).1
    omega

/-- Two texts of bytes that are alike but for bytes beyond 127. -/
def Alike (b c : List UInt8) : Prop := b.length = c.length ∧ b.getD 0 0 = c.getD 0 0 ∧ ∀ j, b.getD j 0 = c.getD j 0 ∨ (128 ≤ (b.getD j 0).toNat ∧ 128 ≤ (c.getD j 0).toNat)
theorem goB_big {s i : Nat} {c : UInt8} (h : 128 ≤ c.toNat) : goB s i c = false := by
  cases hg : goB s i c
  · rfl
  · have := goB_lt hg; omega
theorem alike_e {b c : List UInt8} (h : Alike b c) : opD b = opD c ∧ eD b = eD c := by
  obtain ⟨hl, h0, hj⟩ := h
  have e1 : opD b = opD c := by unfold opD; rw [h0]
  refine ⟨e1, ?_⟩
  have e2 : shD b = shD c := by unfold shD; rw [e1]
  have e3 : ∀ s, okD s b = okD s c := fun s => by
    funext j
    unfold okD
    rw [hl]
    rcases hj (j + 1) with h | ⟨h, h'⟩
    · rw [h]
    · rw [goB_big h, goB_big h']
  unfold eD stD
  rw [e2, e1, hl, e3]
theorem alike_all {b c : List UInt8} (h : Alike b c) : eD b = eD c ∧ oD b = oD c ∧ aD b = aD c ∧ bD b = bD c ∧ iD b = iD c ∧ nD b = nD c := by
  obtain ⟨e1, e2⟩ := alike_e h
  have e3 : shD b = shD c := by unfold shD; rw [e1]
  refine ⟨e2, ?_⟩
  by_cases he : eD b = 0
  · obtain ⟨hl, h0, hj⟩ := h
    obtain ⟨_, _, hg⟩ := eD_zero.1 he
    have same : ∀ i, i < lenS (shD b) → b.getD i 0 = c.getD i 0 := fun i hi => by
      by_cases h1 : 1 ≤ i
      · rcases hj i with h | ⟨h, _⟩
        · exact h
        · have := goB_lt (hg i h1 hi).2; omega
      · rw [show i = 0 by omega]; exact h0
    have hn := nD_le he
    have hn2 : nD b = lenS (shD b) := by unfold nD; rw [if_pos he]
    have ht : b.take (lenS (shD b)) = c.take (lenS (shD b)) := by
      refine List.ext_getElem (by simp [hl]) (fun i h1 h2 => ?_)
      simp only [List.length_take] at h1
      have := same i (by omega)
      simp only [List.getElem_take]
      simpa [List.getD, show i < b.length by omega, show i < c.length by omega] using this
    unfold oD aD bD iD nD tail7 rA rB
    rw [← e2, ← e3]
    simp only [if_pos he]
    refine ⟨e1, ?_, ?_, by rw [ht], trivial⟩
    · by_cases r1 : rgS (shD b) = 1
      · rw [if_pos r1, if_pos r1, same 1 (by unfold lenS; rw [if_neg (by omega)]; omega)]
      · rw [if_neg r1, if_neg r1]
        by_cases r2 : rgS (shD b) = 2
        · rw [if_pos r2, if_pos r2, same 1 (by unfold lenS; rw [if_neg (by omega)]; omega)]
        · rw [if_neg r2, if_neg r2]
    · by_cases r2 : rgS (shD b) = 2
      · rw [if_pos r2, if_pos r2, same 1 (by unfold lenS; rw [if_neg (by omega)]; omega)]
      · rw [if_neg r2, if_neg r2]
  · have he' : ¬ eD c = 0 := by rw [← e2]; exact he
    unfold oD aD bD iD nD
    simp [he, he']
/-- The patched byte: another offset decodes as before. -/
theorem patched {b : List UInt8} {k i : Nat} (hk : eD (b.drop k) = 0) (hne : i ≠ k) : Alike (b.drop i) ((b.set k 204).drop i) := by
  have hlk : k < b.length := by
    obtain ⟨h0, _, _⟩ := eD_zero.1 hk
    rw [List.length_drop] at h0; omega
  have h128 : 128 ≤ (b.getD k 0).toNat := by
    obtain ⟨_, hkn, _⟩ := eD_zero.1 hk
    have := (knO_iff _).1 hkn
    unfold opD at this
    rw [getD_drop8, Nat.add_zero] at this
    omega
  have hset : ∀ j, j ≠ k → (b.set k 204).getD j 0 = b.getD j 0 := fun j hj => by
    simp only [List.getD]
    rw [List.getElem?_set_ne (by omega)]
  have hsk : (b.set k 204).getD k 0 = 204 := by simp [List.getD, hlk]
  refine ⟨by simp, ?_, fun j => ?_⟩
  · rw [getD_drop8, getD_drop8, Nat.add_zero, hset i hne]
  · rw [getD_drop8, getD_drop8]
    by_cases e : i + j = k
    · right
      rw [e, hsk]
      exact ⟨h128, by decide⟩
    · left; rw [hset _ e]
theorem dec_break (l : List UInt8) : eD (204 :: l) = 0 ∧ oD (204 :: l) = 76 ∧ aD (204 :: l) = 0 ∧ bD (204 :: l) = 0 ∧ iD (204 :: l) = 0 ∧ nD (204 :: l) = 1 := by
  have ho : opD (204 :: l) = 76 := by simp [opD, List.getD]
  have hs : shD (204 :: l) = 0 := by unfold shD; rw [ho]; decide +kernel
  have he : eD (204 :: l) = 0 := eD_zero.2 ⟨by simp, (knO_iff _).2 (.inr ho), fun i h1 h2 => by rw [hs] at h2; have : lenS 0 = 1 := rfl; omega⟩
  refine ⟨he, ?_, ?_, ?_, ?_, ?_⟩
  · unfold oD; rw [if_pos he, ho]
  · unfold aD; rw [if_pos he, hs]; rfl
  · unfold bD; rw [if_pos he, hs]; rfl
  · unfold iD; rw [if_pos he, hs]
    simp [tail7, lenS, rgS, imS, immV, numN, hiS, wrap64]
  · unfold nD; rw [if_pos he, hs]; rfl
end Go.Proofs.YtjlbcpmfbokinaaGreatDoor

namespace Go.Proofs.YtjlbcpmfbokinaaGreatDoor
open Go.RowKit

/-- The groups of seven bits of a number. -/
def grpL : Int → Nat → List UInt8
  | _, 0 => []
  | n, k + 1 => UInt8.ofNat (n % 128).toNat :: grpL (n / 128) k
theorem grpL_len : ∀ (k : Nat) (n : Int), (grpL n k).length = k
  | 0, _ => rfl
  | k + 1, n => by simp [grpL, grpL_len k]
/-- A number of groups, with what stands above them. -/
def numZ : List UInt8 → Int → Int
  | [], e => e
  | c :: l, e => (c.toNat : Int) + 128 * numZ l e
theorem numZ_num : ∀ (l : List UInt8), numZ l 0 = numN l
  | [] => rfl
  | c :: l => by simp [numZ, numN, numZ_num l]
theorem numZ_top : ∀ (l : List UInt8) (e : Int), numZ l e = numN l + (128 ^ l.length : Nat) * e
  | [], e => by simp [numZ, numN]
  | c :: l, e => by
    simp only [numZ, numN, numZ_top l e, List.length_cons, Nat.pow_succ]
    push_cast
    rw [Int.mul_add]
    have : (128 : Int) * ((128 : Int) ^ l.length * e) = (128 : Int) ^ l.length * 128 * e := by
      rw [← Int.mul_assoc, Int.mul_comm 128]
    omega
theorem u8_toNat {x : Nat} (h : x < 256) : (UInt8.ofNat x).toNat = x := by
  simp [UInt8.toNat_ofNat']
  omega
theorem grpL_numZ : ∀ (l : List UInt8) (e : Int) (k : Nat), (∀ c ∈ l, c.toNat < 128) → grpL (numZ l e) (l.length + k) = l ++ grpL e k
  | [], e, k, _ => by simp [numZ]
  | c :: l, e, k, h => by
    have hc := h c (by simp)
    have h1 : ((c.toNat : Int) + 128 * numZ l e) % 128 = c.toNat := by omega
    have h2 : ((c.toNat : Int) + 128 * numZ l e) / 128 = numZ l e := by omega
    rw [show (c :: l).length + k = (l.length + k) + 1 by simp; omega]
    show UInt8.ofNat (((c.toNat : Int) + 128 * numZ l e) % 128).toNat :: grpL (((c.toNat : Int) + 128 * numZ l e) / 128) (l.length + k) = _
    rw [h1, h2, grpL_numZ l e k (fun x hx => h x (by simp [hx]))]
    simp
theorem numZ_grpL : ∀ (k : Nat) (n : Int), numZ (grpL n k) (n / (128 ^ k : Nat)) = n
  | 0, n => by simp [grpL, numZ]
  | k + 1, n => by
    have ih := numZ_grpL k (n / 128)
    rw [Int.ediv_ediv_of_nonneg (by omega)] at ih
    show ((UInt8.ofNat (n % 128).toNat).toNat : Int) + 128 * numZ (grpL (n / 128) k) (n / (128 ^ (k + 1) : Nat)) = n
    have e : (128 : Int) * ((128 ^ k : Nat) : Int) = ((128 ^ (k + 1) : Nat) : Int) := by rw [Nat.pow_succ]; push_cast; rw [Int.mul_comm]
    rw [e] at ih
    rw [ih, u8_toNat (by omega)]
    omega
theorem grpL_small : ∀ (k : Nat) (n : Int), ∀ c ∈ grpL n k, c.toNat < 128
  | 0, n, c, h => by simp [grpL] at h
  | k + 1, n, c, h => by
    simp only [grpL, List.mem_cons] at h
    rcases h with h | h
    · rw [h, u8_toNat (by omega)]; omega
    · exact grpL_small k _ c h
theorem numN_lt : ∀ (l : List UInt8), (∀ c ∈ l, c.toNat < 128) → numN l < 128 ^ l.length
  | [], _ => by simp [numN]
  | c :: l, h => by
    have := numN_lt l (fun x hx => h x (by simp [hx]))
    have := h c (by simp)
    simp only [numN, List.length_cons, Nat.pow_succ]
    omega
theorem immV_wide (l : List UInt8) : immV 3 l = wrap64 (numN l) := by
  unfold immV
  rw [if_neg]
  have e : hiS 3 = 9223372036854775807 := rfl
  rw [e]
  unfold wrap64
  omega
theorem shapes {s : Nat} (hs : s < 12) : (imS s = 0 ∧ loS s = 0 ∧ hiS s = 0) ∨ s = 3 ∨ (imS s = 1 ∧ loS s = -64 ∧ hiS s = 63) ∨ (imS s = 1 ∧ loS s = 0 ∧ hiS s = 127) ∨ (imS s = 2 ∧ loS s = -8192 ∧ hiS s = 8191) := by
  have : ∀ s : Fin 12, (imS s.1 = 0 ∧ loS s.1 = 0 ∧ hiS s.1 = 0) ∨ s.1 = 3 ∨ (imS s.1 = 1 ∧ loS s.1 = -64 ∧ hiS s.1 = 63) ∨ (imS s.1 = 1 ∧ loS s.1 = 0 ∧ hiS s.1 = 127) ∨ (imS s.1 = 2 ∧ loS s.1 = -8192 ∧ hiS s.1 = 8191) := by decide
  exact this ⟨s, hs⟩
theorem pow10 : (128 ^ 10 : Nat) = 1180591620717411303424 := by decide
theorem pow9 : (128 ^ 9 : Nat) = 9223372036854775808 := by decide
/-- The number of an encoding is the one that was encoded. -/
theorem imm_enc {s : Nat} (hs : s < 12) {n : Int} (h : ftB s n = true) : immV s (grpL n (imS s)) = n := by
  unfold ftB at h
  simp only [Bool.and_eq_true, decide_eq_true_eq] at h
  rcases shapes hs with ⟨e1, e2, e3⟩ | rfl | ⟨e1, e2, e3⟩ | ⟨e1, e2, e3⟩ | ⟨e1, e2, e3⟩
  · rw [e2, e3] at h
    unfold immV
    rw [e1, e3]
    simp only [grpL, numN]
    have : wrap64 ((0 : Nat) : Int) = 0 := by unfold wrap64; omega
    rw [this, if_neg (by omega)]
    omega
  · have e1 : imS 3 = 10 := rfl
    rw [immV_wide, e1]
    have hz := numZ_grpL 10 n
    have hlt := numN_lt (grpL n 10) (grpL_small _ _)
    rw [numZ_top, grpL_len, pow10] at hz
    rw [grpL_len, pow10] at hlt
    have e2 : loS 3 = -9223372036854775808 := rfl
    have e3 : hiS 3 = 9223372036854775807 := rfl
    rw [e2, e3] at h
    generalize numN (grpL n 10) = N at *
    unfold wrap64
    omega
  all_goals
    have hz := numZ_grpL (imS s) n
    have hlt := numN_lt (grpL n (imS s)) (grpL_small _ _)
    rw [numZ_top, grpL_len] at hz
    rw [grpL_len] at hlt
    rw [e2, e3] at h
    unfold immV
    rw [e3]
    rw [e1] at hz hlt ⊢
    simp only [Nat.reducePow] at hz hlt ⊢
    generalize numN _ = N at *
    have hw : wrap64 (N : Int) = N := by unfold wrap64; omega
    rw [hw]
    split <;> omega
/-- .. and its bytes are the encoding's. -/
theorem enc_imm {s : Nat} (hs : s < 12) {l : List UInt8} (hl : l.length = imS s) (h1 : ∀ c ∈ l, c.toNat < 128) (hw : s = 3 → (l.getD 9 0).toNat = 0 ∨ (l.getD 9 0).toNat = 127) : grpL (immV s l) (imS s) = l ∧ ftB s (immV s l) = true := by
  have hlt := numN_lt l h1
  have key : ∀ e, immV s l = numZ l e → grpL (immV s l) (imS s) = l := fun e he => by
    rw [he, ← hl]
    have := grpL_numZ l e 0 h1
    simpa [grpL] using this
  unfold ftB
  simp only [Bool.and_eq_true, decide_eq_true_eq]
  rcases shapes hs with ⟨e1, e2, e3⟩ | rfl | ⟨e1, e2, e3⟩ | ⟨e1, e2, e3⟩ | ⟨e1, e2, e3⟩
  · have hn : l = [] := List.eq_nil_of_length_eq_zero (by omega)
    subst hn
    have hv : immV s [] = 0 := by
      unfold immV
      rw [e3, if_neg (by show ¬ (0 < wrap64 ((0 : Nat) : Int)); unfold wrap64; omega)]
      show wrap64 ((0 : Nat) : Int) = 0
      unfold wrap64; omega
    rw [hv, e1, e2, e3]
    exact ⟨rfl, by omega⟩
  · have e1 : imS 3 = 10 := rfl
    have e2 : loS 3 = -9223372036854775808 := rfl
    have e3 : hiS 3 = 9223372036854775807 := rfl
    rw [immV_wide, e2, e3, e1]
    rw [e1] at hl
    refine ⟨?_, by unfold wrap64; omega⟩
    obtain ⟨l9, c9, rfl⟩ : ∃ l9 c9, l = l9 ++ [c9] := ⟨l.dropLast, l.getLast (by intro e; rw [e] at hl; simp at hl), (List.dropLast_concat_getLast _).symm⟩
    have hl9 : l9.length = 9 := by simp at hl; exact hl
    have hw' : c9.toNat = 0 ∨ c9.toNat = 127 := by
      have := hw rfl
      have e : (l9 ++ [c9]).getD 9 0 = c9 := by simp [List.getD, List.getElem?_append_right (show l9.length ≤ 9 by omega), hl9]
      rwa [e] at this
    have h9 : ∀ c ∈ l9, c.toNat < 128 := fun c hc => h1 c (by simp [hc])
    have hr := numN_lt l9 h9
    rw [hl9, pow9] at hr
    have hN : ∀ (a : List UInt8) (c : UInt8), numN (a ++ [c]) = numN a + 128 ^ a.length * c.toNat := fun a c => by
      induction a with
      | nil => simp [numN]
      | cons x a ih =>
        simp only [List.cons_append, numN, ih, List.length_cons, Nat.pow_succ, Nat.mul_add]
        rw [Nat.mul_comm (128 ^ a.length) 128, Nat.mul_assoc]
        omega
    have hN9 := hN l9 c9
    rw [hl9, pow9] at hN9
    have hv : ∃ e : Int, wrap64 (numN (l9 ++ [c9])) = numZ l9 e ∧ grpL e 1 = [c9] := by
      rcases hw' with e | e
      · refine ⟨0, ?_, ?_⟩
        · rw [numZ_top, hl9, pow9, hN9, e]; unfold wrap64; omega
        · have : c9 = 0 := UInt8.toNat_inj.1 (by simpa using e)
          rw [this]; rfl
      · refine ⟨-1, ?_, ?_⟩
        · rw [numZ_top, hl9, pow9, hN9, e]; unfold wrap64; omega
        · have : c9 = 127 := UInt8.toNat_inj.1 (by simpa using e)
          rw [this]; rfl
    obtain ⟨e, he, hg⟩ := hv
    rw [he]
    have := grpL_numZ l9 e 1 h9
    rw [hl9] at this
    rw [this, hg]
  all_goals
    rw [hl, e1] at hlt
    simp only [Nat.reducePow] at hlt
    have hw : wrap64 (numN l : Int) = numN l := by unfold wrap64; omega
    have hv : immV s l = if hiS s < (numN l : Int) then (numN l : Int) - (128 ^ imS s : Nat) else (numN l : Int) := by unfold immV; rw [hw]
    rw [e3, e1] at hv
    simp only [Nat.reducePow] at hv
    rw [e2, e3]
    refine ⟨?_, ?_⟩
    · by_cases hc : immV s l = (numN l : Int)
      · exact key 0 (by rw [hc, numZ_num])
      · refine key (-1) ?_
        rw [numZ_top, hl, e1]
        simp only [Nat.reducePow]
        split at hv <;> omega
    · split at hv <;> omega
end Go.Proofs.YtjlbcpmfbokinaaGreatDoor

namespace Go.Proofs.YtjlbcpmfbokinaaGreatDoor
open Go.RowKit

/-- The byte of the registers. -/
def regL (s : Nat) (a b : Int) : List UInt8 := if rgS s = 0 then [] else if rgS s = 1 then [UInt8.ofNat a.toNat] else [UInt8.ofNat (8 * a + b).toNat]
/-- The encoding of an instruction. -/
def enL (op a b n : Int) : List UInt8 := UInt8.ofNat (128 + op).toNat :: (regL (rowO op).sh a b ++ grpL n (imS (rowO op).sh))
theorem regs_of {s : Nat} (hs : s < 12) : rgS s = 0 ∨ rgS s = 1 ∨ rgS s = 2 := by
  have : ∀ s : Fin 12, rgS s.1 = 0 ∨ rgS s.1 = 1 ∨ rgS s.1 = 2 := by decide
  exact this ⟨s, hs⟩
theorem regL_len {s : Nat} (hs : s < 12) (a b : Int) : (regL s a b).length + 1 = lenS s - imS s ∧ lenS s = (regL s a b).length + 1 + imS s := by
  unfold regL lenS
  rcases regs_of hs with h | h | h <;> rw [h] <;> simp
theorem enL_len {op : Int} (h : knO op = true) (a b n : Int) : (enL op a b n).length = lenS (rowO op).sh := by
  have hs := (rowO_sh h).1
  have := (regL_len hs a b).2
  simp only [enL, List.length_cons, List.length_append, grpL_len]
  omega
theorem okX_parts {op a b n : Int} (h : okX op a b n = true) : knO op = true ∧ irB a (decide (1 ≤ rgS (rowO op).sh)) = true ∧ irB b (rgS (rowO op).sh == 2) = true ∧ ftB (rowO op).sh n = true := by
  unfold okX at h
  simp only [Bool.and_eq_true] at h
  exact ⟨h.1.1.1, h.1.1.2, h.1.2, h.2⟩
theorem irB_iff {n : Int} {p : Bool} : irB n p = true ↔ n = 0 ∨ (p = true ∧ 0 < n ∧ n ≤ 7) := by
  unfold irB
  cases p <;> simp
/-- The first byte of an encoding. -/
theorem opD_enc {op : Int} (h : knO op = true) (a b n : Int) (l : List UInt8) : opD (enL op a b n ++ l) = op ∧ shD (enL op a b n ++ l) = (rowO op).sh := by
  have hr := (knO_iff op).1 h
  have e : opD (enL op a b n ++ l) = op := by
    unfold opD enL
    simp only [List.cons_append, List.getD_cons_zero]
    rw [u8_toNat (by omega)]
    omega
  exact ⟨e, by unfold shD; rw [e]⟩
theorem lenS_3 : lenS 3 = 12 := rfl
theorem imS_10 {s : Nat} (hs : s < 12) (h : imS s = 10) : s = 3 := by
  have : ∀ s : Fin 12, imS s.1 = 10 → s.1 = 3 := by decide
  exact this ⟨s, hs⟩ h
theorem grpL_get : ∀ (k : Nat) (n : Int) (j : Nat), j < k → ((grpL n k).getD j 0).toNat = ((n / (128 ^ j : Nat)) % 128).toNat
  | 0, n, j, h => by omega
  | k + 1, n, 0, _ => by
    simp only [grpL, List.getD_cons_zero]
    rw [u8_toNat (by omega)]
    simp
  | k + 1, n, j + 1, h => by
    simp only [grpL, List.getD_cons_succ]
    rw [grpL_get k (n / 128) j (by omega), Int.ediv_ediv_of_nonneg (by omega)]
    have e : (128 : Int) * ((128 ^ j : Nat) : Int) = ((128 ^ (j + 1) : Nat) : Int) := by rw [Nat.pow_succ]; push_cast; rw [Int.mul_comm]
    rw [e]
theorem dec_enc {op a b n : Int} (h : okX op a b n = true) (l : List UInt8) : eD (enL op a b n ++ l) = 0 ∧ oD (enL op a b n ++ l) = op ∧ aD (enL op a b n ++ l) = a ∧ bD (enL op a b n ++ l) = b ∧ iD (enL op a b n ++ l) = n ∧ nD (enL op a b n ++ l) = (enL op a b n).length := by
  obtain ⟨hk, ha, hb, hf⟩ := okX_parts h
  have hs := (rowO_sh hk).1
  obtain ⟨e1, e2⟩ := opD_enc hk a b n l
  have hlen := enL_len hk a b n
  generalize hsv : (rowO op).sh = s at *
  obtain ⟨q1, q2⟩ := regL_len hs a b
  have rA := irB_iff.1 ha
  have rB := irB_iff.1 hb
  have e1r : enL op a b n = UInt8.ofNat (128 + op).toNat :: (regL s a b ++ grpL n (imS s)) := by unfold enL; rw [hsv]
  -- bytes of the registers
  have r1 : rgS s = 1 → regL s a b = [UInt8.ofNat a.toNat] := fun h => by unfold regL; rw [if_neg (by omega), if_pos h]
  have r2 : rgS s = 2 → regL s a b = [UInt8.ofNat (8 * a + b).toNat] := fun h => by unfold regL; rw [if_neg (by omega), if_neg (by omega)]
  have r0 : rgS s = 0 → regL s a b = [] := fun h => by unfold regL; rw [if_pos h]
  have hgrp : ∀ i, (regL s a b).length + 1 ≤ i → i < lenS s → (enL op a b n ++ l).getD i 0 = (grpL n (imS s)).getD (i - ((regL s a b).length + 1)) 0 := fun i h1 h2 => by
    rw [e1r]
    simp only [List.getD]
    rw [show (UInt8.ofNat (128 + op).toNat :: (regL s a b ++ grpL n (imS s)) ++ l) = (UInt8.ofNat (128 + op).toNat :: regL s a b) ++ (grpL n (imS s) ++ l) by simp]
    rw [List.getElem?_append_right (by simpa using h1), List.getElem?_append_left (by rw [grpL_len]; simp; omega)]
    simp
  have he : eD (enL op a b n ++ l) = 0 := by
    refine eD_zero.2 ⟨by simp [hlen, enL], by rw [e1]; exact hk, fun i h1 h2 => ?_⟩
    rw [e2] at h2 ⊢
    refine ⟨by simp only [List.length_append]; omega, ?_⟩
    by_cases hi : (regL s a b).length + 1 ≤ i
    · rw [hgrp i hi h2]
      have hsm : ((grpL n (imS s)).getD (i - ((regL s a b).length + 1)) 0).toNat < 128 := by
        rw [grpL_get _ _ _ (by omega)]; omega
      unfold goB
      have n1 : ¬ (i = 1 ∧ rgS s = 1) := fun ⟨x, y⟩ => by rw [r1 y] at hi; simp at hi; omega
      have n2 : ¬ (i = 1 ∧ rgS s = 2) := fun ⟨x, y⟩ => by rw [r2 y] at hi; simp at hi; omega
      rw [if_neg n1, if_neg n2]
      by_cases hw : imS s = 10 ∧ i = lenS s - 1
      · rw [if_pos hw]
        have h3 := imS_10 hs hw.1
        subst h3
        have hrg : (regL 3 a b).length = 1 := by rw [r1 rfl]; rfl
        have hi9 : i - ((regL 3 a b).length + 1) = 9 := by rw [hrg, hw.2, lenS_3]
        rw [hi9, grpL_get _ _ _ (by decide), pow9]
        have f1 : -9223372036854775808 ≤ n ∧ n ≤ 9223372036854775807 := by
          unfold ftB at hf
          simpa [loS, hiS] using hf
        simp only [Bool.or_eq_true, decide_eq_true_eq]
        omega
      · rw [if_neg hw]; simpa using hsm
    · have hi1 : i = 1 := by
        have : (regL s a b).length ≤ 1 := by
          rcases regs_of hs with h | h | h
          · rw [r0 h]; simp
          · rw [r1 h]; simp
          · rw [r2 h]; simp
        omega
      subst hi1
      unfold goB
      rcases regs_of hs with hr | hr | hr
      · rw [r0 hr] at hi; simp at hi
      · rw [if_pos ⟨rfl, hr⟩, e1r, r1 hr]
        simp only [List.cons_append, List.getD_cons_succ, List.getD_cons_zero, List.nil_append, decide_eq_true_eq]
        rw [u8_toNat (by omega)]
        omega
      · rw [if_neg (by omega), if_pos ⟨rfl, hr⟩, e1r, r2 hr]
        simp only [List.cons_append, List.getD_cons_succ, List.getD_cons_zero, List.nil_append, decide_eq_true_eq]
        rw [u8_toNat (by omega)]
        omega
  have ht : tail7 s (enL op a b n ++ l) = grpL n (imS s) := by
    unfold tail7
    rw [List.take_append_of_le_length (by omega), List.take_of_length_le (by omega), e1r, ← q1]
    rw [show UInt8.ofNat (128 + op).toNat :: (regL s a b ++ grpL n (imS s)) = (UInt8.ofNat (128 + op).toNat :: regL s a b) ++ grpL n (imS s) by simp]
    exact List.drop_left' (by simp)
  have hN : nD (enL op a b n ++ l) = (enL op a b n).length := by unfold nD; rw [if_pos he, e2, hlen]
  have hg1 : rgS s ≠ 0 → (enL op a b n ++ l).getD 1 0 = (regL s a b).getD 0 0 := fun h => by
    rw [e1r]
    rcases regs_of hs with hr | hr | hr
    · exact absurd hr h
    · rw [r1 hr]; simp
    · rw [r2 hr]; simp
  refine ⟨he, by unfold oD; rw [if_pos he, e1], ?_, ?_, ?_, hN⟩
  · unfold aD Go.Proofs.YtjlbcpmfbokinaaGreatDoor.rA
    rw [if_pos he, e2]
    rcases regs_of hs with hr | hr | hr
    · rw [if_neg (by omega), if_neg (by omega)]
      rcases rA with h | ⟨h, _⟩
      · exact h.symm
      · rw [hr] at h; simp at h
    · rw [if_pos hr, hg1 (by omega), r1 hr]
      simp only [List.getD_cons_zero]
      rw [u8_toNat (by omega)]
      omega
    · rw [if_neg (by omega), if_pos hr, hg1 (by omega), r2 hr]
      simp only [List.getD_cons_zero]
      rw [u8_toNat (by omega)]
      omega
  · unfold bD Go.Proofs.YtjlbcpmfbokinaaGreatDoor.rB
    rw [if_pos he, e2]
    rcases regs_of hs with hr | hr | hr
    · rw [if_neg (by omega)]
      rcases rB with h | ⟨h, _⟩
      · exact h.symm
      · rw [hr] at h; simp at h
    · rw [if_neg (by omega)]
      rcases rB with h | ⟨h, _⟩
      · exact h.symm
      · rw [hr] at h; simp at h
    · rw [if_pos hr, hg1 (by omega), r2 hr]
      simp only [List.getD_cons_zero]
      rw [u8_toNat (by omega)]
      omega
  · unfold iD
    rw [if_pos he, e2, ht]
    exact imm_enc hs hf
theorem take1_drop (b : List UInt8) : (b.take 1).drop 1 = [] := by cases b <;> simp
theorem take2_drop (b : List UInt8) (h : 1 < b.length) : (b.take 2).drop 1 = [b.getD 1 0] := by
  match b, h with
  | [_], h => simp at h
  | x :: y :: t, _ => simp
/-- What is decoded is well-formed, and encoded as the beginning of the bytes. -/
theorem enc_dec {b : List UInt8} (h : eD b = 0) : okX (oD b) (aD b) (bD b) (iD b) = true ∧ enL (oD b) (aD b) (bD b) (iD b) = b.take (nD b) := by
  obtain ⟨h0, hk, hg⟩ := eD_zero.1 h
  have hn := nD_le h
  have hs := (rowO_sh hk).1
  have e0 : oD b = opD b := by unfold oD; rw [if_pos h]
  have en : nD b = lenS (shD b) := by unfold nD; rw [if_pos h]
  have ea : aD b = rA (shD b) b := by unfold aD; rw [if_pos h]
  have eb : bD b = rB (shD b) b := by unfold bD; rw [if_pos h]
  have ei : iD b = immV (shD b) (tail7 (shD b) b) := by unfold iD; rw [if_pos h]
  have hsd : (rowO (opD b)).sh = shD b := rfl
  rw [hsd] at hs
  have hr := (knO_iff _).1 hk
  obtain ⟨q1, q2⟩ := regL_len hs (rA (shD b) b) (rB (shD b) b)
  have hl7 : (tail7 (shD b) b).length = imS (shD b) := by unfold tail7; simp; omega
  have hget : ∀ i, i < imS (shD b) → (tail7 (shD b) b).getD i 0 = b.getD (lenS (shD b) - imS (shD b) + i) 0 := fun i hi => by
    unfold tail7
    rw [getD_drop8]
    simp only [List.getD]
    rw [List.getElem?_take_of_lt (by omega)]
  have h7 : ∀ c ∈ tail7 (shD b) b, c.toNat < 128 := fun c hc => by
    obtain ⟨i, hi, rfl⟩ := List.getElem_of_mem hc
    have e := hget i (by omega)
    simp only [List.getD, hi, List.getElem?_eq_getElem, Option.getD_some] at e
    rw [e]
    exact goB_lt (hg _ (by omega) (by omega)).2
  have hw : shD b = 3 → ((tail7 (shD b) b).getD 9 0).toNat = 0 ∨ ((tail7 (shD b) b).getD 9 0).toNat = 127 := fun h3 => by
    rw [hget 9 (by rw [h3]; decide), h3]
    have := (hg 11 (by omega) (by rw [h3]; decide)).2
    rw [h3] at this
    unfold goB at this
    rw [if_neg (by omega), if_neg (by omega), if_pos ⟨rfl, rfl⟩] at this
    rw [show lenS 3 - imS 3 + 9 = 11 from rfl]
    simpa using this
  obtain ⟨g1, g2⟩ := enc_imm hs hl7 h7 hw
  have hreg : irB (rA (shD b) b) (decide (1 ≤ rgS (shD b))) = true ∧ irB (rB (shD b) b) (rgS (shD b) == 2) = true ∧ regL (shD b) (rA (shD b) b) (rB (shD b) b) = (b.take (lenS (shD b) - imS (shD b))).drop 1 := by
    unfold Go.Proofs.YtjlbcpmfbokinaaGreatDoor.rA Go.Proofs.YtjlbcpmfbokinaaGreatDoor.rB regL
    rcases regs_of hs with hr0 | hr0 | hr0
    · rw [hr0]
      refine ⟨by simp [irB], by simp [irB], ?_⟩
      have : lenS (shD b) - imS (shD b) = 1 := by unfold lenS; rw [if_pos hr0]; omega
      rw [this, take1_drop]
      rfl
    · have hl2 : lenS (shD b) - imS (shD b) = 2 := by unfold lenS; rw [if_neg (by omega)]; omega
      have hb1 := hg 1 (by omega) (by omega)
      have hlt : (b.getD 1 0).toNat < 8 := by
        have := hb1.2
        unfold goB at this
        rw [if_pos ⟨rfl, hr0⟩] at this
        simpa using this
      rw [hr0, hl2, take2_drop _ hb1.1]
      refine ⟨irB_iff.2 ?_, by simp [irB], ?_⟩
      · rw [if_pos rfl]
        by_cases hz : (b.getD 1 0).toNat = 0
        · left; omega
        · right; exact ⟨rfl, by omega, by omega⟩
      · rw [if_neg (by decide), if_pos rfl, if_pos rfl]
        congr 1
        apply UInt8.toNat_inj.1
        rw [u8_toNat (by omega)]
        omega
    · have hl2 : lenS (shD b) - imS (shD b) = 2 := by unfold lenS; rw [if_neg (by omega)]; omega
      have hb1 := hg 1 (by omega) (by omega)
      have hlt : (b.getD 1 0).toNat < 64 := by
        have := hb1.2
        unfold goB at this
        rw [if_neg (by omega), if_pos ⟨rfl, hr0⟩] at this
        simpa using this
      rw [hr0, hl2, take2_drop _ hb1.1]
      refine ⟨irB_iff.2 ?_, irB_iff.2 ?_, ?_⟩
      · rw [if_neg (by decide), if_pos rfl]
        by_cases hz : (b.getD 1 0).toNat / 8 = 0
        · left; omega
        · right; exact ⟨rfl, by omega, by omega⟩
      · rw [if_pos rfl]
        by_cases hz : (b.getD 1 0).toNat % 8 = 0
        · left; omega
        · right; exact ⟨rfl, by omega, by omega⟩
      · rw [if_neg (by decide), if_neg (by decide), if_neg (by decide), if_pos rfl, if_pos rfl]
        congr 1
        apply UInt8.toNat_inj.1
        rw [u8_toNat (by omega)]
        omega
  rw [e0, ea, eb, ei, en]
  constructor
  · unfold okX
    rw [hk, hsd, hreg.1, hreg.2.1, g2]; rfl
  · unfold enL
    rw [hsd, g1, hreg.2.2]
    have hc : UInt8.ofNat (128 + opD b).toNat = b.getD 0 0 := by
      apply UInt8.toNat_inj.1
      unfold opD at hr ⊢
      rw [u8_toNat (by omega)]
      omega
    rw [hc]
    unfold tail7
    have hsplit : b.take (lenS (shD b)) = b.take (lenS (shD b) - imS (shD b)) ++ (b.take (lenS (shD b))).drop (lenS (shD b) - imS (shD b)) := by
      have := List.take_append_drop (lenS (shD b) - imS (shD b)) (b.take (lenS (shD b)))
      rw [List.take_take, Nat.min_eq_left (by omega)] at this
      exact this.symm
    conv => rhs; rw [hsplit]
    rw [← List.cons_append]
    congr 1
    match b, h0 with
    | [], h0 => simp at h0
    | x :: t, _ =>
      simp only [List.getD_cons_zero]
      obtain ⟨m, hm⟩ : ∃ m, lenS (shD (x :: t)) - imS (shD (x :: t)) = m + 1 := ⟨(regL (shD (x :: t)) (rA (shD (x :: t)) (x :: t)) (rB (shD (x :: t)) (x :: t))).length, q1.symm⟩
      rw [hm]
      simp
end Go.Proofs.YtjlbcpmfbokinaaGreatDoor
