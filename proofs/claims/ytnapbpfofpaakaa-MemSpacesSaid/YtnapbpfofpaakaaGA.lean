/-
  Plain mathematics of layer 1 (sized integers): no program is named here.
  Plain mathematics of layer 1, continued: the results of the binary operations.
  Plain mathematics of layer 1, continued: bounds on what the operations are given.
  Plain mathematics of layer 1: the division theorem.
  Plain mathematics of layer 1: the ring of addition, subtraction, multiplication and the bitwise operations, modulo 2 to a width.
  Plain mathematics of layer 1: shifts.
  Plain mathematics of layer 1: bytes of a value, and back.
  A world that has grown: what it held it holds, new objects stand behind, and some draws were made.
  Maps of functions: a map that a call makes, fills with named functions under integer keys, and hands back.
  The laws' helpers: op and wrap.
  Regions of a body as theorems of their own: the region by its number, and facts of memory that a grown world keeps.
  Contracts of layer 1: Bytes, FromBytes.
  Plain mathematics of layer 1: the order.
  The law BitsOrders, walked over named results.
  The reference of layer 1: Check, Wrapped, Wrap, Promoted, Promote, both, Convert.
  The reference of layer 1: Range, rank, Common, Usual.
  The reference of layer 1: Order, Compare, FromBytes.
  The reference of layer 1: Bytes.
-/
import Derived.WalkKit
import Derived.Lib.Hide
import Derived.WalkSpells
import Derived.WalkLawsBesides
import Derived.Deep.RegionWith
import Derived.Deep.RegionHeld3
import Derived.Test.YtnapbpfofpaakaaRows
import Derived.BigQuiet
import Derived.Deep.QuietTactic
import Derived.Deep.DeepCutAuto
import Derived.Maps.OwnSet
import Derived.Maps.AppendAt
import Derived.OneCell
import Derived.Laws.EntriesVeiled
import Derived.Laws.BytesArg
import Derived.Lib.ConvBytes
import Derived.Lib.Strings
namespace Go.Proofs.Ytnapbpfofpaakaa
open Go.RowKit

/-- v wrapped to the type of s bytes, signed if g. -/
def wrapI (s : Int) (g : Bool) (v : Int) : Int :=
  if s = 1 then (if g = true then (v + 128) % 256 - 128 else v % 256)
  else if s = 2 then (if g = true then (v + 32768) % 65536 - 32768 else v % 65536)
  else if s = 4 then (if g = true then (v + 2147483648) % 4294967296 - 2147483648 else v % 4294967296)
  else v

def validB (s : Int) : Bool := s == 1 || s == 2 || s == 4 || s == 8

/-- An integer type as a value. -/
@[reducible] def tyV (s : Int) (g : Bool) : Value := .agg #[.int .i64 s, .bool g]

theorem w64_i8 (v : Int) : wrap64 (IntKind.i8.wrap v) = (v + 128) % 256 - 128 := by
  unfold wrap64; simp only [IntKind.wrap, IntKind.signed, IntKind.bits]; simp; omega
theorem w64_i16 (v : Int) : wrap64 (IntKind.i16.wrap v) = (v + 32768) % 65536 - 32768 := by
  unfold wrap64; simp only [IntKind.wrap, IntKind.signed, IntKind.bits]; simp; omega
theorem w64_i32 (v : Int) : wrap64 (wrap32 v) = (v + 2147483648) % 4294967296 - 2147483648 := by
  unfold wrap64 wrap32; omega
theorem w64_u8 (v : Int) : wrap64 (IntKind.u8.wrap v) = v % 256 := by
  unfold wrap64; simp only [IntKind.wrap, IntKind.signed, IntKind.bits]; simp; omega
theorem w64_u16 (v : Int) : wrap64 (IntKind.u16.wrap v) = v % 65536 := by
  unfold wrap64; simp only [IntKind.wrap, IntKind.signed, IntKind.bits]; simp; omega
theorem w64_u32 (v : Int) : wrap64 (IntKind.u32.wrap v) = v % 4294967296 := by
  unfold wrap64; simp only [IntKind.wrap, IntKind.signed, IntKind.bits]; simp; omega

/-- The promoted type. -/
def prS (s : Int) : Int := if s < 4 then 4 else s
def prG (s : Int) (g : Bool) : Bool := if s < 4 then true else g
/-- The rank of a promoted type. -/
def rkI (s : Int) (g : Bool) : Int := if g = true then s else s + 1
/-- The common type. -/
def cmL (s1 : Int) (g1 : Bool) (s2 : Int) (g2 : Bool) : Bool := decide (rkI (prS s1) (prG s1 g1) < rkI (prS s2) (prG s2 g2))
def cmS (s1 : Int) (g1 : Bool) (s2 : Int) (g2 : Bool) : Int := if cmL s1 g1 s2 g2 = true then prS s2 else prS s1
def cmG (s1 : Int) (g1 : Bool) (s2 : Int) (g2 : Bool) : Bool := if cmL s1 g1 s2 g2 = true then prG s2 g2 else prG s1 g1

/-- Compare. -/
def cmpI (x y : Int) : Int := if x < y then -1 else if y < x then 1 else 0
/-- The number of a value of an unsigned type. -/
def u64 (x : Int) : Int := IntKind.u64.wrap x
def ordI (g : Bool) (x y : Int) : Int := if g = true then cmpI x y else cmpI (u64 x) (u64 y)
def quoI (g : Bool) (x y : Int) : Int := if g = true then wrap64 (x.tdiv y) else wrap64 (u64 ((u64 x).tdiv (u64 y)))
def remI (g : Bool) (x y : Int) : Int := if g = true then x.tmod y else wrap64 ((u64 x).tmod (u64 y))

/-- The least and the greatest value. -/
def rgL (s : Int) (g : Bool) : Int := if g = true then (if s = 1 then -128 else if s = 2 then -32768 else if s = 4 then -2147483648 else -9223372036854775808) else 0
def rgH (s : Int) (g : Bool) : Int := if g = true then (if s = 1 then 127 else if s = 2 then 32767 else if s = 4 then 2147483647 else 9223372036854775807) else (if s = 1 then 255 else if s = 2 then 65535 else if s = 4 then 4294967295 else -1)
/-- The error of a type. -/
def eT (s : Int) : Int := if validB s = true then 0 else 10
def eTT (s1 s2 : Int) : Int := if validB s1 = true then eT s2 else 10

/-- A choice that no walk takes apart. -/
def sel (b : Bool) (x y : Int) : Int := if b = true then x else y
def selV (b : Bool) (x y : Value) : Value := if b = true then x else y
theorem sel_t (x y : Int) : sel true x y = x := rfl
theorem sel_f (x y : Int) : sel false x y = y := rfl
theorem selV_t (x y : Value) : selV true x y = x := rfl
theorem selV_f (x y : Value) : selV false x y = y := rfl

theorem valid_iff (s : Int) : validB s = true ↔ s = 1 ∨ s = 2 ∨ s = 4 ∨ s = 8 := by simp [validB, or_assoc]
theorem prS_of (s : Int) (h : validB s = true) : prS s = 4 ∨ prS s = 8 := by
  rcases (valid_iff s).1 h with rfl | rfl | rfl | rfl <;> simp [prS]
theorem prS_le (s : Int) (h : validB s = true) : 0 ≤ prS s ∧ prS s ≤ 8 := by
  rcases prS_of s h with e | e <;> omega

end Go.Proofs.Ytnapbpfofpaakaa

namespace Go.Proofs.Ytnapbpfofpaakaa
open Go.RowKit

def shrI (g : Bool) (x n : Int) : Int := if g = true then x / 2 ^ n.toNat else wrap64 (u64 x / 2 ^ n.toNat)
def shlI (x n : Int) : Int := wrap64 (x * 2 ^ n.toNat)
def shI (op : Int) (g : Bool) (x n : Int) : Int := if op = 9 then shlI x n else shrI g x n
def cntI (s n : Int) : Int := bits .and .i64 n (8 * s - 1)
/-- The result of an arithmetic operation, before it is wrapped to the common type. -/
def arI (op : Int) (g : Bool) (x y : Int) : Int :=
  if op = 1 then wrap64 (x + y) else if op = 2 then wrap64 (x - y) else if op = 3 then wrap64 (x * y)
  else if op = 4 then quoI g x y else if op = 5 then remI g x y
  else if op = 6 then bits .and .i64 x y else if op = 7 then bits .or .i64 x y else bits .xor .i64 x y
def reB (op : Int) (n : Int) : Bool :=
  if op = 11 then decide (n < 0) else if op = 12 then decide (n ≤ 0) else if op = 13 then decide (0 < n)
  else if op = 14 then decide (0 ≤ n) else if op = 15 then n == 0 else n != 0
/-- The operands of an operation on the common type. -/
def opX (s1 : Int) (g1 : Bool) (a : Int) (s2 : Int) (g2 : Bool) : Int := wrapI (cmS s1 g1 s2 g2) (cmG s1 g1 s2 g2) (wrapI s1 g1 a)
def opY (s1 : Int) (g1 : Bool) (s2 : Int) (g2 : Bool) (b : Int) : Int := wrapI (cmS s1 g1 s2 g2) (cmG s1 g1 s2 g2) (wrapI s2 g2 b)

/-- The three results of a binary operation of two valid types. -/
@[reducible] def triV (s : Int) (g : Bool) (v e : Int) : Value := .tuple #[tyV s g, .int .i64 v, .int .i64 e]
def biV (op : Int) (s1 : Int) (g1 : Bool) (a : Int) (s2 : Int) (g2 : Bool) (b : Int) : Value :=
  if 1 ≤ op ∧ op ≤ 8 then
    (if (op = 4 ∨ op = 5) ∧ opY s1 g1 s2 g2 b = 0 then triV 0 false 0 12
     else triV (cmS s1 g1 s2 g2) (cmG s1 g1 s2 g2) (wrapI (cmS s1 g1 s2 g2) (cmG s1 g1 s2 g2) (arI op (cmG s1 g1 s2 g2) (opX s1 g1 a s2 g2) (opY s1 g1 s2 g2 b))) 0)
  else if op = 9 ∨ op = 10 then
    triV (prS s1) (prG s1 g1) (wrapI (prS s1) (prG s1 g1) (shI op (prG s1 g1) (wrapI (prS s1) (prG s1 g1) (wrapI s1 g1 a)) (cntI (prS s1) (wrapI s2 g2 b)))) 0
  else if 11 ≤ op ∧ op ≤ 16 then
    triV 4 true (if reB op (ordI (cmG s1 g1 s2 g2) (opX s1 g1 a s2 g2) (opY s1 g1 s2 g2 b)) = true then 1 else 0) 0
  else triV 0 false 0 11
end Go.Proofs.Ytnapbpfofpaakaa

namespace Go.Proofs.Ytnapbpfofpaakaa
open Go.RowKit

/-- A number of 64 bits with a sign. -/
def I64 (x : Int) : Prop := -9223372036854775808 ≤ x ∧ x ≤ 9223372036854775807
theorem u64_eq (x : Int) : u64 x = x % 18446744073709551616 := by
  simp [u64, IntKind.wrap, IntKind.signed, IntKind.bits]
theorem u64_ne {x : Int} (h : I64 x) (h0 : x ≠ 0) : u64 x ≠ 0 := by
  obtain ⟨h1, h2⟩ := h
  rw [u64_eq]; omega

theorem u64_nat (x : Int) : ∃ m : Nat, u64 x = m ∧ m ≤ 18446744073709551615 := by
  rw [u64_eq]
  exact ⟨(x % 18446744073709551616).toNat, by omega, by omega⟩

theorem i64_and31 (n : Int) : bits .and .i64 n 31 = n % 32 := by
  have hm : (BitVec.ofInt 64 31).toNat = 2 ^ 5 - 1 := by decide
  have key : (BitVec.ofInt 64 n &&& BitVec.ofInt 64 31).toNat = (n % ((2 ^ 64 : Nat) : Int)).toNat % 2 ^ 5 := by
    rw [BitVec.toNat_and, BitVec.toNat_ofInt, hm, Nat.and_two_pow_sub_one_eq_mod]
  show IntKind.i64.wrap ((BitVec.ofInt 64 n &&& BitVec.ofInt 64 31).toNat : Nat) = n % 32
  rw [key, IntKind.wrap_i64]
  omega
theorem i64_and63 (n : Int) : bits .and .i64 n 63 = n % 64 := by
  have hm : (BitVec.ofInt 64 63).toNat = 2 ^ 6 - 1 := by decide
  have key : (BitVec.ofInt 64 n &&& BitVec.ofInt 64 63).toNat = (n % ((2 ^ 64 : Nat) : Int)).toNat % 2 ^ 6 := by
    rw [BitVec.toNat_and, BitVec.toNat_ofInt, hm, Nat.and_two_pow_sub_one_eq_mod]
  show IntKind.i64.wrap ((BitVec.ofInt 64 n &&& BitVec.ofInt 64 63).toNat : Nat) = n % 64
  rw [key, IntKind.wrap_i64]
  omega
theorem cntI_eq (s n : Int) (h : s = 4 ∨ s = 8) : cntI s n = n % (8 * s) := by
  rcases h with rfl | rfl
  · exact i64_and31 n
  · exact i64_and63 n
theorem cntI_bd (s n : Int) (h : s = 4 ∨ s = 8) : 0 ≤ cntI s n ∧ cntI s n ≤ 63 := by
  rw [cntI_eq s n h]
  rcases h with rfl | rfl <;> omega
end Go.Proofs.Ytnapbpfofpaakaa

namespace Go.Proofs.Ytnapbpfofpaakaa
open Go.RowKit

/-- The numbers that values of a type stand as. -/
def Rg (s : Int) (g : Bool) (x : Int) : Prop :=
  if s = 1 then (if g = true then -128 ≤ x ∧ x ≤ 127 else 0 ≤ x ∧ x ≤ 255)
  else if s = 2 then (if g = true then -32768 ≤ x ∧ x ≤ 32767 else 0 ≤ x ∧ x ≤ 65535)
  else if s = 4 then (if g = true then -2147483648 ≤ x ∧ x ≤ 2147483647 else 0 ≤ x ∧ x ≤ 4294967295)
  else -9223372036854775808 ≤ x ∧ x ≤ 9223372036854775807
theorem Rg_wrap (s : Int) (g : Bool) (v : Int) (h : I64 v) : Rg s g (wrapI s g v) := by
  obtain ⟨h1, h2⟩ := h
  unfold Rg wrapI
  split
  · split <;> omega
  · split
    · split <;> omega
    · split
      · split <;> omega
      · omega
theorem wrap_Rg (s : Int) (g : Bool) (v : Int) (h : Rg s g v) : wrapI s g v = v := by
  unfold Rg at h
  unfold wrapI
  split
  · simp_all; split <;> simp_all <;> omega
  · split
    · simp_all; split <;> simp_all <;> omega
    · split
      · simp_all; split <;> simp_all <;> omega
      · rfl
theorem Rg_I64 {s : Int} {g : Bool} {v : Int} (h : Rg s g v) : I64 v := by
  unfold Rg at h
  unfold I64
  split at h
  · split at h <;> omega
  · split at h
    · split at h <;> omega
    · split at h
      · split at h <;> omega
      · omega
theorem w64_I64 (z : Int) : I64 (wrap64 z) := by unfold I64 wrap64; omega

/-- Wrapping takes away a multiple. -/
theorem w64_k (z : Int) : ∃ k, wrap64 z = z + 18446744073709551616 * k := ⟨(wrap64 z - z) / 18446744073709551616, by unfold wrap64; omega⟩
theorem w4t_k (z : Int) : ∃ k, wrapI 4 true z = z + 4294967296 * k := ⟨(wrapI 4 true z - z) / 4294967296, by simp [wrapI]; omega⟩
theorem w4f_k (z : Int) : ∃ k, wrapI 4 false z = z + 4294967296 * k := ⟨(wrapI 4 false z - z) / 4294967296, by simp [wrapI]; omega⟩

theorem tmod_bd (x y : Int) (_ : y ≠ 0) : (0 < y → -y < x.tmod y ∧ x.tmod y < y) ∧ (y < 0 → y < x.tmod y ∧ x.tmod y < -y) := by
  have h1 := Int.tmod_lt_of_pos x (b := y)
  have h2 := Int.tmod_neg x y
  constructor
  · intro hp
    refine ⟨?_, Int.tmod_lt_of_pos x hp⟩
    have := Int.tmod_lt_of_pos (-x) hp
    rw [Int.neg_tmod] at this
    omega
  · intro hn
    have hp : 0 < -y := by omega
    have a := Int.tmod_lt_of_pos x hp
    have b := Int.tmod_lt_of_pos (-x) hp
    rw [Int.tmod_neg] at a
    rw [Int.tmod_neg, Int.neg_tmod] at b
    omega
theorem tmod_sign (x y : Int) : (0 ≤ x → 0 ≤ x.tmod y) ∧ (x ≤ 0 → x.tmod y ≤ 0) := by
  constructor
  · exact fun h => Int.tmod_nonneg y h
  · intro h
    have := Int.tmod_nonneg y (a := -x) (by omega)
    rw [Int.neg_tmod] at this
    omega
theorem tdiv_eq (x y : Int) : x.tdiv y * y + x.tmod y = x := by
  have := Int.mul_tdiv_add_tmod x y
  rw [Int.mul_comm] at this
  exact this

/-- The remainder, wrapped. -/
theorem rem_true (S : Int) (hS : S = 4 ∨ S = 8) (x y : Int) (hx : Rg S true x) (hy : Rg S true y) (h0 : y ≠ 0) : wrapI S true (remI true x y) = x.tmod y := by
  apply wrap_Rg
  have b := tmod_bd x y h0
  have s := tmod_sign x y
  show Rg S true (x.tmod y)
  rcases hS with rfl | rfl
  · simp [Rg] at hx hy ⊢; omega
  · simp [Rg] at hx hy ⊢; omega

/-- Equal but for a multiple. -/
def Cg (M a b : Int) : Prop := ∃ k, a = b + M * k
theorem Cg.refl (M a : Int) : Cg M a a := ⟨0, by simp⟩
theorem Cg.of {M a b : Int} (h : a = b) : Cg M a b := h ▸ Cg.refl M a
theorem Cg.trans {M a b c : Int} (h : Cg M a b) (k : Cg M b c) : Cg M a c := by
  obtain ⟨k1, e1⟩ := h; obtain ⟨k2, e2⟩ := k
  exact ⟨k1 + k2, by rw [e1, e2, Int.mul_add]; omega⟩
theorem Cg.symm {M a b : Int} (h : Cg M a b) : Cg M b a := by
  obtain ⟨k1, e1⟩ := h
  exact ⟨-k1, by rw [e1, Int.mul_neg]; omega⟩
theorem Cg.add {M a b c d : Int} (h : Cg M a b) (k : Cg M c d) : Cg M (a + c) (b + d) := by
  obtain ⟨k1, e1⟩ := h; obtain ⟨k2, e2⟩ := k
  exact ⟨k1 + k2, by rw [e1, e2, Int.mul_add]; omega⟩
theorem Cg.sub {M a b c d : Int} (h : Cg M a b) (k : Cg M c d) : Cg M (a - c) (b - d) := by
  obtain ⟨k1, e1⟩ := h; obtain ⟨k2, e2⟩ := k
  exact ⟨k1 - k2, by rw [e1, e2, Int.mul_sub]; omega⟩
theorem Cg.mulr {M a b : Int} (h : Cg M a b) (c : Int) : Cg M (a * c) (b * c) := by
  obtain ⟨k1, e1⟩ := h
  exact ⟨k1 * c, by rw [e1, Int.add_mul, Int.mul_assoc]⟩
theorem Cg.mull {M a b : Int} (h : Cg M a b) (c : Int) : Cg M (c * a) (c * b) := by
  rw [Int.mul_comm c a, Int.mul_comm c b]
  exact h.mulr c
theorem Cg.mul {M a b c d : Int} (h : Cg M a b) (k : Cg M c d) : Cg M (a * c) (b * d) := (h.mulr c).trans (k.mull b)

/-- 2 to the width. -/
def Ms (s : Int) : Int := if s = 1 then 256 else if s = 2 then 65536 else if s = 4 then 4294967296 else 18446744073709551616
theorem w_Cg (s : Int) (g : Bool) (z : Int) : Cg (Ms s) (wrapI s g z) z := by
  unfold Ms wrapI
  split
  · split
    · exact ⟨((z + 128) % 256 - 128 - z) / 256, by omega⟩
    · exact ⟨(z % 256 - z) / 256, by omega⟩
  · split
    · split
      · exact ⟨((z + 32768) % 65536 - 32768 - z) / 65536, by omega⟩
      · exact ⟨(z % 65536 - z) / 65536, by omega⟩
    · split
      · split
        · exact ⟨((z + 2147483648) % 4294967296 - 2147483648 - z) / 4294967296, by omega⟩
        · exact ⟨(z % 4294967296 - z) / 4294967296, by omega⟩
      · exact Cg.refl _ _
theorem w64_Cg (s : Int) (z : Int) : Cg (Ms s) (wrap64 z) z := by
  obtain ⟨k, e⟩ := w64_k z
  unfold Ms
  split
  · exact ⟨72057594037927936 * k, by omega⟩
  · split
    · exact ⟨281474976710656 * k, by omega⟩
    · split
      · exact ⟨4294967296 * k, by omega⟩
      · exact ⟨k, e⟩
theorem u64_Cg (s : Int) (z : Int) : Cg (Ms s) (u64 z) z := by
  have e : u64 z = z + 18446744073709551616 * ((u64 z - z) / 18446744073709551616) := by rw [u64_eq]; omega
  generalize (u64 z - z) / 18446744073709551616 = k at e
  unfold Ms
  split
  · exact ⟨72057594037927936 * k, by omega⟩
  · split
    · exact ⟨281474976710656 * k, by omega⟩
    · split
      · exact ⟨4294967296 * k, by omega⟩
      · exact ⟨k, e⟩
theorem ww_Cg (s : Int) (g : Bool) (z : Int) : Cg (Ms s) (wrapI s g (wrap64 z)) z := (w_Cg s g _).trans (w64_Cg s z)
theorem Rg_one {s : Int} {g : Bool} {a b : Int} (ha : Rg s g a) (hb : Rg s g b) (h : Cg (Ms s) a b) : a = b := by
  obtain ⟨k, e⟩ := h
  unfold Rg at ha hb
  unfold Ms at e
  by_cases h1 : s = 1
  · simp only [h1, if_true] at ha hb e; cases g <;> simp at ha hb <;> omega
  · by_cases h2 : s = 2
    · simp [h2] at ha hb e; cases g <;> simp at ha hb <;> omega
    · by_cases h4 : s = 4
      · simp [h4] at ha hb e; cases g <;> simp at ha hb <;> omega
      · simp only [h1, h2, h4, if_false] at ha hb e; omega

/-- The quotient and the remainder, wrapped, make the dividend. -/
theorem div_ring (s : Int) (g : Bool) (x y : Int) (hx : Rg s g x) :
    wrapI s g (wrap64 (wrapI s g (wrap64 (wrapI s g (quoI g x y) * y)) + wrapI s g (remI g x y))) = x := by
  refine Rg_one (Rg_wrap s g _ (w64_I64 _)) hx ?_
  have hq : Cg (Ms s) (wrapI s g (quoI g x y) * y) ((if g = true then x.tdiv y else (u64 x).tdiv (u64 y)) * (if g = true then y else u64 y)) := by
    refine Cg.mul ?_ ?_
    · cases g
      · exact (w_Cg _ _ _).trans ((w64_Cg _ _).trans (u64_Cg _ _))
      · exact ww_Cg _ _ _
    · cases g
      · exact (u64_Cg s y).symm
      · exact Cg.refl _ _
  have hr : Cg (Ms s) (wrapI s g (remI g x y)) (if g = true then x.tmod y else (u64 x).tmod (u64 y)) := by
    cases g
    · exact (w_Cg _ _ _).trans (w64_Cg _ _)
    · exact w_Cg _ _ _
  refine (ww_Cg s g _).trans ((((ww_Cg s g _).trans hq).add hr).trans ?_)
  cases g
  · show Cg _ ((u64 x).tdiv (u64 y) * u64 y + (u64 x).tmod (u64 y)) x
    rw [tdiv_eq]
    exact u64_Cg s x
  · show Cg _ (x.tdiv y * y + x.tmod y) x
    rw [tdiv_eq]
    exact Cg.refl _ _

/-- The remainder of numbers without a sign is less than the divisor. -/
theorem rem_false (S : Int) (hS : S = 4 ∨ S = 8) (x y : Int) (hx : Rg S false x) (hy : Rg S false y) (h0 : y ≠ 0) : u64 (wrapI S false (remI false x y)) < u64 y := by
  have hy0 : 0 < u64 y := by
    have := u64_ne (Rg_I64 hy) h0
    have : 0 ≤ u64 y := by rw [u64_eq]; omega
    omega
  have hx0 : 0 ≤ u64 x := by rw [u64_eq]; omega
  have h1 := Int.tmod_lt_of_pos (u64 x) hy0
  have h2 := Int.tmod_nonneg (u64 y) hx0
  show u64 (wrapI S false (wrap64 ((u64 x).tmod (u64 y)))) < u64 y
  have hyM : u64 y ≤ 18446744073709551615 := by rw [u64_eq]; omega
  generalize hz : (u64 x).tmod (u64 y) = z at h1 h2
  rcases hS with rfl | rfl
  · have e : u64 y = y := by simp [Rg] at hy; rw [u64_eq]; omega
    have b : y ≤ 4294967295 := by simp [Rg] at hy; exact hy.2
    have : wrapI 4 false (wrap64 z) = z := by simp [wrapI, wrap64]; omega
    rw [this, show u64 z = z by rw [u64_eq]; omega]
    exact h1
  · have : u64 (wrapI 8 false (wrap64 z)) = z := by rw [u64_eq]; simp [wrapI, wrap64]; omega
    rw [this]
    exact h1
end Go.Proofs.Ytnapbpfofpaakaa

namespace Go.Proofs.Ytnapbpfofpaakaa
open Go.RowKit

/-- The operations of the ring. -/
@[reducible] def isRing (n : Int) : Prop := n = 1 ∨ n = 2 ∨ n = 3 ∨ n = 6 ∨ n = 7 ∨ n = 8

/-- The width of a type. -/
def Ew (s : Int) : Nat := if s = 1 then 8 else if s = 2 then 16 else if s = 4 then 32 else 64
theorem Ms_pow (s : Int) : Ms s = ((2 ^ Ew s : Nat) : Int) := by
  unfold Ms Ew
  split
  · rfl
  · split
    · rfl
    · split <;> rfl
theorem Ew_le (s : Int) : Ew s ≤ 64 := by
  unfold Ew
  split
  · omega
  · split
    · omega
    · split <;> omega

/-- The pattern of 64 bits. -/
def un (x : Int) : Nat := (x % 18446744073709551616).toNat
theorem un_Cg (s : Int) (x : Int) : Cg (Ms s) (un x : Int) x := by
  have e : (un x : Int) = x + 18446744073709551616 * (-(x / 18446744073709551616)) := by unfold un; omega
  rw [e]
  generalize -(x / 18446744073709551616) = k
  unfold Ms
  split
  · exact ⟨72057594037927936 * k, by omega⟩
  · split
    · exact ⟨281474976710656 * k, by omega⟩
    · split
      · exact ⟨4294967296 * k, by omega⟩
      · exact ⟨k, rfl⟩
theorem Cg_mod {n : Nat} {a b : Nat} (h : Cg ((2 ^ n : Nat) : Int) (a : Int) (b : Int)) : a % 2 ^ n = b % 2 ^ n := by
  obtain ⟨k, e⟩ := h
  have : ((a % 2 ^ n : Nat) : Int) = ((b % 2 ^ n : Nat) : Int) := by
    rw [Int.natCast_emod, Int.natCast_emod, e, Int.add_mul_emod_self_left]
  exact Int.ofNat.inj this
theorem Cg_of_mod {n : Nat} {a b : Nat} (h : a % 2 ^ n = b % 2 ^ n) : Cg ((2 ^ n : Nat) : Int) (a : Int) (b : Int) := by
  refine ⟨((a / 2 ^ n : Nat) : Int) - ((b / 2 ^ n : Nat) : Int), ?_⟩
  have h1 := Nat.mod_add_div a (2 ^ n)
  have h2 := Nat.mod_add_div b (2 ^ n)
  rw [h] at h1
  rw [Int.mul_sub, ← Int.natCast_mul, ← Int.natCast_mul]
  omega

/-- The operation on patterns. -/
def bo (n : Int) (a b : Nat) : Nat := if n = 6 then a &&& b else if n = 7 then a ||| b else a ^^^ b
theorem bo_mod (n : Int) (k a b : Nat) : bo n a b % 2 ^ k = bo n (a % 2 ^ k) (b % 2 ^ k) := by
  unfold bo
  split
  · exact Nat.and_mod_two_pow
  · split
    · exact Nat.or_mod_two_pow
    · exact Nat.xor_mod_two_pow
theorem bo_comm (n : Int) (a b : Nat) : bo n a b = bo n b a := by
  unfold bo
  split
  · exact Nat.and_comm _ _
  · split
    · exact Nat.or_comm _ _
    · exact Nat.xor_comm _ _
theorem bo_assoc (n : Int) (a b c : Nat) : bo n (bo n a b) c = bo n a (bo n b c) := by
  unfold bo
  split
  · exact Nat.and_assoc _ _ _
  · split
    · exact Nat.or_assoc _ _ _
    · exact Nat.xor_assoc _ _ _

/-- The operations as plain functions. -/
def ringF (n : Int) (x y : Int) : Int :=
  if n = 1 then x + y else if n = 2 then x - y else if n = 3 then x * y else (bo n (un x) (un y) : Int)
theorem ringF_Cg (n : Int) (s : Int) {x x' y y' : Int} (h : Cg (Ms s) x x') (k : Cg (Ms s) y y') : Cg (Ms s) (ringF n x y) (ringF n x' y') := by
  unfold ringF
  split
  · exact h.add k
  · split
    · exact h.sub k
    · split
      · exact h.mul k
      · have h' : Cg (Ms s) (un x : Int) (un x' : Int) := (un_Cg s x).trans (h.trans (un_Cg s x').symm)
        have k' : Cg (Ms s) (un y : Int) (un y' : Int) := (un_Cg s y).trans (k.trans (un_Cg s y').symm)
        rw [Ms_pow] at h' k' ⊢
        apply Cg_of_mod
        rw [bo_mod, Cg_mod h', Cg_mod k', ← bo_mod]
theorem ringF_comm (n : Int) (h : n ≠ 2) (x y : Int) : ringF n x y = ringF n y x := by
  by_cases h1 : n = 1
  · simp only [ringF, if_pos h1]; omega
  · by_cases h3 : n = 3
    · simp only [ringF, if_neg h1, if_neg h, if_pos h3]; exact Int.mul_comm _ _
    · simp only [ringF, if_neg h1, if_neg h, if_neg h3]; rw [bo_comm]
theorem ringF_assoc (n : Int) (h : n ≠ 2) (s : Int) (x y z : Int) : Cg (Ms s) (ringF n (ringF n x y) z) (ringF n x (ringF n y z)) := by
  by_cases h1 : n = 1
  · simp only [ringF, if_pos h1]; exact Cg.of (by omega)
  · by_cases h3 : n = 3
    · simp only [ringF, if_neg h1, if_neg h, if_pos h3]; exact Cg.of (Int.mul_assoc _ _ _)
    · simp only [ringF, if_neg h1, if_neg h, if_neg h3]
      have a := un_Cg s (bo n (un x) (un y) : Int)
      have b := un_Cg s (bo n (un y) (un z) : Int)
      rw [Ms_pow] at a b ⊢
      apply Cg_of_mod
      rw [bo_mod, Cg_mod a, ← bo_mod, bo_assoc, bo_mod, ← Cg_mod b, ← bo_mod]

theorem ofInt_un (x : Int) : (BitVec.ofInt 64 x).toNat = un x := by
  rw [BitVec.toNat_ofInt]
  rfl
theorem bits6 (x y : Int) : bits .and .i64 x y = wrap64 (bo 6 (un x) (un y) : Int) := by
  show IntKind.i64.wrap ((BitVec.ofInt 64 x &&& BitVec.ofInt 64 y).toNat : Nat) = _
  rw [BitVec.toNat_and, ofInt_un, ofInt_un, IntKind.wrap_i64]
  simp [bo, wrap64]
theorem bits7 (x y : Int) : bits .or .i64 x y = wrap64 (bo 7 (un x) (un y) : Int) := by
  show IntKind.i64.wrap ((BitVec.ofInt 64 x ||| BitVec.ofInt 64 y).toNat : Nat) = _
  rw [BitVec.toNat_or, ofInt_un, ofInt_un, IntKind.wrap_i64]
  simp [bo, wrap64]
theorem bits8 (x y : Int) : bits .xor .i64 x y = wrap64 (bo 8 (un x) (un y) : Int) := by
  show IntKind.i64.wrap ((BitVec.ofInt 64 x ^^^ BitVec.ofInt 64 y).toNat : Nat) = _
  rw [BitVec.toNat_xor, ofInt_un, ofInt_un, IntKind.wrap_i64]
  simp [bo, wrap64]

/-- What an operation computes is the plain function but for a multiple. -/
theorem arI_Cg (n : Int) (h : n = 1 ∨ n = 2 ∨ n = 3 ∨ n = 6 ∨ n = 7 ∨ n = 8) (g : Bool) (s x y : Int) : Cg (Ms s) (arI n g x y) (ringF n x y) := by
  rcases h with rfl | rfl | rfl | rfl | rfl | rfl
  · exact w64_Cg s _
  · exact w64_Cg s _
  · exact w64_Cg s _
  · show Cg (Ms s) (bits .and .i64 x y) _
    rw [bits6]; exact w64_Cg s _
  · show Cg (Ms s) (bits .or .i64 x y) _
    rw [bits7]; exact w64_Cg s _
  · show Cg (Ms s) (bits .xor .i64 x y) _
    rw [bits8]; exact w64_Cg s _
theorem arI_I64 (n : Int) (h : n = 1 ∨ n = 2 ∨ n = 3 ∨ n = 6 ∨ n = 7 ∨ n = 8) (g : Bool) (x y : Int) : I64 (arI n g x y) := by
  rcases h with rfl | rfl | rfl | rfl | rfl | rfl
  · exact w64_I64 _
  · exact w64_I64 _
  · exact w64_I64 _
  · show I64 (bits .and .i64 x y)
    rw [bits6]; exact w64_I64 _
  · show I64 (bits .or .i64 x y)
    rw [bits7]; exact w64_I64 _
  · show I64 (bits .xor .i64 x y)
    rw [bits8]; exact w64_I64 _

/-- Congruent by the wider type, so by the narrower one. -/
theorem Cg.low {s t a b : Int} (h : Cg (Ms s) a b) (hd : ∃ d, Ms s = Ms t * d) : Cg (Ms t) a b := by
  obtain ⟨d, e⟩ := hd
  obtain ⟨k, e'⟩ := h
  exact ⟨d * k, by rw [e', e, Int.mul_assoc]⟩
theorem Ms_dvd {s t : Int} (hs : validB s = true) (ht : validB t = true) (h : t ≤ s) : ∃ d, Ms s = Ms t * d := by
  rcases (valid_iff s).1 hs with rfl | rfl | rfl | rfl <;> rcases (valid_iff t).1 ht with rfl | rfl | rfl | rfl
  all_goals first | omega | exact ⟨1, by decide⟩ | exact ⟨256, by decide⟩ | exact ⟨65536, by decide⟩ | exact ⟨16777216, by decide⟩ | exact ⟨4294967296, by decide⟩ | exact ⟨281474976710656, by decide⟩ | exact ⟨72057594037927936, by decide⟩

/-- The value of an operation on two values of one type. -/
def opV (n : Int) (s : Int) (g : Bool) (a b : Int) : Int := wrapI (prS s) (prG s g) (arI n (prG s g) (wrapI (prS s) (prG s g) (wrapI s g a)) (wrapI (prS s) (prG s g) (wrapI s g b)))
theorem prS_valid {s : Int} (v : validB s = true) : validB (prS s) = true := by rcases prS_of s v with h | h <;> rw [h] <;> rfl
theorem prS_ge {s : Int} (_ : validB s = true) : s ≤ prS s := by unfold prS; split <;> omega
theorem opV_Rg (n : Int) (h : isRing n) (s : Int) (g : Bool) (a b : Int) : Rg (prS s) (prG s g) (opV n s g a b) := Rg_wrap _ _ _ (arI_I64 n h _ _ _)
theorem opV_CgP (n : Int) (h : isRing n) (s : Int) (g : Bool) (a b : Int) : Cg (Ms (prS s)) (opV n s g a b) (ringF n (wrapI s g a) (wrapI s g b)) :=
  (w_Cg _ _ _).trans ((arI_Cg n h _ _ _ _).trans (ringF_Cg n _ (w_Cg _ _ _) (w_Cg _ _ _)))
theorem opV_Cg (n : Int) (h : isRing n) {s : Int} (v : validB s = true) (g : Bool) (a b : Int) : Cg (Ms s) (opV n s g a b) (ringF n a b) :=
  ((opV_CgP n h s g a b).low (Ms_dvd (prS_valid v) v (prS_ge v))).trans (ringF_Cg n s (w_Cg _ _ _) (w_Cg _ _ _))

/-- Wrapping the result is the operation on wrapped operands. -/
theorem ring_wrap (n : Int) (h : isRing n) {c : Int} (gc : Bool) {t : Int} (gt : Bool) (vc : validB c = true) (vt : validB t = true) (hl : t ≤ c) (a b : Int) :
    wrapI t gt (opV n t gt (wrapI t gt a) (wrapI t gt b)) = wrapI t gt (opV n c gc a b) := by
  refine Rg_one (Rg_wrap _ _ _ (Rg_I64 (opV_Rg n h t gt _ _))) (Rg_wrap _ _ _ (Rg_I64 (opV_Rg n h c gc _ _))) ?_
  refine (w_Cg _ _ _).trans (((opV_Cg n h vt gt _ _).trans (ringF_Cg n t (w_Cg _ _ _) (w_Cg _ _ _))).trans ?_)
  exact (((opV_Cg n h vc gc a b).low (Ms_dvd vc vt hl)).symm).trans (w_Cg _ _ _).symm
theorem ring_comm (n : Int) (h : isRing n) (h2 : n ≠ 2) (c : Int) (gc : Bool) (a b : Int) : opV n c gc b a = opV n c gc a b := by
  refine Rg_one (opV_Rg n h _ _ _ _) (opV_Rg n h _ _ _ _) ?_
  refine (opV_CgP n h c gc b a).trans ?_
  rw [ringF_comm n h2]
  exact (opV_CgP n h c gc a b).symm
theorem ring_assoc (n : Int) (h : isRing n) (h2 : n ≠ 2) {S : Int} (v : validB S = true) (hS : prS S = S) (G : Bool) (hG : prG S G = G) (a b c : Int) :
    opV n S G a (opV n S G b c) = opV n S G (opV n S G a b) c := by
  have r1 := opV_Rg n h S G a (opV n S G b c)
  have r2 := opV_Rg n h S G (opV n S G a b) c
  rw [hS, hG] at r1 r2
  refine Rg_one r1 r2 ?_
  refine ((opV_Cg n h v G _ _).trans (ringF_Cg n S (Cg.refl _ _) (opV_Cg n h v G b c))).trans ?_
  refine (ringF_assoc n h2 S a b c).symm.trans ?_
  exact ((opV_Cg n h v G _ _).trans (ringF_Cg n S (opV_Cg n h v G a b) (Cg.refl _ _))).symm
/-- A subtraction undoes an addition. -/
theorem ring_undo {c : Int} (gc : Bool) (a b : Int) (ha : I64 a) :
    wrapI (prS c) (prG c gc) (arI 2 (prG c gc) (wrapI (prS c) (prG c gc) (wrapI (prS c) (prG c gc) (opV 1 c gc a b))) (wrapI (prS c) (prG c gc) (wrapI c gc b))) = wrapI (prS c) (prG c gc) (wrapI c gc a) := by
  have e : Cg (Ms (prS c)) (wrapI (prS c) (prG c gc) (arI 2 (prG c gc) (wrapI (prS c) (prG c gc) (wrapI (prS c) (prG c gc) (opV 1 c gc a b))) (wrapI (prS c) (prG c gc) (wrapI c gc b)))) (wrapI (prS c) (prG c gc) (wrapI c gc a)) := by
    refine (w_Cg _ _ _).trans ((w64_Cg _ _).trans (((((w_Cg _ _ _).trans (w_Cg _ _ _)).trans (opV_CgP 1 (.inl rfl) c gc a b)).sub (w_Cg _ _ _)).trans ?_))
    refine Cg.trans (Cg.of ?_) (w_Cg _ _ _).symm
    show wrapI c gc a + wrapI c gc b - wrapI c gc b = wrapI c gc a
    omega
  exact Rg_one (Rg_wrap _ _ _ (w64_I64 _)) (Rg_wrap _ _ _ (Rg_I64 (Rg_wrap c gc a ha))) e
end Go.Proofs.Ytnapbpfofpaakaa

namespace Go.Proofs.Ytnapbpfofpaakaa
open Go.RowKit

/-- 2 to a count. -/
theorem pow_pos2 (n : Nat) : (0 : Int) < 2 ^ n := Int.pow_pos (by decide)
theorem pow_le2 {a b : Nat} (h : a ≤ b) : (2 : Int) ^ a ≤ 2 ^ b := by
  have : (2 : Nat) ^ a ≤ 2 ^ b := Nat.pow_le_pow_right (by decide) h
  have h' : (((2 : Nat) ^ a : Nat) : Int) ≤ (((2 : Nat) ^ b : Nat) : Int) := Int.ofNat_le.2 this
  simpa using h'
/-- A value of a type, promoted, is itself. -/
theorem pro_id {s : Int} (v : validB s = true) (g : Bool) {x : Int} (h : Rg s g x) : wrapI (prS s) (prG s g) x = x := by
  apply wrap_Rg
  rcases (valid_iff s).1 v with rfl | rfl | rfl | rfl <;> cases g <;> simp [Rg, prS, prG] at h ⊢ <;> omega
theorem Rg_pro {s : Int} (v : validB s = true) (g : Bool) {x : Int} (h : Rg s g x) : Rg (prS s) (prG s g) x := by
  rcases (valid_iff s).1 v with rfl | rfl | rfl | rfl <;> cases g <;> simp [Rg, prS, prG] at h ⊢ <;> omega

/-- The count. -/
theorem cnt_id {S : Int} (hS : S = 4 ∨ S = 8) {n : Int} (h0 : 0 ≤ n) (h1 : n < 8 * S) : cntI S (wrapI 4 true n) = n := by
  have e : wrapI 4 true n = n := wrap_Rg 4 true n (by simp [Rg]; omega)
  rw [e, cntI_eq S n hS]
  rcases hS with rfl | rfl <;> omega

/-- What the shifts return. -/
def shlV (S : Int) (G : Bool) (x n : Int) : Int := wrapI S G (shlI x n)
def shrV (S : Int) (G : Bool) (x n : Int) : Int := wrapI S G (shrI G x n)
theorem shr_I64 {S : Int} (_ : S = 4 ∨ S = 8) (G : Bool) (x n : Int) (h : Rg S G x) : I64 (shrI G x n) := by
  cases G
  · exact w64_I64 _
  · have p := pow_pos2 n.toNat
    have hx := Rg_I64 h
    show I64 (x / 2 ^ n.toNat)
    unfold I64 at hx ⊢
    have a : x / 2 ^ n.toNat ≤ 9223372036854775807 := by
      by_cases h0 : 0 ≤ x
      · exact Int.le_trans (Int.ediv_le_self _ h0) hx.2
      · have := Int.ediv_neg_of_neg_of_pos (show x < 0 by omega) p
        omega
    have b : -9223372036854775808 ≤ x / 2 ^ n.toNat := by
      have : -9223372036854775808 * 2 ^ n.toNat ≤ x := by
        have : (-9223372036854775808 : Int) * 2 ^ n.toNat ≤ -9223372036854775808 * 1 := Int.mul_le_mul_of_nonpos_left (by omega) (by omega)
        omega
      exact (Int.le_ediv_iff_mul_le p).2 this
    exact ⟨b, a⟩
theorem shl_Rg (S : Int) (G : Bool) (x n : Int) : Rg S G (shlV S G x n) := Rg_wrap _ _ _ (w64_I64 _)
theorem shr_Rg {S : Int} (hS : S = 4 ∨ S = 8) (G : Bool) (x n : Int) (h : Rg S G x) : Rg S G (shrV S G x n) := Rg_wrap _ _ _ (shr_I64 hS G x n h)
theorem shl_Cg (S : Int) (G : Bool) (x n : Int) : Cg (Ms S) (shlV S G x n) (x * 2 ^ n.toNat) := ww_Cg S G _

/-- A shift to the left is a multiplication by a power of 2. -/
theorem shl_mul (S : Int) (G : Bool) (x w n : Int) (h : Cg (Ms S) w x) : wrapI S G (wrap64 (wrapI S G (wrapI S G w) * wrapI S G (wrapI S G (wrap64 (2 ^ n.toNat))))) = shlV S G x n := by
  refine Rg_one (Rg_wrap _ _ _ (w64_I64 _)) (shl_Rg _ _ _ _) ?_
  refine (ww_Cg S G _).trans (Cg.trans ?_ (shl_Cg S G x n).symm)
  exact (((w_Cg _ _ _).trans (w_Cg _ _ _)).trans h).mul ((w_Cg _ _ _).trans ((w_Cg _ _ _).trans (w64_Cg _ _)))
/-- Two shifts to the left are one. -/
theorem shl_two (S : Int) (G : Bool) (x a b : Int) (ha : 0 ≤ a) (hb : 0 ≤ b) : shlV S G (shlV S G x a) b = shlV S G x (a + b) := by
  refine Rg_one (shl_Rg _ _ _ _) (shl_Rg _ _ _ _) ?_
  refine (shl_Cg _ _ _ _).trans (((shl_Cg S G x a).mulr _).trans (Cg.trans (Cg.of ?_) (shl_Cg S G x (a + b)).symm))
  rw [Int.mul_assoc, ← Int.pow_add, show (a + b).toNat = a.toNat + b.toNat by omega]

/-- The value of a shift to the right. -/
theorem shr_true {S : Int} (hS : S = 4 ∨ S = 8) (x n : Int) (h : Rg S true x) : shrV S true x n = x / 2 ^ n.toNat := by
  show wrapI S true (x / 2 ^ n.toNat) = _
  apply wrap_Rg
  have p := pow_pos2 n.toNat
  have key : ∀ B : Int, 0 ≤ B → -B - 1 ≤ x → x ≤ B → -B - 1 ≤ x / 2 ^ n.toNat ∧ x / 2 ^ n.toNat ≤ B := by
    intro B hB h1 h2
    constructor
    · refine (Int.le_ediv_iff_mul_le p).2 ?_
      have : (-B - 1) * 2 ^ n.toNat ≤ (-B - 1) * 1 := Int.mul_le_mul_of_nonpos_left (by omega) (by omega)
      omega
    · by_cases h0 : 0 ≤ x
      · exact Int.le_trans (Int.ediv_le_self _ h0) h2
      · have := Int.ediv_neg_of_neg_of_pos (show x < 0 by omega) p
        omega
  rcases hS with rfl | rfl
  · simp [Rg] at h ⊢
    have := key 2147483647 (by omega) (by omega) (by omega)
    omega
  · simp [Rg] at h ⊢
    have := key 9223372036854775807 (by omega) (by omega) (by omega)
    omega
theorem u64_bd (x : Int) : 0 ≤ u64 x ∧ u64 x < 18446744073709551616 := by rw [u64_eq]; omega
theorem div_bd (x : Int) (hx : 0 ≤ x) (n : Nat) : 0 ≤ x / 2 ^ n ∧ x / 2 ^ n ≤ x := ⟨Int.ediv_nonneg hx (Int.le_of_lt (pow_pos2 n)), Int.ediv_le_self _ hx⟩
theorem Rg4f_u64 {x : Int} (h : Rg 4 false x) : u64 x = x ∧ 0 ≤ x ∧ x ≤ 4294967295 := by
  simp [Rg] at h
  rw [u64_eq]; omega
/-- The number of a shift to the right without a sign. -/
theorem shr_false {S : Int} (hS : S = 4 ∨ S = 8) (x n : Int) (h : Rg S false x) : u64 (shrV S false x n) = u64 x / 2 ^ n.toNat := by
  show u64 (wrapI S false (wrap64 (u64 x / 2 ^ n.toNat))) = _
  have b := u64_bd x
  have d := div_bd (u64 x) b.1 n.toNat
  rcases hS with rfl | rfl
  · have r := Rg4f_u64 h
    rw [r.1] at d ⊢
    generalize x / 2 ^ n.toNat = q at *
    have : wrapI 4 false (wrap64 q) = q := by simp [wrapI, wrap64]; omega
    rw [this, u64_eq]; omega
  · generalize u64 x / 2 ^ n.toNat = q at *
    rw [u64_eq]; simp [wrapI, wrap64]; omega
/-- Two shifts to the right are one. -/
theorem shr_two {S : Int} (hS : S = 4 ∨ S = 8) (G : Bool) (x a b : Int) (ha : 0 ≤ a) (hb : 0 ≤ b) (h : Rg S G x) : shrV S G (shrV S G x a) b = shrV S G x (a + b) := by
  have e : (a + b).toNat = a.toNat + b.toNat := by omega
  cases G
  · show wrapI S false (wrap64 (u64 (shrV S false x a) / 2 ^ b.toNat)) = wrapI S false (wrap64 (u64 x / 2 ^ (a + b).toNat))
    rw [shr_false hS x a h, Int.ediv_ediv_of_nonneg (Int.le_of_lt (pow_pos2 _)), ← Int.pow_add, e]
  · rw [shr_true hS _ b (shr_Rg hS true x a h), shr_true hS x a h, shr_true hS x (a + b) h, Int.ediv_ediv_of_nonneg (Int.le_of_lt (pow_pos2 _)), ← Int.pow_add, e]

/-- A shift to the right is a division by a power of 2. -/
theorem pow_B {S : Int} (hS : S = 4 ∨ S = 8) {n : Int} (h0 : 0 ≤ n) (h1 : n < 8 * S) : u64 (wrapI S false (wrapI S false (wrap64 (2 ^ n.toNat)))) = 2 ^ n.toNat ∧ wrapI S false (wrapI S false (wrap64 (2 ^ n.toNat))) ≠ 0 := by
  have p := pow_pos2 n.toNat
  rcases hS with rfl | rfl
  · have l := pow_le2 (a := n.toNat) (b := 31) (by omega)
    have l' : (2 : Int) ^ 31 = 2147483648 := by decide
    rw [l'] at l
    generalize (2 : Int) ^ n.toNat = q at *
    have : wrapI 4 false (wrapI 4 false (wrap64 q)) = q := by simp [wrapI, wrap64]; omega
    rw [this, u64_eq]; omega
  · have l := pow_le2 (a := n.toNat) (b := 63) (by omega)
    have l' : (2 : Int) ^ 63 = 9223372036854775808 := by decide
    rw [l'] at l
    generalize (2 : Int) ^ n.toNat = q at *
    rw [u64_eq]; simp [wrapI, wrap64]; omega
theorem pow_T {S : Int} (hS : S = 4 ∨ S = 8) {n : Int} (h0 : 0 ≤ n) (h1 : n < 8 * S - 1) : wrapI S true (wrapI S true (wrap64 (2 ^ n.toNat))) = 2 ^ n.toNat := by
  have p := pow_pos2 n.toNat
  rcases hS with rfl | rfl
  · have l := pow_le2 (a := n.toNat) (b := 30) (by omega)
    have l' : (2 : Int) ^ 30 = 1073741824 := by decide
    rw [l'] at l
    generalize (2 : Int) ^ n.toNat = q at *
    simp [wrapI, wrap64]; omega
  · have l := pow_le2 (a := n.toNat) (b := 62) (by omega)
    have l' : (2 : Int) ^ 62 = 4611686018427387904 := by decide
    rw [l'] at l
    generalize (2 : Int) ^ n.toNat = q at *
    simp [wrapI, wrap64]; omega
theorem shr_div_true {S : Int} (hS : S = 4 ∨ S = 8) (x n : Int) (h : Rg S true x) (hx : 0 ≤ x) (h0 : 0 ≤ n) (h1 : n < 8 * S - 1) :
    wrapI S true (quoI true x (wrapI S true (wrapI S true (wrap64 (2 ^ n.toNat))))) = shrV S true x n := by
  rw [pow_T hS h0 h1]
  show wrapI S true (wrap64 (x.tdiv (2 ^ n.toNat))) = wrapI S true (x / 2 ^ n.toNat)
  have e : x.tdiv (2 ^ n.toNat) = x / 2 ^ n.toNat := Int.tdiv_eq_ediv_of_nonneg hx
  rw [e]
  have d := div_bd x hx n.toNat
  have hI := Rg_I64 h
  have : wrap64 (x / 2 ^ n.toNat) = x / 2 ^ n.toNat := by
    generalize x / 2 ^ n.toNat = q at *
    unfold I64 at hI; unfold wrap64; omega
  rw [this]
theorem shr_div_false {S : Int} (hS : S = 4 ∨ S = 8) (x n : Int) (h0 : 0 ≤ n) (h1 : n < 8 * S) :
    wrapI S false (quoI false x (wrapI S false (wrapI S false (wrap64 (2 ^ n.toNat))))) = shrV S false x n := by
  show wrapI S false (wrap64 (u64 ((u64 x).tdiv (u64 (wrapI S false (wrapI S false (wrap64 (2 ^ n.toNat)))))))) = wrapI S false (wrap64 (u64 x / 2 ^ n.toNat))
  rw [(pow_B hS h0 h1).1]
  have b := u64_bd x
  have e : (u64 x).tdiv (2 ^ n.toNat) = u64 x / 2 ^ n.toNat := Int.tdiv_eq_ediv_of_nonneg b.1
  rw [e]
  have d := div_bd (u64 x) b.1 n.toNat
  have : u64 (u64 x / 2 ^ n.toNat) = u64 x / 2 ^ n.toNat := by
    generalize u64 x / 2 ^ n.toNat = q at *
    rw [u64_eq]; omega
  rw [this]
end Go.Proofs.Ytnapbpfofpaakaa

namespace Go.Proofs.Ytnapbpfofpaakaa
open Go.RowKit

/-- The number of bytes, least significant first. -/
def fbN : List UInt8 → Nat
  | [] => 0
  | c :: l => c.toNat + 256 * fbN l
theorem fbN_lt (l : List UInt8) : fbN l < 256 ^ l.length := by
  induction l with
  | nil => simp [fbN]
  | cons c l ih =>
    have h := c.toNat_lt
    simp only [fbN, List.length_cons, Nat.pow_succ]
    omega
theorem fbN_snoc (l : List UInt8) (c : UInt8) : fbN (l ++ [c]) = fbN l + c.toNat * 256 ^ l.length := by
  induction l with
  | nil => simp [fbN]
  | cons a l ih =>
    simp only [List.cons_append, fbN, ih, List.length_cons, Nat.pow_succ]
    rw [Nat.mul_add, ← Nat.mul_assoc 256, Nat.mul_comm 256 c.toNat, Nat.mul_assoc, Nat.mul_comm 256 (256 ^ _)]
    omega
theorem fbN_take (l : List UInt8) (k : Nat) (h : k < l.length) : fbN (l.take (k + 1)) = fbN (l.take k) + l[k].toNat * 256 ^ k := by
  rw [List.take_succ_eq_append_getElem h, fbN_snoc, List.length_take, Nat.min_eq_left (by omega)]

theorem un_w64 (n : Nat) (h : n < 18446744073709551616) : un (wrap64 n) = n := by unfold un wrap64; omega
theorem pow256 (k : Nat) : (256 : Nat) ^ k = 2 ^ (8 * k) := by rw [Nat.pow_mul]
/-- A byte is laid above the others. -/
theorem or_step (N c k : Nat) (hN : N < 256 ^ k) (hc : c < 256) (hk : k ≤ 7) : bits .or .i64 (wrap64 N) (wrap64 ((c : Int) * 2 ^ (8 * (k : Int)).toNat)) = wrap64 ((N + c * 256 ^ k : Nat) : Int) := by
  have hp : (256 : Nat) ^ k ≤ 256 ^ 7 := Nat.pow_le_pow_right (by decide) hk
  have hm : c * 256 ^ k ≤ 255 * 256 ^ k := Nat.mul_le_mul_right _ (by omega)
  have e7 : (256 : Nat) ^ 7 = 72057594037927936 := by decide
  have e1 : (c : Int) * 2 ^ (8 * (k : Int)).toNat = ((c * 256 ^ k : Nat) : Int) := by
    rw [show (8 * (k : Int)).toNat = 8 * k by omega, pow256]
    simp
  rw [e1, bits7, un_w64 _ (by omega), un_w64 _ (by omega)]
  congr 2
  show N ||| c * 256 ^ k = _
  rw [Nat.or_comm, Nat.add_comm, Nat.mul_comm, pow256]
  rw [pow256] at hN
  exact (Nat.two_pow_add_eq_or_of_lt hN c).symm

/-- A byte of a value. -/
def btV (v : Int) (k : Nat) : UInt8 := UInt8.ofNat (un v / 256 ^ k % 256)
def btL (v : Int) (n : Nat) : List UInt8 := (List.range n).map (btV v)
theorem btL_length (v : Int) (n : Nat) : (btL v n).length = n := by simp [btL]
theorem btL_get (v : Int) (n k : Nat) (h : k < (btL v n).length) : (btL v n)[k] = btV v k := by simp [btL]
theorem btL_succ (v : Int) (n : Nat) : btL v (n + 1) = btL v n ++ [btV v n] := by simp [btL, List.range_succ]
theorem btL_fbN (v : Int) (n : Nat) : fbN (btL v n) = un v % 256 ^ n := by
  induction n with
  | zero => simp [btL, fbN, Nat.mod_one]
  | succ n ih =>
    rw [btL_succ, fbN_snoc, ih, btL_length]
    have e : (btV v n).toNat = un v / 256 ^ n % 256 := by
      unfold btV
      have : un v / 256 ^ n % 256 < 256 := Nat.mod_lt _ (by decide)
      simp
    rw [e, Nat.pow_succ, Nat.mod_mul, Nat.mul_comm (256 ^ n)]
/-- What a shift and a conversion make of a value is its byte. -/
theorem byte_of (v : Int) (k : Nat) (hk : k ≤ 7) : IntKind.u8.wrap (v / 2 ^ (8 * (k : Int)).toNat) = ((btV v k).toNat : Int) := by
  have e : (btV v k).toNat = un v / 256 ^ k % 256 := by
    unfold btV
    have : un v / 256 ^ k % 256 < 256 := Nat.mod_lt _ (by decide)
    simp
  have w8 : ∀ n : Int, IntKind.u8.wrap n = n % 256 := fun n => by simp [IntKind.wrap, IntKind.bits, IntKind.signed]
  rw [e, w8, show (8 * (k : Int)).toNat = 8 * k by omega]
  have hk' : k = 0 ∨ k = 1 ∨ k = 2 ∨ k = 3 ∨ k = 4 ∨ k = 5 ∨ k = 6 ∨ k = 7 := by omega
  rcases hk' with rfl | rfl | rfl | rfl | rfl | rfl | rfl | rfl <;> simp [un] <;> omega

/-- The value of bytes. -/
def fbV (s : Int) (g : Bool) (l : List UInt8) : Int := wrapI s g (wrap64 (fbN l))
theorem Cg_nat_mod (s : Int) (n : Nat) : Cg (Ms s) ((n % 256 ^ (Ew s / 8) : Nat) : Int) (n : Int) := by
  have e : (256 : Nat) ^ (Ew s / 8) = 2 ^ Ew s := by
    unfold Ew
    split
    · rfl
    · split
      · rfl
      · split <;> rfl
  rw [e, Ms_pow]
  exact Cg_of_mod (Nat.mod_mod _ _)
/-- The bytes of a value make the value. -/
theorem fb_bt {s : Int} (hv : validB s = true) (g : Bool) (v : Int) (h : I64 v) : fbV s g (btL v s.toNat) = wrapI s g v := by
  refine Rg_one (Rg_wrap _ _ _ (w64_I64 _)) (Rg_wrap _ _ _ h) ?_
  refine (w_Cg s g _).trans ((w64_Cg s _).trans ?_)
  rw [btL_fbN]
  have e : s.toNat = Ew s / 8 := by rcases (valid_iff s).1 hv with rfl | rfl | rfl | rfl <;> rfl
  rw [e]
  exact (Cg_nat_mod s (un v)).trans ((un_Cg s v).trans (w_Cg s g v).symm)
theorem fbN_inj (l : List UInt8) : ∀ l' : List UInt8, l.length = l'.length → fbN l = fbN l' → l = l' := by
  induction l with
  | nil => intro l' h _; exact (List.length_eq_zero_iff.1 h.symm).symm
  | cons c l ih =>
    intro l' h e
    cases l' with
    | nil => simp at h
    | cons c' l' =>
      have h1 := c.toNat_lt
      have h2 := c'.toNat_lt
      simp only [fbN] at e
      have e1 : c.toNat = c'.toNat := by omega
      rw [ih l' (by simpa using h) (by omega), UInt8.toNat_inj.1 e1]
/-- The bytes of the value of bytes are the bytes. -/
theorem bt_fb {s : Int} (hv : validB s = true) (g : Bool) (l : List UInt8) (hl : l.length = s.toNat) : btL (fbV s g l) s.toNat = l := by
  refine fbN_inj _ _ (by rw [btL_length, hl]) ?_
  rw [btL_fbN]
  have hN := fbN_lt l
  rw [hl] at hN
  have e : s.toNat = Ew s / 8 := by rcases (valid_iff s).1 hv with rfl | rfl | rfl | rfl <;> rfl
  have h256 : (256 : Nat) ^ (Ew s / 8) = 2 ^ Ew s := by
    unfold Ew
    split
    · rfl
    · split
      · rfl
      · split <;> rfl
  have c : Cg (Ms s) (un (fbV s g l) : Int) (fbN l : Int) := (un_Cg s _).trans ((w_Cg s g _).trans (w64_Cg s _))
  rw [Ms_pow] at c
  have m := Cg_mod c
  rw [e] at hN ⊢
  rw [h256] at hN ⊢
  rw [m, Nat.mod_eq_of_lt hN]
end Go.Proofs.Ytnapbpfofpaakaa

namespace Go
open Go.RowKit

/-- w with more objects behind, and n draws made in all. -/
def World.more (w : World) (os : Array Obj) (n : Nat) : World := { w with heap := w.heap ++ os, drawn := n }

/-- The address at the head of block b: by it a side condition on block numbers is put as an equation of addresses, which the walk decides by linear arithmetic. -/
def atB (b : Nat) : Addr := ⟨b, 0, none⟩
@[go_sem] theorem atB_eq (a b : Nat) : (atB a = atB b) = ((⟨a, 0, none⟩ : Addr) = ⟨b, 0, none⟩) := propext ⟨fun h => h, fun h => h⟩
theorem lt_of_atB {a b : Nat} (h : atB (a + 1 - b) = atB 0) : a < b := by
  have := congrArg Addr.block h; simp [atB] at this; omega
theorem eq_of_atB {a b : Nat} (h : atB ((a - b) + (b - a)) = atB 0) : a = b := by
  have := congrArg Addr.block h; simp [atB] at this; omega

section
variable (w : World) (os : Array Obj) (n : Nat)
@[simp, go_sem] theorem World.size_more : (w.more os n).heap.size = w.heap.size + os.size := by simp [World.more]
@[simp, go_sem] theorem World.tape_more : (w.more os n).tape = w.tape := rfl
@[simp, go_sem] theorem World.os_more : (w.more os n).os = w.os := rfl
@[simp, go_sem] theorem World.output_more : (w.more os n).output = w.output := rfl
theorem World.heap_more (k : Nat) (h : k < w.heap.size) : (w.more os n).heap[k]? = w.heap[k]? := by
  show (w.heap ++ os)[k]? = _
  rw [Array.getElem?_append_left h]
@[go_sem] theorem World.cell?_more (b i : Nat) (h : atB (b + 1 - w.heap.size) = atB 0) : (w.more os n).cell? ⟨b, i, none⟩ = w.cell? ⟨b, i, none⟩ :=
  World.cell?_of_block (w := w) (w.heap_more os n b (lt_of_atB h))
@[go_sem] theorem World.frozen?_more (b i : Nat) (h : atB (b + 1 - w.heap.size) = atB 0) : (w.more os n).frozen? ⟨b, i, none⟩ = w.frozen? ⟨b, i, none⟩ :=
  World.frozen?_of_block (w := w) (w.heap_more os n b (lt_of_atB h))
@[go_sem] theorem World.cell?_alloc_pastB (o : Obj) (b i : Nat) (h : atB (b + 1 - w.heap.size) = atB 0) : (w.alloc o).cell? ⟨b, i, none⟩ = w.cell? ⟨b, i, none⟩ :=
  World.cell?_alloc_past o b i (lt_of_atB h)
@[go_sem] theorem World.frozen?_alloc_pastB (o : Obj) (b i : Nat) (h : atB (b + 1 - w.heap.size) = atB 0) : (w.alloc o).frozen? ⟨b, i, none⟩ = w.frozen? ⟨b, i, none⟩ :=
  World.frozen?_alloc_past o b i (lt_of_atB h)
@[go_sem] theorem World.cell?_alloc_atB (c : Array Value) (t : TypeId) (b i : Nat) (h : atB ((b - w.heap.size) + (w.heap.size - b)) = atB 0) : (w.alloc (.cells c t)).cell? ⟨b, i, none⟩ = c[i]? :=
  World.cell?_alloc_at c t b i (eq_of_atB h)
@[go_sem] theorem World.frozen?_alloc_atB (c : Array Value) (t : TypeId) (b i : Nat) (h : atB ((b - w.heap.size) + (w.heap.size - b)) = atB 0) : (w.alloc (.cells c t)).frozen? ⟨b, i, none⟩ = false :=
  World.frozen?_alloc_at c t b i (eq_of_atB h)
@[simp, go_sem] theorem World.more_drew : w.drew.more os n = w.more os n := rfl
@[simp, go_sem] theorem World.more_more (os' : Array Obj) (n' : Nat) : (w.more os n).more os' n' = w.more (os ++ os') n' := by
  simp [World.more, Array.append_assoc]
theorem World.more_below : Below w.heap.size w (w.more os n) :=
  ⟨rfl, rfl, rfl, by simp, fun k hk => w.heap_more os n k hk⟩
end

/-- Whatever stands below as it stood is the elder world with more behind it. -/
theorem more_of_below {w w' : World} (h : Below w.heap.size w w') : ∃ os n, w' = w.more os n := by
  refine ⟨w'.heap.extract w.heap.size w'.heap.size, w'.drawn, ?_⟩
  obtain ⟨h1, h2, h3, h4, h5⟩ := h
  have e : w'.heap = w.heap ++ w'.heap.extract w.heap.size w'.heap.size := by
    apply Array.ext_getElem?
    intro i
    by_cases hi : i < w.heap.size
    · rw [Array.getElem?_append_left hi]; exact h5 i hi
    · rw [Array.getElem?_append_right (by omega), Array.getElem?_extract]
      by_cases hi2 : i < w'.heap.size
      · rw [if_pos (by omega)]; congr 1; omega
      · rw [if_neg (by omega)]; simp; omega
  cases w'
  simp only [World.more] at *
  subst h1 h2 h3
  rw [← e]

/-- .. for the walk: the object list and the draws by name. -/
theorem Below.moreE {w w' : World} (h : Below w.heap.size w w') : ∃ os n, w' = w.more os n := more_of_below h

theorem Below.more {B : Nat} {a w : World} (h : Below B a w) (hB : B ≤ w.heap.size) (os : Array Obj) (n : Nat) : Below B a (w.more os n) :=
  h.trans ((w.more_below os n).mono hB)

/-- 'Below' with the bound on the size carried along: so that no step has a side condition but a store's. -/
structure Gr (B : Nat) (a w : World) : Prop where
  below : Below B a w
  size : B ≤ w.heap.size
theorem Gr.refl (w : World) : Gr w.heap.size w w := ⟨Below.refl _ _, Nat.le_refl _⟩
theorem Gr.alloc {B : Nat} {a w : World} (h : Gr B a w) (o : Obj) : Gr B a (w.alloc o) :=
  ⟨h.below.alloc h.size o, by rw [World.size_alloc]; exact Nat.le_succ_of_le h.size⟩
theorem Gr.more {B : Nat} {a w : World} (h : Gr B a w) (os : Array Obj) (n : Nat) : Gr B a (w.more os n) :=
  ⟨Below.more h.below h.size os n, by rw [World.size_more]; exact Nat.le_add_right_of_le h.size⟩
theorem Gr.drew {B : Nat} {a w : World} (h : Gr B a w) : Gr B a w.drew := ⟨h.below.drew, h.size⟩
theorem Gr.setCell {B : Nat} {a w : World} (h : Gr B a w) {p : Addr} (hp : B ≤ p.block) (u : Value) : Gr B a (w.setCell p u) :=
  ⟨h.below.setCell hp u, by rw [World.size_setCell]; exact h.size⟩
theorem Gr.of {w w' : World} (h : Below w.heap.size w w') : Gr w.heap.size w w' := ⟨h, h.size⟩
theorem Gr.lower {B B' : Nat} {a w : World} (h : Gr B a w) (hB : B' ≤ B) : Gr B' a w := ⟨h.below.mono hB, Nat.le_trans hB h.size⟩
end Go

namespace Go.Proofs.Ytnapbpfofpaakaa
open Go.RowKit

theorem ret_int {k : IntKind} {a b : Int} (h : a = b) : Ending.returned (.int k a) = .returned (.int k b) := by rw [h]
theorem ret_bool {a b : Bool} (h : a = b) : Ending.returned (.bool a) = .returned (.bool b) := by rw [h]

theorem thr_i8 (v : Int) (w : World) : Calls Try.prog 84 #[.int .i64 v] w fun e w' => e = .returned (.int .i64 ((v + 128) % 256 - 128)) ∧ w = w' := by
  go_enter Try.func84, Try.ntmps84
  go_wp2
  go_ret
  exact ⟨ret_int (w64_i8 v), rfl⟩
theorem thr_i16 (v : Int) (w : World) : Calls Try.prog 85 #[.int .i64 v] w fun e w' => e = .returned (.int .i64 ((v + 32768) % 65536 - 32768)) ∧ w = w' := by
  go_enter Try.func85, Try.ntmps85
  go_wp2
  go_ret
  exact ⟨ret_int (w64_i16 v), rfl⟩
theorem thr_i32 (v : Int) (w : World) : Calls Try.prog 86 #[.int .i64 v] w fun e w' => e = .returned (.int .i64 ((v + 2147483648) % 4294967296 - 2147483648)) ∧ w = w' := by
  go_enter Try.func86, Try.ntmps86
  go_wp2
  go_ret
  exact ⟨ret_int (w64_i32 v), rfl⟩
theorem thr_u8 (v : Int) (w : World) : Calls Try.prog 87 #[.int .i64 v] w fun e w' => e = .returned (.int .i64 (v % 256)) ∧ w = w' := by
  go_enter Try.func87, Try.ntmps87
  go_wp2
  go_ret
  exact ⟨rfl, rfl⟩
theorem thr_u16 (v : Int) (w : World) : Calls Try.prog 88 #[.int .i64 v] w fun e w' => e = .returned (.int .i64 (v % 65536)) ∧ w = w' := by
  go_enter Try.func88, Try.ntmps88
  go_wp2
  go_ret
  exact ⟨ret_int (w64_u16 v), rfl⟩
theorem thr_u32 (v : Int) (w : World) : Calls Try.prog 89 #[.int .i64 v] w fun e w' => e = .returned (.int .i64 (v % 4294967296)) ∧ w = w' := by
  go_enter Try.func89, Try.ntmps89
  go_wp2
  go_ret
  exact ⟨rfl, rfl⟩

set_option maxHeartbeats 400000 in
theorem valid_any (s : Int) (g : Bool) (w : World) : Calls Try.prog 79 #[tyV s g] w fun e w' => e = .returned (.bool (validB s)) ∧ Below w.heap.size w w' := by
  go_enter Try.func79, Try.ntmps79
  go_wp2
  all_goals
    go_ret
    exact ⟨ret_bool (by unfold validB; simp [*]), (Below.refl _ _).alloc (Nat.le_refl _) _⟩

set_option maxHeartbeats 400000 in
theorem wrap_any (s : Int) (g : Bool) (v : Int) (w : World) : Calls Try.prog 80 #[tyV s g, .int .i64 v] w fun e w' => e = .returned (.int .i64 (wrapI s g v)) ∧ Below w.heap.size w w' := by
  go_enter Try.func80, Try.ntmps80
  go_wp2
  all_goals
    go_ret
    exact ⟨ret_int (by simp [wrapI, *, w64_i8, w64_i16, w64_i32, w64_u16]), (Below.refl _ _).alloc (Nat.le_refl _) _⟩

end Go.Proofs.Ytnapbpfofpaakaa

namespace Go.Proofs.Ytnapbpfofpaakaa
open Go.RowKit

end Go.Proofs.Ytnapbpfofpaakaa

namespace Go
open Go.Maps (Keyed)
open Go.RowKit

/-- How an element of a function type reads: by the function's number; nil by 'nil'. -/
def fnElem : Value → Option (DataW Unit × List MemPlace)
  | .func (.func f) a b => if a.size = 0 ∧ b.size = 0 then some (.lit (.int .i64 (f : Nat)), []) else none
  | .nilFunc => some (.nil, [])
  | _ => none

theorem fnElem_fn (f : Nat) : fnElem (.func (.func f) #[] #[]) = some (.lit (.int .i64 (f : Nat)), []) := by simp [fnElem]
theorem fnElem_inv {v : Value} {f : Nat} {ps : List MemPlace} (h : fnElem v = some (.lit (.int .i64 (f : Nat)), ps)) : v = .func (.func f) #[] #[] := by
  unfold fnElem at h
  split at h
  · rename_i g a b
    split at h
    · rename_i hc
      simp only [Option.some.injEq, Prod.mk.injEq, DataW.lit.injEq, Lit.int.injEq, true_and] at h
      have h1 := h.1
      obtain ⟨ha, hb⟩ := hc
      have ea : a = #[] := by simpa using ha
      have eb : b = #[] := by simpa using hb
      subst ea eb
      have : g = f := Int.ofNat.inj h1
      rw [this]
    · cases h
  · simp at h
  · cases h
theorem fnElem_nil {v : Value} {ps : List MemPlace} (h : fnElem v = some (.nil, ps)) : v = .nilFunc := by
  unfold fnElem at h
  split at h
  · split at h
    · simp at h
    · cases h
  · rfl
  · cases h

/-- One element of a map's literal. -/
theorem wpList_insert_own {H : Type} {P : Program} (w : World) {ops : Array Oper} {rest : List Oper} {o : Oper} {a : Act} {Q : Exit → Act → World → Prop}
    (hg : o.guard = none) (m x v : Operand) (t : TypeId) (hop : o.op = Op.insert t m x v)
    (k e : TypeId) (K : Keyed P k) (ht : P.underlying t = some (.map k e)) (R : Value → Option (DataW H × List MemPlace)) (b n : Nat) (D : DataW H)
    (hm : a.eval m = .map (some b)) (hown : w.ownsMap P k R b n D) (hn : n < maxLen) (key val : Value) (kl : Lit) (hx : a.eval x = key) (hv : a.eval v = val) (hkey : keyOf P k key = some kl)
    (d : DataW H) (ps : List MemPlace) (hval : R val = some (d, ps))
    (hK : ∀ w', w'.ownsMap P k R b (n + 1) (D.put kl d) → w.grownBy w' (some b) → wpList P ops Q rest (a.put o.dst undef) w') :
    wpList P ops Q (o :: rest) a w := by
  refine wpList_plain hg fun K' hK' => ?_
  obtain ⟨w', hrun, r1, r2⟩ := hown.update K ht hn hkey hval
  unfold Oper.wp
  simp [execOp, hop, hm, hx, hv, hrun, Result.andThen]
  exact hK' _ _ (hK w' r1 r2)

/-- The map's contents as a list of keys and functions' numbers. -/
def fnD (l : List (Int × Nat)) : DataW Unit := .map (l.map fun p => (.int .i64 p.1, .lit (.int .i64 (p.2 : Nat))))
def fnV (l : List (Int × Nat)) (k : Int) : Value := match l.find? (fun p => p.1 == k) with | some p => .func (.func p.2) #[] #[] | none => .nilFunc
def fnH (l : List (Int × Nat)) (k : Int) : Bool := l.any (fun p => p.1 == k)

theorem fnD_has (l : List (Int × Nat)) (k : Int) : Maps.has (fnD l) (.int .i64 k) = fnH l k := by
  unfold fnD fnH Maps.has
  simp only [List.any_map]
  congr 1
  funext p
  simp only [Function.comp, Lit.sameKey]
  rw [Bool.eq_iff_iff]; simp
theorem fnD_at (l : List (Int × Nat)) (k : Int) : (fnH l k = false → (fnD l).atKey (.int .i64 k) .nil = .nil ∧ fnV l k = .nilFunc) ∧ (fnH l k = true → ∃ f : Nat, (fnD l).atKey (.int .i64 k) .nil = .lit (.int .i64 (f : Nat)) ∧ fnV l k = .func (.func f) #[] #[]) := by
  unfold fnD fnH fnV DataW.atKey
  induction l with
  | nil => simp
  | cons p r ih =>
    have e : (Lit.int IntKind.i64 p.1).sameKey (.int .i64 k) = (p.1 == k) := by
      rw [Bool.eq_iff_iff]; simp [Lit.sameKey]
    cases hk : (p.1 == k)
    · simp only [List.map_cons, List.find?_cons, List.any_cons, e, hk, Bool.false_or]
      exact ih
    · refine ⟨fun h => ?_, fun _ => ⟨p.2, ?_, ?_⟩⟩
      · simp [hk] at h
      · simp only [List.map_cons, List.find?_cons, e, hk]
      · simp only [List.find?_cons, hk]

/-- 'f, ok := m[k]' in whatever world that holds the map's block. -/
theorem fnMap_look {P : Program} {w : World} {b n : Nat} {l : List (Int × Nat)} {t kT e : TypeId} (h : w.ownsMap P kT fnElem b n (fnD l)) (hk : P.underlying kT = some (.int .i64)) (ht : P.underlying t = some (.map kT e))
    (hz : ∀ w, (zeroValue e).run P w = .ok .nilFunc w) (k : Int) (hw : (Lit.int .i64 k).wf = true) (w'' : World) (hb : w''.heap[b]? = w.heap[b]?) :
    (Instr.lookup t (.map (some b)) (.int .i64 k) true).run P w'' = .ok (.tuple #[fnV l k, .bool (fnH l k)]) w'' := by
  have h' : w''.ownsMap P kT fnElem b n (fnD l) := by
    obtain ⟨es, clock, h1, h2⟩ := h
    exact ⟨es, clock, hb.trans h1, h2⟩
  obtain ⟨v, ps, hrun, hv⟩ := h'.look_ok (Maps.int_keyed hk) ht (hz w'') (z := .nilFunc) (zd := .nil) (zp := []) rfl (Maps.keyOf_int_mk hk hw)
  rw [hrun, fnD_has]
  obtain ⟨h1, h2⟩ := fnD_at l k
  cases hh : fnH l k
  · obtain ⟨e1, e2⟩ := h1 hh
    rw [e1] at hv
    rw [fnElem_nil hv, e2]
  · obtain ⟨f, e1, e2⟩ := h2 hh
    rw [e1] at hv
    rw [fnElem_inv hv, e2]
end Go

namespace Go.Proofs.Ytnapbpfofpaakaa
open Go.RowKit
open Go.Maps (Keyed)

theorem intKeyed : Keyed Try.prog 3 := Go.Maps.int_keyed Try.underlying3
def FnMap (w : World) (b n : Nat) (D : DataW Unit) : Prop := w.ownsMap Try.prog 3 fnElem b n D

end Go.Proofs.Ytnapbpfofpaakaa

namespace Go.Proofs.Ytnapbpfofpaakaa
open Go.RowKit

end Go.Proofs.Ytnapbpfofpaakaa

namespace Go.Proofs.Ytnapbpfofpaakaa
open Go.RowKit

set_option maxHeartbeats 400000 in
theorem check_any (s : Int) (g : Bool) (w : World) : Calls Try.prog 78 #[tyV s g] w fun e w' => e = .returned (.int .i64 (eT s)) ∧ Below w.heap.size w w' := by
  by_cases hv : validB s = true
  all_goals
    go_enter Try.func78, Try.ntmps78
    go_wp2_with (go_at_call 79; (refine (valid_any _ _ _).mono ?_); rintro e w1 ⟨rfl, hb⟩; obtain ⟨os, n, rfl⟩ := Below.moreE hb; clear hb)
    go_ret
    exact ⟨ret_int (by simp [eT, hv]), (Gr.below (by repeat (first | (with_reducible exact Gr.refl _) | with_reducible refine Gr.alloc ?_ _ | with_reducible refine Gr.more ?_ _ _ | with_reducible refine Gr.setCell ?_ (by dsimp only; omega) _ | with_reducible refine Gr.drew ?_)))⟩

end Go.Proofs.Ytnapbpfofpaakaa

namespace Go.Proofs.Ytnapbpfofpaakaa
open Go.RowKit

end Go.Proofs.Ytnapbpfofpaakaa

namespace Go.Proofs.Ytnapbpfofpaakaa
open Go.RowKit

theorem relations_zero (w : World) : (zeroValue 97).run Try.prog w = .ok .nilFunc w := by kernel_rfl
end Go.Proofs.Ytnapbpfofpaakaa

namespace Go.Proofs.Ytnapbpfofpaakaa
open Go.RowKit

end Go.Proofs.Ytnapbpfofpaakaa

namespace Go.Proofs.Ytnapbpfofpaakaa
open Go.RowKit

end Go.Proofs.Ytnapbpfofpaakaa

namespace Go.Proofs.Ytnapbpfofpaakaa
open Go.RowKit

end Go.Proofs.Ytnapbpfofpaakaa

namespace Go.Proofs.Ytnapbpfofpaakaa
open Go.RowKit

end Go.Proofs.Ytnapbpfofpaakaa

namespace Go.Proofs.Ytnapbpfofpaakaa
open Go.RowKit

end Go.Proofs.Ytnapbpfofpaakaa

namespace Go.Proofs.Ytnapbpfofpaakaa
open Go.RowKit

end Go.Proofs.Ytnapbpfofpaakaa

namespace Go.Proofs.Ytnapbpfofpaakaa
open Go.RowKit

end Go.Proofs.Ytnapbpfofpaakaa

namespace Go.Proofs.Ytnapbpfofpaakaa
open Go.RowKit

end Go.Proofs.Ytnapbpfofpaakaa

namespace Go.Proofs.Ytnapbpfofpaakaa
open Go.RowKit

/-- The decimal digits of a number. -/
def decD (n : Nat) : List UInt8 := if n < 10 then [UInt8.ofNat (48 + n)] else decD (n / 10) ++ [UInt8.ofNat (48 + n % 10)]
termination_by n
decreasing_by omega

def cellsB (xs : List UInt8) : List Value := xs.map fun b => Value.int .u8 (b.toNat : Nat)

theorem info8 : (Try.prog.info? 5).map (fun i => (i.zero, i.size, i.bytes)) = some (some (.int .u8 0), 1, 1) := by kernel_rfl

theorem dig_val (n : Nat) : ((UInt8.ofNat (48 + n % 10)).toNat : Int) = 48 + (n : Int) % 10 := by
  have e : (UInt8.ofNat (48 + n % 10)).toNat = (48 + n % 10) % 256 := rfl
  rw [e]; omega
theorem dig_lt (n : Nat) (h : n < 10) : decD n = [UInt8.ofNat (48 + n % 10)] := by
  rw [decD, if_pos h, Nat.mod_eq_of_lt h]
theorem dig_ge (n : Nat) (h : ¬ n < 10) : decD n = decD (n / 10) ++ [UInt8.ofNat (48 + n % 10)] := by
  rw [decD, if_neg h]
theorem decD_len (n : Nat) : 1 ≤ (decD n).length := by
  by_cases h : n < 10
  · rw [dig_lt n h]; simp
  · rw [dig_ge n h]; simp

end Go.Proofs.Ytnapbpfofpaakaa

namespace Go.Proofs.Ytnapbpfofpaakaa
open Go.RowKit

theorem strOf_bytes (xs : List UInt8) : strOfNums (xs.map fun b => ((b.toNat : Nat) : Int)) = ⟨xs.toArray⟩ := by
  unfold strOfNums
  congr 2
  rw [List.map_map]
  conv => rhs; rw [← List.map_id xs]
  apply List.map_congr_left
  intro b _
  simp

theorem decD_le (k : Nat) : ∀ n, n < 10 ^ k → (decD n).length ≤ k + 1 := by
  induction k with
  | zero => intro n h; rw [dig_lt n (by omega)]; simp
  | succ k ih =>
    intro n h
    by_cases h10 : n < 10
    · rw [dig_lt n h10]; simp
    · rw [dig_ge n h10]
      have := ih (n / 10) (by rw [Nat.pow_succ] at h; omega)
      simp; omega

/-- The text of a value. -/
def magI (g : Bool) (x : Int) : Int := if g = true ∧ x < 0 then u64 (-(u64 x)) else u64 x
def negB (g : Bool) (x : Int) : Bool := g && decide (x < 0)
def textL (g : Bool) (x : Int) : List UInt8 := (if negB g x = true then [45] else []) ++ decD (magI g x).toNat

theorem heap_new_of (w : World) (o : Obj) (k : Nat) (hk : k = w.heap.size) : (w.alloc o).heap[k]? = some o := by
  subst hk; exact heap_alloc_new w o

/-- The sign is appended. -/
theorem neg_step {b6 : Nat} {w w2 : World} {v' : Value} (o : Obj) (h6 : w.heap[b6]? = some (.cells #[.slice none 0 0] 23 (0, 0))) (hown : w2.ownsRow (b6 + 1) 5 1 v' 1 [.int .u8 45]) (hg : (w.alloc o).grownBy w2 none) :
    w2.cell? ⟨b6, 0, none⟩ = some (.slice none 0 0) ∧ w2.frozen? ⟨b6, 0, none⟩ = false ∧ (∃ g cap, v' = .slice (some ⟨g, 0, none⟩) 1 cap) ∧ (w2.setCell ⟨b6, 0, none⟩ v').heap[b6]? = some (.cells #[v'] 23 (0, 0)) ∧
      (w2.setCell ⟨b6, 0, none⟩ v').ownsRow (b6 + 1) 5 1 v' ([45] : List UInt8).length (cellsB [45]) ∧ Below b6 w (w2.setCell ⟨b6, 0, none⟩ v') ∧ w.heap.size + 1 ≤ w2.heap.size := by
  have l6 : b6 < w.heap.size := (Array.getElem?_eq_some_iff.1 h6).1
  have g6 : w2.heap[b6]? = some (.cells #[.slice none 0 0] 23 (0, 0)) := by
    rw [hg.block b6 (by simp; omega) (by simp)]
    exact (Below.heap_alloc _ _ _ l6).trans h6
  have hs2 : w.heap.size + 1 ≤ w2.heap.size := by have := hg.size; simpa using this
  refine ⟨cell_of_one g6, free_of_one g6, ?_, one_setCell g6, ?_, ?_, hs2⟩
  · rcases hown.2 with ⟨_, e⟩ | ⟨g, cap, cur, e, _⟩
    · omega
    · exact ⟨g, cap, e⟩
  · exact ownsRow_setCell_below hown (a := ⟨b6, 0, none⟩) (by simp) v'
  · have hb1 : Below b6 w (w.alloc o) := (Below.refl _ _).alloc (by omega) _
    exact (hb1.grown hg (by simp; omega) (fun k hk => by cases hk)).setCell (by simp) _

theorem u64_neg (x : Int) : ∃ m : Nat, u64 (-(u64 x)) = m ∧ m ≤ 18446744073709551615 := u64_nat _

end Go.Proofs.Ytnapbpfofpaakaa

namespace Go.Proofs.Ytnapbpfofpaakaa
open Go.RowKit

/-- A byte with its sixth bit set. -/
def lowB (c : Int) : Int := bits .or .u8 c 32
/-- The value of a digit; 99 if it is none. -/
def dvI (c : Int) : Int := if 48 ≤ c ∧ c ≤ 57 then c - 48 else if 97 ≤ lowB c ∧ lowB c ≤ 122 then lowB c - 87 else 99
def valI (b : Int) (l : List UInt8) : Int := l.foldl (fun a c => a * b + dvI (c.toNat : Nat)) 0
def allD (b : Int) (l : List UInt8) : Bool := l.all fun c => decide (dvI (c.toNat : Nat) < b)
def U64M : Int := 18446744073709551615
def puOK (b : Int) (l : List UInt8) : Bool := !l.isEmpty && allD b l && decide (valI b l ≤ U64M)
theorem lowB_bd (c : Int) : 0 ≤ lowB c ∧ lowB c ≤ 255 := by
  unfold lowB bits
  simp only [IntKind.wrap_u8]
  omega
theorem dvI_bd (c : Int) : 0 ≤ dvI c ∧ dvI c ≤ 99 := by
  unfold dvI
  have := lowB_bd c
  split
  · omega
  · split <;> omega
theorem valI_snoc (b : Int) (l : List UInt8) (c : UInt8) : valI b (l ++ [c]) = valI b l * b + dvI (c.toNat : Nat) := by
  simp [valI]
theorem valI_nn (b : Int) (hb : 0 ≤ b) (l : List UInt8) : 0 ≤ valI b l := by
  have h : ∀ (l : List UInt8) (a : Int), 0 ≤ a → 0 ≤ l.foldl (fun a c => a * b + dvI (c.toNat : Nat)) a := by
    intro l
    induction l with
    | nil => intro a ha; exact ha
    | cons c r ih =>
      intro a ha
      exact ih _ (Int.add_nonneg (Int.mul_nonneg ha hb) (dvI_bd _).1)
  exact h l 0 (Int.le_refl _)
theorem valI_mono (b : Int) (hb : 1 ≤ b) (l r : List UInt8) : valI b l ≤ valI b (l ++ r) := by
  have h : ∀ (r : List UInt8) (a : Int), 0 ≤ a → a ≤ r.foldl (fun a c => a * b + dvI (c.toNat : Nat)) a := by
    intro r
    induction r with
    | nil => intro a _; exact Int.le_refl _
    | cons c r ih =>
      intro a ha
      have h1 : a ≤ a * b + dvI (c.toNat : Nat) := by
        have h2 : a * 1 ≤ a * b := Int.mul_le_mul_of_nonneg_left hb ha
        have := (dvI_bd (c.toNat : Nat)).1
        omega
      exact Int.le_trans h1 (ih _ (Int.le_trans ha h1))
  have := h r (valI b l) (valI_nn b (by omega) l)
  simpa [valI] using this

theorem below_bytes (w : World) (e : TypeId) (s : ByteArray) : Below w.heap.size w (Lib.bytesWorld w e s) := by
  refine ⟨?_, ?_, ?_, by rw [Lib.bytesWorld_size]; omega, fun k hk => Lib.bytesWorld_at_old w e s k hk⟩
  · simp [Lib.bytesWorld, World.freeze, World.alloc, World.drew, -World.alloc_eq, -World.drew_eq]
  · simp [Lib.bytesWorld, World.freeze, World.alloc, World.drew, -World.alloc_eq, -World.drew_eq]
  · simp [Lib.bytesWorld, World.freeze, World.alloc, World.drew, -World.alloc_eq, -World.drew_eq]

theorem take_snocD (l : List UInt8) (k : Nat) (h : k < l.length) : l.take (k + 1) = l.take k ++ [l.getD k 0] := by
  have e : l.getD k 0 = l[k] := by rw [List.getD_eq_getElem?_getD, List.getElem?_eq_getElem h]; rfl
  rw [List.take_succ_eq_append_getElem h, e]
theorem all_snoc (b : Int) (l : List UInt8) (c : UInt8) : allD b (l ++ [c]) = (allD b l && decide (dvI (c.toNat : Nat) < b)) := by
  simp [allD]
/-- A bad digit at place k. -/
theorem pu_bad (b : Int) (l : List UInt8) (k : Nat) (h : k < l.length) (hd : ¬ dvI ((l.getD k 0).toNat : Nat) < b) : puOK b l = false := by
  have e : l.getD k 0 = l[k] := by rw [List.getD_eq_getElem?_getD, List.getElem?_eq_getElem h]; rfl
  have hm : l.getD k 0 ∈ l := by rw [e]; exact List.getElem_mem h
  have : allD b l = false := by
    unfold allD
    rw [List.all_eq_false]
    exact ⟨_, hm, by simpa using hd⟩
  simp [puOK, this]
/-- Too great a number. -/
theorem pu_big (b : Int) (hb : 1 ≤ b) (l : List UInt8) (k : Nat) (hv : U64M < valI b (l.take k)) : puOK b l = false := by
  have := valI_mono b hb (l.take k) (l.drop k)
  rw [List.take_append_drop] at this
  have h2 : ¬ valI b l ≤ U64M := by omega
  simp [puOK, h2]


end Go.Proofs.Ytnapbpfofpaakaa

namespace Go.Proofs.Ytnapbpfofpaakaa
open Go.RowKit

end Go.Proofs.Ytnapbpfofpaakaa

namespace Go.Proofs.Ytnapbpfofpaakaa
open Go.RowKit

/-- The value that a sign and a magnitude make, if the type has it. -/
def nmOK (s : Int) (g : Bool) (neg : Bool) (m : Int) : Bool := if neg = true then decide (m ≤ u64 (-(u64 (rgL s g)))) else decide (m ≤ u64 (rgH s g))
def nmV (neg : Bool) (m : Int) : Int := if neg = true then wrap64 (u64 (-m)) else wrap64 m

end Go.Proofs.Ytnapbpfofpaakaa

namespace Go.Proofs.Ytnapbpfofpaakaa
open Go.RowKit

end Go.Proofs.Ytnapbpfofpaakaa

namespace Go.Proofs.Ytnapbpfofpaakaa
open Go.RowKit

def hexOK (l : List UInt8) : Bool := decide (l.length ≤ 16) && puOK 16 l
def zeroFirst (l : List UInt8) : Bool := decide (1 < l.length) && l.head? == some 48
def decOK (l : List UInt8) : Bool := !zeroFirst l && puOK 10 l

def TwoB (b : Int) (l : List UInt8) (ok : Bool) (e : Ending) : Prop := ∃ x : Int, e = .returned (.tuple #[.int .u64 x, .bool ok]) ∧ (ok = true → x = valI b l)
theorem twoB_t {b : Int} {l : List UInt8} {ok : Bool} (h : ok = true) : TwoB b l ok (.returned (.tuple #[.int .u64 (valI b l), .bool true])) := ⟨_, by rw [h], fun _ => rfl⟩
theorem twoB_f {b : Int} {l : List UInt8} {ok : Bool} (x : Int) (h : ok = false) : TwoB b l ok (.returned (.tuple #[.int .u64 x, .bool false])) := ⟨_, by rw [h], fun hh => by rw [h] at hh; cases hh⟩

theorem head_is (s : ByteArray) (h0 : 0 < s.size) : s.data.toList.head? = some s[0] := by
  cases s with | mk d =>
  have h : 0 < d.size := h0
  rw [List.head?_eq_getElem?, Array.getElem?_toList, Array.getElem?_eq_getElem h]
  rfl

end Go.Proofs.Ytnapbpfofpaakaa

namespace Go.Proofs.Ytnapbpfofpaakaa
open Go.RowKit

def hexL (l : List UInt8) : Bool := Lib.hasPrefix l [48, 120]
def restH (l : List UInt8) : List UInt8 := Lib.trimPrefix l [48, 120]
def minL (l : List UInt8) : Bool := Lib.hasPrefix l [45]
def restM (l : List UInt8) : List UInt8 := Lib.trimPrefix l [45]
/-- Does a text stand for a value of the type? -/
def parOK (s : Int) (g : Bool) (l : List UInt8) : Bool :=
  if hexL l = true then hexOK (restH l) && nmOK s g false (valI 16 (restH l))
  else decOK (restM l) && !(minL l && valI 10 (restM l) == 0) && nmOK s g (minL l) (valI 10 (restM l))
/-- The value. -/
def parN (l : List UInt8) : Int := if hexL l = true then nmV false (valI 16 (restH l)) else nmV (minL l) (valI 10 (restM l))

theorem trim_le (l p : List UInt8) : (Lib.trimPrefix l p).length ≤ l.length := by
  unfold Lib.trimPrefix
  split
  · simp
  · exact Nat.le_refl _

end Go.Proofs.Ytnapbpfofpaakaa

namespace Go.Proofs.Ytnapbpfofpaakaa
open Go.RowKit

theorem vL {P : Program} {f : Nat} {args : Array Value} {w : World} {v v' : Value} (h : Calls P f args w fun e w' => e = .returned v ∧ Below w.heap.size w w') (e : v = v') : Calls P f args w fun e w' => e = .returned v' ∧ Below w.heap.size w w' := e ▸ h

theorem dec_max : decD 18446744073709551615 = [49, 56, 52, 52, 54, 55, 52, 52, 48, 55, 51, 55, 48, 57, 53, 53, 49, 54, 49, 53] := by
  simp [decD]
end Go.Proofs.Ytnapbpfofpaakaa

namespace Go.Proofs.Ytnapbpfofpaakaa
open Go.RowKit

end Go.Proofs.Ytnapbpfofpaakaa

namespace Go.Proofs.Ytnapbpfofpaakaa
open Go.RowKit

end Go.Proofs.Ytnapbpfofpaakaa

namespace Go.Proofs.Ytnapbpfofpaakaa
open Go.RowKit

theorem valid_mem (s : Int) (h : validB s = true) : s ∈ [(1 : Int), 2, 4, 8] := by
  rcases (valid_iff s).1 h with rfl | rfl | rfl | rfl <;> decide
theorem cm_valid0 : ∀ s1 ∈ [(1 : Int), 2, 4, 8], ∀ g1 : Bool, ∀ s2 ∈ [(1 : Int), 2, 4, 8], ∀ g2 : Bool, validB (cmS s1 g1 s2 g2) = true := by decide +kernel
theorem cm_comm0 : ∀ s1 ∈ [(1 : Int), 2, 4, 8], ∀ g1 : Bool, ∀ s2 ∈ [(1 : Int), 2, 4, 8], ∀ g2 : Bool, cmS s2 g2 s1 g1 = cmS s1 g1 s2 g2 ∧ cmG s2 g2 s1 g1 = cmG s1 g1 s2 g2 := by decide +kernel
theorem cm_assoc0 : ∀ s1 ∈ [(1 : Int), 2, 4, 8], ∀ g1 : Bool, ∀ s2 ∈ [(1 : Int), 2, 4, 8], ∀ g2 : Bool, ∀ s3 ∈ [(1 : Int), 2, 4, 8], ∀ g3 : Bool,
    cmS s1 g1 (cmS s2 g2 s3 g3) (cmG s2 g2 s3 g3) = cmS (cmS s1 g1 s2 g2) (cmG s1 g1 s2 g2) s3 g3 ∧ cmG s1 g1 (cmS s2 g2 s3 g3) (cmG s2 g2 s3 g3) = cmG (cmS s1 g1 s2 g2) (cmG s1 g1 s2 g2) s3 g3 := by decide +kernel
theorem pr_facts0 : ∀ s ∈ [(1 : Int), 2, 4, 8], ∀ g : Bool, validB (prS s) = true ∧ prS (prS s) = prS s ∧ prG (prS s) (prG s g) = prG s g ∧ cmS s g s g = prS s ∧ cmG s g s g = prG s g := by decide +kernel

theorem eTT_ok {s1 s2 : Int} (v1 : validB s1 = true) (v2 : validB s2 = true) : eTT s1 s2 = 0 := by simp [eTT, eT, v1, v2]
theorem eTT_bad {s1 s2 : Int} (h : (validB s1 && validB s2) = false) : eTT s1 s2 = 10 := by
  cases v1 : validB s1 <;> simp_all [eTT, eT]
end Go.Proofs.Ytnapbpfofpaakaa

namespace Go.Proofs.Ytnapbpfofpaakaa
open Go.RowKit

/-- Calls that return one number, a text, and that read a text. -/
@[reducible] def RetV (f : Nat) (args : Array Value) (v : Int) : Prop := ∀ w : World, Calls Try.prog f args w fun r w' => r = .returned (.int .i64 v) ∧ Below w.heap.size w w'
@[reducible] def RetS (f : Nat) (args : Array Value) (t : ByteArray) (e : Int) : Prop := ∀ w : World, Calls Try.prog f args w fun r w' => r = .returned (.tuple #[.string t, .int .i64 e]) ∧ Below w.heap.size w w'
@[reducible] def RetM (f : Nat) (args : Array Value) (v e : Int) : Prop := ∀ w : World, Calls Try.prog f args w fun r w' => r = .returned (.tuple #[.int .i64 v, .int .i64 e]) ∧ Below w.heap.size w w'

end Go.Proofs.Ytnapbpfofpaakaa

namespace Go.Proofs.Ytnapbpfofpaakaa
open Go.RowKit

/-- A region of a body, by its number. -/
def Code.findR (k : Nat) : Code → Option Code
  | .region id ops b => if id = k then some (.region id ops b) else none
  | .seq a b => match Code.findR k a with
    | some c => some c
    | none => Code.findR k b
  | .cond _ a b => match Code.findR k a with
    | some c => some c
    | none => Code.findR k b
  | .block _ c => Code.findR k c
  | .loop c => Code.findR k c
  | .scope c => Code.findR k c
  | _ => none

theorem szc {W : World} {b o : Nat} {v : Value} (h : W.cell? ⟨b, o, none⟩ = some v) : b < W.heap.size := by
  rcases Nat.lt_or_ge b W.heap.size with h' | h'
  · exact h'
  · simp [World.cell?, Array.getElem?_eq_none h'] at h
/-- A cell is kept. -/
theorem grC {W W' : World} (g : Gr W.heap.size W W') {b o : Nat} {v : Value} (h : W.cell? ⟨b, o, none⟩ = some v) : W'.cell? ⟨b, o, none⟩ = some v := by
  rw [g.below.cell (szc h)]
  exact h
theorem grT {B : Nat} {a b c : World} (h : Gr B a b) (k : Gr b.heap.size b c) (hB : B ≤ b.heap.size) : Gr B a c :=
  ⟨h.below.trans (k.below.mono hB), Nat.le_trans hB k.size⟩
/-- A box that holds a type; an array of two, of three numbers. -/
structure BoxT (W : World) (b : Nat) (s : Int) (g : Bool) : Prop where
  x : W.cell? ⟨b, 0, none⟩ = some (.int .i64 s)
  y : W.cell? ⟨b, 1, none⟩ = some (.bool g)
structure Box2 (W : World) (b : Nat) (i j : Int) : Prop where
  c0 : W.cell? ⟨b, 0, none⟩ = some (.int .i64 i)
  c1 : W.cell? ⟨b, 1, none⟩ = some (.int .i64 j)
structure Box3 (W : World) (b : Nat) (i j k : Int) : Prop where
  c0 : W.cell? ⟨b, 0, none⟩ = some (.int .i64 i)
  c1 : W.cell? ⟨b, 1, none⟩ = some (.int .i64 j)
  c2 : W.cell? ⟨b, 2, none⟩ = some (.int .i64 k)
theorem BoxT.up {W W' : World} (gr : Gr W.heap.size W W') {b : Nat} {s : Int} {g : Bool} (h : BoxT W b s g) : BoxT W' b s g := ⟨grC gr h.x, grC gr h.y⟩
theorem Box2.up {W W' : World} (gr : Gr W.heap.size W W') {b : Nat} {i j : Int} (h : Box2 W b i j) : Box2 W' b i j := ⟨grC gr h.c0, grC gr h.c1⟩
theorem Box3.up {W W' : World} (gr : Gr W.heap.size W W') {b : Nat} {i j k : Int} (h : Box3 W b i j k) : Box3 W' b i j k := ⟨grC gr h.c0, grC gr h.c1, grC gr h.c2⟩
end Go.Proofs.Ytnapbpfofpaakaa

namespace Go.Proofs.Ytnapbpfofpaakaa
open Go.RowKit

/-- The bytes of a block. -/
def BS (W : World) (b : Nat) (l : List UInt8) : Prop := ∀ (j : Nat) (h : j < l.length), W.cell? ⟨b, j, none⟩ = some (.int .u8 (l[j].toNat : Int))
theorem BS.up {W W' : World} (gr : Gr W.heap.size W W') {b : Nat} {l : List UInt8} (h : BS W b l) : BS W' b l := fun j hj => grC gr (h j hj)

set_option maxHeartbeats 2000000 in
theorem from_loop {s : Int} (v : validB s = true) (g : Bool) (l : List UInt8) (hl : (l.length : Int) = s) (b cap : Nat) (w : World) (hb : BS w b l) : Calls Try.prog 65 #[tyV s g, .slice (some ⟨b, 0, none⟩) l.length cap] w fun e w' => e = .returned (.tuple #[.int .i64 (fbV s g l), .int .i64 0]) ∧ Below w.heap.size w w' := by
  have h8 : l.length ≤ 8 := by rcases (valid_iff s).1 v with rfl | rfl | rfl | rfl <;> omega
  have hv0 := valid_any s g
  rw [v] at hv0
  have hb2 : BS (w.alloc (.cells #[.int .i64 s, .bool g] 64)) b l := BS.up ((Gr.refl w).alloc _) hb
  go_enter Try.func65, Try.ntmps65
  go_upto_region 3 with (go_at_call 79; (refine (hv0 _).mono ?_); rintro e w1 ⟨rfl, hb⟩; obtain ⟨os, n, rfl⟩ := Below.moreE hb; clear hb)
  go_upto_region 5 with fail
  go_cut [6] (fun s6 wx => s6 = .int .i64 0 ∧ wx.cell? ⟨w.heap.size, 0, none⟩ = some (.int .i64 s) ∧ wx.cell? ⟨w.heap.size, 1, none⟩ = some (.bool g) ∧ w.heap.size < wx.heap.size ∧ Gr w.heap.size w wx)
  case first =>
    go_wp2_with fail
    go_meet
    exact ⟨rfl, by go_simp, by go_simp, by (first | omega | (simp; done) | (simp; omega)), by repeat (first | (with_reducible exact Gr.refl _) | with_reducible refine Gr.alloc ?_ _ | with_reducible refine Gr.more ?_ _ _ | with_reducible refine Gr.setCell ?_ (by dsimp only; omega) _ | with_reducible refine Gr.drew ?_)⟩
  case rest =>
  clear hb2
  obtain ⟨rfl, a1, b1, hz, hG⟩ := hcut
  have hbc := BS.up hG hb
  go_wp2_with fail
  go_loopw [6, 19] (fun a i wr => ∃ K : Nat, K ≤ l.length ∧ a = .int .i64 (wrap64 ((fbN (l.take K) : Nat) : Int)) ∧ i = .int .i64 (K : Int) ∧ BS wr b l ∧ wr.cell? ⟨w.heap.size, 0, none⟩ = some (.int .i64 s) ∧ wr.cell? ⟨w.heap.size, 1, none⟩ = some (.bool g) ∧ Gr w.heap.size w wr) (fun _ i _ => l.length - (intOf i).toNat)
  case atStart => exact ⟨0, by omega, by simp [fbN, wrap64], rfl, hbc, a1, b1, hG⟩
  case round =>
    clear hbc a1 b1 hz hG
    obtain ⟨K, hK, rfl, rfl, hB, a1, b1, hG⟩ := hrel
    by_cases hk : K < l.length
    · have hc := hB K hk
      have hki : (K : Int) < (l.length : Int) := by omega
      have hk0 : (0 : Int) ≤ (K : Int) := by omega
      have hw8 : wrap64 (8 * (K : Int)) = 8 * (K : Int) := by unfold wrap64; omega
      have h80 : (0 : Int) ≤ 8 * (K : Int) := by omega
      have h83 : 8 * (K : Int) ≤ 63 := by omega
      have hw1 : wrap64 ((K : Int) + 1) = (K : Int) + 1 := by unfold wrap64; omega
      have hN := fbN_lt (l.take K)
      rw [List.length_take, Nat.min_eq_left hK] at hN
      have hstep := or_step (fbN (l.take K)) l[K].toNat K hN l[K].toNat_lt (by omega)
      rw [← fbN_take l K hk] at hstep
      have e1 : (8 * (K : Int)).toNat = 8 * K := by omega
      have e2 : wrap64 (l[K].toNat : Int) = (l[K].toNat : Int) := by have := l[K].toNat_lt; unfold wrap64; omega
      go_wp2_with fail
      go_roundw
      case rel => exact ⟨K + 1, hk, by rw [← hstep, e1], by simp, hB, a1, b1, hG⟩
      case measure => simp [intOf]; omega
    · obtain rfl : K = l.length := by omega
      have hki : ¬ (l.length : Int) < (l.length : Int) := by omega
      have e : l.take l.length = l := List.take_length
      rw [e]
      go_wp2_with (go_at_call 80; (refine (wrap_any _ _ _ _).mono ?_); rintro e w1 ⟨rfl, hb⟩; obtain ⟨os, n, rfl⟩ := Below.moreE hb; clear hb)
      refine bodyPost_ret (v := .tuple #[.int .i64 (fbV s g l), .int .i64 0]) (by simp [results, Try.results65, go_sem, fbV]) rfl ⟨rfl, (hG.more _ _).below⟩
theorem from_short {s : Int} (v : validB s = true) (g : Bool) (n : Nat) (hl : ¬ (n : Int) = s) (p : Option Addr) (cap : Nat) (w : World) : Calls Try.prog 65 #[tyV s g, .slice p n cap] w fun e w' => e = .returned (.tuple #[.int .i64 0, .int .i64 1]) ∧ Below w.heap.size w w' := by
  have hv0 := valid_any s g
  rw [v] at hv0
  have hl' : ((n : Int) != s) = true := bne_iff_ne.2 hl
  go_enter Try.func65, Try.ntmps65
  go_wp2_with (go_at_call 79; (refine (hv0 _).mono ?_); rintro e w1 ⟨rfl, hb⟩; obtain ⟨os, n, rfl⟩ := Below.moreE hb; clear hb)
  refine bodyPost_ret (v := .tuple #[.int .i64 0, .int .i64 1]) (by simp [results, Try.results65, go_sem]) rfl ⟨rfl, (Gr.below (by repeat (first | (with_reducible exact Gr.refl _) | with_reducible refine Gr.alloc ?_ _ | with_reducible refine Gr.more ?_ _ _ | with_reducible refine Gr.setCell ?_ (by dsimp only; omega) _ | with_reducible refine Gr.drew ?_)))⟩

/-- The bytes of a block, the first K of a value's, the others zero. -/
def BZ (W : World) (b : Nat) (v : Int) (n K : Nat) : Prop := ∀ j : Nat, j < n → W.cell? ⟨b, j, none⟩ = some (.int .u8 (if j < K then ((btV v j).toNat : Int) else 0)) ∧ W.frozen? ⟨b, j, none⟩ = false
theorem bz_step {W : World} {b : Nat} {v : Int} {n K : Nat} (h : BZ W b v n K) (hk : K < n) (h7 : K ≤ 7) : BZ (W.setCell ⟨b, K, none⟩ (.int .u8 (IntKind.u8.wrap (v / 2 ^ (8 * (K : Int)).toNat)))) b v n (K + 1) := by
  intro j hj
  obtain ⟨hc, hf⟩ := h j hj
  refine ⟨?_, by rw [World.frozen?_setCell]; exact hf⟩
  by_cases e : j = K
  · subst e
    rw [World.cell?_setCell_same (h := hc), byte_of v j h7, if_pos (by omega)]
  · have hne : (⟨b, K, none⟩ : Addr) ≠ ⟨b, j, none⟩ := by intro h; injection h; omega
    rw [World.cell?_setCell_other (h := hne), hc]
    by_cases h1 : j < K
    · rw [if_pos h1, if_pos (by omega)]
    · rw [if_neg h1, if_neg (by omega)]
theorem bs_of_bz {W : World} {b : Nat} {v : Int} {n : Nat} (h : BZ W b v n n) : BS W b (btL v n) := by
  intro j hj
  have hj' : j < n := by simpa [btL] using hj
  rw [(h j hj').1, if_pos hj', btL_get]
set_option maxRecDepth 100000 in
set_option maxHeartbeats 2000000 in
theorem bytes_1 (g : Bool) (x : Int) (w : World) : Calls Try.prog 66 #[tyV 1 g, .int .i64 x] w fun e w' => ∃ b, e = .returned (.tuple #[.slice (some ⟨b, 0, none⟩) 1 1, .int .i64 0]) ∧ w.heap.size ≤ b ∧ BS w' b (btL x 1) ∧ Below w.heap.size w w' := by
  have hv0 := valid_any 1 g
  rw [show validB 1 = true from rfl] at hv0
  have hmk : ∀ w : World, (Instr.makeSlice 23 (.int .i64 1) (.int .i64 1)).run Try.prog w = .ok (.slice (some ⟨w.heap.size, 0, none⟩) 1 1) (w.alloc (.cells #[.int .u8 0] 5)) := fun _ => by kernel_rfl
  go_enter Try.func66, Try.ntmps66
  go_upto_region 3 with (go_at_call 79; (refine (hv0 _).mono ?_); rintro e w1 ⟨rfl, hb⟩; obtain ⟨os, n, rfl⟩ := Below.moreE hb; clear hb)
  go_cut [6] (fun s6 wx => ∃ B : Nat, s6 = .slice (some ⟨B, 0, none⟩) 1 1 ∧ w.heap.size ≤ B ∧ B < wx.heap.size ∧ BZ wx B x 1 0 ∧ Gr w.heap.size w wx)
  case first =>
    go_wp2_with fail
    go_meet
    refine ⟨_, rfl, by (first | omega | (simp; done) | (simp; omega)), by (first | omega | (simp; done) | (simp; omega)), ?_, by repeat (first | (with_reducible exact Gr.refl _) | (with_reducible exact hG) | with_reducible refine Gr.alloc ?_ _ | with_reducible refine Gr.more ?_ _ _ | with_reducible refine Gr.setCell ?_ (by dsimp only; omega) _ | with_reducible refine Gr.drew ?_)⟩
    intro j hj
    have hj' : j = 0 := by omega
    rcases hj' with rfl
    all_goals exact ⟨by go_simp, by go_simp⟩
  case rest =>
  clear hmk
  obtain ⟨B, rfl, lB, uB, hB, hG⟩ := hcut
  go_wp2_with fail
  go_loopw [16] (fun i wr => ∃ K : Nat, K ≤ 1 ∧ i = .int .i64 (K : Int) ∧ BZ wr B x 1 K ∧ Gr w.heap.size w wr) (fun i _ => 1 - (intOf i).toNat)
  case atStart => exact ⟨0, by omega, rfl, hB, hG⟩
  case round =>
    clear hB hG uB
    obtain ⟨K, hK, rfl, hB, hG⟩ := hrel
    by_cases hk : K < 1
    · obtain ⟨hc, hf⟩ := hB K hk
      have hki : (K : Int) < 1 := by omega
      have hk0 : (0 : Int) ≤ (K : Int) := by omega
      have hw8 : wrap64 (8 * (K : Int)) = 8 * (K : Int) := by unfold wrap64; omega
      have h80 : (0 : Int) ≤ 8 * (K : Int) := by omega
      have h83 : 8 * (K : Int) ≤ 63 := by omega
      have hw1 : wrap64 ((K : Int) + 1) = (K : Int) + 1 := by unfold wrap64; omega
      have hst := bz_step hB hk (by omega)
      go_wp2_with fail
      go_roundw
      case rel => exact ⟨K + 1, hk, by first | rfl | simp | simp [hw1], by first | exact hst | simpa using hst, by repeat (first | (with_reducible exact Gr.refl _) | (with_reducible exact hG) | with_reducible refine Gr.alloc ?_ _ | with_reducible refine Gr.more ?_ _ _ | with_reducible refine Gr.setCell ?_ (by dsimp only; omega) _ | with_reducible refine Gr.drew ?_)⟩
      case measure => simp [intOf]; omega
    · obtain rfl : K = 1 := by omega
      have hki : ¬ ((1 : Nat) : Int) < 1 := by omega
      go_wp2_with fail
      refine bodyPost_ret (v := .tuple #[.slice (some ⟨B, 0, none⟩) 1 1, .int .i64 0]) (by simp [results, Try.results66, go_sem]) rfl ⟨B, rfl, lB, bs_of_bz hB, hG.below⟩
set_option maxRecDepth 100000 in
set_option maxHeartbeats 2000000 in
theorem bytes_2 (g : Bool) (x : Int) (w : World) : Calls Try.prog 66 #[tyV 2 g, .int .i64 x] w fun e w' => ∃ b, e = .returned (.tuple #[.slice (some ⟨b, 0, none⟩) 2 2, .int .i64 0]) ∧ w.heap.size ≤ b ∧ BS w' b (btL x 2) ∧ Below w.heap.size w w' := by
  have hv0 := valid_any 2 g
  rw [show validB 2 = true from rfl] at hv0
  have hmk : ∀ w : World, (Instr.makeSlice 23 (.int .i64 2) (.int .i64 2)).run Try.prog w = .ok (.slice (some ⟨w.heap.size, 0, none⟩) 2 2) (w.alloc (.cells #[.int .u8 0, .int .u8 0] 5)) := fun _ => by kernel_rfl
  go_enter Try.func66, Try.ntmps66
  go_upto_region 3 with (go_at_call 79; (refine (hv0 _).mono ?_); rintro e w1 ⟨rfl, hb⟩; obtain ⟨os, n, rfl⟩ := Below.moreE hb; clear hb)
  go_cut [6] (fun s6 wx => ∃ B : Nat, s6 = .slice (some ⟨B, 0, none⟩) 2 2 ∧ w.heap.size ≤ B ∧ B < wx.heap.size ∧ BZ wx B x 2 0 ∧ Gr w.heap.size w wx)
  case first =>
    go_wp2_with fail
    go_meet
    refine ⟨_, rfl, by (first | omega | (simp; done) | (simp; omega)), by (first | omega | (simp; done) | (simp; omega)), ?_, by repeat (first | (with_reducible exact Gr.refl _) | (with_reducible exact hG) | with_reducible refine Gr.alloc ?_ _ | with_reducible refine Gr.more ?_ _ _ | with_reducible refine Gr.setCell ?_ (by dsimp only; omega) _ | with_reducible refine Gr.drew ?_)⟩
    intro j hj
    have hj' : j = 0 ∨ j = 1 := by omega
    rcases hj' with rfl | rfl
    all_goals exact ⟨by go_simp, by go_simp⟩
  case rest =>
  clear hmk
  obtain ⟨B, rfl, lB, uB, hB, hG⟩ := hcut
  go_wp2_with fail
  go_loopw [16] (fun i wr => ∃ K : Nat, K ≤ 2 ∧ i = .int .i64 (K : Int) ∧ BZ wr B x 2 K ∧ Gr w.heap.size w wr) (fun i _ => 2 - (intOf i).toNat)
  case atStart => exact ⟨0, by omega, rfl, hB, hG⟩
  case round =>
    clear hB hG uB
    obtain ⟨K, hK, rfl, hB, hG⟩ := hrel
    by_cases hk : K < 2
    · obtain ⟨hc, hf⟩ := hB K hk
      have hki : (K : Int) < 2 := by omega
      have hk0 : (0 : Int) ≤ (K : Int) := by omega
      have hw8 : wrap64 (8 * (K : Int)) = 8 * (K : Int) := by unfold wrap64; omega
      have h80 : (0 : Int) ≤ 8 * (K : Int) := by omega
      have h83 : 8 * (K : Int) ≤ 63 := by omega
      have hw1 : wrap64 ((K : Int) + 1) = (K : Int) + 1 := by unfold wrap64; omega
      have hst := bz_step hB hk (by omega)
      go_wp2_with fail
      go_roundw
      case rel => exact ⟨K + 1, hk, by first | rfl | simp | simp [hw1], by first | exact hst | simpa using hst, by repeat (first | (with_reducible exact Gr.refl _) | (with_reducible exact hG) | with_reducible refine Gr.alloc ?_ _ | with_reducible refine Gr.more ?_ _ _ | with_reducible refine Gr.setCell ?_ (by dsimp only; omega) _ | with_reducible refine Gr.drew ?_)⟩
      case measure => simp [intOf]; omega
    · obtain rfl : K = 2 := by omega
      have hki : ¬ ((2 : Nat) : Int) < 2 := by omega
      go_wp2_with fail
      refine bodyPost_ret (v := .tuple #[.slice (some ⟨B, 0, none⟩) 2 2, .int .i64 0]) (by simp [results, Try.results66, go_sem]) rfl ⟨B, rfl, lB, bs_of_bz hB, hG.below⟩
set_option maxRecDepth 100000 in
set_option maxHeartbeats 2000000 in
theorem bytes_4 (g : Bool) (x : Int) (w : World) : Calls Try.prog 66 #[tyV 4 g, .int .i64 x] w fun e w' => ∃ b, e = .returned (.tuple #[.slice (some ⟨b, 0, none⟩) 4 4, .int .i64 0]) ∧ w.heap.size ≤ b ∧ BS w' b (btL x 4) ∧ Below w.heap.size w w' := by
  have hv0 := valid_any 4 g
  rw [show validB 4 = true from rfl] at hv0
  have hmk : ∀ w : World, (Instr.makeSlice 23 (.int .i64 4) (.int .i64 4)).run Try.prog w = .ok (.slice (some ⟨w.heap.size, 0, none⟩) 4 4) (w.alloc (.cells #[.int .u8 0, .int .u8 0, .int .u8 0, .int .u8 0] 5)) := fun _ => by kernel_rfl
  go_enter Try.func66, Try.ntmps66
  go_upto_region 3 with (go_at_call 79; (refine (hv0 _).mono ?_); rintro e w1 ⟨rfl, hb⟩; obtain ⟨os, n, rfl⟩ := Below.moreE hb; clear hb)
  go_cut [6] (fun s6 wx => ∃ B : Nat, s6 = .slice (some ⟨B, 0, none⟩) 4 4 ∧ w.heap.size ≤ B ∧ B < wx.heap.size ∧ BZ wx B x 4 0 ∧ Gr w.heap.size w wx)
  case first =>
    go_wp2_with fail
    go_meet
    refine ⟨_, rfl, by (first | omega | (simp; done) | (simp; omega)), by (first | omega | (simp; done) | (simp; omega)), ?_, by repeat (first | (with_reducible exact Gr.refl _) | (with_reducible exact hG) | with_reducible refine Gr.alloc ?_ _ | with_reducible refine Gr.more ?_ _ _ | with_reducible refine Gr.setCell ?_ (by dsimp only; omega) _ | with_reducible refine Gr.drew ?_)⟩
    intro j hj
    have hj' : j = 0 ∨ j = 1 ∨ j = 2 ∨ j = 3 := by omega
    rcases hj' with rfl | rfl | rfl | rfl
    all_goals exact ⟨by go_simp, by go_simp⟩
  case rest =>
  clear hmk
  obtain ⟨B, rfl, lB, uB, hB, hG⟩ := hcut
  go_wp2_with fail
  go_loopw [16] (fun i wr => ∃ K : Nat, K ≤ 4 ∧ i = .int .i64 (K : Int) ∧ BZ wr B x 4 K ∧ Gr w.heap.size w wr) (fun i _ => 4 - (intOf i).toNat)
  case atStart => exact ⟨0, by omega, rfl, hB, hG⟩
  case round =>
    clear hB hG uB
    obtain ⟨K, hK, rfl, hB, hG⟩ := hrel
    by_cases hk : K < 4
    · obtain ⟨hc, hf⟩ := hB K hk
      have hki : (K : Int) < 4 := by omega
      have hk0 : (0 : Int) ≤ (K : Int) := by omega
      have hw8 : wrap64 (8 * (K : Int)) = 8 * (K : Int) := by unfold wrap64; omega
      have h80 : (0 : Int) ≤ 8 * (K : Int) := by omega
      have h83 : 8 * (K : Int) ≤ 63 := by omega
      have hw1 : wrap64 ((K : Int) + 1) = (K : Int) + 1 := by unfold wrap64; omega
      have hst := bz_step hB hk (by omega)
      go_wp2_with fail
      go_roundw
      case rel => exact ⟨K + 1, hk, by first | rfl | simp | simp [hw1], by first | exact hst | simpa using hst, by repeat (first | (with_reducible exact Gr.refl _) | (with_reducible exact hG) | with_reducible refine Gr.alloc ?_ _ | with_reducible refine Gr.more ?_ _ _ | with_reducible refine Gr.setCell ?_ (by dsimp only; omega) _ | with_reducible refine Gr.drew ?_)⟩
      case measure => simp [intOf]; omega
    · obtain rfl : K = 4 := by omega
      have hki : ¬ ((4 : Nat) : Int) < 4 := by omega
      go_wp2_with fail
      refine bodyPost_ret (v := .tuple #[.slice (some ⟨B, 0, none⟩) 4 4, .int .i64 0]) (by simp [results, Try.results66, go_sem]) rfl ⟨B, rfl, lB, bs_of_bz hB, hG.below⟩
set_option maxRecDepth 100000 in
set_option maxHeartbeats 2000000 in
theorem bytes_8 (g : Bool) (x : Int) (w : World) : Calls Try.prog 66 #[tyV 8 g, .int .i64 x] w fun e w' => ∃ b, e = .returned (.tuple #[.slice (some ⟨b, 0, none⟩) 8 8, .int .i64 0]) ∧ w.heap.size ≤ b ∧ BS w' b (btL x 8) ∧ Below w.heap.size w w' := by
  have hv0 := valid_any 8 g
  rw [show validB 8 = true from rfl] at hv0
  have hmk : ∀ w : World, (Instr.makeSlice 23 (.int .i64 8) (.int .i64 8)).run Try.prog w = .ok (.slice (some ⟨w.heap.size, 0, none⟩) 8 8) (w.alloc (.cells #[.int .u8 0, .int .u8 0, .int .u8 0, .int .u8 0, .int .u8 0, .int .u8 0, .int .u8 0, .int .u8 0] 5)) := fun _ => by kernel_rfl
  go_enter Try.func66, Try.ntmps66
  go_upto_region 3 with (go_at_call 79; (refine (hv0 _).mono ?_); rintro e w1 ⟨rfl, hb⟩; obtain ⟨os, n, rfl⟩ := Below.moreE hb; clear hb)
  go_cut [6] (fun s6 wx => ∃ B : Nat, s6 = .slice (some ⟨B, 0, none⟩) 8 8 ∧ w.heap.size ≤ B ∧ B < wx.heap.size ∧ BZ wx B x 8 0 ∧ Gr w.heap.size w wx)
  case first =>
    go_wp2_with fail
    go_meet
    refine ⟨_, rfl, by (first | omega | (simp; done) | (simp; omega)), by (first | omega | (simp; done) | (simp; omega)), ?_, by repeat (first | (with_reducible exact Gr.refl _) | (with_reducible exact hG) | with_reducible refine Gr.alloc ?_ _ | with_reducible refine Gr.more ?_ _ _ | with_reducible refine Gr.setCell ?_ (by dsimp only; omega) _ | with_reducible refine Gr.drew ?_)⟩
    intro j hj
    have hj' : j = 0 ∨ j = 1 ∨ j = 2 ∨ j = 3 ∨ j = 4 ∨ j = 5 ∨ j = 6 ∨ j = 7 := by omega
    rcases hj' with rfl | rfl | rfl | rfl | rfl | rfl | rfl | rfl
    all_goals exact ⟨by go_simp, by go_simp⟩
  case rest =>
  clear hmk
  obtain ⟨B, rfl, lB, uB, hB, hG⟩ := hcut
  go_wp2_with fail
  go_loopw [16] (fun i wr => ∃ K : Nat, K ≤ 8 ∧ i = .int .i64 (K : Int) ∧ BZ wr B x 8 K ∧ Gr w.heap.size w wr) (fun i _ => 8 - (intOf i).toNat)
  case atStart => exact ⟨0, by omega, rfl, hB, hG⟩
  case round =>
    clear hB hG uB
    obtain ⟨K, hK, rfl, hB, hG⟩ := hrel
    by_cases hk : K < 8
    · obtain ⟨hc, hf⟩ := hB K hk
      have hki : (K : Int) < 8 := by omega
      have hk0 : (0 : Int) ≤ (K : Int) := by omega
      have hw8 : wrap64 (8 * (K : Int)) = 8 * (K : Int) := by unfold wrap64; omega
      have h80 : (0 : Int) ≤ 8 * (K : Int) := by omega
      have h83 : 8 * (K : Int) ≤ 63 := by omega
      have hw1 : wrap64 ((K : Int) + 1) = (K : Int) + 1 := by unfold wrap64; omega
      have hst := bz_step hB hk (by omega)
      go_wp2_with fail
      go_roundw
      case rel => exact ⟨K + 1, hk, by first | rfl | simp | simp [hw1], by first | exact hst | simpa using hst, by repeat (first | (with_reducible exact Gr.refl _) | (with_reducible exact hG) | with_reducible refine Gr.alloc ?_ _ | with_reducible refine Gr.more ?_ _ _ | with_reducible refine Gr.setCell ?_ (by dsimp only; omega) _ | with_reducible refine Gr.drew ?_)⟩
      case measure => simp [intOf]; omega
    · obtain rfl : K = 8 := by omega
      have hki : ¬ ((8 : Nat) : Int) < 8 := by omega
      go_wp2_with fail
      refine bodyPost_ret (v := .tuple #[.slice (some ⟨B, 0, none⟩) 8 8, .int .i64 0]) (by simp [results, Try.results66, go_sem]) rfl ⟨B, rfl, lB, bs_of_bz hB, hG.below⟩
theorem bytes_ok {s : Int} (v : validB s = true) (g : Bool) (x : Int) (w : World) : Calls Try.prog 66 #[tyV s g, .int .i64 x] w fun e w' => ∃ b, e = .returned (.tuple #[.slice (some ⟨b, 0, none⟩) s.toNat s.toNat, .int .i64 0]) ∧ w.heap.size ≤ b ∧ BS w' b (btL x s.toNat) ∧ Below w.heap.size w w' := by
  rcases (valid_iff s).1 v with rfl | rfl | rfl | rfl
  · exact bytes_1 g x w
  · exact bytes_2 g x w
  · exact bytes_4 g x w
  · exact bytes_8 g x w
end Go.Proofs.Ytnapbpfofpaakaa

namespace Go.Proofs.Ytnapbpfofpaakaa
open Go.RowKit

theorem cmp_facts (a b c : Int) : (-1 ≤ cmpI a b ∧ cmpI a b ≤ 1) ∧ cmpI b a = -cmpI a b ∧ (cmpI a b = 0 ↔ a = b) ∧ (cmpI a b ≤ 0 ↔ a ≤ b) ∧ (cmpI a b < 0 ↔ a < b) := by
  unfold cmpI
  refine ⟨⟨?_, ?_⟩, ?_, ?_, ?_, ?_⟩ <;> (repeat' split) <;> omega
theorem u64_inj {a b : Int} (ha : I64 a) (hb : I64 b) (h : u64 a = u64 b) : a = b := by
  obtain ⟨a1, a2⟩ := ha; obtain ⟨b1, b2⟩ := hb
  rw [u64_eq, u64_eq] at h
  omega
/-- What a value of a type with (without) a sign stands for in an order. -/
def ordK (g : Bool) (x : Int) : Int := if g = true then x else u64 x
theorem ordI_eq (g : Bool) (x y : Int) : ordI g x y = cmpI (ordK g x) (ordK g y) := by cases g <;> rfl
theorem ordK_inj {g : Bool} {a b : Int} (ha : I64 a) (hb : I64 b) : ordK g a = ordK g b ↔ a = b := by
  refine ⟨fun h => ?_, fun h => h ▸ rfl⟩
  cases g
  · exact u64_inj ha hb h
  · exact h

/-- The operands of a relation, on the promoted type, stand for the same numbers. -/
theorem ordK_pr (s : Int) (g : Bool) (h : validB s = true) (x : Int) (hx : Rg s g x) : ordK (prG s g) (wrapI (prS s) (prG s g) x) = ordK g x := by
  rcases (valid_iff s).1 h with rfl | rfl | rfl | rfl <;> cases g <;> simp [Rg] at hx <;> simp [prS, prG, ordK, wrapI, u64_eq] <;> omega
theorem ordI_pr (s : Int) (g : Bool) (h : validB s = true) (x y : Int) (hx : Rg s g x) (hy : Rg s g y) : ordI (prG s g) (wrapI (prS s) (prG s g) x) (wrapI (prS s) (prG s g) y) = ordI g x y := by
  rw [ordI_eq, ordI_eq, ordK_pr s g h x hx, ordK_pr s g h y hy]

theorem rg_wrap (s : Int) (g : Bool) (h : validB s = true) : wrapI s g (rgL s g) = rgL s g ∧ wrapI s g (rgH s g) = rgH s g := by
  rcases (valid_iff s).1 h with rfl | rfl | rfl | rfl <;> cases g <;> decide
theorem rg_least (s : Int) (g : Bool) (h : validB s = true) (x : Int) (hx : Rg s g x) : ordI g (rgL s g) x ≤ 0 ∧ ordI g x (rgH s g) ≤ 0 := by
  rw [ordI_eq, ordI_eq, (cmp_facts _ _ 0).2.2.2.1, (cmp_facts _ _ 0).2.2.2.1]
  rcases (valid_iff s).1 h with rfl | rfl | rfl | rfl <;> cases g <;> simp [Rg] at hx <;> simp [rgL, rgH, ordK, u64_eq] <;> omega

/-- The order's facts that the law asks. -/
theorem ord_law (g : Bool) (a b c : Int) (ha : I64 a) (hb : I64 b) :
    (-1 ≤ ordI g a b ∧ ordI g a b ≤ 1) ∧ ordI g b a = -ordI g a b ∧ (ordI g a b = 0 ↔ a = b) ∧ (ordI g a b ≤ 0 → ordI g b c ≤ 0 → ordI g a c ≤ 0) ∧ (ordI g a b < 0 → ordI g b c ≤ 0 → ordI g a c < 0) := by
  simp only [ordI_eq]
  have h1 := cmp_facts (ordK g a) (ordK g b) 0
  have h2 := cmp_facts (ordK g b) (ordK g c) 0
  have h3 := cmp_facts (ordK g a) (ordK g c) 0
  refine ⟨h1.1, h1.2.1, h1.2.2.1.trans (ordK_inj ha hb), ?_, ?_⟩
  · rw [h1.2.2.2.1, h2.2.2.2.1, h3.2.2.2.1]; omega
  · rw [h1.2.2.2.2, h2.2.2.2.1, h3.2.2.2.2]; omega
end Go.Proofs.Ytnapbpfofpaakaa

namespace Go.Proofs.Ytnapbpfofpaakaa
open Go.RowKit

end Go.Proofs.Ytnapbpfofpaakaa

namespace Go.Proofs.Ytnapbpfofpaakaa
open Go.RowKit

set_option maxHeartbeats 1000000 in
theorem rcheck_any (s : Int) (g : Bool) (w : World) : Calls Try.prog 45 #[tyV s g] w fun e w' => e = .returned (.int .i64 (eT s)) ∧ Below w.heap.size w w' := by
  by_cases h1 : s = 1
  · subst h1
    go_enter Try.func45, Try.ntmps45
    go_wp2
    go_ret
    exact ⟨rfl, (Below.refl _ _).alloc (Nat.le_refl _) _⟩
  · by_cases h2 : s = 2
    · subst h2
      go_enter Try.func45, Try.ntmps45
      go_wp2
      go_ret
      exact ⟨rfl, (Below.refl _ _).alloc (Nat.le_refl _) _⟩
    · by_cases h4 : s = 4
      · subst h4
        go_enter Try.func45, Try.ntmps45
        go_wp2
        go_ret
        exact ⟨rfl, (Below.refl _ _).alloc (Nat.le_refl _) _⟩
      · by_cases h8 : s = 8
        · subst h8
          go_enter Try.func45, Try.ntmps45
          go_wp2
          go_ret
          exact ⟨rfl, (Below.refl _ _).alloc (Nat.le_refl _) _⟩
        · have e : eT s = 10 := by simp [eT, validB, h1, h2, h4, h8]
          rw [e]
          have n1 : (s != 1) = true := bne_iff_ne.2 h1
          have n2 : (s != 2) = true := bne_iff_ne.2 h2
          have n4 : (s != 4) = true := bne_iff_ne.2 h4
          have n8 : (s != 8) = true := bne_iff_ne.2 h8
          go_enter Try.func45, Try.ntmps45
          go_wp2
          go_ret
          exact ⟨rfl, (Below.refl _ _).alloc (Nat.le_refl _) _⟩
set_option maxHeartbeats 1000000 in
theorem rwrapped_any (s : Int) (g : Bool) (v : Int) (w : World) : Calls Try.prog 70 #[tyV s g, .int .i64 v] w fun e w' => e = .returned (.int .i64 (wrapI s g v)) ∧ Below w.heap.size w w' := by
  by_cases h1 : s = 1
  · subst h1
    cases g
    all_goals
      go_enter Try.func70, Try.ntmps70
      go_wp2
      go_ret
      exact ⟨ret_int (by simp [wrapI, w64_i8]), (Below.refl _ _).alloc (Nat.le_refl _) _⟩
  · by_cases h2 : s = 2
    · subst h2
      cases g
      all_goals
        go_enter Try.func70, Try.ntmps70
        go_wp2
        go_ret
        exact ⟨ret_int (by simp [wrapI, w64_i16, w64_u16]), (Below.refl _ _).alloc (Nat.le_refl _) _⟩
    · by_cases h4 : s = 4
      · subst h4
        cases g
        all_goals
          go_enter Try.func70, Try.ntmps70
          go_wp2
          go_ret
          exact ⟨ret_int (by simp [wrapI, w64_i32]), (Below.refl _ _).alloc (Nat.le_refl _) _⟩
      · have e : wrapI s g v = v := by simp [wrapI, h1, h2, h4]
        rw [e]
        go_enter Try.func70, Try.ntmps70
        go_wp2
        go_ret
        exact ⟨rfl, (Below.refl _ _).alloc (Nat.le_refl _) _⟩
theorem rcheck_ok {s : Int} (v : validB s = true) (g : Bool) : RetV 45 #[tyV s g] 0 := fun w => by
  have h := rcheck_any s g w
  rw [show eT s = 0 by simp [eT, v]] at h
  exact h
theorem rcheck_bad {s : Int} (v : validB s = false) (g : Bool) : RetV 45 #[tyV s g] 10 := fun w => by
  have h := rcheck_any s g w
  rw [show eT s = 10 by simp [eT, v]] at h
  exact h

theorem rwrap_ok {s : Int} (v : validB s = true) (g : Bool) (x : Int) : RetM 42 #[tyV s g, .int .i64 x] (wrapI s g x) 0 := fun w => by
  have HK := rcheck_ok v g
  go_enter Try.func42, Try.ntmps42
  go_wp2_with first | (go_at_call 45; (refine (HK _).mono ?_); rintro e w1 ⟨rfl, hb⟩; obtain ⟨os, n, rfl⟩ := Below.moreE hb; clear hb) | (go_at_call 70; (refine (rwrapped_any _ _ _ _).mono ?_); rintro e w1 ⟨rfl, hb⟩; obtain ⟨os, n, rfl⟩ := Below.moreE hb; clear hb)
  refine bodyPost_ret (v := .tuple #[.int .i64 (wrapI s g x), .int .i64 0]) (by simp [results, Try.results42, go_sem]) rfl ⟨rfl, (Gr.below (by repeat (first | (with_reducible exact Gr.refl _) | with_reducible refine Gr.alloc ?_ _ | with_reducible refine Gr.more ?_ _ _ | with_reducible refine Gr.setCell ?_ (by dsimp only; omega) _ | with_reducible refine Gr.drew ?_)))⟩
theorem rwrap_bad {s : Int} (v : validB s = false) (g : Bool) (x : Int) : RetM 42 #[tyV s g, .int .i64 x] 0 10 := fun w => by
  have HK := rcheck_bad v g
  go_enter Try.func42, Try.ntmps42
  go_wp2_with (go_at_call 45; (refine (HK _).mono ?_); rintro e w1 ⟨rfl, hb⟩; obtain ⟨os, n, rfl⟩ := Below.moreE hb; clear hb)
  refine bodyPost_ret (v := .tuple #[.int .i64 0, .int .i64 10]) (by simp [results, Try.results42, go_sem]) rfl ⟨rfl, (Gr.below (by repeat (first | (with_reducible exact Gr.refl _) | with_reducible refine Gr.alloc ?_ _ | with_reducible refine Gr.more ?_ _ _ | with_reducible refine Gr.setCell ?_ (by dsimp only; omega) _ | with_reducible refine Gr.drew ?_)))⟩

end Go.Proofs.Ytnapbpfofpaakaa

namespace Go.Proofs.Ytnapbpfofpaakaa
open Go.RowKit

/-- A call that returns two numbers and an error. -/
@[reducible] def RetR (f : Nat) (args : Array Value) (a b e : Int) : Prop := ∀ w : World, Calls Try.prog f args w fun r w' => r = .returned (.tuple #[.int .i64 a, .int .i64 b, .int .i64 e]) ∧ Below w.heap.size w w'

theorem two_w64 {K : Int} (k0 : 0 ≤ K) (k1 : K < 63) : wrap64 (-2 ^ K.toNat * 2) = -2 ^ (K + 1).toNat := by
  have e : (K + 1).toNat = K.toNat + 1 := by omega
  rw [e, Int.pow_succ]
  have l := pow_le2 (a := K.toNat) (b := 62) (by omega)
  have p := pow_pos2 K.toNat
  have l' : (2 : Int) ^ 62 = 4611686018427387904 := by decide
  rw [l'] at l
  generalize (2 : Int) ^ K.toNat = q at *
  unfold wrap64; omega
/-- The place of a promoted type. -/
def rkN (s : Int) (g : Bool) : Int := if s = 8 then (if g = true then 2 else 3) else (if g = true then 0 else 1)
end Go.Proofs.Ytnapbpfofpaakaa

namespace Go.Proofs.Ytnapbpfofpaakaa
open Go.RowKit

theorem u64_lt {a b : Int} (a1 : -9223372036854775808 ≤ a) (a2 : a ≤ 9223372036854775807) (b1 : -9223372036854775808 ≤ b) (b2 : b ≤ 9223372036854775807) : (u64 a < u64 b) ↔ ((0 ≤ a ∧ b < 0) ∨ ((a < 0 ↔ b < 0) ∧ a < b)) := by
  rw [u64_eq, u64_eq]; omega
theorem ord_lt {a b : Int} (h : u64 a < u64 b) : ordI false a b = -1 := by simp [ordI, cmpI, h]
theorem ord_gt {a b : Int} (h : u64 b < u64 a) : ordI false a b = 1 := by
  have : ¬ u64 a < u64 b := by omega
  simp [ordI, cmpI, h, this]
theorem ord_eq {a b : Int} (h : a = b) : ordI false a b = 0 := by subst h; simp [ordI, cmpI]
theorem fbN_drop (l : List UInt8) (j : Nat) (h : j < l.length) : fbN (l.drop j) = l[j].toNat + 256 * fbN (l.drop (j + 1)) := by
  rw [List.drop_eq_getElem_cons h]
  rfl
theorem horner (N c : Nat) : wrap64 (wrap64 (256 * wrap64 (N : Int)) + (c : Int)) = wrap64 ((c + 256 * N : Nat) : Int) := by
  unfold wrap64; omega
set_option maxRecDepth 100000 in
set_option maxHeartbeats 2000000 in
theorem rfrom_loop {s : Int} (v : validB s = true) (g : Bool) (l : List UInt8) (hl : (l.length : Int) = s) (b cap : Nat) (w : World) (hb : BS w b l) : Calls Try.prog 43 #[tyV s g, .slice (some ⟨b, 0, none⟩) l.length cap] w fun e w' => e = .returned (.tuple #[.int .i64 (fbV s g l), .int .i64 0]) ∧ Below w.heap.size w w' := by
  have h8 : l.length ≤ 8 := by rcases (valid_iff s).1 v with rfl | rfl | rfl | rfl <;> omega
  have h1 : 1 ≤ l.length := by rcases (valid_iff s).1 v with rfl | rfl | rfl | rfl <;> omega
  have HK := rcheck_ok v g
  go_enter Try.func43, Try.ntmps43
  go_upto_region 6 with (go_at_call 45; (refine (HK _).mono ?_); rintro e w1 ⟨rfl, hb⟩; obtain ⟨os, n, rfl⟩ := Below.moreE hb; clear hb)
  go_cut [7] (fun s7 wx => s7 = .int .i64 0 ∧ wx.cell? ⟨w.heap.size, 0, none⟩ = some (.int .i64 s) ∧ wx.cell? ⟨w.heap.size, 1, none⟩ = some (.bool g) ∧ Gr w.heap.size w wx)
  case first =>
    go_wp2_with fail
    go_meet
    exact ⟨rfl, by go_simp, by go_simp, by repeat (first | (with_reducible exact Gr.refl _) | with_reducible refine Gr.alloc ?_ _ | with_reducible refine Gr.more ?_ _ _ | with_reducible refine Gr.setCell ?_ (by dsimp only; omega) _ | with_reducible refine Gr.drew ?_)⟩
  case rest =>
  obtain ⟨rfl, a1, b1, hG⟩ := hcut
  have hbc := BS.up hG hb
  have hw0 : wrap64 ((l.length : Int) - 1) = (l.length : Int) - 1 := by unfold wrap64; omega
  clear hl
  go_wp2_with fail
  go_loopw [7, 8] (fun a i wr => ∃ (K : Nat) (x : Int), K ≤ l.length ∧ x = (K : Int) - 1 ∧ a = .int .i64 (wrap64 ((fbN (l.drop K) : Nat) : Int)) ∧ i = .int .i64 x ∧ BS wr b l ∧ wr.cell? ⟨w.heap.size, 0, none⟩ = some (.int .i64 s) ∧ wr.cell? ⟨w.heap.size, 1, none⟩ = some (.bool g) ∧ Gr w.heap.size w wr) (fun _ i _ => (intOf i + 1).toNat)
  case atStart => exact ⟨l.length, (l.length : Int) - 1, by omega, rfl, by simp [fbN, wrap64], by first | rfl | simp [hw0] | simp, hbc, a1, b1, hG⟩
  case round =>
    clear hbc a1 b1 hG
    obtain ⟨K, x, hK, hx, rfl, rfl, hB, a1, b1, hG⟩ := hrel
    cases K with
    | zero =>
      obtain rfl : x = -1 := by omega
      clear hx
      have e : l.drop 0 = l := rfl
      rw [e]
      go_wp2_with (go_at_call 70; (refine (rwrapped_any _ _ _ _).mono ?_); rintro e w1 ⟨rfl, hb⟩; obtain ⟨os, n, rfl⟩ := Below.moreE hb; clear hb)
      refine bodyPost_ret (v := .tuple #[.int .i64 (fbV s g l), .int .i64 0]) (by simp [results, Try.results43, go_sem, fbV]) rfl ⟨rfl, (hG.more _ _).below⟩
    | succ j =>
      obtain rfl : x = (j : Int) := by omega
      clear hx
      have hj : j < l.length := by omega
      have hc := hB j hj
      have hji : (j : Int) < (l.length : Int) := by omega
      have hj0 : (0 : Int) ≤ (j : Int) := by omega
      have hw1 : wrap64 ((j : Int) - 1) = (j : Int) - 1 := by unfold wrap64; omega
      have e2 : wrap64 (l[j].toNat : Int) = (l[j].toNat : Int) := by have := l[j].toNat_lt; unfold wrap64; omega
      have hstep := horner (fbN (l.drop (j + 1))) l[j].toNat
      rw [← fbN_drop l j hj] at hstep
      have Hs := Lib.hid hstep
      clear hstep
      go_wp2_with fail
      go_roundw
      case rel => exact ⟨j, (j : Int) - 1, by omega, rfl, by rw [← Hs.out], by first | rfl | simp [hw1], hB, a1, b1, hG⟩
      case measure => simp [intOf]
theorem rfrom_short {s : Int} (v : validB s = true) (g : Bool) (n : Nat) (hl : ¬ (n : Int) = s) (p : Option Addr) (cap : Nat) (w : World) : Calls Try.prog 43 #[tyV s g, .slice p n cap] w fun e w' => e = .returned (.tuple #[.int .i64 0, .int .i64 1]) ∧ Below w.heap.size w w' := by
  have HK := rcheck_ok v g
  have hl' : ((n : Int) != s) = true := bne_iff_ne.2 hl
  go_enter Try.func43, Try.ntmps43
  go_wp2_with (go_at_call 45; (refine (HK _).mono ?_); rintro e w1 ⟨rfl, hb⟩; obtain ⟨os, n, rfl⟩ := Below.moreE hb; clear hb)
  refine bodyPost_ret (v := .tuple #[.int .i64 0, .int .i64 1]) (by simp [results, Try.results43, go_sem]) rfl ⟨rfl, (Gr.below (by repeat (first | (with_reducible exact Gr.refl _) | with_reducible refine Gr.alloc ?_ _ | with_reducible refine Gr.more ?_ _ _ | with_reducible refine Gr.setCell ?_ (by dsimp only; omega) _ | with_reducible refine Gr.drew ?_)))⟩
theorem rfrom_bad {s : Int} (v : validB s = false) (g : Bool) (n : Nat) (p : Option Addr) (cap : Nat) (w : World) : Calls Try.prog 43 #[tyV s g, .slice p n cap] w fun e w' => e = .returned (.tuple #[.int .i64 0, .int .i64 10]) ∧ Below w.heap.size w w' := by
  have HK := rcheck_bad v g
  go_enter Try.func43, Try.ntmps43
  go_wp2_with (go_at_call 45; (refine (HK _).mono ?_); rintro e w1 ⟨rfl, hb⟩; obtain ⟨os, n, rfl⟩ := Below.moreE hb; clear hb)
  refine bodyPost_ret (v := .tuple #[.int .i64 0, .int .i64 10]) (by simp [results, Try.results43, go_sem]) rfl ⟨rfl, (Gr.below (by repeat (first | (with_reducible exact Gr.refl _) | with_reducible refine Gr.alloc ?_ _ | with_reducible refine Gr.more ?_ _ _ | with_reducible refine Gr.setCell ?_ (by dsimp only; omega) _ | with_reducible refine Gr.drew ?_)))⟩
end Go.Proofs.Ytnapbpfofpaakaa

namespace Go.Proofs.Ytnapbpfofpaakaa
open Go.RowKit

theorem byte_and (v : Int) (k : Nat) (hk : k ≤ 7) : IntKind.u8.wrap (bits .and .i64 (v / 256 ^ k) 255) = ((btV v k).toNat : Int) := by
  have h := byte_of v k hk
  have e : (2 : Int) ^ (8 * (k : Int)).toNat = 256 ^ k := by
    rw [show (8 * (k : Int)).toNat = 8 * k by omega, Int.pow_mul]
    rfl
  rw [e] at h
  rw [← h]
  have hm : (BitVec.ofInt 64 255).toNat = 2 ^ 8 - 1 := by decide
  have key : (BitVec.ofInt 64 (v / 256 ^ k) &&& BitVec.ofInt 64 255).toNat = ((v / 256 ^ k) % ((2 ^ 64 : Nat) : Int)).toNat % 2 ^ 8 := by
    rw [BitVec.toNat_and, BitVec.toNat_ofInt, hm, Nat.and_two_pow_sub_one_eq_mod]
  have hb : bits .and .i64 (v / 256 ^ k) 255 = (v / 256 ^ k) % 256 := by
    show IntKind.i64.wrap ((BitVec.ofInt 64 (v / 256 ^ k) &&& BitVec.ofInt 64 255).toNat : Nat) = _
    rw [key, IntKind.wrap_i64]
    generalize v / 256 ^ k = y
    omega
  have w8 : ∀ n : Int, IntKind.u8.wrap n = n % 256 := fun n => by simp [IntKind.wrap, IntKind.bits, IntKind.signed]
  rw [hb, w8, w8]
  omega
theorem and_255 (y : Int) : bits .and .i64 y 255 = y % 256 := by
  have hm : (BitVec.ofInt 64 255).toNat = 2 ^ 8 - 1 := by decide
  have key : (BitVec.ofInt 64 y &&& BitVec.ofInt 64 255).toNat = (y % ((2 ^ 64 : Nat) : Int)).toNat % 2 ^ 8 := by
    rw [BitVec.toNat_and, BitVec.toNat_ofInt, hm, Nat.and_two_pow_sub_one_eq_mod]
  show IntKind.i64.wrap ((BitVec.ofInt 64 y &&& BitVec.ofInt 64 255).toNat : Nat) = _
  rw [key, IntKind.wrap_i64]
  omega
theorem next_y (v : Int) (k : Nat) (hv : I64 v) : wrap64 ((wrap64 (v / 256 ^ k - bits .and .i64 (v / 256 ^ k) 255)).tdiv 256) = v / 256 ^ (k + 1) := by
  have e : v / 256 ^ (k + 1) = v / 256 ^ k / 256 := by
    rw [Int.pow_succ, Int.ediv_ediv_of_nonneg (Int.le_of_lt (Int.pow_pos (by decide)))]
  rw [e, and_255]
  obtain ⟨h1, h2⟩ := hv
  have p : (0 : Int) < 256 ^ k := Int.pow_pos (by decide)
  have b1 : v / 256 ^ k ≤ 9223372036854775807 := by
    by_cases h0 : 0 ≤ v
    · exact Int.le_trans (Int.ediv_le_self _ h0) h2
    · have := Int.ediv_neg_of_neg_of_pos (show v < 0 by omega) p
      omega
  have b2 : -9223372036854775808 ≤ v / 256 ^ k := by
    refine (Int.le_ediv_iff_mul_le p).2 ?_
    have : (-9223372036854775808 : Int) * 256 ^ k ≤ -9223372036854775808 * 1 := Int.mul_le_mul_of_nonpos_left (by omega) (by omega)
    omega
  generalize v / 256 ^ k = y at *
  have e2 : wrap64 (y - y % 256) = y - y % 256 := by unfold wrap64; omega
  have e3 : (y - y % 256).tdiv 256 = y / 256 := by
    have : y - y % 256 = (y / 256) * 256 := by omega
    rw [this]
    exact Int.mul_tdiv_cancel _ (by decide)
  rw [e2, e3]
  unfold wrap64; omega
theorem bs_of_own {W : World} {base : Nat} {e : TypeId} {v : Value} {l : List UInt8} (h : W.ownsRow base e 1 v l.length (cellsB l)) (hl : 0 < l.length) : ∃ g cap, v = .slice (some ⟨g, 0, none⟩) l.length cap ∧ base ≤ g ∧ BS W g l := by
  obtain ⟨_, h | ⟨g, cap, cur, rfl, hb, hh, hn, _, hs, ht⟩⟩ := h
  · omega
  · refine ⟨g, cap, rfl, hb, fun j hj => ?_⟩
    have h1 : (cellsB l)[j]? = some (.int .u8 (l[j].toNat : Int)) := by simp [cellsB, hj]
    rw [← ht, List.getElem?_take_of_lt (by omega)] at h1
    simp [World.cell?, hh]
    simpa using h1

set_option maxRecDepth 100000 in
set_option maxHeartbeats 4000000 in
theorem rbytes_ok {s : Int} (v : validB s = true) (g : Bool) (x : Int) (hx : I64 x) (w : World) : Calls Try.prog 68 #[tyV s g, .int .i64 x] w fun e w' => ∃ b cap, e = .returned (.tuple #[.slice (some ⟨b, 0, none⟩) s.toNat cap, .int .i64 0]) ∧ w.heap.size ≤ b ∧ BS w' b (btL x s.toNat) ∧ Below w.heap.size w w' := by
  have h8 : 1 ≤ s ∧ s ≤ 8 := by rcases (valid_iff s).1 v with rfl | rfl | rfl | rfl <;> omega
  obtain ⟨h1, h8⟩ := h8
  obtain ⟨i0, hi, hz0, hz1, hz2⟩ := info_parts info8
  have HK := rcheck_ok v g
  go_enter Try.func68, Try.ntmps68
  go_upto_region 5 with (go_at_call 45; (refine (HK _).mono ?_); rintro e w1 ⟨rfl, hb⟩; obtain ⟨os, n, rfl⟩ := Below.moreE hb; clear hb)
  go_cut [8] (fun s8 wx => s8 = .int .i64 0 ∧ wx.cell? ⟨w.heap.size, 0, none⟩ = some (.int .i64 s) ∧ wx.cell? ⟨w.heap.size, 1, none⟩ = some (.bool g) ∧ w.heap.size + 1 ≤ wx.heap.size ∧ Gr w.heap.size w wx)
  case first =>
    go_wp2_with fail
    go_meet
    exact ⟨rfl, by go_simp, by go_simp, by (first | omega | (simp; done) | (simp; omega)), by repeat (first | (with_reducible exact Gr.refl _) | with_reducible refine Gr.alloc ?_ _ | with_reducible refine Gr.more ?_ _ _ | with_reducible refine Gr.setCell ?_ (by dsimp only; omega) _ | with_reducible refine Gr.drew ?_)⟩
  case rest =>
  obtain ⟨rfl, c0, c1, hz, hG⟩ := hcut
  go_wp2_with fail
  go_loopw [1, 7, 8] (fun y sl i wr => ∃ K : Nat, (K : Int) ≤ s ∧ y = .int .i64 (x / 256 ^ K) ∧ i = .int .i64 (K : Int) ∧ wr.ownsRow (w.heap.size + 1) 5 1 sl K (cellsB (btL x K)) ∧ wr.cell? ⟨w.heap.size, 0, none⟩ = some (.int .i64 s) ∧ wr.cell? ⟨w.heap.size, 1, none⟩ = some (.bool g) ∧ w.heap.size + 1 ≤ wr.heap.size ∧ Gr w.heap.size w wr) (fun _ _ i _ => (s - intOf i).toNat)
  case atStart => exact ⟨0, by omega, by simp, rfl, World.ownsRow_nil _ _ _ _, c0, c1, hz, hG⟩
  case round =>
    clear c0 c1 hz hG
    obtain ⟨K, hK, rfl, rfl, hown, c0, c1, hz, hG⟩ := hrel
    by_cases hk : (K : Int) < s
    · have hw1 : wrap64 ((K : Int) + 1) = (K : Int) + 1 := by unfold wrap64; omega
      have hB := Lib.hid (byte_and x K (by omega))
      have hN := Lib.hid (next_y x K hx)
      generalize hy : x / 256 ^ K = y at hB hN
      go_wp2_with (at_builtin; refine wpList_append_own_at _ rfl _ _ 23 rfl (w.heap.size + 1) 5 i0 (.int .u8 0) 1 1 Try.underlying23 hi hz0 hz1 hz2 rfl (by decide) _ _ _ rfl (hown.alloc _) ⟨wr.heap.size, 0, none⟩ 1 1 [.int .u8 _] rfl rfl (cell_one_new _ _ _) (by intro u hu; simp at hu; subst hu; rfl) (by unfold maxLen; omega) (by omega) (by simp; omega) ?_; intro v' w2 hown2 hg _ hat)
      have hbel : Below (w.heap.size + 1) wr w2 := ((Below.refl _ _).alloc (by omega) _).grown hg (by simp; omega) (fun k hk' => (hown.lt k hk').1)
      have hN' := hN.out
      have hB' := hB.out
      rw [show IntKind.u8.wrap (bits .and .i64 y 255) = bits .and .i64 y 255 % 256 from by simp [IntKind.wrap, IntKind.bits, IntKind.signed]] at hB'
      rw [hB'] at hown2
      have ec : cellsB (btL x K) ++ [.int .u8 ((btV x K).toNat : Int)] = cellsB (btL x (K + 1)) := by rw [btL_succ]; simp [cellsB]
      rw [ec] at hown2
      refine ⟨⟨K + 1, by omega, by rw [hN'], by simp, hown2, (hbel.cell (p := ⟨w.heap.size, 0, none⟩) (by simp)).trans c0, (hbel.cell (p := ⟨w.heap.size, 1, none⟩) (by simp)).trans c1, Nat.le_trans hz hbel.size, ⟨hG.below.trans (hbel.mono (by omega)), Nat.le_trans hG.size hbel.size⟩⟩, by simp [intOf]; omega⟩
    · have hKs : (K : Int) = s := by omega
      obtain rfl : K = s.toNat := by omega
      have hown' : wr.ownsRow (w.heap.size + 1) 5 1 u7 (btL x s.toNat).length (cellsB (btL x s.toNat)) := by rw [btL_length]; exact hown
      obtain ⟨b, cap, rfl, hb, hbs⟩ := bs_of_own hown' (by rw [btL_length]; omega)
      rw [btL_length]
      clear hKs
      go_wp2_with fail
      refine bodyPost_ret (v := .tuple #[.slice (some ⟨b, 0, none⟩) s.toNat cap, .int .i64 0]) (by simp [results, Try.results68, go_sem]) rfl (by first | exact ⟨b, cap, rfl, by omega, hbs, hG.below⟩ | exact ⟨b, ⟨cap, rfl⟩, by omega, hbs, hG.below⟩)
end Go.Proofs.Ytnapbpfofpaakaa
