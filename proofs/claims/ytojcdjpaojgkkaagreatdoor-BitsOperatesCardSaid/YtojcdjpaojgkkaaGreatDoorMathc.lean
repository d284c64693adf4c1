/-
  Plain mathematics of layer 1, continued: bounds on what the operations are given.
-/
import Derived.Test.YtojcdjpaojgkkaaGreatDoorMathb
import Derived.Lib.Hide
namespace Go.Proofs.YtojcdjpaojgkkaaGreatDoor
open Go.RowKit

/-- A number of 64 bits with a sign. -/
def I64 (x : Int) : Prop := -9223372036854775808 ≤ x ∧ x ≤ 9223372036854775807
theorem u64_eq (x : Int) : u64 x = x % 18446744073709551616 := by
  simp [u64, IntKind.wrap, IntKind.signed, IntKind.bits]
theorem u64_ne {x : Int} (h : I64 x) (h0 : x ≠ 0) : u64 x ≠ 0 := by
  obtain ⟨h1, h2⟩ := h
  rw [u64_eq]; omega

theorem u64_nat (x : Int) : ∃ m : Nat, u64 x = m ∧ m ≤ 18446744073709551615 := by
  rw [u64_eq]
  exact ⟨(x % 18446744073709551616).toNat, by omega, by omega⟩

theorem i64_and31 (n : Int) : bits .and .i64 n 31 = n % 32 := by
  have hm : (BitVec.ofInt 64 31).toNat = 2 ^ 5 - 1 := by decide
  have key : (BitVec.ofInt 64 n &&& BitVec.ofInt 64 31).toNat = (n % ((2 ^ 64 : Nat) : Int)).toNat % 2 ^ 5 := by
    rw [BitVec.toNat_and, BitVec.toNat_ofInt, hm, Nat.and_two_pow_sub_one_eq_mod]
  show IntKind.i64.wrap ((BitVec.ofInt 64 n &&& BitVec.ofInt 64 31).toNat : Nat) = n % 32
  rw [key, IntKind.wrap_i64]
  omega
theorem i64_and63 (n : Int) : bits .and .i64 n 63 = n % 64 := by
  have hm : (BitVec.ofInt 64 63).toNat = 2 ^ 6 - 1 := by decide
  have key : (BitVec.ofInt 64 n &&& BitVec.ofInt 64 63).toNat = (n % ((2 ^ 64 : Nat) : Int)).toNat % 2 ^ 6 := by
    rw [BitVec.toNat_and, BitVec.toNat_ofInt, hm, Nat.and_two_pow_sub_one_eq_mod]
  show IntKind.i64.wrap ((BitVec.ofInt 64 n &&& BitVec.ofInt 64 63).toNat : Nat) = n % 64
  rw [key, IntKind.wrap_i64]
  omega
theorem cntI_eq (s n : Int) (h : s = 4 ∨ s = 8) : cntI s n = n % (8 * s) := by
  rcases h with rfl | rfl
  · exact i64_and31 n
  · exact i64_and63 n
theorem cntI_bd (s n : Int) (h : s = 4 ∨ s = 8) : 0 ≤ cntI s n ∧ cntI s n ≤ 63 := by
  rw [cntI_eq s n h]
  rcases h with rfl | rfl <;> omega
end Go.Proofs.YtojcdjpaojgkkaaGreatDoor
