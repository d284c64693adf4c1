/-
  The reference of layer 1: Order, Compare, FromBytes.
-/
import Derived.Test.YtojcdjpaojgkkaaGreatDoorUb
import Derived.Test.YtojcdjpaojgkkaaGreatDoorBk3
import Derived.Test.YtojcdjpaojgkkaaGreatDoorLo
namespace Go.Proofs.YtojcdjpaojgkkaaGreatDoor
open Go.RowKit

theorem u64_lt {a b : Int} (a1 : -9223372036854775808 ≤ a) (a2 : a ≤ 9223372036854775807) (b1 : -9223372036854775808 ≤ b) (b2 : b ≤ 9223372036854775807) : (u64 a < u64 b) ↔ ((0 ≤ a ∧ b < 0) ∨ ((a < 0 ↔ b < 0) ∧ a < b)) := by
  rw [u64_eq, u64_eq]; omega
theorem ord_lt {a b : Int} (h : u64 a < u64 b) : ordI false a b = -1 := by simp [ordI, cmpI, h]
theorem ord_gt {a b : Int} (h : u64 b < u64 a) : ordI false a b = 1 := by
  have : ¬ u64 a < u64 b := by omega
  simp [ordI, cmpI, h, this]
theorem ord_eq {a b : Int} (h : a = b) : ordI false a b = 0 := by subst h; simp [ordI, cmpI]
set_option maxHeartbeats 4000000 in
theorem rorder_any (s : Int) (g : Bool) (a b : Int) (ha : I64 a) (hb : I64 b) (w : World) : Calls Tryz.prog 32 #[tyV s g, .int .i64 a, .int .i64 b] w fun e w' => e = .returned (.int .i64 (ordI g a b)) ∧ Below w.heap.size w w' := by
  obtain ⟨a1, a2⟩ := ha
  obtain ⟨b1, b2⟩ := hb
  cases g
  · by_cases sa : a < 0
    · by_cases sb : b < 0
      · by_cases h1 : a < b
        · have e := ord_lt ((u64_lt a1 a2 b1 b2).2 (by omega))
          clear a1 a2 b1 b2
          rw [e]
          clear e
          go_enter Tryz.func32, Tryz.ntmps32
          go_wp2
          go_ret
          exact ⟨ret_int (by first | rfl | simp), (Below.refl _ _).alloc (Nat.le_refl _) _⟩
        · by_cases h2 : b < a
          · have e := ord_gt ((u64_lt b1 b2 a1 a2).2 (by omega))
            clear a1 a2 b1 b2
            rw [e]
            clear e
            go_enter Tryz.func32, Tryz.ntmps32
            go_wp2
            go_ret
            exact ⟨ret_int (by first | rfl | simp), (Below.refl _ _).alloc (Nat.le_refl _) _⟩
          · have e := ord_eq (a := a) (b := b) (by omega)
            clear a1 a2 b1 b2
            rw [e]
            clear e
            go_enter Tryz.func32, Tryz.ntmps32
            go_wp2
            go_ret
            exact ⟨ret_int (by first | rfl | simp), (Below.refl _ _).alloc (Nat.le_refl _) _⟩
      · have h1 : a < b := by omega
        have h2 : ¬ b < a := by omega
        have e := ord_gt ((u64_lt b1 b2 a1 a2).2 (by omega))
        clear a1 a2 b1 b2
        rw [e]
        clear e
        go_enter Tryz.func32, Tryz.ntmps32
        go_wp2
        go_ret
        exact ⟨ret_int (by first | rfl | simp), (Below.refl _ _).alloc (Nat.le_refl _) _⟩
    · by_cases sb : b < 0
      · have h1 : b < a := by omega
        have h2 : ¬ a < b := by omega
        have e := ord_lt ((u64_lt a1 a2 b1 b2).2 (by omega))
        clear a1 a2 b1 b2
        rw [e]
        clear e
        go_enter Tryz.func32, Tryz.ntmps32
        go_wp2
        go_ret
        exact ⟨ret_int (by first | rfl | simp), (Below.refl _ _).alloc (Nat.le_refl _) _⟩
      · by_cases h1 : a < b
        · have e := ord_lt ((u64_lt a1 a2 b1 b2).2 (by omega))
          clear a1 a2 b1 b2
          rw [e]
          clear e
          go_enter Tryz.func32, Tryz.ntmps32
          go_wp2
          go_ret
          exact ⟨ret_int (by first | rfl | simp), (Below.refl _ _).alloc (Nat.le_refl _) _⟩
        · by_cases h2 : b < a
          · have e := ord_gt ((u64_lt b1 b2 a1 a2).2 (by omega))
            clear a1 a2 b1 b2
            rw [e]
            clear e
            go_enter Tryz.func32, Tryz.ntmps32
            go_wp2
            go_ret
            exact ⟨ret_int (by first | rfl | simp), (Below.refl _ _).alloc (Nat.le_refl _) _⟩
          · have e := ord_eq (a := a) (b := b) (by omega)
            clear a1 a2 b1 b2
            rw [e]
            clear e
            go_enter Tryz.func32, Tryz.ntmps32
            go_wp2
            go_ret
            exact ⟨ret_int (by first | rfl | simp), (Below.refl _ _).alloc (Nat.le_refl _) _⟩
  · by_cases h1 : a < b
    · have e : ordI true a b = -1 := by simp [ordI, cmpI, h1]
      rw [e]
      go_enter Tryz.func32, Tryz.ntmps32
      go_wp2
      go_ret
      exact ⟨ret_int (by first | rfl | simp), (Below.refl _ _).alloc (Nat.le_refl _) _⟩
    · by_cases h2 : b < a
      · have e : ordI true a b = 1 := by simp [ordI, cmpI, h1, h2]
        rw [e]
        go_enter Tryz.func32, Tryz.ntmps32
        go_wp2
        go_ret
        exact ⟨ret_int (by first | rfl | simp), (Below.refl _ _).alloc (Nat.le_refl _) _⟩
      · have e : ordI true a b = 0 := by simp [ordI, cmpI, h1, h2]
        rw [e]
        go_enter Tryz.func32, Tryz.ntmps32
        go_wp2
        go_ret
        exact ⟨ret_int (by first | rfl | simp), (Below.refl _ _).alloc (Nat.le_refl _) _⟩

theorem fbN_drop (l : List UInt8) (j : Nat) (h : j < l.length) : fbN (l.drop j) = l[j].toNat + 256 * fbN (l.drop (j + 1)) := by
  rw [List.drop_eq_getElem_cons h]
  rfl
theorem horner (N c : Nat) : wrap64 (wrap64 (256 * wrap64 (N : Int)) + (c : Int)) = wrap64 ((c + 256 * N : Nat) : Int) := by
  unfold wrap64; omega
end Go.Proofs.YtojcdjpaojgkkaaGreatDoor
