import Derived.Test.YtojcdjpaojgkkaaGreatDoorWa
import Derived.BigQuiet
import Derived.Deep.QuietTactic
import Derived.Deep.DeepCutAuto
namespace Go.Proofs.YtojcdjpaojgkkaaGreatDoor
open Go.RowKit

set_option maxHeartbeats 400000 in
theorem width_any (s : Int) (g : Bool) (w : World) (hs : 0 ≤ s ∧ s ≤ 8) : Calls Tryz.prog 60 #[tyV s g] w fun e w' => e = .returned (.int .i64 (8 * s)) ∧ Below w.heap.size w w' := by
  go_enter Tryz.func60, Tryz.ntmps60
  go_wp2
  go_ret
  exact ⟨rfl, (Below.refl _ _).alloc (Nat.le_refl _) _⟩

theorem truth_any (b : Bool) (w : World) : Calls Tryz.prog 27 #[.bool b] w fun e w' => e = .returned (.int .i64 (if b = true then 1 else 0)) ∧ w = w' := by
  go_enter Tryz.func27, Tryz.ntmps27
  cases b <;> go_wp2 <;> go_ret <;> exact ⟨rfl, rfl⟩

set_option maxHeartbeats 400000 in
theorem cmp64_any (x y : Int) (w : World) : Calls Tryz.prog 67 #[.int .i64 x, .int .i64 y] w fun e w' => e = .returned (.int .i64 (cmpI x y)) ∧ w = w' := by
  go_enter Tryz.func67, Tryz.ntmps67
  go_wp2
  all_goals
    go_ret
    exact ⟨ret_int (by unfold cmpI; (repeat' split) <;> omega), rfl⟩

set_option maxHeartbeats 400000 in
theorem cmpu64_any (x y : Int) (w : World) : Calls Tryz.prog 68 #[.int .u64 x, .int .u64 y] w fun e w' => e = .returned (.int .i64 (cmpI x y)) ∧ w = w' := by
  go_enter Tryz.func68, Tryz.ntmps68
  go_wp2
  all_goals
    go_ret
    exact ⟨ret_int (by unfold cmpI; (repeat' split) <;> omega), rfl⟩

set_option maxHeartbeats 400000 in
theorem order_any (s : Int) (g : Bool) (x y : Int) (w : World) : Calls Tryz.prog 28 #[tyV s g, .int .i64 x, .int .i64 y] w fun e w' => e = .returned (.int .i64 (ordI g x y)) ∧ Below w.heap.size w w' := by
  cases g
  all_goals
    go_enter Tryz.func28, Tryz.ntmps28
    go_wp2_with first | (go_at_call 67; refine (cmp64_any _ _ _).mono ?_; rintro e w' ⟨rfl, rfl⟩) | (go_at_call 68; refine (cmpu64_any _ _ _).mono ?_; rintro e w' ⟨rfl, rfl⟩)
    go_ret
    exact ⟨ret_int (by simp [ordI, u64]), (Below.refl _ _).alloc (Nat.le_refl _) _⟩

set_option maxHeartbeats 400000 in
theorem quotient_any (s : Int) (g : Bool) (x y : Int) (w : World) (hy : y ≠ 0) (hu : u64 y ≠ 0) : Calls Tryz.prog 52 #[tyV s g, .int .i64 x, .int .i64 y] w fun e w' => e = .returned (.int .i64 (quoI g x y)) ∧ Below w.heap.size w w' := by
  unfold u64 at hu
  cases g
  all_goals
    go_enter Tryz.func52, Tryz.ntmps52
    go_wp2
    go_ret
    exact ⟨ret_int (by simp [quoI, u64]), (Below.refl _ _).alloc (Nat.le_refl _) _⟩
set_option maxHeartbeats 400000 in
theorem remainder_any (s : Int) (g : Bool) (x y : Int) (w : World) (hy : y ≠ 0) (hu : u64 y ≠ 0) : Calls Tryz.prog 53 #[tyV s g, .int .i64 x, .int .i64 y] w fun e w' => e = .returned (.int .i64 (remI g x y)) ∧ Below w.heap.size w w' := by
  unfold u64 at hu
  cases g
  all_goals
    go_enter Tryz.func53, Tryz.ntmps53
    go_wp2
    go_ret
    exact ⟨ret_int (by simp [remI, u64]), (Below.refl _ _).alloc (Nat.le_refl _) _⟩

theorem ar1_any (s : Int) (g : Bool) (x y : Int) (w : World) : Calls Tryz.prog 49 #[tyV s g, .int .i64 x, .int .i64 y] w fun e w' => e = .returned (.int .i64 (wrap64 (x + y))) ∧ Below w.heap.size w w' := by
  go_enter Tryz.func49, Tryz.ntmps49
  go_wp2
  go_ret
  exact ⟨rfl, (Below.refl _ _).alloc (Nat.le_refl _) _⟩
theorem ar2_any (s : Int) (g : Bool) (x y : Int) (w : World) : Calls Tryz.prog 50 #[tyV s g, .int .i64 x, .int .i64 y] w fun e w' => e = .returned (.int .i64 (wrap64 (x - y))) ∧ Below w.heap.size w w' := by
  go_enter Tryz.func50, Tryz.ntmps50
  go_wp2
  go_ret
  exact ⟨rfl, (Below.refl _ _).alloc (Nat.le_refl _) _⟩
theorem ar3_any (s : Int) (g : Bool) (x y : Int) (w : World) : Calls Tryz.prog 51 #[tyV s g, .int .i64 x, .int .i64 y] w fun e w' => e = .returned (.int .i64 (wrap64 (x * y))) ∧ Below w.heap.size w w' := by
  go_enter Tryz.func51, Tryz.ntmps51
  go_wp2
  go_ret
  exact ⟨rfl, (Below.refl _ _).alloc (Nat.le_refl _) _⟩
theorem ar6_any (s : Int) (g : Bool) (x y : Int) (w : World) : Calls Tryz.prog 54 #[tyV s g, .int .i64 x, .int .i64 y] w fun e w' => e = .returned (.int .i64 (bits .and .i64 x y)) ∧ Below w.heap.size w w' := by
  go_enter Tryz.func54, Tryz.ntmps54
  go_wp2
  go_ret
  exact ⟨rfl, (Below.refl _ _).alloc (Nat.le_refl _) _⟩
theorem ar7_any (s : Int) (g : Bool) (x y : Int) (w : World) : Calls Tryz.prog 55 #[tyV s g, .int .i64 x, .int .i64 y] w fun e w' => e = .returned (.int .i64 (bits .or .i64 x y)) ∧ Below w.heap.size w w' := by
  go_enter Tryz.func55, Tryz.ntmps55
  go_wp2
  go_ret
  exact ⟨rfl, (Below.refl _ _).alloc (Nat.le_refl _) _⟩
theorem ar8_any (s : Int) (g : Bool) (x y : Int) (w : World) : Calls Tryz.prog 56 #[tyV s g, .int .i64 x, .int .i64 y] w fun e w' => e = .returned (.int .i64 (bits .xor .i64 x y)) ∧ Below w.heap.size w w' := by
  go_enter Tryz.func56, Tryz.ntmps56
  go_wp2
  go_ret
  exact ⟨rfl, (Below.refl _ _).alloc (Nat.le_refl _) _⟩
end Go.Proofs.YtojcdjpaojgkkaaGreatDoor
