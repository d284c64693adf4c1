import Derived.Test.YtbdkacfddbiclaaDoorWa
import Derived.BigQuiet
import Derived.Deep.QuietTactic
import Derived.Deep.DeepCutAuto
namespace Go.Proofs.YtbdkacfddbiclaaDoor
open Go.RowKit

set_option maxHeartbeats 400000 in
theorem width_any (s : Int) (g : Bool) (w : World) (hs : 0 ≤ s ∧ s ≤ 8) : Calls Tryd.prog 63 #[tyV s g] w fun e w' => e = .returned (.int .i64 (8 * s)) ∧ Below w.heap.size w w' := by
  go_enter Tryd.func63, Tryd.ntmps63
  go_wp2
  go_ret
  exact ⟨rfl, (Below.refl _ _).alloc (Nat.le_refl _) _⟩

theorem truth_any (b : Bool) (w : World) : Calls Tryd.prog 62 #[.bool b] w fun e w' => e = .returned (.int .i64 (if b = true then 1 else 0)) ∧ w = w' := by
  go_enter Tryd.func62, Tryd.ntmps62
  cases b <;> go_wp2 <;> go_ret <;> exact ⟨rfl, rfl⟩

set_option maxHeartbeats 400000 in
theorem cmp64_any (x y : Int) (w : World) : Calls Tryd.prog 72 #[.int .i64 x, .int .i64 y] w fun e w' => e = .returned (.int .i64 (cmpI x y)) ∧ w = w' := by
  go_enter Tryd.func72, Tryd.ntmps72
  go_wp2
  all_goals
    go_ret
    exact ⟨ret_int (by unfold cmpI; (repeat' split) <;> omega), rfl⟩

set_option maxHeartbeats 400000 in
theorem cmpu64_any (x y : Int) (w : World) : Calls Tryd.prog 73 #[.int .u64 x, .int .u64 y] w fun e w' => e = .returned (.int .i64 (cmpI x y)) ∧ w = w' := by
  go_enter Tryd.func73, Tryd.ntmps73
  go_wp2
  all_goals
    go_ret
    exact ⟨ret_int (by unfold cmpI; (repeat' split) <;> omega), rfl⟩

set_option maxHeartbeats 400000 in
theorem order_any (s : Int) (g : Bool) (x y : Int) (w : World) : Calls Tryd.prog 49 #[tyV s g, .int .i64 x, .int .i64 y] w fun e w' => e = .returned (.int .i64 (ordI g x y)) ∧ Below w.heap.size w w' := by
  cases g
  all_goals
    go_enter Tryd.func49, Tryd.ntmps49
    go_wp2_with first | (go_at_call 72; refine (cmp64_any _ _ _).mono ?_; rintro e w' ⟨rfl, rfl⟩) | (go_at_call 73; refine (cmpu64_any _ _ _).mono ?_; rintro e w' ⟨rfl, rfl⟩)
    go_ret
    exact ⟨ret_int (by simp [ordI, u64]), (Below.refl _ _).alloc (Nat.le_refl _) _⟩

set_option maxHeartbeats 400000 in
theorem quotient_any (s : Int) (g : Bool) (x y : Int) (w : World) (hy : y ≠ 0) (hu : u64 y ≠ 0) : Calls Tryd.prog 80 #[tyV s g, .int .i64 x, .int .i64 y] w fun e w' => e = .returned (.int .i64 (quoI g x y)) ∧ Below w.heap.size w w' := by
  unfold u64 at hu
  cases g
  all_goals
    go_enter Tryd.func80, Tryd.ntmps80
    go_wp2
    go_ret
    exact ⟨ret_int (by simp [quoI, u64]), (Below.refl _ _).alloc (Nat.le_refl _) _⟩
set_option maxHeartbeats 400000 in
theorem remainder_any (s : Int) (g : Bool) (x y : Int) (w : World) (hy : y ≠ 0) (hu : u64 y ≠ 0) : Calls Tryd.prog 81 #[tyV s g, .int .i64 x, .int .i64 y] w fun e w' => e = .returned (.int .i64 (remI g x y)) ∧ Below w.heap.size w w' := by
  unfold u64 at hu
  cases g
  all_goals
    go_enter Tryd.func81, Tryd.ntmps81
    go_wp2
    go_ret
    exact ⟨ret_int (by simp [remI, u64]), (Below.refl _ _).alloc (Nat.le_refl _) _⟩

theorem ar1_any (s : Int) (g : Bool) (x y : Int) (w : World) : Calls Tryd.prog 77 #[tyV s g, .int .i64 x, .int .i64 y] w fun e w' => e = .returned (.int .i64 (wrap64 (x + y))) ∧ Below w.heap.size w w' := by
  go_enter Tryd.func77, Tryd.ntmps77
  go_wp2
  go_ret
  exact ⟨rfl, (Below.refl _ _).alloc (Nat.le_refl _) _⟩
theorem ar2_any (s : Int) (g : Bool) (x y : Int) (w : World) : Calls Tryd.prog 78 #[tyV s g, .int .i64 x, .int .i64 y] w fun e w' => e = .returned (.int .i64 (wrap64 (x - y))) ∧ Below w.heap.size w w' := by
  go_enter Tryd.func78, Tryd.ntmps78
  go_wp2
  go_ret
  exact ⟨rfl, (Below.refl _ _).alloc (Nat.le_refl _) _⟩
theorem ar3_any (s : Int) (g : Bool) (x y : Int) (w : World) : Calls Tryd.prog 79 #[tyV s g, .int .i64 x, .int .i64 y] w fun e w' => e = .returned (.int .i64 (wrap64 (x * y))) ∧ Below w.heap.size w w' := by
  go_enter Tryd.func79, Tryd.ntmps79
  go_wp2
  go_ret
  exact ⟨rfl, (Below.refl _ _).alloc (Nat.le_refl _) _⟩
theorem ar6_any (s : Int) (g : Bool) (x y : Int) (w : World) : Calls Tryd.prog 82 #[tyV s g, .int .i64 x, .int .i64 y] w fun e w' => e = .returned (.int .i64 (bits .and .i64 x y)) ∧ Below w.heap.size w w' := by
  go_enter Tryd.func82, Tryd.ntmps82
  go_wp2
  go_ret
  exact ⟨rfl, (Below.refl _ _).alloc (Nat.le_refl _) _⟩
theorem ar7_any (s : Int) (g : Bool) (x y : Int) (w : World) : Calls Tryd.prog 83 #[tyV s g, .int .i64 x, .int .i64 y] w fun e w' => e = .returned (.int .i64 (bits .or .i64 x y)) ∧ Below w.heap.size w w' := by
  go_enter Tryd.func83, Tryd.ntmps83
  go_wp2
  go_ret
  exact ⟨rfl, (Below.refl _ _).alloc (Nat.le_refl _) _⟩
theorem ar8_any (s : Int) (g : Bool) (x y : Int) (w : World) : Calls Tryd.prog 84 #[tyV s g, .int .i64 x, .int .i64 y] w fun e w' => e = .returned (.int .i64 (bits .xor .i64 x y)) ∧ Below w.heap.size w w' := by
  go_enter Tryd.func84, Tryd.ntmps84
  go_wp2
  go_ret
  exact ⟨rfl, (Below.refl _ _).alloc (Nat.le_refl _) _⟩
end Go.Proofs.YtbdkacfddbiclaaDoor
