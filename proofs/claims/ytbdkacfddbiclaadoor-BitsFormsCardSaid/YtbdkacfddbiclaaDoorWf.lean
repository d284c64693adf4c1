import Derived.Test.YtbdkacfddbiclaaDoorWc
import Derived.Test.YtbdkacfddbiclaaDoorMathb
namespace Go.Proofs.YtbdkacfddbiclaaDoor
open Go.RowKit

set_option maxHeartbeats 400000 in
theorem shl_any (s : Int) (g : Bool) (x n : Int) (w : World) (hn : 0 ≤ n ∧ n ≤ 63) : Calls Tryd.prog 85 #[tyV s g, .int .i64 x, .int .i64 n] w fun e w' => e = .returned (.int .i64 (shlI x n)) ∧ Below w.heap.size w w' := by
  obtain ⟨n0, n1⟩ := hn
  go_enter Tryd.func85, Tryd.ntmps85
  go_wp2
  go_ret
  exact ⟨rfl, (Gr.below (by repeat (first | (with_reducible exact Gr.refl _) | with_reducible refine Gr.alloc ?_ _ | with_reducible refine Gr.more ?_ _ _ | with_reducible refine Gr.setCell ?_ (by dsimp only; omega) _ | with_reducible refine Gr.drew ?_)))⟩

set_option maxHeartbeats 400000 in
theorem shr_any (s : Int) (g : Bool) (x n : Int) (w : World) (hn : 0 ≤ n ∧ n ≤ 63) : Calls Tryd.prog 86 #[tyV s g, .int .i64 x, .int .i64 n] w fun e w' => e = .returned (.int .i64 (shrI g x n)) ∧ Below w.heap.size w w' := by
  obtain ⟨n0, n1⟩ := hn
  cases g
  all_goals
    go_enter Tryd.func86, Tryd.ntmps86
    go_wp2
    go_ret
    exact ⟨ret_int (by simp [shrI, u64]), (Gr.below (by repeat (first | (with_reducible exact Gr.refl _) | with_reducible refine Gr.alloc ?_ _ | with_reducible refine Gr.more ?_ _ _ | with_reducible refine Gr.setCell ?_ (by dsimp only; omega) _ | with_reducible refine Gr.drew ?_)))⟩

set_option maxHeartbeats 400000 in
theorem count_any (s : Int) (g : Bool) (n : Int) (w : World) (hs : 0 ≤ s ∧ s ≤ 8) : Calls Tryd.prog 60 #[tyV s g, .int .i64 n] w fun e w' => e = .returned (.int .i64 (cntI s n)) ∧ Below w.heap.size w w' := by
  go_enter Tryd.func60, Tryd.ntmps60
  go_wp2_with (go_at_call 63; (refine (width_any _ _ _ ?hpp).mono ?_; case hpp => omega); rintro e w1 ⟨rfl, hb⟩; obtain ⟨os, n, rfl⟩ := Below.moreE hb; clear hb)
  go_ret
  exact ⟨rfl, (Gr.below (by repeat (first | (with_reducible exact Gr.refl _) | with_reducible refine Gr.alloc ?_ _ | with_reducible refine Gr.more ?_ _ _ | with_reducible refine Gr.setCell ?_ (by dsimp only; omega) _ | with_reducible refine Gr.drew ?_)))⟩

theorem rel1_any (n : Int) (w : World) : Calls Tryd.prog 87 #[.int .i64 n] w fun e w' => e = .returned (.bool (decide (n < 0))) ∧ w = w' := by
  go_enter Tryd.func87, Tryd.ntmps87
  go_wp2
  go_ret
  exact ⟨ret_bool (by first | rfl | (rw [Bool.eq_iff_iff]; simp)), rfl⟩

theorem rel2_any (n : Int) (w : World) : Calls Tryd.prog 88 #[.int .i64 n] w fun e w' => e = .returned (.bool (decide (n ≤ 0))) ∧ w = w' := by
  go_enter Tryd.func88, Tryd.ntmps88
  go_wp2
  go_ret
  exact ⟨ret_bool (by first | rfl | (rw [Bool.eq_iff_iff]; simp)), rfl⟩

theorem rel3_any (n : Int) (w : World) : Calls Tryd.prog 89 #[.int .i64 n] w fun e w' => e = .returned (.bool (decide (0 < n))) ∧ w = w' := by
  go_enter Tryd.func89, Tryd.ntmps89
  go_wp2
  go_ret
  exact ⟨ret_bool (by first | rfl | (rw [Bool.eq_iff_iff]; simp)), rfl⟩

theorem rel4_any (n : Int) (w : World) : Calls Tryd.prog 90 #[.int .i64 n] w fun e w' => e = .returned (.bool (decide (0 ≤ n))) ∧ w = w' := by
  go_enter Tryd.func90, Tryd.ntmps90
  go_wp2
  go_ret
  exact ⟨ret_bool (by first | rfl | (rw [Bool.eq_iff_iff]; simp)), rfl⟩

theorem rel5_any (n : Int) (w : World) : Calls Tryd.prog 91 #[.int .i64 n] w fun e w' => e = .returned (.bool (n == 0)) ∧ w = w' := by
  go_enter Tryd.func91, Tryd.ntmps91
  go_wp2
  go_ret
  exact ⟨ret_bool (by first | rfl | (rw [Bool.eq_iff_iff]; simp)), rfl⟩

theorem rel6_any (n : Int) (w : World) : Calls Tryd.prog 92 #[.int .i64 n] w fun e w' => e = .returned (.bool (n != 0)) ∧ w = w' := by
  go_enter Tryd.func92, Tryd.ntmps92
  go_wp2
  go_ret
  exact ⟨ret_bool (by first | rfl | (rw [Bool.eq_iff_iff]; simp)), rfl⟩

theorem truth_sel (b : Bool) (w : World) : Calls Tryd.prog 62 #[.bool b] w fun e w' => e = .returned (.int .i64 (sel b 1 0)) ∧ w = w' :=
  (truth_any b w).mono fun _ _ h => h
end Go.Proofs.YtbdkacfddbiclaaDoor
