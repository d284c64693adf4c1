/-
  The reference of layer 1 (the other seat): Binary.
  The reference of layer 1 (the other seat): Binary's shifts and errors; both programs' answers side by side.
  The law BitsOperates: its regions, and the law.
-/
import Derived.Test.YtojcdjpaojgkkaaGreatDoorG1
import Derived.Test.YtojcdjpaojgkkaaGreatDoorUc
import Derived.Test.YtojcdjpaojgkkaaGreatDoorUe
import Derived.Test.YtojcdjpaojgkkaaGreatDoorSb
import Derived.Test.YtojcdjpaojgkkaaGreatDoorWk
import Derived.Test.YtojcdjpaojgkkaaGreatDoorRd
namespace Go.Proofs.YtojcdjpaojgkkaaGreatDoor
open Go.RowKit

set_option maxRecDepth 100000 in
set_option maxHeartbeats 4000000 in
theorem rbi_1 (s1 : Int) (g1 : Bool) (a : Int) (s2 : Int) (g2 : Bool) (b : Int) (w : World) (v1 : validB s1 = true) (v2 : validB s2 = true) (ha : I64 a) (hb : I64 b) (hq : PR8 w) : Calls Tryz.prog 8 #[.int .i64 1, tyV s1 g1, .int .i64 a, tyV s2 g2, .int .i64 b] w fun e w' => e = .returned (valV (cmS s1 g1 s2 g2) (cmG s1 g1 s2 g2) (wrapI (cmS s1 g1 s2 g2) (cmG s1 g1 s2 g2) (arI 1 (cmG s1 g1 s2 g2) (opX s1 g1 a s2 g2) (opY s1 g1 s2 g2 b))) 0) ∧ Below w.heap.size w w' := by
  have HK := rboth_ok v1 v2 g1 g2
  have HC := rcommon_ok v1 v2 g1 g2
  have HP := rpromoted_any s1 g1
  have HO := fun w => rorder_any (cmS s1 g1 s2 g2) (cmG s1 g1 s2 g2) (wrapI (cmS s1 g1 s2 g2) (cmG s1 g1 s2 g2) (wrapI s1 g1 a)) (wrapI (cmS s1 g1 s2 g2) (cmG s1 g1 s2 g2) (wrapI s2 g2 b)) (Rg_I64 (Rg_wrap _ _ _ (Rg_I64 (Rg_wrap s1 g1 a ha)))) (Rg_I64 (Rg_wrap _ _ _ (Rg_I64 (Rg_wrap s2 g2 b hb)))) w
  clear ha hb
  obtain ⟨q0, q1, q2, q3, q4, q5, q6, q7⟩ := hq
  have zq := szc q0
  go_enter Tryz.func8, Tryz.ntmps8
  go_wp2_with first | (go_at_call 29; (refine (HK _).mono ?_); rintro e w1 ⟨rfl, hb⟩; obtain ⟨os, n, rfl⟩ := Below.moreE hb; clear hb) | (go_at_call 19; (refine (rwrapped_any _ _ _ _).mono ?_); rintro e w1 ⟨rfl, hb⟩; obtain ⟨os, n, rfl⟩ := Below.moreE hb; clear hb) | (go_at_call 31; (refine (HC _ ?hpp).mono ?_; case hpp => exact ⟨by go_simp, by go_simp, by go_simp, by go_simp, by go_simp, by go_simp, by go_simp, by go_simp⟩); rintro e w1 ⟨rfl, hb⟩; obtain ⟨os, n, rfl⟩ := Below.moreE hb; clear hb) | (go_at_call 32; (refine (HO _).mono ?_); rintro e w1 ⟨rfl, hb⟩; obtain ⟨os, n, rfl⟩ := Below.moreE hb; clear hb) | (go_at_call 33; (refine (rar_1 _ _ _ _ _).mono ?_); rintro e w1 ⟨rfl, hb⟩; obtain ⟨os, n, rfl⟩ := Below.moreE hb; clear hb)
  refine bodyPost_ret (v := valV (cmS s1 g1 s2 g2) (cmG s1 g1 s2 g2) (wrapI (cmS s1 g1 s2 g2) (cmG s1 g1 s2 g2) (arI 1 (cmG s1 g1 s2 g2) (opX s1 g1 a s2 g2) (opY s1 g1 s2 g2 b))) 0) ?_ rfl ⟨rfl, (Gr.below (by repeat (first | (with_reducible exact Gr.refl _) | with_reducible refine Gr.alloc ?_ _ | with_reducible refine Gr.more ?_ _ _ | with_reducible refine Gr.setCell ?_ (by dsimp only; omega) _ | with_reducible refine Gr.drew ?_)))⟩
  simp [results, Tryz.results8, go_sem, opX, opY]

set_option maxRecDepth 100000 in
set_option maxHeartbeats 4000000 in
theorem rbi_2 (s1 : Int) (g1 : Bool) (a : Int) (s2 : Int) (g2 : Bool) (b : Int) (w : World) (v1 : validB s1 = true) (v2 : validB s2 = true) (ha : I64 a) (hb : I64 b) (hq : PR8 w) : Calls Tryz.prog 8 #[.int .i64 2, tyV s1 g1, .int .i64 a, tyV s2 g2, .int .i64 b] w fun e w' => e = .returned (valV (cmS s1 g1 s2 g2) (cmG s1 g1 s2 g2) (wrapI (cmS s1 g1 s2 g2) (cmG s1 g1 s2 g2) (arI 2 (cmG s1 g1 s2 g2) (opX s1 g1 a s2 g2) (opY s1 g1 s2 g2 b))) 0) ∧ Below w.heap.size w w' := by
  have HK := rboth_ok v1 v2 g1 g2
  have HC := rcommon_ok v1 v2 g1 g2
  have HP := rpromoted_any s1 g1
  have HO := fun w => rorder_any (cmS s1 g1 s2 g2) (cmG s1 g1 s2 g2) (wrapI (cmS s1 g1 s2 g2) (cmG s1 g1 s2 g2) (wrapI s1 g1 a)) (wrapI (cmS s1 g1 s2 g2) (cmG s1 g1 s2 g2) (wrapI s2 g2 b)) (Rg_I64 (Rg_wrap _ _ _ (Rg_I64 (Rg_wrap s1 g1 a ha)))) (Rg_I64 (Rg_wrap _ _ _ (Rg_I64 (Rg_wrap s2 g2 b hb)))) w
  clear ha hb
  obtain ⟨q0, q1, q2, q3, q4, q5, q6, q7⟩ := hq
  have zq := szc q0
  go_enter Tryz.func8, Tryz.ntmps8
  go_wp2_with first | (go_at_call 29; (refine (HK _).mono ?_); rintro e w1 ⟨rfl, hb⟩; obtain ⟨os, n, rfl⟩ := Below.moreE hb; clear hb) | (go_at_call 19; (refine (rwrapped_any _ _ _ _).mono ?_); rintro e w1 ⟨rfl, hb⟩; obtain ⟨os, n, rfl⟩ := Below.moreE hb; clear hb) | (go_at_call 31; (refine (HC _ ?hpp).mono ?_; case hpp => exact ⟨by go_simp, by go_simp, by go_simp, by go_simp, by go_simp, by go_simp, by go_simp, by go_simp⟩); rintro e w1 ⟨rfl, hb⟩; obtain ⟨os, n, rfl⟩ := Below.moreE hb; clear hb) | (go_at_call 32; (refine (HO _).mono ?_); rintro e w1 ⟨rfl, hb⟩; obtain ⟨os, n, rfl⟩ := Below.moreE hb; clear hb) | (go_at_call 33; (refine (rar_2 _ _ _ _ _).mono ?_); rintro e w1 ⟨rfl, hb⟩; obtain ⟨os, n, rfl⟩ := Below.moreE hb; clear hb)
  refine bodyPost_ret (v := valV (cmS s1 g1 s2 g2) (cmG s1 g1 s2 g2) (wrapI (cmS s1 g1 s2 g2) (cmG s1 g1 s2 g2) (arI 2 (cmG s1 g1 s2 g2) (opX s1 g1 a s2 g2) (opY s1 g1 s2 g2 b))) 0) ?_ rfl ⟨rfl, (Gr.below (by repeat (first | (with_reducible exact Gr.refl _) | with_reducible refine Gr.alloc ?_ _ | with_reducible refine Gr.more ?_ _ _ | with_reducible refine Gr.setCell ?_ (by dsimp only; omega) _ | with_reducible refine Gr.drew ?_)))⟩
  simp [results, Tryz.results8, go_sem, opX, opY]

set_option maxRecDepth 100000 in
set_option maxHeartbeats 4000000 in
theorem rbi_3 (s1 : Int) (g1 : Bool) (a : Int) (s2 : Int) (g2 : Bool) (b : Int) (w : World) (v1 : validB s1 = true) (v2 : validB s2 = true) (ha : I64 a) (hb : I64 b) (hq : PR8 w) : Calls Tryz.prog 8 #[.int .i64 3, tyV s1 g1, .int .i64 a, tyV s2 g2, .int .i64 b] w fun e w' => e = .returned (valV (cmS s1 g1 s2 g2) (cmG s1 g1 s2 g2) (wrapI (cmS s1 g1 s2 g2) (cmG s1 g1 s2 g2) (arI 3 (cmG s1 g1 s2 g2) (opX s1 g1 a s2 g2) (opY s1 g1 s2 g2 b))) 0) ∧ Below w.heap.size w w' := by
  have HK := rboth_ok v1 v2 g1 g2
  have HC := rcommon_ok v1 v2 g1 g2
  have HP := rpromoted_any s1 g1
  have HO := fun w => rorder_any (cmS s1 g1 s2 g2) (cmG s1 g1 s2 g2) (wrapI (cmS s1 g1 s2 g2) (cmG s1 g1 s2 g2) (wrapI s1 g1 a)) (wrapI (cmS s1 g1 s2 g2) (cmG s1 g1 s2 g2) (wrapI s2 g2 b)) (Rg_I64 (Rg_wrap _ _ _ (Rg_I64 (Rg_wrap s1 g1 a ha)))) (Rg_I64 (Rg_wrap _ _ _ (Rg_I64 (Rg_wrap s2 g2 b hb)))) w
  clear ha hb
  obtain ⟨q0, q1, q2, q3, q4, q5, q6, q7⟩ := hq
  have zq := szc q0
  go_enter Tryz.func8, Tryz.ntmps8
  go_wp2_with first | (go_at_call 29; (refine (HK _).mono ?_); rintro e w1 ⟨rfl, hb⟩; obtain ⟨os, n, rfl⟩ := Below.moreE hb; clear hb) | (go_at_call 19; (refine (rwrapped_any _ _ _ _).mono ?_); rintro e w1 ⟨rfl, hb⟩; obtain ⟨os, n, rfl⟩ := Below.moreE hb; clear hb) | (go_at_call 31; (refine (HC _ ?hpp).mono ?_; case hpp => exact ⟨by go_simp, by go_simp, by go_simp, by go_simp, by go_simp, by go_simp, by go_simp, by go_simp⟩); rintro e w1 ⟨rfl, hb⟩; obtain ⟨os, n, rfl⟩ := Below.moreE hb; clear hb) | (go_at_call 32; (refine (HO _).mono ?_); rintro e w1 ⟨rfl, hb⟩; obtain ⟨os, n, rfl⟩ := Below.moreE hb; clear hb) | (go_at_call 33; (refine (rar_3 _ _ _ _ _).mono ?_); rintro e w1 ⟨rfl, hb⟩; obtain ⟨os, n, rfl⟩ := Below.moreE hb; clear hb)
  refine bodyPost_ret (v := valV (cmS s1 g1 s2 g2) (cmG s1 g1 s2 g2) (wrapI (cmS s1 g1 s2 g2) (cmG s1 g1 s2 g2) (arI 3 (cmG s1 g1 s2 g2) (opX s1 g1 a s2 g2) (opY s1 g1 s2 g2 b))) 0) ?_ rfl ⟨rfl, (Gr.below (by repeat (first | (with_reducible exact Gr.refl _) | with_reducible refine Gr.alloc ?_ _ | with_reducible refine Gr.more ?_ _ _ | with_reducible refine Gr.setCell ?_ (by dsimp only; omega) _ | with_reducible refine Gr.drew ?_)))⟩
  simp [results, Tryz.results8, go_sem, opX, opY]

set_option maxRecDepth 100000 in
set_option maxHeartbeats 4000000 in
theorem rbi_4 (s1 : Int) (g1 : Bool) (a : Int) (s2 : Int) (g2 : Bool) (b : Int) (w : World) (v1 : validB s1 = true) (v2 : validB s2 = true) (ha : I64 a) (hb : I64 b) (hq : PR8 w) (h0 : opY s1 g1 s2 g2 b ≠ 0) : Calls Tryz.prog 8 #[.int .i64 4, tyV s1 g1, .int .i64 a, tyV s2 g2, .int .i64 b] w fun e w' => e = .returned (valV (cmS s1 g1 s2 g2) (cmG s1 g1 s2 g2) (wrapI (cmS s1 g1 s2 g2) (cmG s1 g1 s2 g2) (arI 4 (cmG s1 g1 s2 g2) (opX s1 g1 a s2 g2) (opY s1 g1 s2 g2 b))) 0) ∧ Below w.heap.size w w' := by
  have HK := rboth_ok v1 v2 g1 g2
  have HC := rcommon_ok v1 v2 g1 g2
  have HP := rpromoted_any s1 g1
  have HO := fun w => rorder_any (cmS s1 g1 s2 g2) (cmG s1 g1 s2 g2) (wrapI (cmS s1 g1 s2 g2) (cmG s1 g1 s2 g2) (wrapI s1 g1 a)) (wrapI (cmS s1 g1 s2 g2) (cmG s1 g1 s2 g2) (wrapI s2 g2 b)) (Rg_I64 (Rg_wrap _ _ _ (Rg_I64 (Rg_wrap s1 g1 a ha)))) (Rg_I64 (Rg_wrap _ _ _ (Rg_I64 (Rg_wrap s2 g2 b hb)))) w
  have HA := fun w => rar_4 (cmS s1 g1 s2 g2) (cmG s1 g1 s2 g2) (wrapI (cmS s1 g1 s2 g2) (cmG s1 g1 s2 g2) (wrapI s1 g1 a)) (wrapI (cmS s1 g1 s2 g2) (cmG s1 g1 s2 g2) (wrapI s2 g2 b)) h0 (u64_ne (Rg_I64 (Rg_wrap _ _ _ (Rg_I64 (Rg_wrap s2 g2 b hb)))) h0) w
  clear h0 ha hb
  obtain ⟨q0, q1, q2, q3, q4, q5, q6, q7⟩ := hq
  have zq := szc q0
  go_enter Tryz.func8, Tryz.ntmps8
  go_wp2_with first | (go_at_call 29; (refine (HK _).mono ?_); rintro e w1 ⟨rfl, hb⟩; obtain ⟨os, n, rfl⟩ := Below.moreE hb; clear hb) | (go_at_call 19; (refine (rwrapped_any _ _ _ _).mono ?_); rintro e w1 ⟨rfl, hb⟩; obtain ⟨os, n, rfl⟩ := Below.moreE hb; clear hb) | (go_at_call 31; (refine (HC _ ?hpp).mono ?_; case hpp => exact ⟨by go_simp, by go_simp, by go_simp, by go_simp, by go_simp, by go_simp, by go_simp, by go_simp⟩); rintro e w1 ⟨rfl, hb⟩; obtain ⟨os, n, rfl⟩ := Below.moreE hb; clear hb) | (go_at_call 32; (refine (HO _).mono ?_); rintro e w1 ⟨rfl, hb⟩; obtain ⟨os, n, rfl⟩ := Below.moreE hb; clear hb) | (go_at_call 33; (refine (HA _).mono ?_); rintro e w1 ⟨rfl, hb⟩; obtain ⟨os, n, rfl⟩ := Below.moreE hb; clear hb)
  refine bodyPost_ret (v := valV (cmS s1 g1 s2 g2) (cmG s1 g1 s2 g2) (wrapI (cmS s1 g1 s2 g2) (cmG s1 g1 s2 g2) (arI 4 (cmG s1 g1 s2 g2) (opX s1 g1 a s2 g2) (opY s1 g1 s2 g2 b))) 0) ?_ rfl ⟨rfl, (Gr.below (by repeat (first | (with_reducible exact Gr.refl _) | with_reducible refine Gr.alloc ?_ _ | with_reducible refine Gr.more ?_ _ _ | with_reducible refine Gr.setCell ?_ (by dsimp only; omega) _ | with_reducible refine Gr.drew ?_)))⟩
  simp [results, Tryz.results8, go_sem, opX, opY]

set_option maxRecDepth 100000 in
set_option maxHeartbeats 4000000 in
theorem rbi_5 (s1 : Int) (g1 : Bool) (a : Int) (s2 : Int) (g2 : Bool) (b : Int) (w : World) (v1 : validB s1 = true) (v2 : validB s2 = true) (ha : I64 a) (hb : I64 b) (hq : PR8 w) (h0 : opY s1 g1 s2 g2 b ≠ 0) : Calls Tryz.prog 8 #[.int .i64 5, tyV s1 g1, .int .i64 a, tyV s2 g2, .int .i64 b] w fun e w' => e = .returned (valV (cmS s1 g1 s2 g2) (cmG s1 g1 s2 g2) (wrapI (cmS s1 g1 s2 g2) (cmG s1 g1 s2 g2) (arI 5 (cmG s1 g1 s2 g2) (opX s1 g1 a s2 g2) (opY s1 g1 s2 g2 b))) 0) ∧ Below w.heap.size w w' := by
  have HK := rboth_ok v1 v2 g1 g2
  have HC := rcommon_ok v1 v2 g1 g2
  have HP := rpromoted_any s1 g1
  have HO := fun w => rorder_any (cmS s1 g1 s2 g2) (cmG s1 g1 s2 g2) (wrapI (cmS s1 g1 s2 g2) (cmG s1 g1 s2 g2) (wrapI s1 g1 a)) (wrapI (cmS s1 g1 s2 g2) (cmG s1 g1 s2 g2) (wrapI s2 g2 b)) (Rg_I64 (Rg_wrap _ _ _ (Rg_I64 (Rg_wrap s1 g1 a ha)))) (Rg_I64 (Rg_wrap _ _ _ (Rg_I64 (Rg_wrap s2 g2 b hb)))) w
  have HA := fun w => rar_5 (cmS s1 g1 s2 g2) (cmG s1 g1 s2 g2) (wrapI (cmS s1 g1 s2 g2) (cmG s1 g1 s2 g2) (wrapI s1 g1 a)) (wrapI (cmS s1 g1 s2 g2) (cmG s1 g1 s2 g2) (wrapI s2 g2 b)) h0 (u64_ne (Rg_I64 (Rg_wrap _ _ _ (Rg_I64 (Rg_wrap s2 g2 b hb)))) h0) w
  clear h0 ha hb
  obtain ⟨q0, q1, q2, q3, q4, q5, q6, q7⟩ := hq
  have zq := szc q0
  go_enter Tryz.func8, Tryz.ntmps8
  go_wp2_with first | (go_at_call 29; (refine (HK _).mono ?_); rintro e w1 ⟨rfl, hb⟩; obtain ⟨os, n, rfl⟩ := Below.moreE hb; clear hb) | (go_at_call 19; (refine (rwrapped_any _ _ _ _).mono ?_); rintro e w1 ⟨rfl, hb⟩; obtain ⟨os, n, rfl⟩ := Below.moreE hb; clear hb) | (go_at_call 31; (refine (HC _ ?hpp).mono ?_; case hpp => exact ⟨by go_simp, by go_simp, by go_simp, by go_simp, by go_simp, by go_simp, by go_simp, by go_simp⟩); rintro e w1 ⟨rfl, hb⟩; obtain ⟨os, n, rfl⟩ := Below.moreE hb; clear hb) | (go_at_call 32; (refine (HO _).mono ?_); rintro e w1 ⟨rfl, hb⟩; obtain ⟨os, n, rfl⟩ := Below.moreE hb; clear hb) | (go_at_call 33; (refine (HA _).mono ?_); rintro e w1 ⟨rfl, hb⟩; obtain ⟨os, n, rfl⟩ := Below.moreE hb; clear hb)
  refine bodyPost_ret (v := valV (cmS s1 g1 s2 g2) (cmG s1 g1 s2 g2) (wrapI (cmS s1 g1 s2 g2) (cmG s1 g1 s2 g2) (arI 5 (cmG s1 g1 s2 g2) (opX s1 g1 a s2 g2) (opY s1 g1 s2 g2 b))) 0) ?_ rfl ⟨rfl, (Gr.below (by repeat (first | (with_reducible exact Gr.refl _) | with_reducible refine Gr.alloc ?_ _ | with_reducible refine Gr.more ?_ _ _ | with_reducible refine Gr.setCell ?_ (by dsimp only; omega) _ | with_reducible refine Gr.drew ?_)))⟩
  simp [results, Tryz.results8, go_sem, opX, opY]

set_option maxRecDepth 100000 in
set_option maxHeartbeats 4000000 in
theorem rbi_6 (s1 : Int) (g1 : Bool) (a : Int) (s2 : Int) (g2 : Bool) (b : Int) (w : World) (v1 : validB s1 = true) (v2 : validB s2 = true) (ha : I64 a) (hb : I64 b) (hq : PR8 w) : Calls Tryz.prog 8 #[.int .i64 6, tyV s1 g1, .int .i64 a, tyV s2 g2, .int .i64 b] w fun e w' => e = .returned (valV (cmS s1 g1 s2 g2) (cmG s1 g1 s2 g2) (wrapI (cmS s1 g1 s2 g2) (cmG s1 g1 s2 g2) (arI 6 (cmG s1 g1 s2 g2) (opX s1 g1 a s2 g2) (opY s1 g1 s2 g2 b))) 0) ∧ Below w.heap.size w w' := by
  have HK := rboth_ok v1 v2 g1 g2
  have HC := rcommon_ok v1 v2 g1 g2
  have HP := rpromoted_any s1 g1
  have HO := fun w => rorder_any (cmS s1 g1 s2 g2) (cmG s1 g1 s2 g2) (wrapI (cmS s1 g1 s2 g2) (cmG s1 g1 s2 g2) (wrapI s1 g1 a)) (wrapI (cmS s1 g1 s2 g2) (cmG s1 g1 s2 g2) (wrapI s2 g2 b)) (Rg_I64 (Rg_wrap _ _ _ (Rg_I64 (Rg_wrap s1 g1 a ha)))) (Rg_I64 (Rg_wrap _ _ _ (Rg_I64 (Rg_wrap s2 g2 b hb)))) w
  clear ha hb
  obtain ⟨q0, q1, q2, q3, q4, q5, q6, q7⟩ := hq
  have zq := szc q0
  go_enter Tryz.func8, Tryz.ntmps8
  go_wp2_with first | (go_at_call 29; (refine (HK _).mono ?_); rintro e w1 ⟨rfl, hb⟩; obtain ⟨os, n, rfl⟩ := Below.moreE hb; clear hb) | (go_at_call 19; (refine (rwrapped_any _ _ _ _).mono ?_); rintro e w1 ⟨rfl, hb⟩; obtain ⟨os, n, rfl⟩ := Below.moreE hb; clear hb) | (go_at_call 31; (refine (HC _ ?hpp).mono ?_; case hpp => exact ⟨by go_simp, by go_simp, by go_simp, by go_simp, by go_simp, by go_simp, by go_simp, by go_simp⟩); rintro e w1 ⟨rfl, hb⟩; obtain ⟨os, n, rfl⟩ := Below.moreE hb; clear hb) | (go_at_call 32; (refine (HO _).mono ?_); rintro e w1 ⟨rfl, hb⟩; obtain ⟨os, n, rfl⟩ := Below.moreE hb; clear hb) | (go_at_call 33; (refine (rar_6 _ _ _ _ _).mono ?_); rintro e w1 ⟨rfl, hb⟩; obtain ⟨os, n, rfl⟩ := Below.moreE hb; clear hb)
  refine bodyPost_ret (v := valV (cmS s1 g1 s2 g2) (cmG s1 g1 s2 g2) (wrapI (cmS s1 g1 s2 g2) (cmG s1 g1 s2 g2) (arI 6 (cmG s1 g1 s2 g2) (opX s1 g1 a s2 g2) (opY s1 g1 s2 g2 b))) 0) ?_ rfl ⟨rfl, (Gr.below (by repeat (first | (with_reducible exact Gr.refl _) | with_reducible refine Gr.alloc ?_ _ | with_reducible refine Gr.more ?_ _ _ | with_reducible refine Gr.setCell ?_ (by dsimp only; omega) _ | with_reducible refine Gr.drew ?_)))⟩
  simp [results, Tryz.results8, go_sem, opX, opY]

set_option maxRecDepth 100000 in
set_option maxHeartbeats 4000000 in
theorem rbi_7 (s1 : Int) (g1 : Bool) (a : Int) (s2 : Int) (g2 : Bool) (b : Int) (w : World) (v1 : validB s1 = true) (v2 : validB s2 = true) (ha : I64 a) (hb : I64 b) (hq : PR8 w) : Calls Tryz.prog 8 #[.int .i64 7, tyV s1 g1, .int .i64 a, tyV s2 g2, .int .i64 b] w fun e w' => e = .returned (valV (cmS s1 g1 s2 g2) (cmG s1 g1 s2 g2) (wrapI (cmS s1 g1 s2 g2) (cmG s1 g1 s2 g2) (arI 7 (cmG s1 g1 s2 g2) (opX s1 g1 a s2 g2) (opY s1 g1 s2 g2 b))) 0) ∧ Below w.heap.size w w' := by
  have HK := rboth_ok v1 v2 g1 g2
  have HC := rcommon_ok v1 v2 g1 g2
  have HP := rpromoted_any s1 g1
  have HO := fun w => rorder_any (cmS s1 g1 s2 g2) (cmG s1 g1 s2 g2) (wrapI (cmS s1 g1 s2 g2) (cmG s1 g1 s2 g2) (wrapI s1 g1 a)) (wrapI (cmS s1 g1 s2 g2) (cmG s1 g1 s2 g2) (wrapI s2 g2 b)) (Rg_I64 (Rg_wrap _ _ _ (Rg_I64 (Rg_wrap s1 g1 a ha)))) (Rg_I64 (Rg_wrap _ _ _ (Rg_I64 (Rg_wrap s2 g2 b hb)))) w
  clear ha hb
  obtain ⟨q0, q1, q2, q3, q4, q5, q6, q7⟩ := hq
  have zq := szc q0
  go_enter Tryz.func8, Tryz.ntmps8
  go_wp2_with first | (go_at_call 29; (refine (HK _).mono ?_); rintro e w1 ⟨rfl, hb⟩; obtain ⟨os, n, rfl⟩ := Below.moreE hb; clear hb) | (go_at_call 19; (refine (rwrapped_any _ _ _ _).mono ?_); rintro e w1 ⟨rfl, hb⟩; obtain ⟨os, n, rfl⟩ := Below.moreE hb; clear hb) | (go_at_call 31; (refine (HC _ ?hpp).mono ?_; case hpp => exact ⟨by go_simp, by go_simp, by go_simp, by go_simp, by go_simp, by go_simp, by go_simp, by go_simp⟩); rintro e w1 ⟨rfl, hb⟩; obtain ⟨os, n, rfl⟩ := Below.moreE hb; clear hb) | (go_at_call 32; (refine (HO _).mono ?_); rintro e w1 ⟨rfl, hb⟩; obtain ⟨os, n, rfl⟩ := Below.moreE hb; clear hb) | (go_at_call 33; (refine (rar_7 _ _ _ _ _).mono ?_); rintro e w1 ⟨rfl, hb⟩; obtain ⟨os, n, rfl⟩ := Below.moreE hb; clear hb)
  refine bodyPost_ret (v := valV (cmS s1 g1 s2 g2) (cmG s1 g1 s2 g2) (wrapI (cmS s1 g1 s2 g2) (cmG s1 g1 s2 g2) (arI 7 (cmG s1 g1 s2 g2) (opX s1 g1 a s2 g2) (opY s1 g1 s2 g2 b))) 0) ?_ rfl ⟨rfl, (Gr.below (by repeat (first | (with_reducible exact Gr.refl _) | with_reducible refine Gr.alloc ?_ _ | with_reducible refine Gr.more ?_ _ _ | with_reducible refine Gr.setCell ?_ (by dsimp only; omega) _ | with_reducible refine Gr.drew ?_)))⟩
  simp [results, Tryz.results8, go_sem, opX, opY]

set_option maxRecDepth 100000 in
set_option maxHeartbeats 4000000 in
theorem rbi_8 (s1 : Int) (g1 : Bool) (a : Int) (s2 : Int) (g2 : Bool) (b : Int) (w : World) (v1 : validB s1 = true) (v2 : validB s2 = true) (ha : I64 a) (hb : I64 b) (hq : PR8 w) : Calls Tryz.prog 8 #[.int .i64 8, tyV s1 g1, .int .i64 a, tyV s2 g2, .int .i64 b] w fun e w' => e = .returned (valV (cmS s1 g1 s2 g2) (cmG s1 g1 s2 g2) (wrapI (cmS s1 g1 s2 g2) (cmG s1 g1 s2 g2) (arI 8 (cmG s1 g1 s2 g2) (opX s1 g1 a s2 g2) (opY s1 g1 s2 g2 b))) 0) ∧ Below w.heap.size w w' := by
  have HK := rboth_ok v1 v2 g1 g2
  have HC := rcommon_ok v1 v2 g1 g2
  have HP := rpromoted_any s1 g1
  have HO := fun w => rorder_any (cmS s1 g1 s2 g2) (cmG s1 g1 s2 g2) (wrapI (cmS s1 g1 s2 g2) (cmG s1 g1 s2 g2) (wrapI s1 g1 a)) (wrapI (cmS s1 g1 s2 g2) (cmG s1 g1 s2 g2) (wrapI s2 g2 b)) (Rg_I64 (Rg_wrap _ _ _ (Rg_I64 (Rg_wrap s1 g1 a ha)))) (Rg_I64 (Rg_wrap _ _ _ (Rg_I64 (Rg_wrap s2 g2 b hb)))) w
  clear ha hb
  obtain ⟨q0, q1, q2, q3, q4, q5, q6, q7⟩ := hq
  have zq := szc q0
  go_enter Tryz.func8, Tryz.ntmps8
  go_wp2_with first | (go_at_call 29; (refine (HK _).mono ?_); rintro e w1 ⟨rfl, hb⟩; obtain ⟨os, n, rfl⟩ := Below.moreE hb; clear hb) | (go_at_call 19; (refine (rwrapped_any _ _ _ _).mono ?_); rintro e w1 ⟨rfl, hb⟩; obtain ⟨os, n, rfl⟩ := Below.moreE hb; clear hb) | (go_at_call 31; (refine (HC _ ?hpp).mono ?_; case hpp => exact ⟨by go_simp, by go_simp, by go_simp, by go_simp, by go_simp, by go_simp, by go_simp, by go_simp⟩); rintro e w1 ⟨rfl, hb⟩; obtain ⟨os, n, rfl⟩ := Below.moreE hb; clear hb) | (go_at_call 32; (refine (HO _).mono ?_); rintro e w1 ⟨rfl, hb⟩; obtain ⟨os, n, rfl⟩ := Below.moreE hb; clear hb) | (go_at_call 33; (refine (rar_8 _ _ _ _ _).mono ?_); rintro e w1 ⟨rfl, hb⟩; obtain ⟨os, n, rfl⟩ := Below.moreE hb; clear hb)
  refine bodyPost_ret (v := valV (cmS s1 g1 s2 g2) (cmG s1 g1 s2 g2) (wrapI (cmS s1 g1 s2 g2) (cmG s1 g1 s2 g2) (arI 8 (cmG s1 g1 s2 g2) (opX s1 g1 a s2 g2) (opY s1 g1 s2 g2 b))) 0) ?_ rfl ⟨rfl, (Gr.below (by repeat (first | (with_reducible exact Gr.refl _) | with_reducible refine Gr.alloc ?_ _ | with_reducible refine Gr.more ?_ _ _ | with_reducible refine Gr.setCell ?_ (by dsimp only; omega) _ | with_reducible refine Gr.drew ?_)))⟩
  simp [results, Tryz.results8, go_sem, opX, opY]

set_option maxRecDepth 100000 in
set_option maxHeartbeats 4000000 in
theorem rbi_4z (s1 : Int) (g1 : Bool) (a : Int) (s2 : Int) (g2 : Bool) (b : Int) (w : World) (v1 : validB s1 = true) (v2 : validB s2 = true) (ha : I64 a) (hb : I64 b) (hq : PR8 w) (h0 : opY s1 g1 s2 g2 b = 0) : Calls Tryz.prog 8 #[.int .i64 4, tyV s1 g1, .int .i64 a, tyV s2 g2, .int .i64 b] w fun e w' => e = .returned (valV 0 false 0 12) ∧ Below w.heap.size w w' := by
  have HK := rboth_ok v1 v2 g1 g2
  have HC := rcommon_ok v1 v2 g1 g2
  have HP := rpromoted_any s1 g1
  have HO := fun w => rorder_any (cmS s1 g1 s2 g2) (cmG s1 g1 s2 g2) (wrapI (cmS s1 g1 s2 g2) (cmG s1 g1 s2 g2) (wrapI s1 g1 a)) (wrapI (cmS s1 g1 s2 g2) (cmG s1 g1 s2 g2) (wrapI s2 g2 b)) (Rg_I64 (Rg_wrap _ _ _ (Rg_I64 (Rg_wrap s1 g1 a ha)))) (Rg_I64 (Rg_wrap _ _ _ (Rg_I64 (Rg_wrap s2 g2 b hb)))) w
  clear ha hb
  unfold opY at h0
  have HA : ∀ w : World, Calls Tryz.prog 33 #[.int .i64 4, tyV (cmS s1 g1 s2 g2) (cmG s1 g1 s2 g2), .int .i64 (wrapI (cmS s1 g1 s2 g2) (cmG s1 g1 s2 g2) (wrapI s1 g1 a)), .int .i64 (wrapI (cmS s1 g1 s2 g2) (cmG s1 g1 s2 g2) (wrapI s2 g2 b))] w fun e w' => e = .returned (valV 0 false 0 12) ∧ Below w.heap.size w w' := fun w => by rw [h0]; exact rar_4z _ _ _ w
  clear h0
  obtain ⟨q0, q1, q2, q3, q4, q5, q6, q7⟩ := hq
  have zq := szc q0
  go_enter Tryz.func8, Tryz.ntmps8
  go_wp2_with first | (go_at_call 29; (refine (HK _).mono ?_); rintro e w1 ⟨rfl, hb⟩; obtain ⟨os, n, rfl⟩ := Below.moreE hb; clear hb) | (go_at_call 19; (refine (rwrapped_any _ _ _ _).mono ?_); rintro e w1 ⟨rfl, hb⟩; obtain ⟨os, n, rfl⟩ := Below.moreE hb; clear hb) | (go_at_call 31; (refine (HC _ ?hpp).mono ?_; case hpp => exact ⟨by go_simp, by go_simp, by go_simp, by go_simp, by go_simp, by go_simp, by go_simp, by go_simp⟩); rintro e w1 ⟨rfl, hb⟩; obtain ⟨os, n, rfl⟩ := Below.moreE hb; clear hb) | (go_at_call 32; (refine (HO _).mono ?_); rintro e w1 ⟨rfl, hb⟩; obtain ⟨os, n, rfl⟩ := Below.moreE hb; clear hb) | (go_at_call 33; (refine (HA _).mono ?_); rintro e w1 ⟨rfl, hb⟩; obtain ⟨os, n, rfl⟩ := Below.moreE hb; clear hb)
  refine bodyPost_ret (v := valV 0 false 0 12) ?_ rfl ⟨rfl, (Gr.below (by repeat (first | (with_reducible exact Gr.refl _) | with_reducible refine Gr.alloc ?_ _ | with_reducible refine Gr.more ?_ _ _ | with_reducible refine Gr.setCell ?_ (by dsimp only; omega) _ | with_reducible refine Gr.drew ?_)))⟩
  simp [results, Tryz.results8, go_sem]

set_option maxRecDepth 100000 in
set_option maxHeartbeats 4000000 in
theorem rbi_5z (s1 : Int) (g1 : Bool) (a : Int) (s2 : Int) (g2 : Bool) (b : Int) (w : World) (v1 : validB s1 = true) (v2 : validB s2 = true) (ha : I64 a) (hb : I64 b) (hq : PR8 w) (h0 : opY s1 g1 s2 g2 b = 0) : Calls Tryz.prog 8 #[.int .i64 5, tyV s1 g1, .int .i64 a, tyV s2 g2, .int .i64 b] w fun e w' => e = .returned (valV 0 false 0 12) ∧ Below w.heap.size w w' := by
  have HK := rboth_ok v1 v2 g1 g2
  have HC := rcommon_ok v1 v2 g1 g2
  have HP := rpromoted_any s1 g1
  have HO := fun w => rorder_any (cmS s1 g1 s2 g2) (cmG s1 g1 s2 g2) (wrapI (cmS s1 g1 s2 g2) (cmG s1 g1 s2 g2) (wrapI s1 g1 a)) (wrapI (cmS s1 g1 s2 g2) (cmG s1 g1 s2 g2) (wrapI s2 g2 b)) (Rg_I64 (Rg_wrap _ _ _ (Rg_I64 (Rg_wrap s1 g1 a ha)))) (Rg_I64 (Rg_wrap _ _ _ (Rg_I64 (Rg_wrap s2 g2 b hb)))) w
  clear ha hb
  unfold opY at h0
  have HA : ∀ w : World, Calls Tryz.prog 33 #[.int .i64 5, tyV (cmS s1 g1 s2 g2) (cmG s1 g1 s2 g2), .int .i64 (wrapI (cmS s1 g1 s2 g2) (cmG s1 g1 s2 g2) (wrapI s1 g1 a)), .int .i64 (wrapI (cmS s1 g1 s2 g2) (cmG s1 g1 s2 g2) (wrapI s2 g2 b))] w fun e w' => e = .returned (valV 0 false 0 12) ∧ Below w.heap.size w w' := fun w => by rw [h0]; exact rar_5z _ _ _ w
  clear h0
  obtain ⟨q0, q1, q2, q3, q4, q5, q6, q7⟩ := hq
  have zq := szc q0
  go_enter Tryz.func8, Tryz.ntmps8
  go_wp2_with first | (go_at_call 29; (refine (HK _).mono ?_); rintro e w1 ⟨rfl, hb⟩; obtain ⟨os, n, rfl⟩ := Below.moreE hb; clear hb) | (go_at_call 19; (refine (rwrapped_any _ _ _ _).mono ?_); rintro e w1 ⟨rfl, hb⟩; obtain ⟨os, n, rfl⟩ := Below.moreE hb; clear hb) | (go_at_call 31; (refine (HC _ ?hpp).mono ?_; case hpp => exact ⟨by go_simp, by go_simp, by go_simp, by go_simp, by go_simp, by go_simp, by go_simp, by go_simp⟩); rintro e w1 ⟨rfl, hb⟩; obtain ⟨os, n, rfl⟩ := Below.moreE hb; clear hb) | (go_at_call 32; (refine (HO _).mono ?_); rintro e w1 ⟨rfl, hb⟩; obtain ⟨os, n, rfl⟩ := Below.moreE hb; clear hb) | (go_at_call 33; (refine (HA _).mono ?_); rintro e w1 ⟨rfl, hb⟩; obtain ⟨os, n, rfl⟩ := Below.moreE hb; clear hb)
  refine bodyPost_ret (v := valV 0 false 0 12) ?_ rfl ⟨rfl, (Gr.below (by repeat (first | (with_reducible exact Gr.refl _) | with_reducible refine Gr.alloc ?_ _ | with_reducible refine Gr.more ?_ _ _ | with_reducible refine Gr.setCell ?_ (by dsimp only; omega) _ | with_reducible refine Gr.drew ?_)))⟩
  simp [results, Tryz.results8, go_sem]

set_option maxRecDepth 100000 in
set_option maxHeartbeats 4000000 in
theorem rbi_11 (s1 : Int) (g1 : Bool) (a : Int) (s2 : Int) (g2 : Bool) (b : Int) (w : World) (v1 : validB s1 = true) (v2 : validB s2 = true) (ha : I64 a) (hb : I64 b) (hq : PR8 w) : Calls Tryz.prog 8 #[.int .i64 11, tyV s1 g1, .int .i64 a, tyV s2 g2, .int .i64 b] w fun e w' => e = .returned (valV 4 true (if reB 11 (ordI (cmG s1 g1 s2 g2) (opX s1 g1 a s2 g2) (opY s1 g1 s2 g2 b)) = true then 1 else 0) 0) ∧ Below w.heap.size w w' := by
  have hr : reB 11 (ordI (cmG s1 g1 s2 g2) (opX s1 g1 a s2 g2) (opY s1 g1 s2 g2 b)) = (decide ((ordI (cmG s1 g1 s2 g2) (wrapI (cmS s1 g1 s2 g2) (cmG s1 g1 s2 g2) (wrapI s1 g1 a)) (wrapI (cmS s1 g1 s2 g2) (cmG s1 g1 s2 g2) (wrapI s2 g2 b))) < 0)) := rfl
  rw [hr]
  clear hr
  have HK := rboth_ok v1 v2 g1 g2
  have HC := rcommon_ok v1 v2 g1 g2
  have HP := rpromoted_any s1 g1
  have HO := fun w => rorder_any (cmS s1 g1 s2 g2) (cmG s1 g1 s2 g2) (wrapI (cmS s1 g1 s2 g2) (cmG s1 g1 s2 g2) (wrapI s1 g1 a)) (wrapI (cmS s1 g1 s2 g2) (cmG s1 g1 s2 g2) (wrapI s2 g2 b)) (Rg_I64 (Rg_wrap _ _ _ (Rg_I64 (Rg_wrap s1 g1 a ha)))) (Rg_I64 (Rg_wrap _ _ _ (Rg_I64 (Rg_wrap s2 g2 b hb)))) w
  clear ha hb
  obtain ⟨q0, q1, q2, q3, q4, q5, q6, q7⟩ := hq
  have zq := szc q0
  cases ht : (decide ((ordI (cmG s1 g1 s2 g2) (wrapI (cmS s1 g1 s2 g2) (cmG s1 g1 s2 g2) (wrapI s1 g1 a)) (wrapI (cmS s1 g1 s2 g2) (cmG s1 g1 s2 g2) (wrapI s2 g2 b))) < 0))
  · go_enter Tryz.func8, Tryz.ntmps8
    go_wp2_with first | (go_at_call 29; (refine (HK _).mono ?_); rintro e w1 ⟨rfl, hb⟩; obtain ⟨os, n, rfl⟩ := Below.moreE hb; clear hb) | (go_at_call 19; (refine (rwrapped_any _ _ _ _).mono ?_); rintro e w1 ⟨rfl, hb⟩; obtain ⟨os, n, rfl⟩ := Below.moreE hb; clear hb) | (go_at_call 31; (refine (HC _ ?hpp).mono ?_; case hpp => exact ⟨by go_simp, by go_simp, by go_simp, by go_simp, by go_simp, by go_simp, by go_simp, by go_simp⟩); rintro e w1 ⟨rfl, hb⟩; obtain ⟨os, n, rfl⟩ := Below.moreE hb; clear hb) | (go_at_call 32; (refine (HO _).mono ?_); rintro e w1 ⟨rfl, hb⟩; obtain ⟨os, n, rfl⟩ := Below.moreE hb; clear hb) | (go_at_call 21; (refine (rtruth_any false _ ?hpp).mono ?_; case hpp => exact ⟨by go_simp, by go_simp⟩); rintro e w1 ⟨rfl, hb⟩; obtain ⟨os, n, rfl⟩ := Below.moreE hb; clear hb)
    refine bodyPost_ret (v := valV 4 true 0 0) (by simp [results, Tryz.results8, go_sem]) rfl ⟨by simp, (Gr.below (by repeat (first | (with_reducible exact Gr.refl _) | with_reducible refine Gr.alloc ?_ _ | with_reducible refine Gr.more ?_ _ _ | with_reducible refine Gr.setCell ?_ (by dsimp only; omega) _ | with_reducible refine Gr.drew ?_)))⟩
  · go_enter Tryz.func8, Tryz.ntmps8
    go_wp2_with first | (go_at_call 29; (refine (HK _).mono ?_); rintro e w1 ⟨rfl, hb⟩; obtain ⟨os, n, rfl⟩ := Below.moreE hb; clear hb) | (go_at_call 19; (refine (rwrapped_any _ _ _ _).mono ?_); rintro e w1 ⟨rfl, hb⟩; obtain ⟨os, n, rfl⟩ := Below.moreE hb; clear hb) | (go_at_call 31; (refine (HC _ ?hpp).mono ?_; case hpp => exact ⟨by go_simp, by go_simp, by go_simp, by go_simp, by go_simp, by go_simp, by go_simp, by go_simp⟩); rintro e w1 ⟨rfl, hb⟩; obtain ⟨os, n, rfl⟩ := Below.moreE hb; clear hb) | (go_at_call 32; (refine (HO _).mono ?_); rintro e w1 ⟨rfl, hb⟩; obtain ⟨os, n, rfl⟩ := Below.moreE hb; clear hb) | (go_at_call 21; (refine (rtruth_any true _ ?hpp).mono ?_; case hpp => exact ⟨by go_simp, by go_simp⟩); rintro e w1 ⟨rfl, hb⟩; obtain ⟨os, n, rfl⟩ := Below.moreE hb; clear hb)
    refine bodyPost_ret (v := valV 4 true 1 0) (by simp [results, Tryz.results8, go_sem]) rfl ⟨by simp, (Gr.below (by repeat (first | (with_reducible exact Gr.refl _) | with_reducible refine Gr.alloc ?_ _ | with_reducible refine Gr.more ?_ _ _ | with_reducible refine Gr.setCell ?_ (by dsimp only; omega) _ | with_reducible refine Gr.drew ?_)))⟩

set_option maxRecDepth 100000 in
set_option maxHeartbeats 4000000 in
theorem rbi_12 (s1 : Int) (g1 : Bool) (a : Int) (s2 : Int) (g2 : Bool) (b : Int) (w : World) (v1 : validB s1 = true) (v2 : validB s2 = true) (ha : I64 a) (hb : I64 b) (hq : PR8 w) : Calls Tryz.prog 8 #[.int .i64 12, tyV s1 g1, .int .i64 a, tyV s2 g2, .int .i64 b] w fun e w' => e = .returned (valV 4 true (if reB 12 (ordI (cmG s1 g1 s2 g2) (opX s1 g1 a s2 g2) (opY s1 g1 s2 g2 b)) = true then 1 else 0) 0) ∧ Below w.heap.size w w' := by
  have hr : reB 12 (ordI (cmG s1 g1 s2 g2) (opX s1 g1 a s2 g2) (opY s1 g1 s2 g2 b)) = (decide ((ordI (cmG s1 g1 s2 g2) (wrapI (cmS s1 g1 s2 g2) (cmG s1 g1 s2 g2) (wrapI s1 g1 a)) (wrapI (cmS s1 g1 s2 g2) (cmG s1 g1 s2 g2) (wrapI s2 g2 b))) ≤ 0)) := rfl
  rw [hr]
  clear hr
  have HK := rboth_ok v1 v2 g1 g2
  have HC := rcommon_ok v1 v2 g1 g2
  have HP := rpromoted_any s1 g1
  have HO := fun w => rorder_any (cmS s1 g1 s2 g2) (cmG s1 g1 s2 g2) (wrapI (cmS s1 g1 s2 g2) (cmG s1 g1 s2 g2) (wrapI s1 g1 a)) (wrapI (cmS s1 g1 s2 g2) (cmG s1 g1 s2 g2) (wrapI s2 g2 b)) (Rg_I64 (Rg_wrap _ _ _ (Rg_I64 (Rg_wrap s1 g1 a ha)))) (Rg_I64 (Rg_wrap _ _ _ (Rg_I64 (Rg_wrap s2 g2 b hb)))) w
  clear ha hb
  obtain ⟨q0, q1, q2, q3, q4, q5, q6, q7⟩ := hq
  have zq := szc q0
  cases ht : (decide ((ordI (cmG s1 g1 s2 g2) (wrapI (cmS s1 g1 s2 g2) (cmG s1 g1 s2 g2) (wrapI s1 g1 a)) (wrapI (cmS s1 g1 s2 g2) (cmG s1 g1 s2 g2) (wrapI s2 g2 b))) ≤ 0))
  · go_enter Tryz.func8, Tryz.ntmps8
    go_wp2_with first | (go_at_call 29; (refine (HK _).mono ?_); rintro e w1 ⟨rfl, hb⟩; obtain ⟨os, n, rfl⟩ := Below.moreE hb; clear hb) | (go_at_call 19; (refine (rwrapped_any _ _ _ _).mono ?_); rintro e w1 ⟨rfl, hb⟩; obtain ⟨os, n, rfl⟩ := Below.moreE hb; clear hb) | (go_at_call 31; (refine (HC _ ?hpp).mono ?_; case hpp => exact ⟨by go_simp, by go_simp, by go_simp, by go_simp, by go_simp, by go_simp, by go_simp, by go_simp⟩); rintro e w1 ⟨rfl, hb⟩; obtain ⟨os, n, rfl⟩ := Below.moreE hb; clear hb) | (go_at_call 32; (refine (HO _).mono ?_); rintro e w1 ⟨rfl, hb⟩; obtain ⟨os, n, rfl⟩ := Below.moreE hb; clear hb) | (go_at_call 21; (refine (rtruth_any false _ ?hpp).mono ?_; case hpp => exact ⟨by go_simp, by go_simp⟩); rintro e w1 ⟨rfl, hb⟩; obtain ⟨os, n, rfl⟩ := Below.moreE hb; clear hb)
    refine bodyPost_ret (v := valV 4 true 0 0) (by simp [results, Tryz.results8, go_sem]) rfl ⟨by simp, (Gr.below (by repeat (first | (with_reducible exact Gr.refl _) | with_reducible refine Gr.alloc ?_ _ | with_reducible refine Gr.more ?_ _ _ | with_reducible refine Gr.setCell ?_ (by dsimp only; omega) _ | with_reducible refine Gr.drew ?_)))⟩
  · go_enter Tryz.func8, Tryz.ntmps8
    go_wp2_with first | (go_at_call 29; (refine (HK _).mono ?_); rintro e w1 ⟨rfl, hb⟩; obtain ⟨os, n, rfl⟩ := Below.moreE hb; clear hb) | (go_at_call 19; (refine (rwrapped_any _ _ _ _).mono ?_); rintro e w1 ⟨rfl, hb⟩; obtain ⟨os, n, rfl⟩ := Below.moreE hb; clear hb) | (go_at_call 31; (refine (HC _ ?hpp).mono ?_; case hpp => exact ⟨by go_simp, by go_simp, by go_simp, by go_simp, by go_simp, by go_simp, by go_simp, by go_simp⟩); rintro e w1 ⟨rfl, hb⟩; obtain ⟨os, n, rfl⟩ := Below.moreE hb; clear hb) | (go_at_call 32; (refine (HO _).mono ?_); rintro e w1 ⟨rfl, hb⟩; obtain ⟨os, n, rfl⟩ := Below.moreE hb; clear hb) | (go_at_call 21; (refine (rtruth_any true _ ?hpp).mono ?_; case hpp => exact ⟨by go_simp, by go_simp⟩); rintro e w1 ⟨rfl, hb⟩; obtain ⟨os, n, rfl⟩ := Below.moreE hb; clear hb)
    refine bodyPost_ret (v := valV 4 true 1 0) (by simp [results, Tryz.results8, go_sem]) rfl ⟨by simp, (Gr.below (by repeat (first | (with_reducible exact Gr.refl _) | with_reducible refine Gr.alloc ?_ _ | with_reducible refine Gr.more ?_ _ _ | with_reducible refine Gr.setCell ?_ (by dsimp only; omega) _ | with_reducible refine Gr.drew ?_)))⟩

set_option maxRecDepth 100000 in
set_option maxHeartbeats 4000000 in
theorem rbi_13 (s1 : Int) (g1 : Bool) (a : Int) (s2 : Int) (g2 : Bool) (b : Int) (w : World) (v1 : validB s1 = true) (v2 : validB s2 = true) (ha : I64 a) (hb : I64 b) (hq : PR8 w) : Calls Tryz.prog 8 #[.int .i64 13, tyV s1 g1, .int .i64 a, tyV s2 g2, .int .i64 b] w fun e w' => e = .returned (valV 4 true (if reB 13 (ordI (cmG s1 g1 s2 g2) (opX s1 g1 a s2 g2) (opY s1 g1 s2 g2 b)) = true then 1 else 0) 0) ∧ Below w.heap.size w w' := by
  have hr : reB 13 (ordI (cmG s1 g1 s2 g2) (opX s1 g1 a s2 g2) (opY s1 g1 s2 g2 b)) = (decide (0 < (ordI (cmG s1 g1 s2 g2) (wrapI (cmS s1 g1 s2 g2) (cmG s1 g1 s2 g2) (wrapI s1 g1 a)) (wrapI (cmS s1 g1 s2 g2) (cmG s1 g1 s2 g2) (wrapI s2 g2 b))))) := rfl
  rw [hr]
  clear hr
  have HK := rboth_ok v1 v2 g1 g2
  have HC := rcommon_ok v1 v2 g1 g2
  have HP := rpromoted_any s1 g1
  have HO := fun w => rorder_any (cmS s1 g1 s2 g2) (cmG s1 g1 s2 g2) (wrapI (cmS s1 g1 s2 g2) (cmG s1 g1 s2 g2) (wrapI s1 g1 a)) (wrapI (cmS s1 g1 s2 g2) (cmG s1 g1 s2 g2) (wrapI s2 g2 b)) (Rg_I64 (Rg_wrap _ _ _ (Rg_I64 (Rg_wrap s1 g1 a ha)))) (Rg_I64 (Rg_wrap _ _ _ (Rg_I64 (Rg_wrap s2 g2 b hb)))) w
  clear ha hb
  obtain ⟨q0, q1, q2, q3, q4, q5, q6, q7⟩ := hq
  have zq := szc q0
  cases ht : (decide (0 < (ordI (cmG s1 g1 s2 g2) (wrapI (cmS s1 g1 s2 g2) (cmG s1 g1 s2 g2) (wrapI s1 g1 a)) (wrapI (cmS s1 g1 s2 g2) (cmG s1 g1 s2 g2) (wrapI s2 g2 b)))))
  · go_enter Tryz.func8, Tryz.ntmps8
    go_wp2_with first | (go_at_call 29; (refine (HK _).mono ?_); rintro e w1 ⟨rfl, hb⟩; obtain ⟨os, n, rfl⟩ := Below.moreE hb; clear hb) | (go_at_call 19; (refine (rwrapped_any _ _ _ _).mono ?_); rintro e w1 ⟨rfl, hb⟩; obtain ⟨os, n, rfl⟩ := Below.moreE hb; clear hb) | (go_at_call 31; (refine (HC _ ?hpp).mono ?_; case hpp => exact ⟨by go_simp, by go_simp, by go_simp, by go_simp, by go_simp, by go_simp, by go_simp, by go_simp⟩); rintro e w1 ⟨rfl, hb⟩; obtain ⟨os, n, rfl⟩ := Below.moreE hb; clear hb) | (go_at_call 32; (refine (HO _).mono ?_); rintro e w1 ⟨rfl, hb⟩; obtain ⟨os, n, rfl⟩ := Below.moreE hb; clear hb) | (go_at_call 21; (refine (rtruth_any false _ ?hpp).mono ?_; case hpp => exact ⟨by go_simp, by go_simp⟩); rintro e w1 ⟨rfl, hb⟩; obtain ⟨os, n, rfl⟩ := Below.moreE hb; clear hb)
    refine bodyPost_ret (v := valV 4 true 0 0) (by simp [results, Tryz.results8, go_sem]) rfl ⟨by simp, (Gr.below (by repeat (first | (with_reducible exact Gr.refl _) | with_reducible refine Gr.alloc ?_ _ | with_reducible refine Gr.more ?_ _ _ | with_reducible refine Gr.setCell ?_ (by dsimp only; omega) _ | with_reducible refine Gr.drew ?_)))⟩
  · go_enter Tryz.func8, Tryz.ntmps8
    go_wp2_with first | (go_at_call 29; (refine (HK _).mono ?_); rintro e w1 ⟨rfl, hb⟩; obtain ⟨os, n, rfl⟩ := Below.moreE hb; clear hb) | (go_at_call 19; (refine (rwrapped_any _ _ _ _).mono ?_); rintro e w1 ⟨rfl, hb⟩; obtain ⟨os, n, rfl⟩ := Below.moreE hb; clear hb) | (go_at_call 31; (refine (HC _ ?hpp).mono ?_; case hpp => exact ⟨by go_simp, by go_simp, by go_simp, by go_simp, by go_simp, by go_simp, by go_simp, by go_simp⟩); rintro e w1 ⟨rfl, hb⟩; obtain ⟨os, n, rfl⟩ := Below.moreE hb; clear hb) | (go_at_call 32; (refine (HO _).mono ?_); rintro e w1 ⟨rfl, hb⟩; obtain ⟨os, n, rfl⟩ := Below.moreE hb; clear hb) | (go_at_call 21; (refine (rtruth_any true _ ?hpp).mono ?_; case hpp => exact ⟨by go_simp, by go_simp⟩); rintro e w1 ⟨rfl, hb⟩; obtain ⟨os, n, rfl⟩ := Below.moreE hb; clear hb)
    refine bodyPost_ret (v := valV 4 true 1 0) (by simp [results, Tryz.results8, go_sem]) rfl ⟨by simp, (Gr.below (by repeat (first | (with_reducible exact Gr.refl _) | with_reducible refine Gr.alloc ?_ _ | with_reducible refine Gr.more ?_ _ _ | with_reducible refine Gr.setCell ?_ (by dsimp only; omega) _ | with_reducible refine Gr.drew ?_)))⟩

set_option maxRecDepth 100000 in
set_option maxHeartbeats 4000000 in
theorem rbi_14 (s1 : Int) (g1 : Bool) (a : Int) (s2 : Int) (g2 : Bool) (b : Int) (w : World) (v1 : validB s1 = true) (v2 : validB s2 = true) (ha : I64 a) (hb : I64 b) (hq : PR8 w) : Calls Tryz.prog 8 #[.int .i64 14, tyV s1 g1, .int .i64 a, tyV s2 g2, .int .i64 b] w fun e w' => e = .returned (valV 4 true (if reB 14 (ordI (cmG s1 g1 s2 g2) (opX s1 g1 a s2 g2) (opY s1 g1 s2 g2 b)) = true then 1 else 0) 0) ∧ Below w.heap.size w w' := by
  have hr : reB 14 (ordI (cmG s1 g1 s2 g2) (opX s1 g1 a s2 g2) (opY s1 g1 s2 g2 b)) = (decide (0 ≤ (ordI (cmG s1 g1 s2 g2) (wrapI (cmS s1 g1 s2 g2) (cmG s1 g1 s2 g2) (wrapI s1 g1 a)) (wrapI (cmS s1 g1 s2 g2) (cmG s1 g1 s2 g2) (wrapI s2 g2 b))))) := rfl
  rw [hr]
  clear hr
  have HK := rboth_ok v1 v2 g1 g2
  have HC := rcommon_ok v1 v2 g1 g2
  have HP := rpromoted_any s1 g1
  have HO := fun w => rorder_any (cmS s1 g1 s2 g2) (cmG s1 g1 s2 g2) (wrapI (cmS s1 g1 s2 g2) (cmG s1 g1 s2 g2) (wrapI s1 g1 a)) (wrapI (cmS s1 g1 s2 g2) (cmG s1 g1 s2 g2) (wrapI s2 g2 b)) (Rg_I64 (Rg_wrap _ _ _ (Rg_I64 (Rg_wrap s1 g1 a ha)))) (Rg_I64 (Rg_wrap _ _ _ (Rg_I64 (Rg_wrap s2 g2 b hb)))) w
  clear ha hb
  obtain ⟨q0, q1, q2, q3, q4, q5, q6, q7⟩ := hq
  have zq := szc q0
  cases ht : (decide (0 ≤ (ordI (cmG s1 g1 s2 g2) (wrapI (cmS s1 g1 s2 g2) (cmG s1 g1 s2 g2) (wrapI s1 g1 a)) (wrapI (cmS s1 g1 s2 g2) (cmG s1 g1 s2 g2) (wrapI s2 g2 b)))))
  · go_enter Tryz.func8, Tryz.ntmps8
    go_wp2_with first | (go_at_call 29; (refine (HK _).mono ?_); rintro e w1 ⟨rfl, hb⟩; obtain ⟨os, n, rfl⟩ := Below.moreE hb; clear hb) | (go_at_call 19; (refine (rwrapped_any _ _ _ _).mono ?_); rintro e w1 ⟨rfl, hb⟩; obtain ⟨os, n, rfl⟩ := Below.moreE hb; clear hb) | (go_at_call 31; (refine (HC _ ?hpp).mono ?_; case hpp => exact ⟨by go_simp, by go_simp, by go_simp, by go_simp, by go_simp, by go_simp, by go_simp, by go_simp⟩); rintro e w1 ⟨rfl, hb⟩; obtain ⟨os, n, rfl⟩ := Below.moreE hb; clear hb) | (go_at_call 32; (refine (HO _).mono ?_); rintro e w1 ⟨rfl, hb⟩; obtain ⟨os, n, rfl⟩ := Below.moreE hb; clear hb) | (go_at_call 21; (refine (rtruth_any false _ ?hpp).mono ?_; case hpp => exact ⟨by go_simp, by go_simp⟩); rintro e w1 ⟨rfl, hb⟩; obtain ⟨os, n, rfl⟩ := Below.moreE hb; clear hb)
    refine bodyPost_ret (v := valV 4 true 0 0) (by simp [results, Tryz.results8, go_sem]) rfl ⟨by simp, (Gr.below (by repeat (first | (with_reducible exact Gr.refl _) | with_reducible refine Gr.alloc ?_ _ | with_reducible refine Gr.more ?_ _ _ | with_reducible refine Gr.setCell ?_ (by dsimp only; omega) _ | with_reducible refine Gr.drew ?_)))⟩
  · go_enter Tryz.func8, Tryz.ntmps8
    go_wp2_with first | (go_at_call 29; (refine (HK _).mono ?_); rintro e w1 ⟨rfl, hb⟩; obtain ⟨os, n, rfl⟩ := Below.moreE hb; clear hb) | (go_at_call 19; (refine (rwrapped_any _ _ _ _).mono ?_); rintro e w1 ⟨rfl, hb⟩; obtain ⟨os, n, rfl⟩ := Below.moreE hb; clear hb) | (go_at_call 31; (refine (HC _ ?hpp).mono ?_; case hpp => exact ⟨by go_simp, by go_simp, by go_simp, by go_simp, by go_simp, by go_simp, by go_simp, by go_simp⟩); rintro e w1 ⟨rfl, hb⟩; obtain ⟨os, n, rfl⟩ := Below.moreE hb; clear hb) | (go_at_call 32; (refine (HO _).mono ?_); rintro e w1 ⟨rfl, hb⟩; obtain ⟨os, n, rfl⟩ := Below.moreE hb; clear hb) | (go_at_call 21; (refine (rtruth_any true _ ?hpp).mono ?_; case hpp => exact ⟨by go_simp, by go_simp⟩); rintro e w1 ⟨rfl, hb⟩; obtain ⟨os, n, rfl⟩ := Below.moreE hb; clear hb)
    refine bodyPost_ret (v := valV 4 true 1 0) (by simp [results, Tryz.results8, go_sem]) rfl ⟨by simp, (Gr.below (by repeat (first | (with_reducible exact Gr.refl _) | with_reducible refine Gr.alloc ?_ _ | with_reducible refine Gr.more ?_ _ _ | with_reducible refine Gr.setCell ?_ (by dsimp only; omega) _ | with_reducible refine Gr.drew ?_)))⟩

set_option maxRecDepth 100000 in
set_option maxHeartbeats 4000000 in
theorem rbi_15 (s1 : Int) (g1 : Bool) (a : Int) (s2 : Int) (g2 : Bool) (b : Int) (w : World) (v1 : validB s1 = true) (v2 : validB s2 = true) (ha : I64 a) (hb : I64 b) (hq : PR8 w) : Calls Tryz.prog 8 #[.int .i64 15, tyV s1 g1, .int .i64 a, tyV s2 g2, .int .i64 b] w fun e w' => e = .returned (valV 4 true (if reB 15 (ordI (cmG s1 g1 s2 g2) (opX s1 g1 a s2 g2) (opY s1 g1 s2 g2 b)) = true then 1 else 0) 0) ∧ Below w.heap.size w w' := by
  have hr : reB 15 (ordI (cmG s1 g1 s2 g2) (opX s1 g1 a s2 g2) (opY s1 g1 s2 g2 b)) = ((ordI (cmG s1 g1 s2 g2) (wrapI (cmS s1 g1 s2 g2) (cmG s1 g1 s2 g2) (wrapI s1 g1 a)) (wrapI (cmS s1 g1 s2 g2) (cmG s1 g1 s2 g2) (wrapI s2 g2 b))) == 0) := rfl
  rw [hr]
  clear hr
  have HK := rboth_ok v1 v2 g1 g2
  have HC := rcommon_ok v1 v2 g1 g2
  have HP := rpromoted_any s1 g1
  have HO := fun w => rorder_any (cmS s1 g1 s2 g2) (cmG s1 g1 s2 g2) (wrapI (cmS s1 g1 s2 g2) (cmG s1 g1 s2 g2) (wrapI s1 g1 a)) (wrapI (cmS s1 g1 s2 g2) (cmG s1 g1 s2 g2) (wrapI s2 g2 b)) (Rg_I64 (Rg_wrap _ _ _ (Rg_I64 (Rg_wrap s1 g1 a ha)))) (Rg_I64 (Rg_wrap _ _ _ (Rg_I64 (Rg_wrap s2 g2 b hb)))) w
  clear ha hb
  obtain ⟨q0, q1, q2, q3, q4, q5, q6, q7⟩ := hq
  have zq := szc q0
  cases ht : ((ordI (cmG s1 g1 s2 g2) (wrapI (cmS s1 g1 s2 g2) (cmG s1 g1 s2 g2) (wrapI s1 g1 a)) (wrapI (cmS s1 g1 s2 g2) (cmG s1 g1 s2 g2) (wrapI s2 g2 b))) == 0)
  · go_enter Tryz.func8, Tryz.ntmps8
    go_wp2_with first | (go_at_call 29; (refine (HK _).mono ?_); rintro e w1 ⟨rfl, hb⟩; obtain ⟨os, n, rfl⟩ := Below.moreE hb; clear hb) | (go_at_call 19; (refine (rwrapped_any _ _ _ _).mono ?_); rintro e w1 ⟨rfl, hb⟩; obtain ⟨os, n, rfl⟩ := Below.moreE hb; clear hb) | (go_at_call 31; (refine (HC _ ?hpp).mono ?_; case hpp => exact ⟨by go_simp, by go_simp, by go_simp, by go_simp, by go_simp, by go_simp, by go_simp, by go_simp⟩); rintro e w1 ⟨rfl, hb⟩; obtain ⟨os, n, rfl⟩ := Below.moreE hb; clear hb) | (go_at_call 32; (refine (HO _).mono ?_); rintro e w1 ⟨rfl, hb⟩; obtain ⟨os, n, rfl⟩ := Below.moreE hb; clear hb) | (go_at_call 21; (refine (rtruth_any false _ ?hpp).mono ?_; case hpp => exact ⟨by go_simp, by go_simp⟩); rintro e w1 ⟨rfl, hb⟩; obtain ⟨os, n, rfl⟩ := Below.moreE hb; clear hb)
    refine bodyPost_ret (v := valV 4 true 0 0) (by simp [results, Tryz.results8, go_sem]) rfl ⟨by simp, (Gr.below (by repeat (first | (with_reducible exact Gr.refl _) | with_reducible refine Gr.alloc ?_ _ | with_reducible refine Gr.more ?_ _ _ | with_reducible refine Gr.setCell ?_ (by dsimp only; omega) _ | with_reducible refine Gr.drew ?_)))⟩
  · go_enter Tryz.func8, Tryz.ntmps8
    go_wp2_with first | (go_at_call 29; (refine (HK _).mono ?_); rintro e w1 ⟨rfl, hb⟩; obtain ⟨os, n, rfl⟩ := Below.moreE hb; clear hb) | (go_at_call 19; (refine (rwrapped_any _ _ _ _).mono ?_); rintro e w1 ⟨rfl, hb⟩; obtain ⟨os, n, rfl⟩ := Below.moreE hb; clear hb) | (go_at_call 31; (refine (HC _ ?hpp).mono ?_; case hpp => exact ⟨by go_simp, by go_simp, by go_simp, by go_simp, by go_simp, by go_simp, by go_simp, by go_simp⟩); rintro e w1 ⟨rfl, hb⟩; obtain ⟨os, n, rfl⟩ := Below.moreE hb; clear hb) | (go_at_call 32; (refine (HO _).mono ?_); rintro e w1 ⟨rfl, hb⟩; obtain ⟨os, n, rfl⟩ := Below.moreE hb; clear hb) | (go_at_call 21; (refine (rtruth_any true _ ?hpp).mono ?_; case hpp => exact ⟨by go_simp, by go_simp⟩); rintro e w1 ⟨rfl, hb⟩; obtain ⟨os, n, rfl⟩ := Below.moreE hb; clear hb)
    refine bodyPost_ret (v := valV 4 true 1 0) (by simp [results, Tryz.results8, go_sem]) rfl ⟨by simp, (Gr.below (by repeat (first | (with_reducible exact Gr.refl _) | with_reducible refine Gr.alloc ?_ _ | with_reducible refine Gr.more ?_ _ _ | with_reducible refine Gr.setCell ?_ (by dsimp only; omega) _ | with_reducible refine Gr.drew ?_)))⟩

set_option maxRecDepth 100000 in
set_option maxHeartbeats 4000000 in
theorem rbi_16 (s1 : Int) (g1 : Bool) (a : Int) (s2 : Int) (g2 : Bool) (b : Int) (w : World) (v1 : validB s1 = true) (v2 : validB s2 = true) (ha : I64 a) (hb : I64 b) (hq : PR8 w) : Calls Tryz.prog 8 #[.int .i64 16, tyV s1 g1, .int .i64 a, tyV s2 g2, .int .i64 b] w fun e w' => e = .returned (valV 4 true (if reB 16 (ordI (cmG s1 g1 s2 g2) (opX s1 g1 a s2 g2) (opY s1 g1 s2 g2 b)) = true then 1 else 0) 0) ∧ Below w.heap.size w w' := by
  have hr : reB 16 (ordI (cmG s1 g1 s2 g2) (opX s1 g1 a s2 g2) (opY s1 g1 s2 g2 b)) = ((ordI (cmG s1 g1 s2 g2) (wrapI (cmS s1 g1 s2 g2) (cmG s1 g1 s2 g2) (wrapI s1 g1 a)) (wrapI (cmS s1 g1 s2 g2) (cmG s1 g1 s2 g2) (wrapI s2 g2 b))) != 0) := rfl
  rw [hr]
  clear hr
  have HK := rboth_ok v1 v2 g1 g2
  have HC := rcommon_ok v1 v2 g1 g2
  have HP := rpromoted_any s1 g1
  have HO := fun w => rorder_any (cmS s1 g1 s2 g2) (cmG s1 g1 s2 g2) (wrapI (cmS s1 g1 s2 g2) (cmG s1 g1 s2 g2) (wrapI s1 g1 a)) (wrapI (cmS s1 g1 s2 g2) (cmG s1 g1 s2 g2) (wrapI s2 g2 b)) (Rg_I64 (Rg_wrap _ _ _ (Rg_I64 (Rg_wrap s1 g1 a ha)))) (Rg_I64 (Rg_wrap _ _ _ (Rg_I64 (Rg_wrap s2 g2 b hb)))) w
  clear ha hb
  obtain ⟨q0, q1, q2, q3, q4, q5, q6, q7⟩ := hq
  have zq := szc q0
  cases ht : ((ordI (cmG s1 g1 s2 g2) (wrapI (cmS s1 g1 s2 g2) (cmG s1 g1 s2 g2) (wrapI s1 g1 a)) (wrapI (cmS s1 g1 s2 g2) (cmG s1 g1 s2 g2) (wrapI s2 g2 b))) != 0)
  · go_enter Tryz.func8, Tryz.ntmps8
    go_wp2_with first | (go_at_call 29; (refine (HK _).mono ?_); rintro e w1 ⟨rfl, hb⟩; obtain ⟨os, n, rfl⟩ := Below.moreE hb; clear hb) | (go_at_call 19; (refine (rwrapped_any _ _ _ _).mono ?_); rintro e w1 ⟨rfl, hb⟩; obtain ⟨os, n, rfl⟩ := Below.moreE hb; clear hb) | (go_at_call 31; (refine (HC _ ?hpp).mono ?_; case hpp => exact ⟨by go_simp, by go_simp, by go_simp, by go_simp, by go_simp, by go_simp, by go_simp, by go_simp⟩); rintro e w1 ⟨rfl, hb⟩; obtain ⟨os, n, rfl⟩ := Below.moreE hb; clear hb) | (go_at_call 32; (refine (HO _).mono ?_); rintro e w1 ⟨rfl, hb⟩; obtain ⟨os, n, rfl⟩ := Below.moreE hb; clear hb) | (go_at_call 21; (refine (rtruth_any false _ ?hpp).mono ?_; case hpp => exact ⟨by go_simp, by go_simp⟩); rintro e w1 ⟨rfl, hb⟩; obtain ⟨os, n, rfl⟩ := Below.moreE hb; clear hb)
    refine bodyPost_ret (v := valV 4 true 0 0) (by simp [results, Tryz.results8, go_sem]) rfl ⟨by simp, (Gr.below (by repeat (first | (with_reducible exact Gr.refl _) | with_reducible refine Gr.alloc ?_ _ | with_reducible refine Gr.more ?_ _ _ | with_reducible refine Gr.setCell ?_ (by dsimp only; omega) _ | with_reducible refine Gr.drew ?_)))⟩
  · go_enter Tryz.func8, Tryz.ntmps8
    go_wp2_with first | (go_at_call 29; (refine (HK _).mono ?_); rintro e w1 ⟨rfl, hb⟩; obtain ⟨os, n, rfl⟩ := Below.moreE hb; clear hb) | (go_at_call 19; (refine (rwrapped_any _ _ _ _).mono ?_); rintro e w1 ⟨rfl, hb⟩; obtain ⟨os, n, rfl⟩ := Below.moreE hb; clear hb) | (go_at_call 31; (refine (HC _ ?hpp).mono ?_; case hpp => exact ⟨by go_simp, by go_simp, by go_simp, by go_simp, by go_simp, by go_simp, by go_simp, by go_simp⟩); rintro e w1 ⟨rfl, hb⟩; obtain ⟨os, n, rfl⟩ := Below.moreE hb; clear hb) | (go_at_call 32; (refine (HO _).mono ?_); rintro e w1 ⟨rfl, hb⟩; obtain ⟨os, n, rfl⟩ := Below.moreE hb; clear hb) | (go_at_call 21; (refine (rtruth_any true _ ?hpp).mono ?_; case hpp => exact ⟨by go_simp, by go_simp⟩); rintro e w1 ⟨rfl, hb⟩; obtain ⟨os, n, rfl⟩ := Below.moreE hb; clear hb)
    refine bodyPost_ret (v := valV 4 true 1 0) (by simp [results, Tryz.results8, go_sem]) rfl ⟨by simp, (Gr.below (by repeat (first | (with_reducible exact Gr.refl _) | with_reducible refine Gr.alloc ?_ _ | with_reducible refine Gr.more ?_ _ _ | with_reducible refine Gr.setCell ?_ (by dsimp only; omega) _ | with_reducible refine Gr.drew ?_)))⟩

end Go.Proofs.YtojcdjpaojgkkaaGreatDoor

namespace Go.Proofs.YtojcdjpaojgkkaaGreatDoor
open Go.RowKit

set_option maxRecDepth 100000 in
set_option maxHeartbeats 4000000 in
theorem rbi_9 (s1 : Int) (g1 : Bool) (a : Int) (s2 : Int) (g2 : Bool) (b : Int) (w : World) (v1 : validB s1 = true) (v2 : validB s2 = true) (ha : I64 a) (hq : PR8 w) : Calls Tryz.prog 8 #[.int .i64 9, tyV s1 g1, .int .i64 a, tyV s2 g2, .int .i64 b] w fun e w' => e = .returned (valV (prS s1) (prG s1 g1) (wrapI (prS s1) (prG s1 g1) (shI 9 (prG s1 g1) (wrapI (prS s1) (prG s1 g1) (wrapI s1 g1 a)) (cntI (prS s1) (wrapI s2 g2 b)))) 0) ∧ Below w.heap.size w w' := by
  have hx := Rg_wrap s1 g1 a ha
  have HS := fun w => rshifted_any 9 (by omega) (prS_of s1 v1) (prG s1 g1) (wrapI s1 g1 a) (wrapI s2 g2 b) (Rg_pro v1 g1 hx) w
  have ev : (wrapI (prS s1) (prG s1 g1) (shI 9 (prG s1 g1) (wrapI (prS s1) (prG s1 g1) (wrapI s1 g1 a)) (cntI (prS s1) (wrapI s2 g2 b)))) = shVI 9 (prS s1) (prG s1 g1) (wrapI s1 g1 a) (cntI (prS s1) (wrapI s2 g2 b)) := by rw [pro_id v1 g1 hx]; rfl
  rw [ev]
  clear ev hx ha
  have HK := rboth_ok v1 v2 g1 g2
  have HP := rpromoted_any s1 g1
  obtain ⟨q0, q1, q2, q3, q4, q5, q6, q7⟩ := hq
  have zq := szc q0
  go_enter Tryz.func8, Tryz.ntmps8
  go_upto_region 9 with first | (go_at_call 29; (refine (HK _).mono ?_); rintro e w1 ⟨rfl, hb⟩; obtain ⟨os, n, rfl⟩ := Below.moreE hb; clear hb) | (go_at_call 19; (refine (rwrapped_any _ _ _ _).mono ?_); rintro e w1 ⟨rfl, hb⟩; obtain ⟨os, n, rfl⟩ := Below.moreE hb; clear hb)
  go_cut [12] (fun s12 wx => ∃ B : Nat, s12 = .pointer (some ⟨B, 0, none⟩) ∧ (w.heap.size + 3 ≤ B ∧ B < wx.heap.size) ∧ wx.cell? ⟨B, 0, none⟩ = some (.int .i64 (prS s1)) ∧ wx.cell? ⟨B, 1, none⟩ = some (.bool (prG s1 g1)) ∧
    wx.cell? ⟨w.heap.size + 1 + 1, 0, none⟩ = some (.int .i64 0) ∧ wx.cell? ⟨w.heap.size + 1 + 1, 1, none⟩ = some (.bool false) ∧ wx.cell? ⟨w.heap.size + 1 + 1, 2, none⟩ = some (.int .i64 0) ∧ wx.cell? ⟨w.heap.size + 1 + 1, 3, none⟩ = some (.int .i64 0) ∧
    wx.frozen? ⟨w.heap.size + 1 + 1, 0, none⟩ = false ∧ wx.frozen? ⟨w.heap.size + 1 + 1, 1, none⟩ = false ∧ wx.frozen? ⟨w.heap.size + 1 + 1, 2, none⟩ = false ∧ wx.frozen? ⟨w.heap.size + 1 + 1, 3, none⟩ = false ∧ Below w.heap.size w wx)
  case first =>
    go_wp2_with (go_at_call 20; (refine (HP _ ?hpp).mono ?_; case hpp => exact ⟨by go_simp, by go_simp, by go_simp, by go_simp, by go_simp, by go_simp, by go_simp, by go_simp⟩); rintro e w1 ⟨rfl, hb⟩; obtain ⟨os, n, rfl⟩ := Below.moreE hb; clear hb)
    go_meet
    exact ⟨_, rfl, ⟨by simp <;> omega, by simp <;> omega⟩, by go_simp, by go_simp, by go_simp, by go_simp, by go_simp, by go_simp, by go_simp, by go_simp, by go_simp, by go_simp, (Gr.below (by repeat (first | (with_reducible exact Gr.refl _) | with_reducible refine Gr.alloc ?_ _ | with_reducible refine Gr.more ?_ _ _ | with_reducible refine Gr.setCell ?_ (by dsimp only; omega) _ | with_reducible refine Gr.drew ?_)))⟩
  case rest =>
  obtain ⟨B, rfl, ⟨b0, b1⟩, c0, c1, r0, r1, r2, r3, f0, f1, f2, f3, hB⟩ := hcut
  have hG : Gr w.heap.size w wc := ⟨hB, by omega⟩
  clear q0 q1 q2 q3 q4 q5 q6 q7 zq hB HP HK
  go_upto_region 10 with fail
  go_region_held3 (fun w' => w'.cell? ⟨B, 0, none⟩ = some (.int .i64 (prS s1)) ∧ w'.cell? ⟨B, 1, none⟩ = some (.bool (prG s1 g1))) (exact ⟨by go_simp, by go_simp⟩) (first | (go_at_call 30; (refine (HS _).mono ?_); rintro e w1 ⟨rfl, hb⟩; obtain ⟨os, n, rfl⟩ := Below.moreE hb; clear hb))
  go_wp2
  refine bodyPost_ret (v := valV (prS s1) (prG s1 g1) (shVI 9 (prS s1) (prG s1 g1) (wrapI s1 g1 a) (cntI (prS s1) (wrapI s2 g2 b))) 0) ?_ rfl ⟨rfl, ?_⟩
  · simp [results, Tryz.results8, go_sem, *]
  · refine Gr.below ?_
    repeat (first | (with_reducible exact hG) | with_reducible refine Gr.alloc ?_ _ | with_reducible refine Gr.more ?_ _ _ | with_reducible refine Gr.setCell ?_ (by dsimp only; omega) _ | with_reducible refine Gr.drew ?_)

set_option maxRecDepth 100000 in
set_option maxHeartbeats 4000000 in
theorem rbi_10 (s1 : Int) (g1 : Bool) (a : Int) (s2 : Int) (g2 : Bool) (b : Int) (w : World) (v1 : validB s1 = true) (v2 : validB s2 = true) (ha : I64 a) (hq : PR8 w) : Calls Tryz.prog 8 #[.int .i64 10, tyV s1 g1, .int .i64 a, tyV s2 g2, .int .i64 b] w fun e w' => e = .returned (valV (prS s1) (prG s1 g1) (wrapI (prS s1) (prG s1 g1) (shI 10 (prG s1 g1) (wrapI (prS s1) (prG s1 g1) (wrapI s1 g1 a)) (cntI (prS s1) (wrapI s2 g2 b)))) 0) ∧ Below w.heap.size w w' := by
  have hx := Rg_wrap s1 g1 a ha
  have HS := fun w => rshifted_any 10 (by omega) (prS_of s1 v1) (prG s1 g1) (wrapI s1 g1 a) (wrapI s2 g2 b) (Rg_pro v1 g1 hx) w
  have ev : (wrapI (prS s1) (prG s1 g1) (shI 10 (prG s1 g1) (wrapI (prS s1) (prG s1 g1) (wrapI s1 g1 a)) (cntI (prS s1) (wrapI s2 g2 b)))) = shVI 10 (prS s1) (prG s1 g1) (wrapI s1 g1 a) (cntI (prS s1) (wrapI s2 g2 b)) := by rw [pro_id v1 g1 hx]; rfl
  rw [ev]
  clear ev hx ha
  have HK := rboth_ok v1 v2 g1 g2
  have HP := rpromoted_any s1 g1
  obtain ⟨q0, q1, q2, q3, q4, q5, q6, q7⟩ := hq
  have zq := szc q0
  go_enter Tryz.func8, Tryz.ntmps8
  go_upto_region 9 with first | (go_at_call 29; (refine (HK _).mono ?_); rintro e w1 ⟨rfl, hb⟩; obtain ⟨os, n, rfl⟩ := Below.moreE hb; clear hb) | (go_at_call 19; (refine (rwrapped_any _ _ _ _).mono ?_); rintro e w1 ⟨rfl, hb⟩; obtain ⟨os, n, rfl⟩ := Below.moreE hb; clear hb)
  go_cut [12] (fun s12 wx => ∃ B : Nat, s12 = .pointer (some ⟨B, 0, none⟩) ∧ (w.heap.size + 3 ≤ B ∧ B < wx.heap.size) ∧ wx.cell? ⟨B, 0, none⟩ = some (.int .i64 (prS s1)) ∧ wx.cell? ⟨B, 1, none⟩ = some (.bool (prG s1 g1)) ∧
    wx.cell? ⟨w.heap.size + 1 + 1, 0, none⟩ = some (.int .i64 0) ∧ wx.cell? ⟨w.heap.size + 1 + 1, 1, none⟩ = some (.bool false) ∧ wx.cell? ⟨w.heap.size + 1 + 1, 2, none⟩ = some (.int .i64 0) ∧ wx.cell? ⟨w.heap.size + 1 + 1, 3, none⟩ = some (.int .i64 0) ∧
    wx.frozen? ⟨w.heap.size + 1 + 1, 0, none⟩ = false ∧ wx.frozen? ⟨w.heap.size + 1 + 1, 1, none⟩ = false ∧ wx.frozen? ⟨w.heap.size + 1 + 1, 2, none⟩ = false ∧ wx.frozen? ⟨w.heap.size + 1 + 1, 3, none⟩ = false ∧ Below w.heap.size w wx)
  case first =>
    go_wp2_with (go_at_call 20; (refine (HP _ ?hpp).mono ?_; case hpp => exact ⟨by go_simp, by go_simp, by go_simp, by go_simp, by go_simp, by go_simp, by go_simp, by go_simp⟩); rintro e w1 ⟨rfl, hb⟩; obtain ⟨os, n, rfl⟩ := Below.moreE hb; clear hb)
    go_meet
    exact ⟨_, rfl, ⟨by simp <;> omega, by simp <;> omega⟩, by go_simp, by go_simp, by go_simp, by go_simp, by go_simp, by go_simp, by go_simp, by go_simp, by go_simp, by go_simp, (Gr.below (by repeat (first | (with_reducible exact Gr.refl _) | with_reducible refine Gr.alloc ?_ _ | with_reducible refine Gr.more ?_ _ _ | with_reducible refine Gr.setCell ?_ (by dsimp only; omega) _ | with_reducible refine Gr.drew ?_)))⟩
  case rest =>
  obtain ⟨B, rfl, ⟨b0, b1⟩, c0, c1, r0, r1, r2, r3, f0, f1, f2, f3, hB⟩ := hcut
  have hG : Gr w.heap.size w wc := ⟨hB, by omega⟩
  clear q0 q1 q2 q3 q4 q5 q6 q7 zq hB HP HK
  go_upto_region 10 with fail
  go_region_held3 (fun w' => w'.cell? ⟨B, 0, none⟩ = some (.int .i64 (prS s1)) ∧ w'.cell? ⟨B, 1, none⟩ = some (.bool (prG s1 g1))) (exact ⟨by go_simp, by go_simp⟩) (first | (go_at_call 30; (refine (HS _).mono ?_); rintro e w1 ⟨rfl, hb⟩; obtain ⟨os, n, rfl⟩ := Below.moreE hb; clear hb))
  go_wp2
  refine bodyPost_ret (v := valV (prS s1) (prG s1 g1) (shVI 10 (prS s1) (prG s1 g1) (wrapI s1 g1 a) (cntI (prS s1) (wrapI s2 g2 b))) 0) ?_ rfl ⟨rfl, ?_⟩
  · simp [results, Tryz.results8, go_sem, *]
  · refine Gr.below ?_
    repeat (first | (with_reducible exact hG) | with_reducible refine Gr.alloc ?_ _ | with_reducible refine Gr.more ?_ _ _ | with_reducible refine Gr.setCell ?_ (by dsimp only; omega) _ | with_reducible refine Gr.drew ?_)

set_option maxRecDepth 100000 in
set_option maxHeartbeats 2000000 in
theorem rbi_none (op : Int) (ho : op < 1 ∨ 16 < op) (s1 : Int) (g1 : Bool) (a : Int) (s2 : Int) (g2 : Bool) (b : Int) (w : World) (v1 : validB s1 = true) (v2 : validB s2 = true) : Calls Tryz.prog 8 #[.int .i64 op, tyV s1 g1, .int .i64 a, tyV s2 g2, .int .i64 b] w fun e w' => e = .returned (valV 0 false 0 11) ∧ Below w.heap.size w w' := by
  have HK := rboth_ok v1 v2 g1 g2
  by_cases h1 : op < 1
  · clear ho
    go_enter Tryz.func8, Tryz.ntmps8
    go_wp2_with first | (go_at_call 29; (refine (HK _).mono ?_); rintro e w1 ⟨rfl, hb⟩; obtain ⟨os, n, rfl⟩ := Below.moreE hb; clear hb)
    refine bodyPost_ret (v := valV 0 false 0 11) (by simp [results, Tryz.results8, go_sem]) rfl ⟨rfl, (Gr.below (by repeat (first | (with_reducible exact Gr.refl _) | with_reducible refine Gr.alloc ?_ _ | with_reducible refine Gr.more ?_ _ _ | with_reducible refine Gr.setCell ?_ (by dsimp only; omega) _ | with_reducible refine Gr.drew ?_)))⟩
  · have h2 : 16 < op := by omega
    clear ho
    go_enter Tryz.func8, Tryz.ntmps8
    go_wp2_with first | (go_at_call 29; (refine (HK _).mono ?_); rintro e w1 ⟨rfl, hb⟩; obtain ⟨os, n, rfl⟩ := Below.moreE hb; clear hb)
    refine bodyPost_ret (v := valV 0 false 0 11) (by simp [results, Tryz.results8, go_sem]) rfl ⟨rfl, (Gr.below (by repeat (first | (with_reducible exact Gr.refl _) | with_reducible refine Gr.alloc ?_ _ | with_reducible refine Gr.more ?_ _ _ | with_reducible refine Gr.setCell ?_ (by dsimp only; omega) _ | with_reducible refine Gr.drew ?_)))⟩

set_option maxRecDepth 100000 in
set_option maxHeartbeats 2000000 in
theorem rbi_bad (op : Int) (s1 : Int) (g1 : Bool) (a : Int) (s2 : Int) (g2 : Bool) (b : Int) (w : World) (hv : (validB s1 && validB s2) = false) : Calls Tryz.prog 8 #[.int .i64 op, tyV s1 g1, .int .i64 a, tyV s2 g2, .int .i64 b] w fun e w' => e = .returned (valV 0 false 0 10) ∧ Below w.heap.size w w' := by
  have HK := rboth_bad hv g1 g2
  clear hv
  go_enter Tryz.func8, Tryz.ntmps8
  go_wp2_with first | (go_at_call 29; (refine (HK _).mono ?_); rintro e w1 ⟨rfl, hb⟩; obtain ⟨os, n, rfl⟩ := Below.moreE hb; clear hb)
  refine bodyPost_ret (v := valV 0 false 0 10) (by simp [results, Tryz.results8, go_sem]) rfl ⟨rfl, (Gr.below (by repeat (first | (with_reducible exact Gr.refl _) | with_reducible refine Gr.alloc ?_ _ | with_reducible refine Gr.more ?_ _ _ | with_reducible refine Gr.setCell ?_ (by dsimp only; omega) _ | with_reducible refine Gr.drew ?_)))⟩

/-- The answers of both programs. -/
@[reducible] def BothU (op s : Int) (g : Bool) (a : Int) (S : Int) (G : Bool) (V E : Int) : Prop :=
  (∀ w : World, PI w → Calls Tryz.prog 5 #[.int .i64 op, tyV s g, .int .i64 a] w fun e w' => e = .returned (triV S G V E) ∧ Below w.heap.size w w') ∧
  (∀ w : World, PR8 w → Calls Tryz.prog 6 #[.int .i64 op, tyV s g, .int .i64 a] w fun e w' => e = .returned (valV S G V E) ∧ Below w.heap.size w w')
@[reducible] def BothB (op s1 : Int) (g1 : Bool) (a s2 : Int) (g2 : Bool) (b : Int) (S : Int) (G : Bool) (V E : Int) : Prop :=
  (∀ w : World, PI w → Calls Tryz.prog 7 #[.int .i64 op, tyV s1 g1, .int .i64 a, tyV s2 g2, .int .i64 b] w fun e w' => e = .returned (triV S G V E) ∧ Below w.heap.size w w') ∧
  (∀ w : World, PR8 w → Calls Tryz.prog 8 #[.int .i64 op, tyV s1 g1, .int .i64 a, tyV s2 g2, .int .i64 b] w fun e w' => e = .returned (valV S G V E) ∧ Below w.heap.size w w')

theorem both_u (op : Int) (hw : (Lit.int .i64 op).wf = true) (s : Int) (g : Bool) (a : Int) (ha : I64 a) : ∃ S G V E, BothU op s g a S G V E := by
  cases v : validB s
  · exact ⟨0, false, 0, 10, fun w _ => bun_bad op v g a w, fun w _ => run_bad op v g a w⟩
  · by_cases h1 : op = 1
    · subst h1; exact ⟨_, _, _, _, fun w hp => bun_1 v g a w hp, fun w hq => run_1 v g a w hq⟩
    · by_cases h2 : op = 2
      · subst h2
        refine ⟨_, _, _, _, fun w hp => bun_2 v g a w hp, fun w hq => ?_⟩
        have hx := Rg_I64 (Rg_wrap s g a ha)
        have e : bits BinOp.xor .i64 (-1) (wrapI s g a) = wrap64 (wrap64 (-(wrapI s g a)) - 1) := by
          rw [bits_not _ hx.1 hx.2]
          obtain ⟨x1, x2⟩ := hx
          unfold wrap64
          omega
        rw [e]
        exact run_2 v g a w hq
      · by_cases h3 : op = 3
        · subst h3
          refine ⟨_, _, _, _, fun w hp => bun_3 v g a w hp, fun w hq => ?_⟩
          have e : wrapI 4 true (sel (wrapI s g a == 0) 1 0) = sel (wrapI s g a == 0) 1 0 := by
            cases (wrapI s g a == 0) <;> rfl
          rw [e]
          exact run_3 v g a w hq
        · have e1 := beq_eq_false_iff_ne.2 h1
          have e2 := beq_eq_false_iff_ne.2 h2
          have e3 := beq_eq_false_iff_ne.2 h3
          have n1 : ((1 : Int) == op) = false := beq_eq_false_iff_ne.2 (fun h => h1 h.symm)
          have n2 : ((2 : Int) == op) = false := beq_eq_false_iff_ne.2 (fun h => h2 h.symm)
          have n3 : ((3 : Int) == op) = false := beq_eq_false_iff_ne.2 (fun h => h3 h.symm)
          exact ⟨0, false, 0, 11, fun w _ => bun_none op hw (by simp [fnV, unL, n1, n2, n3]) (by simp [fnH, unL, n1, n2, n3]) v g a w, fun w hq => run_none op e1 e2 e3 v g a w hq⟩
end Go.Proofs.YtojcdjpaojgkkaaGreatDoor

namespace Go.Proofs.YtojcdjpaojgkkaaGreatDoor
open Go.RowKit

/-- A box that holds two types; one that holds an answer of the reference. -/
structure Box4 (W : World) (b : Nat) (s : Int) (g : Bool) (t : Int) (d : Bool) : Prop where
  c0 : W.cell? ⟨b, 0, none⟩ = some (.int .i64 s)
  c1 : W.cell? ⟨b, 1, none⟩ = some (.bool g)
  c2 : W.cell? ⟨b, 2, none⟩ = some (.int .i64 t)
  c3 : W.cell? ⟨b, 3, none⟩ = some (.bool d)
theorem Box4.up {W W' : World} (gr : Gr W.heap.size W W') {b : Nat} {s : Int} {g : Bool} {t : Int} {d : Bool} (h : Box4 W b s g t d) : Box4 W' b s g t d := ⟨grC gr h.c0, grC gr h.c1, grC gr h.c2, grC gr h.c3⟩
structure BoxV (W : World) (b : Nat) (s : Int) (g : Bool) (v e : Int) : Prop where
  c0 : W.cell? ⟨b, 0, none⟩ = some (.int .i64 s)
  c1 : W.cell? ⟨b, 1, none⟩ = some (.bool g)
  c2 : W.cell? ⟨b, 2, none⟩ = some (.int .i64 v)
  c3 : W.cell? ⟨b, 3, none⟩ = some (.int .i64 e)
theorem BoxV.up {W W' : World} (gr : Gr W.heap.size W W') {b : Nat} {s : Int} {g : Bool} {v e : Int} (h : BoxV W b s g v e) : BoxV W' b s g v e := ⟨grC gr h.c0, grC gr h.c1, grC gr h.c2, grC gr h.c3⟩

/-- Region 2 of law.BitsOperates. -/
noncomputable def oper_r2_code : Code := ((Tryz.f3.body).bind (Code.findR 2)).getD .skip
set_option maxRecDepth 100000 in
set_option maxHeartbeats 4000000 in
theorem oper_r2 {Q : Exit → Act → World → Prop} {u1 u2 u3 u6 u7 u8 u9 u10 u11 u12 u13 u14 u15 u16 u17 u18 u19 u20 u21 u22 u23 u24 u25 u26 u27 u28 u29 u30 u31 u32 u33 u34 u35 u36 u37 u38 u39 u40 u41 u42 u43 u44 u45 u46 u47 u48 u49 u50 u51 u52 u53 u54 u55 u56 u57 u58 u59 u60 u61 u62 u63 u64 u65 u66 u67 u68 u69 u70 u71 u72 u73 u74 u75 u76 u77 u78 u79 u80 u81 u82 u83 u84 u85 u86 u87 u88 u89 u90 u91 u92 u93 : Value} {W : World} {a b : Nat} {op s t i j S V E : Int} {g d G : Bool} (hp : PI W) (ha : Box4 W a s g t d) (hb : Box2 W b i j) (HX : ∀ w : World, PI w → Calls Tryz.prog 5 #[.int .i64 op, tyV s g, .int .i64 i] w fun e w' => e = .returned (triV S G V E) ∧ Below w.heap.size w w') (hQ : ∀ (v18 v19 v20 v21 v22 v23 v17 v24 v25 v26 : Value) (b8 : Nat) (W' : World), Gr W.heap.size W W' → W.heap.size ≤ b8 → b8 < W'.heap.size → W'.cell? ⟨b8, 0, none⟩ = some (.int .i64 S) → W'.cell? ⟨b8, 1, none⟩ = some (.bool G) → Q .normal ⟨#[.int .i64 op, u1, u2, u3, .pointer (some ⟨a, 0, none⟩), .pointer (some ⟨b, 0, none⟩), u6, u7, .pointer (some ⟨b8, 0, none⟩), .int .i64 V, .int .i64 E, u11, u12, u13, u14, u15, u16, v17, v18, v19, v20, v21, v22, v23, v24, v25, v26, u27, u28, u29, u30, u31, u32, u33, u34, u35, u36, u37, u38, u39, u40, u41, u42, u43, u44, u45, u46, u47, u48, u49, u50, u51, u52, u53, u54, u55, u56, u57, u58, u59, u60, u61, u62, u63, u64, u65, u66, u67, u68, u69, u70, u71, u72, u73, u74, u75, u76, u77, u78, u79, u80, u81, u82, u83, u84, u85, u86, u87, u88, u89, u90, u91, u92, u93], []⟩ W') : Code.wp Tryz.prog oper_r2_code Q ⟨#[.int .i64 op, u1, u2, u3, .pointer (some ⟨a, 0, none⟩), .pointer (some ⟨b, 0, none⟩), u6, u7, u8, u9, u10, u11, u12, u13, u14, u15, u16, u17, u18, u19, u20, u21, u22, u23, u24, u25, u26, u27, u28, u29, u30, u31, u32, u33, u34, u35, u36, u37, u38, u39, u40, u41, u42, u43, u44, u45, u46, u47, u48, u49, u50, u51, u52, u53, u54, u55, u56, u57, u58, u59, u60, u61, u62, u63, u64, u65, u66, u67, u68, u69, u70, u71, u72, u73, u74, u75, u76, u77, u78, u79, u80, u81, u82, u83, u84, u85, u86, u87, u88, u89, u90, u91, u92, u93], []⟩ W := by
  obtain ⟨p0, p1, hsz⟩ := hp
  obtain ⟨a0, a1, a2, a3⟩ := ha
  have za := szc a0
  obtain ⟨b0, b1⟩ := hb
  have zb := szc b0
  conv => arg 2; whnf
  go_wp2_with first | (go_at_call 5; (with_reducible refine (HX _ ?hpp).mono ?_); (try case hpp => exact ⟨by go_simp, by go_simp, by go_simp <;> omega⟩); rintro e w1 ⟨rfl, hb⟩; obtain ⟨os, n, rfl⟩ := Below.moreE hb; clear hb)
  all_goals
    exact hQ _ _ _ _ _ _ _ _ _ _ _ _ (by repeat (first | (with_reducible exact Gr.refl _) | with_reducible refine Gr.alloc ?_ _ | with_reducible refine Gr.more ?_ _ _ | with_reducible refine Gr.setCell ?_ (by dsimp only; omega) _ | with_reducible refine Gr.drew ?_)) (by (first | omega | (simp; done) | (simp; omega))) (by (first | omega | (simp; done) | (simp; omega))) (by go_simp) (by go_simp)

/-- Region 3 of law.BitsOperates. -/
noncomputable def oper_r3_code : Code := ((Tryz.f3.body).bind (Code.findR 3)).getD .skip
set_option maxRecDepth 100000 in
set_option maxHeartbeats 4000000 in
theorem oper_r3 {Q : Exit → Act → World → Prop} {u1 u2 u3 u6 u7 u8 u9 u10 u11 u12 u13 u14 u15 u16 u17 u18 u19 u20 u21 u22 u23 u24 u25 u26 u27 u28 u29 u30 u31 u32 u33 u34 u35 u36 u37 u38 u39 u40 u41 u42 u43 u44 u45 u46 u47 u48 u49 u50 u51 u52 u53 u54 u55 u56 u57 u58 u59 u60 u61 u62 u63 u64 u65 u66 u67 u68 u69 u70 u71 u72 u73 u74 u75 u76 u77 u78 u79 u80 u81 u82 u83 u84 u85 u86 u87 u88 u89 u90 u91 u92 u93 : Value} {W : World} {a b : Nat} {op s t i j S V E : Int} {g d G : Bool} (hq : PR8 W) (ha : Box4 W a s g t d) (hb : Box2 W b i j) (HX : ∀ w : World, PR8 w → Calls Tryz.prog 6 #[.int .i64 op, tyV s g, .int .i64 i] w fun e w' => e = .returned (valV S G V E) ∧ Below w.heap.size w w') (hQ : ∀ (v27 v28 v29 v30 v31 v32 : Value) (b11 : Nat) (W' : World), Gr W.heap.size W W' → W.heap.size ≤ b11 → b11 < W'.heap.size → W'.cell? ⟨b11, 0, none⟩ = some (.int .i64 S) → W'.cell? ⟨b11, 1, none⟩ = some (.bool G) → W'.cell? ⟨b11, 2, none⟩ = some (.int .i64 V) → W'.cell? ⟨b11, 3, none⟩ = some (.int .i64 E) → Q .normal ⟨#[.int .i64 op, u1, u2, u3, .pointer (some ⟨a, 0, none⟩), .pointer (some ⟨b, 0, none⟩), u6, u7, u8, u9, u10, .pointer (some ⟨b11, 0, none⟩), u12, u13, u14, u15, u16, u17, u18, u19, u20, u21, u22, u23, u24, u25, u26, v27, v28, v29, v30, v31, v32, u33, u34, u35, u36, u37, u38, u39, u40, u41, u42, u43, u44, u45, u46, u47, u48, u49, u50, u51, u52, u53, u54, u55, u56, u57, u58, u59, u60, u61, u62, u63, u64, u65, u66, u67, u68, u69, u70, u71, u72, u73, u74, u75, u76, u77, u78, u79, u80, u81, u82, u83, u84, u85, u86, u87, u88, u89, u90, u91, u92, u93], []⟩ W') : Code.wp Tryz.prog oper_r3_code Q ⟨#[.int .i64 op, u1, u2, u3, .pointer (some ⟨a, 0, none⟩), .pointer (some ⟨b, 0, none⟩), u6, u7, u8, u9, u10, u11, u12, u13, u14, u15, u16, u17, u18, u19, u20, u21, u22, u23, u24, u25, u26, u27, u28, u29, u30, u31, u32, u33, u34, u35, u36, u37, u38, u39, u40, u41, u42, u43, u44, u45, u46, u47, u48, u49, u50, u51, u52, u53, u54, u55, u56, u57, u58, u59, u60, u61, u62, u63, u64, u65, u66, u67, u68, u69, u70, u71, u72, u73, u74, u75, u76, u77, u78, u79, u80, u81, u82, u83, u84, u85, u86, u87, u88, u89, u90, u91, u92, u93], []⟩ W := by
  obtain ⟨q0, q1, q2, q3, q4, q5, q6, q7⟩ := hq
  have zq := szc q0
  obtain ⟨a0, a1, a2, a3⟩ := ha
  have za := szc a0
  obtain ⟨b0, b1⟩ := hb
  have zb := szc b0
  conv => arg 2; whnf
  go_wp2_with first | (go_at_call 6; (with_reducible refine (HX _ ?hpp).mono ?_); (try case hpp => exact ⟨by go_simp, by go_simp, by go_simp, by go_simp, by go_simp, by go_simp, by go_simp, by go_simp⟩); rintro e w1 ⟨rfl, hb⟩; obtain ⟨os, n, rfl⟩ := Below.moreE hb; clear hb)
  all_goals
    exact hQ _ _ _ _ _ _ _ _ (by repeat (first | (with_reducible exact Gr.refl _) | with_reducible refine Gr.alloc ?_ _ | with_reducible refine Gr.more ?_ _ _ | with_reducible refine Gr.setCell ?_ (by dsimp only; omega) _ | with_reducible refine Gr.drew ?_)) (by (first | omega | (simp; done) | (simp; omega))) (by (first | omega | (simp; done) | (simp; omega))) (by go_simp) (by go_simp) (by go_simp) (by go_simp)

/-- Region 4 of law.BitsOperates. -/
noncomputable def oper_r4_code : Code := ((Tryz.f3.body).bind (Code.findR 4)).getD .skip
set_option maxRecDepth 100000 in
set_option maxHeartbeats 4000000 in
theorem oper_r4 {Q : Exit → Act → World → Prop} {u1 u2 u3 u6 u7 u8 u9 u10 u11 u12 u13 u14 u15 u16 u17 u18 u19 u20 u21 u22 u23 u24 u25 u26 u27 u28 u29 u30 u31 u32 u33 u34 u35 u36 u37 u38 u39 u40 u41 u42 u43 u44 u45 u46 u47 u48 u49 u50 u51 u52 u53 u54 u55 u56 u57 u58 u59 u60 u61 u62 u63 u64 u65 u66 u67 u68 u69 u70 u71 u72 u73 u74 u75 u76 u77 u78 u79 u80 u81 u82 u83 u84 u85 u86 u87 u88 u89 u90 u91 u92 u93 : Value} {W : World} {a b : Nat} {op s t i j S V E : Int} {g d G : Bool} (hp : PI W) (ha : Box4 W a s g t d) (hb : Box2 W b i j) (HX : ∀ w : World, PI w → Calls Tryz.prog 7 #[.int .i64 op, tyV s g, .int .i64 i, tyV t d, .int .i64 j] w fun e w' => e = .returned (triV S G V E) ∧ Below w.heap.size w w') (hQ : ∀ (v34 v35 v36 v37 v38 v39 v40 v41 v42 v43 v33 v44 v45 v46 : Value) (b12 : Nat) (W' : World), Gr W.heap.size W W' → W.heap.size ≤ b12 → b12 < W'.heap.size → W'.cell? ⟨b12, 0, none⟩ = some (.int .i64 S) → W'.cell? ⟨b12, 1, none⟩ = some (.bool G) → Q .normal ⟨#[.int .i64 op, u1, u2, u3, .pointer (some ⟨a, 0, none⟩), .pointer (some ⟨b, 0, none⟩), u6, u7, u8, u9, u10, u11, .pointer (some ⟨b12, 0, none⟩), .int .i64 V, .int .i64 E, u15, u16, u17, u18, u19, u20, u21, u22, u23, u24, u25, u26, u27, u28, u29, u30, u31, u32, v33, v34, v35, v36, v37, v38, v39, v40, v41, v42, v43, v44, v45, v46, u47, u48, u49, u50, u51, u52, u53, u54, u55, u56, u57, u58, u59, u60, u61, u62, u63, u64, u65, u66, u67, u68, u69, u70, u71, u72, u73, u74, u75, u76, u77, u78, u79, u80, u81, u82, u83, u84, u85, u86, u87, u88, u89, u90, u91, u92, u93], []⟩ W') : Code.wp Tryz.prog oper_r4_code Q ⟨#[.int .i64 op, u1, u2, u3, .pointer (some ⟨a, 0, none⟩), .pointer (some ⟨b, 0, none⟩), u6, u7, u8, u9, u10, u11, u12, u13, u14, u15, u16, u17, u18, u19, u20, u21, u22, u23, u24, u25, u26, u27, u28, u29, u30, u31, u32, u33, u34, u35, u36, u37, u38, u39, u40, u41, u42, u43, u44, u45, u46, u47, u48, u49, u50, u51, u52, u53, u54, u55, u56, u57, u58, u59, u60, u61, u62, u63, u64, u65, u66, u67, u68, u69, u70, u71, u72, u73, u74, u75, u76, u77, u78, u79, u80, u81, u82, u83, u84, u85, u86, u87, u88, u89, u90, u91, u92, u93], []⟩ W := by
  obtain ⟨p0, p1, hsz⟩ := hp
  obtain ⟨a0, a1, a2, a3⟩ := ha
  have za := szc a0
  obtain ⟨b0, b1⟩ := hb
  have zb := szc b0
  conv => arg 2; whnf
  go_wp2_with first | (go_at_call 7; (with_reducible refine (HX _ ?hpp).mono ?_); (try case hpp => exact ⟨by go_simp, by go_simp, by go_simp <;> omega⟩); rintro e w1 ⟨rfl, hb⟩; obtain ⟨os, n, rfl⟩ := Below.moreE hb; clear hb)
  all_goals
    exact hQ _ _ _ _ _ _ _ _ _ _ _ _ _ _ _ _ (by repeat (first | (with_reducible exact Gr.refl _) | with_reducible refine Gr.alloc ?_ _ | with_reducible refine Gr.more ?_ _ _ | with_reducible refine Gr.setCell ?_ (by dsimp only; omega) _ | with_reducible refine Gr.drew ?_)) (by (first | omega | (simp; done) | (simp; omega))) (by (first | omega | (simp; done) | (simp; omega))) (by go_simp) (by go_simp)

/-- Region 5 of law.BitsOperates. -/
noncomputable def oper_r5_code : Code := ((Tryz.f3.body).bind (Code.findR 5)).getD .skip
set_option maxRecDepth 100000 in
set_option maxHeartbeats 4000000 in
theorem oper_r5 {Q : Exit → Act → World → Prop} {u1 u2 u3 u6 u7 u8 u9 u10 u11 u12 u13 u14 u15 u16 u17 u18 u19 u20 u21 u22 u23 u24 u25 u26 u27 u28 u29 u30 u31 u32 u33 u34 u35 u36 u37 u38 u39 u40 u41 u42 u43 u44 u45 u46 u47 u48 u49 u50 u51 u52 u53 u54 u55 u56 u57 u58 u59 u60 u61 u62 u63 u64 u65 u66 u67 u68 u69 u70 u71 u72 u73 u74 u75 u76 u77 u78 u79 u80 u81 u82 u83 u84 u85 u86 u87 u88 u89 u90 u91 u92 u93 : Value} {W : World} {a b : Nat} {op s t i j S V E : Int} {g d G : Bool} (hq : PR8 W) (ha : Box4 W a s g t d) (hb : Box2 W b i j) (HX : ∀ w : World, PR8 w → Calls Tryz.prog 8 #[.int .i64 op, tyV s g, .int .i64 i, tyV t d, .int .i64 j] w fun e w' => e = .returned (valV S G V E) ∧ Below w.heap.size w w') (hQ : ∀ (v47 v48 v49 v50 v51 v52 v53 v54 v55 v56 : Value) (b15 : Nat) (W' : World), Gr W.heap.size W W' → W.heap.size ≤ b15 → b15 < W'.heap.size → W'.cell? ⟨b15, 0, none⟩ = some (.int .i64 S) → W'.cell? ⟨b15, 1, none⟩ = some (.bool G) → W'.cell? ⟨b15, 2, none⟩ = some (.int .i64 V) → W'.cell? ⟨b15, 3, none⟩ = some (.int .i64 E) → Q .normal ⟨#[.int .i64 op, u1, u2, u3, .pointer (some ⟨a, 0, none⟩), .pointer (some ⟨b, 0, none⟩), u6, u7, u8, u9, u10, u11, u12, u13, u14, .pointer (some ⟨b15, 0, none⟩), u16, u17, u18, u19, u20, u21, u22, u23, u24, u25, u26, u27, u28, u29, u30, u31, u32, u33, u34, u35, u36, u37, u38, u39, u40, u41, u42, u43, u44, u45, u46, v47, v48, v49, v50, v51, v52, v53, v54, v55, v56, u57, u58, u59, u60, u61, u62, u63, u64, u65, u66, u67, u68, u69, u70, u71, u72, u73, u74, u75, u76, u77, u78, u79, u80, u81, u82, u83, u84, u85, u86, u87, u88, u89, u90, u91, u92, u93], []⟩ W') : Code.wp Tryz.prog oper_r5_code Q ⟨#[.int .i64 op, u1, u2, u3, .pointer (some ⟨a, 0, none⟩), .pointer (some ⟨b, 0, none⟩), u6, u7, u8, u9, u10, u11, u12, u13, u14, u15, u16, u17, u18, u19, u20, u21, u22, u23, u24, u25, u26, u27, u28, u29, u30, u31, u32, u33, u34, u35, u36, u37, u38, u39, u40, u41, u42, u43, u44, u45, u46, u47, u48, u49, u50, u51, u52, u53, u54, u55, u56, u57, u58, u59, u60, u61, u62, u63, u64, u65, u66, u67, u68, u69, u70, u71, u72, u73, u74, u75, u76, u77, u78, u79, u80, u81, u82, u83, u84, u85, u86, u87, u88, u89, u90, u91, u92, u93], []⟩ W := by
  obtain ⟨q0, q1, q2, q3, q4, q5, q6, q7⟩ := hq
  have zq := szc q0
  obtain ⟨a0, a1, a2, a3⟩ := ha
  have za := szc a0
  obtain ⟨b0, b1⟩ := hb
  have zb := szc b0
  conv => arg 2; whnf
  go_wp2_with first | (go_at_call 8; (with_reducible refine (HX _ ?hpp).mono ?_); (try case hpp => exact ⟨by go_simp, by go_simp, by go_simp, by go_simp, by go_simp, by go_simp, by go_simp, by go_simp⟩); rintro e w1 ⟨rfl, hb⟩; obtain ⟨os, n, rfl⟩ := Below.moreE hb; clear hb)
  all_goals
    exact hQ _ _ _ _ _ _ _ _ _ _ _ _ (by repeat (first | (with_reducible exact Gr.refl _) | with_reducible refine Gr.alloc ?_ _ | with_reducible refine Gr.more ?_ _ _ | with_reducible refine Gr.setCell ?_ (by dsimp only; omega) _ | with_reducible refine Gr.drew ?_)) (by (first | omega | (simp; done) | (simp; omega))) (by (first | omega | (simp; done) | (simp; omega))) (by go_simp) (by go_simp) (by go_simp) (by go_simp)

/-- Region 6 of law.BitsOperates. -/
noncomputable def oper_r6_code : Code := ((Tryz.f3.body).bind (Code.findR 6)).getD .skip
set_option maxRecDepth 100000 in
set_option maxHeartbeats 40000000 in
theorem oper_r6 {Q : Exit → Act → World → Prop} {u0 u1 u2 u3 u4 u5 u6 u16 u17 u18 u19 u20 u21 u22 u23 u24 u25 u26 u27 u28 u29 u30 u31 u32 u33 u34 u35 u36 u37 u38 u39 u40 u41 u42 u43 u44 u45 u46 u47 u48 u49 u50 u51 u52 u53 u54 u55 u56 u57 u58 u59 u60 u61 u62 u63 u64 u65 u66 u67 u68 u69 u70 u71 u72 u73 u74 u75 u76 u77 u78 u79 u80 u81 u82 u83 u84 u85 u86 u87 u88 u89 u90 u91 u92 u93 : Value} {W : World} {b1 b2 b3 b4 : Nat} {S V E S2 V2 E2 : Int} {G G2 : Bool} (h1 : BoxT W b1 S G) (h2 : BoxV W b2 S G V E) (h3 : BoxT W b3 S2 G2) (h4 : BoxV W b4 S2 G2 V2 E2) (hQ : ∀ (v57 v58 v59 v60 v61 v62 v63 v64 v65 v66 v67 v68 v69 v70 v71 v72 v73 v74 v75 v76 v77 v78 v79 v80 v81 v82 v83 v84 v85 v86 v87 v88 v89 v90 v91 v92 v93 : Value) (W' : World), Gr W.heap.size W W' → Q .normal ⟨#[u0, u1, u2, u3, u4, u5, .bool true, .bool true, .pointer (some ⟨b1, 0, none⟩), .int .i64 V, .int .i64 E, .pointer (some ⟨b2, 0, none⟩), .pointer (some ⟨b3, 0, none⟩), .int .i64 V2, .int .i64 E2, .pointer (some ⟨b4, 0, none⟩), u16, u17, u18, u19, u20, u21, u22, u23, u24, u25, u26, u27, u28, u29, u30, u31, u32, u33, u34, u35, u36, u37, u38, u39, u40, u41, u42, u43, u44, u45, u46, u47, u48, u49, u50, u51, u52, u53, u54, u55, u56, v57, v58, v59, v60, v61, v62, v63, v64, v65, v66, v67, v68, v69, v70, v71, v72, v73, v74, v75, v76, v77, v78, v79, v80, v81, v82, v83, v84, v85, v86, v87, v88, v89, v90, v91, v92, v93], []⟩ W') : Code.wp Tryz.prog oper_r6_code Q ⟨#[u0, u1, u2, u3, u4, u5, u6, .bool true, .pointer (some ⟨b1, 0, none⟩), .int .i64 V, .int .i64 E, .pointer (some ⟨b2, 0, none⟩), .pointer (some ⟨b3, 0, none⟩), .int .i64 V2, .int .i64 E2, .pointer (some ⟨b4, 0, none⟩), u16, u17, u18, u19, u20, u21, u22, u23, u24, u25, u26, u27, u28, u29, u30, u31, u32, u33, u34, u35, u36, u37, u38, u39, u40, u41, u42, u43, u44, u45, u46, u47, u48, u49, u50, u51, u52, u53, u54, u55, u56, u57, u58, u59, u60, u61, u62, u63, u64, u65, u66, u67, u68, u69, u70, u71, u72, u73, u74, u75, u76, u77, u78, u79, u80, u81, u82, u83, u84, u85, u86, u87, u88, u89, u90, u91, u92, u93], []⟩ W := by
  obtain ⟨x0, x1⟩ := h1
  obtain ⟨y0, y1, y2, y3⟩ := h2
  obtain ⟨z0, z1⟩ := h3
  obtain ⟨t0, t1, t2, t3⟩ := h4
  conv => arg 2; whnf
  go_wp2_with fail
  all_goals
    first | exact (by repeat (first | (with_reducible exact Gr.refl _) | with_reducible refine Gr.alloc ?_ _ | with_reducible refine Gr.more ?_ _ _ | with_reducible refine Gr.setCell ?_ (by dsimp only; omega) _ | with_reducible refine Gr.drew ?_)) | exact hQ _ _ _ _ _ _ _ _ _ _ _ _ _ _ _ _ _ _ _ _ _ _ _ _ _ _ _ _ _ _ _ _ _ _ _ _ _ _ (by repeat (first | (with_reducible exact Gr.refl _) | with_reducible refine Gr.alloc ?_ _ | with_reducible refine Gr.more ?_ _ _ | with_reducible refine Gr.setCell ?_ (by dsimp only; omega) _ | with_reducible refine Gr.drew ?_)) 

/-- What the law holds all along. -/
structure KOp (w W : World) (s : Int) (g : Bool) (t : Int) (d : Bool) (i j : Int) : Prop where
  a : Box4 W w.heap.size s g t d
  b : Box2 W (w.heap.size + 1) i j
  p : PI W
  q : PR8 W
  hB : Below w.heap.size w W
  hz : w.heap.size + 2 ≤ W.heap.size
theorem KOp.up {w W W' : World} (gr : Gr W.heap.size W W') {s : Int} {g : Bool} {t : Int} {d : Bool} {i j : Int} (h : KOp w W s g t d i j) : KOp w W' s g t d i j := by
  have hz := h.hz
  exact ⟨h.a.up gr, h.b.up gr, PI.up gr h.p, PR8.up gr h.q, h.hB.trans (gr.below.mono (by omega)), Nat.le_trans hz gr.size⟩

set_option maxRecDepth 100000 in
set_option maxHeartbeats 16000000 in
theorem oper_walk (op s : Int) (g : Bool) (t : Int) (d : Bool) (i j S V E S2 V2 E2 : Int) (G G2 : Bool) (HU : BothU op s g i S G V E) (HB : BothB op s g i t d j S2 G2 V2 E2) (w : World) (hp : PI w) (hE : EV w) (hq : PR8 w) : Calls Tryz.prog 3 #[.int .i64 op, .agg #[.int .i64 s, .bool g, .int .i64 t, .bool d], .agg #[.int .i64 i, .int .i64 j]] w fun e w' => e = .returned (.bool true) ∧ Below w.heap.size w w' := by
  obtain ⟨HU1, HU2⟩ := HU
  obtain ⟨HB1, HB2⟩ := HB
  obtain ⟨p0, p1, hsz⟩ := hp
  obtain ⟨q0, q1, q2, q3, q4, q5, q6, q7⟩ := hq
  obtain ⟨⟨es, e0, hes⟩, ⟨er, e1, her⟩, _⟩ := hE
  have Hes := Lib.hid hes
  have Her := Lib.hid her
  clear hes her
  go_enter Tryz.func3, Tryz.ntmps3
  go_upto_region 1 with fail
  go_cut [7] (fun s7 wx => s7 = .bool true ∧ KOp w wx s g t d i j)
  case first =>
    go_wp2_with (go_at_call 4; (refine (sane_any _ ?hpp ?hqq).mono ?_); (try case hpp => exact ⟨by go_simp, by go_simp, by go_simp <;> omega⟩); (try case hqq => exact ⟨⟨es, by go_simp, Hes.out⟩, ⟨er, by go_simp, Her.out⟩, by go_simp <;> omega⟩); rintro e w1 ⟨rfl, hb⟩; obtain ⟨os, n, rfl⟩ := Below.moreE hb; clear hb)
    go_meet
    exact ⟨rfl, ⟨by go_simp, by go_simp, by go_simp, by go_simp⟩, ⟨by go_simp, by go_simp⟩, ⟨by go_simp, by go_simp, by (first | omega | (simp; done) | (simp; omega))⟩, ⟨by go_simp, by go_simp, by go_simp, by go_simp, by go_simp, by go_simp, by go_simp, by go_simp⟩, (Gr.below (by repeat (first | (with_reducible exact Gr.refl _) | (with_reducible exact Gr.refl _) | with_reducible refine Gr.alloc ?_ _ | with_reducible refine Gr.more ?_ _ _ | with_reducible refine Gr.setCell ?_ (by dsimp only; omega) _ | with_reducible refine Gr.drew ?_))), by (first | omega | (simp; done) | (simp; omega))⟩
  case rest =>
  clear hsz p0 p1 q0 q1 q2 q3 q4 q5 q6 q7 e0 e1 Hes Her
  obtain ⟨rfl, hK⟩ := hcut
  go_upto_region 2 with fail
  refine oper_r2 hK.p hK.a hK.b HU1 ?_
  intro _ _ _ _ _ _ _ _ _ _ b8 W2 g2 bl bu bx by1
  replace hK := KOp.up g2 hK
  have hb8 : BoxT W2 b8 _ _ := ⟨bx, by1⟩
  clear bx by1 bl bu
  go_upto_region 3 with fail
  refine oper_r3 hK.q hK.a hK.b HU2 ?_
  intro _ _ _ _ _ _ b11 W3 g3 bl bu v0 v1 v2 v3
  replace hK := KOp.up g3 hK
  replace hb8 := BoxT.up g3 hb8
  have hb11 : BoxV W3 b11 _ _ _ _ := ⟨v0, v1, v2, v3⟩
  clear v0 v1 v2 v3 bl bu
  go_upto_region 4 with fail
  refine oper_r4 hK.p hK.a hK.b HB1 ?_
  intro _ _ _ _ _ _ _ _ _ _ _ _ _ _ b12 W4 g4 bl bu bx by1
  replace hK := KOp.up g4 hK
  replace hb8 := BoxT.up g4 hb8
  replace hb11 := BoxV.up g4 hb11
  have hb12 : BoxT W4 b12 _ _ := ⟨bx, by1⟩
  clear bx by1 bl bu
  go_upto_region 5 with fail
  refine oper_r5 hK.q hK.a hK.b HB2 ?_
  intro _ _ _ _ _ _ _ _ _ _ b15 W5 g5 bl bu v0 v1 v2 v3
  replace hK := KOp.up g5 hK
  replace hb8 := BoxT.up g5 hb8
  replace hb12 := BoxT.up g5 hb12
  replace hb11 := BoxV.up g5 hb11
  have hb15 : BoxV W5 b15 _ _ _ _ := ⟨v0, v1, v2, v3⟩
  clear v0 v1 v2 v3 bl bu
  go_upto_region 6 with fail
  refine oper_r6 hb8 hb11 hb12 hb15 ?_
  intro _ _ _ _ _ _ _ _ _ _ _ _ _ _ _ _ _ _ _ _ _ _ _ _ _ _ _ _ _ _ _ _ _ _ _ _ _ W6 g6
  replace hK := KOp.up g6 hK
  go_wp2_with fail
  refine bodyPost_ret (v := .bool true) (by simp [results, Tryz.results3, go_sem]) rfl ⟨rfl, hK.hB⟩

theorem both_b (op : Int) (hw : (Lit.int .i64 op).wf = true) (s1 : Int) (g1 : Bool) (a s2 : Int) (g2 : Bool) (b : Int) (ha : I64 a) (hb : I64 b) : ∃ S G V E, BothB op s1 g1 a s2 g2 b S G V E := by
  cases hv : (validB s1 && validB s2)
  · exact ⟨0, false, 0, 10, fun w _ => bin_bad op s1 g1 a s2 g2 b w hv, fun w _ => rbi_bad op s1 g1 a s2 g2 b w hv⟩
  · obtain ⟨v1, v2⟩ : validB s1 = true ∧ validB s2 = true := by simpa using hv
    by_cases ho : op < 1 ∨ 16 < op
    · exact ⟨0, false, 0, 11, fun w _ => bin_none op hw ho s1 g1 a s2 g2 b w v1 v2, fun w _ => rbi_none op ho s1 g1 a s2 g2 b w v1 v2⟩
    · have h16 : op = 1 ∨ op = 2 ∨ op = 3 ∨ op = 4 ∨ op = 5 ∨ op = 6 ∨ op = 7 ∨ op = 8 ∨ op = 9 ∨ op = 10 ∨ op = 11 ∨ op = 12 ∨ op = 13 ∨ op = 14 ∨ op = 15 ∨ op = 16 := by omega
      rcases h16 with rfl | rfl | rfl | rfl | rfl | rfl | rfl | rfl | rfl | rfl | rfl | rfl | rfl | rfl | rfl | rfl
      · exact ⟨_, _, _, _, fun w hp => bin_ar1 s1 g1 a s2 g2 b w hp v1 v2, fun w hq => rbi_1 s1 g1 a s2 g2 b w v1 v2 ha hb hq⟩
      · exact ⟨_, _, _, _, fun w hp => bin_ar2 s1 g1 a s2 g2 b w hp v1 v2, fun w hq => rbi_2 s1 g1 a s2 g2 b w v1 v2 ha hb hq⟩
      · exact ⟨_, _, _, _, fun w hp => bin_ar3 s1 g1 a s2 g2 b w hp v1 v2, fun w hq => rbi_3 s1 g1 a s2 g2 b w v1 v2 ha hb hq⟩
      · by_cases hy : opY s1 g1 s2 g2 b = 0
        · exact ⟨_, _, _, _, fun w hp => bin_div4 s1 g1 a s2 g2 b w hp v1 v2 hy, fun w hq => rbi_4z s1 g1 a s2 g2 b w v1 v2 ha hb hq hy⟩
        · exact ⟨_, _, _, _, fun w hp => bin_ar4 s1 g1 a s2 g2 b w hp v1 v2 hy (u64_ne (Rg_I64 (Rg_wrap _ _ _ (Rg_I64 (Rg_wrap s2 g2 b hb)))) hy), fun w hq => rbi_4 s1 g1 a s2 g2 b w v1 v2 ha hb hq hy⟩
      · by_cases hy : opY s1 g1 s2 g2 b = 0
        · exact ⟨_, _, _, _, fun w hp => bin_div5 s1 g1 a s2 g2 b w hp v1 v2 hy, fun w hq => rbi_5z s1 g1 a s2 g2 b w v1 v2 ha hb hq hy⟩
        · exact ⟨_, _, _, _, fun w hp => bin_ar5 s1 g1 a s2 g2 b w hp v1 v2 hy (u64_ne (Rg_I64 (Rg_wrap _ _ _ (Rg_I64 (Rg_wrap s2 g2 b hb)))) hy), fun w hq => rbi_5 s1 g1 a s2 g2 b w v1 v2 ha hb hq hy⟩
      · exact ⟨_, _, _, _, fun w hp => bin_ar6 s1 g1 a s2 g2 b w hp v1 v2, fun w hq => rbi_6 s1 g1 a s2 g2 b w v1 v2 ha hb hq⟩
      · exact ⟨_, _, _, _, fun w hp => bin_ar7 s1 g1 a s2 g2 b w hp v1 v2, fun w hq => rbi_7 s1 g1 a s2 g2 b w v1 v2 ha hb hq⟩
      · exact ⟨_, _, _, _, fun w hp => bin_ar8 s1 g1 a s2 g2 b w hp v1 v2, fun w hq => rbi_8 s1 g1 a s2 g2 b w v1 v2 ha hb hq⟩
      · exact ⟨_, _, _, _, fun w hp => bin_sh9 s1 g1 a s2 g2 b w hp v1 v2, fun w hq => rbi_9 s1 g1 a s2 g2 b w v1 v2 ha hq⟩
      · exact ⟨_, _, _, _, fun w hp => bin_sh10 s1 g1 a s2 g2 b w hp v1 v2, fun w hq => rbi_10 s1 g1 a s2 g2 b w v1 v2 ha hq⟩
      · exact ⟨_, _, _, _, fun w hp => bin_re11 s1 g1 a s2 g2 b w hp v1 v2, fun w hq => rbi_11 s1 g1 a s2 g2 b w v1 v2 ha hb hq⟩
      · exact ⟨_, _, _, _, fun w hp => bin_re12 s1 g1 a s2 g2 b w hp v1 v2, fun w hq => rbi_12 s1 g1 a s2 g2 b w v1 v2 ha hb hq⟩
      · exact ⟨_, _, _, _, fun w hp => bin_re13 s1 g1 a s2 g2 b w hp v1 v2, fun w hq => rbi_13 s1 g1 a s2 g2 b w v1 v2 ha hb hq⟩
      · exact ⟨_, _, _, _, fun w hp => bin_re14 s1 g1 a s2 g2 b w hp v1 v2, fun w hq => rbi_14 s1 g1 a s2 g2 b w v1 v2 ha hb hq⟩
      · exact ⟨_, _, _, _, fun w hp => bin_re15 s1 g1 a s2 g2 b w hp v1 v2, fun w hq => rbi_15 s1 g1 a s2 g2 b w v1 v2 ha hb hq⟩
      · exact ⟨_, _, _, _, fun w hp => bin_re16 s1 g1 a s2 g2 b w hp v1 v2, fun w hq => rbi_16 s1 g1 a s2 g2 b w v1 v2 ha hb hq⟩

theorem law_operates (op : Int) (hw : (Lit.int .i64 op).wf = true) (s : Int) (g : Bool) (t : Int) (d : Bool) (i j : Int) (hi : I64 i) (hj : I64 j) (w : World) (hp : PI w) (hE : EV w) (hq : PR8 w) :
    Calls Tryz.prog 3 #[.int .i64 op, .agg #[.int .i64 s, .bool g, .int .i64 t, .bool d], .agg #[.int .i64 i, .int .i64 j]] w fun e w' => e = .returned (.bool true) ∧ Below w.heap.size w w' := by
  obtain ⟨S, G, V, E, HU⟩ := both_u op hw s g i hi
  obtain ⟨S2, G2, V2, E2, HB⟩ := both_b op hw s g i t d j hi hj
  exact oper_walk op s g t d i j S V E S2 V2 E2 G G2 HU HB w hp hE hq
end Go.Proofs.YtojcdjpaojgkkaaGreatDoor

