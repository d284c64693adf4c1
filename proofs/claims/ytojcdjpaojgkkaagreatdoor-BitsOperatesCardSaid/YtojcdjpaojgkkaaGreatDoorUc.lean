/-
  The reference of layer 1: Common, Usual.
-/
import Derived.Test.YtojcdjpaojgkkaaGreatDoorUb
namespace Go.Proofs.YtojcdjpaojgkkaaGreatDoor
open Go.RowKit

set_option maxHeartbeats 2000000 in
theorem rcommon_00 {s1 s2 : Int} {g1 g2 : Bool} (H1 : QetV 20 #[tyV s1 g1] 4 true) (H2 : QetV 20 #[tyV s2 g2] 4 true) : QetV 31 #[tyV s1 g1, tyV s2 g2] 4 true := fun w hq => by
  have hm : max (0 : Int) 0 = 0 := by decide
  have R1 := rrank_0
  have R2 := rrank_0
  obtain ⟨q0, q1, q2, q3, q4, q5, q6, q7⟩ := hq
  have zq := szc q0
  go_enter Tryz.func31, Tryz.ntmps31
  go_upto_region 1 with fail
  first | skip; go_region_held3 (fun w' => w'.cell? ⟨w.heap.size, 0, none⟩ = some (.int .i64 s1) ∧ w'.cell? ⟨w.heap.size, 1, none⟩ = some (.bool g1) ∧ w'.cell? ⟨w.heap.size + 1, 0, none⟩ = some (.int .i64 s2) ∧ w'.cell? ⟨w.heap.size + 1, 1, none⟩ = some (.bool g2) ∧ w'.cell? ⟨1, 0, none⟩ = some (.int .i64 4) ∧ w'.cell? ⟨1, 1, none⟩ = some (.bool true) ∧ w'.cell? ⟨1, 2, none⟩ = some (.int .i64 4) ∧ w'.cell? ⟨1, 3, none⟩ = some (.bool false) ∧ w'.cell? ⟨1, 4, none⟩ = some (.int .i64 8) ∧ w'.cell? ⟨1, 5, none⟩ = some (.bool true) ∧ w'.cell? ⟨1, 6, none⟩ = some (.int .i64 8) ∧ w'.cell? ⟨1, 7, none⟩ = some (.bool false) ∧ w.heap.size + 3 ≤ w'.heap.size) (exact ⟨by go_simp, by go_simp, by go_simp, by go_simp, by go_simp, by go_simp, by go_simp, by go_simp, by go_simp, by go_simp, by go_simp, by go_simp, by (first | omega | (simp; done) | (simp; omega))⟩) (first | (go_at_call 20; (with_reducible refine (H1 _ ?hpp).mono ?_); (try case hpp => exact ⟨by go_simp, by go_simp, by go_simp, by go_simp, by go_simp, by go_simp, by go_simp, by go_simp⟩); rintro e w1 ⟨rfl, hb⟩; obtain ⟨os, n, rfl⟩ := Below.moreE hb; clear hb) | (go_at_call 20; (with_reducible refine (H2 _ ?hpp).mono ?_); (try case hpp => exact ⟨by go_simp, by go_simp, by go_simp, by go_simp, by go_simp, by go_simp, by go_simp, by go_simp⟩); rintro e w1 ⟨rfl, hb⟩; obtain ⟨os, n, rfl⟩ := Below.moreE hb; clear hb) | (go_at_call 69; (with_reducible refine (R1 _ ?hpp).mono ?_); (try case hpp => exact ⟨by go_simp, by go_simp, by go_simp, by go_simp, by go_simp, by go_simp, by go_simp, by go_simp⟩); rintro e w1 ⟨rfl, hb⟩; obtain ⟨os, n, rfl⟩ := Below.moreE hb; clear hb) | (go_at_call 69; (with_reducible refine (R2 _ ?hpp).mono ?_); (try case hpp => exact ⟨by go_simp, by go_simp, by go_simp, by go_simp, by go_simp, by go_simp, by go_simp, by go_simp⟩); rintro e w1 ⟨rfl, hb⟩; obtain ⟨os, n, rfl⟩ := Below.moreE hb; clear hb)) | fail
  all_goals
    go_wp2_with fail
    refine bodyPost_ret (v := tyV 4 true) (by simp [results, Tryz.results31, go_sem]) rfl ⟨rfl, (Gr.below (by repeat (first | (with_reducible exact Gr.refl _) | with_reducible refine Gr.alloc ?_ _ | with_reducible refine Gr.more ?_ _ _ | with_reducible refine Gr.setCell ?_ (by dsimp only; omega) _ | with_reducible refine Gr.drew ?_)))⟩
set_option maxHeartbeats 2000000 in
theorem rcommon_01 {s1 s2 : Int} {g1 g2 : Bool} (H1 : QetV 20 #[tyV s1 g1] 4 true) (H2 : QetV 20 #[tyV s2 g2] 4 false) : QetV 31 #[tyV s1 g1, tyV s2 g2] 4 false := fun w hq => by
  have hm : max (0 : Int) 1 = 1 := by decide
  have R1 := rrank_0
  have R2 := rrank_1
  obtain ⟨q0, q1, q2, q3, q4, q5, q6, q7⟩ := hq
  have zq := szc q0
  go_enter Tryz.func31, Tryz.ntmps31
  go_upto_region 1 with fail
  first | skip; go_region_held3 (fun w' => w'.cell? ⟨w.heap.size, 0, none⟩ = some (.int .i64 s1) ∧ w'.cell? ⟨w.heap.size, 1, none⟩ = some (.bool g1) ∧ w'.cell? ⟨w.heap.size + 1, 0, none⟩ = some (.int .i64 s2) ∧ w'.cell? ⟨w.heap.size + 1, 1, none⟩ = some (.bool g2) ∧ w'.cell? ⟨1, 0, none⟩ = some (.int .i64 4) ∧ w'.cell? ⟨1, 1, none⟩ = some (.bool true) ∧ w'.cell? ⟨1, 2, none⟩ = some (.int .i64 4) ∧ w'.cell? ⟨1, 3, none⟩ = some (.bool false) ∧ w'.cell? ⟨1, 4, none⟩ = some (.int .i64 8) ∧ w'.cell? ⟨1, 5, none⟩ = some (.bool true) ∧ w'.cell? ⟨1, 6, none⟩ = some (.int .i64 8) ∧ w'.cell? ⟨1, 7, none⟩ = some (.bool false) ∧ w.heap.size + 3 ≤ w'.heap.size) (exact ⟨by go_simp, by go_simp, by go_simp, by go_simp, by go_simp, by go_simp, by go_simp, by go_simp, by go_simp, by go_simp, by go_simp, by go_simp, by (first | omega | (simp; done) | (simp; omega))⟩) (first | (go_at_call 20; (with_reducible refine (H1 _ ?hpp).mono ?_); (try case hpp => exact ⟨by go_simp, by go_simp, by go_simp, by go_simp, by go_simp, by go_simp, by go_simp, by go_simp⟩); rintro e w1 ⟨rfl, hb⟩; obtain ⟨os, n, rfl⟩ := Below.moreE hb; clear hb) | (go_at_call 20; (with_reducible refine (H2 _ ?hpp).mono ?_); (try case hpp => exact ⟨by go_simp, by go_simp, by go_simp, by go_simp, by go_simp, by go_simp, by go_simp, by go_simp⟩); rintro e w1 ⟨rfl, hb⟩; obtain ⟨os, n, rfl⟩ := Below.moreE hb; clear hb) | (go_at_call 69; (with_reducible refine (R1 _ ?hpp).mono ?_); (try case hpp => exact ⟨by go_simp, by go_simp, by go_simp, by go_simp, by go_simp, by go_simp, by go_simp, by go_simp⟩); rintro e w1 ⟨rfl, hb⟩; obtain ⟨os, n, rfl⟩ := Below.moreE hb; clear hb) | (go_at_call 69; (with_reducible refine (R2 _ ?hpp).mono ?_); (try case hpp => exact ⟨by go_simp, by go_simp, by go_simp, by go_simp, by go_simp, by go_simp, by go_simp, by go_simp⟩); rintro e w1 ⟨rfl, hb⟩; obtain ⟨os, n, rfl⟩ := Below.moreE hb; clear hb)) | fail
  all_goals
    go_wp2_with fail
    refine bodyPost_ret (v := tyV 4 false) (by simp [results, Tryz.results31, go_sem]) rfl ⟨rfl, (Gr.below (by repeat (first | (with_reducible exact Gr.refl _) | with_reducible refine Gr.alloc ?_ _ | with_reducible refine Gr.more ?_ _ _ | with_reducible refine Gr.setCell ?_ (by dsimp only; omega) _ | with_reducible refine Gr.drew ?_)))⟩
set_option maxHeartbeats 2000000 in
theorem rcommon_02 {s1 s2 : Int} {g1 g2 : Bool} (H1 : QetV 20 #[tyV s1 g1] 4 true) (H2 : QetV 20 #[tyV s2 g2] 8 true) : QetV 31 #[tyV s1 g1, tyV s2 g2] 8 true := fun w hq => by
  have hm : max (0 : Int) 2 = 2 := by decide
  have R1 := rrank_0
  have R2 := rrank_2
  obtain ⟨q0, q1, q2, q3, q4, q5, q6, q7⟩ := hq
  have zq := szc q0
  go_enter Tryz.func31, Tryz.ntmps31
  go_upto_region 1 with fail
  first | skip; go_region_held3 (fun w' => w'.cell? ⟨w.heap.size, 0, none⟩ = some (.int .i64 s1) ∧ w'.cell? ⟨w.heap.size, 1, none⟩ = some (.bool g1) ∧ w'.cell? ⟨w.heap.size + 1, 0, none⟩ = some (.int .i64 s2) ∧ w'.cell? ⟨w.heap.size + 1, 1, none⟩ = some (.bool g2) ∧ w'.cell? ⟨1, 0, none⟩ = some (.int .i64 4) ∧ w'.cell? ⟨1, 1, none⟩ = some (.bool true) ∧ w'.cell? ⟨1, 2, none⟩ = some (.int .i64 4) ∧ w'.cell? ⟨1, 3, none⟩ = some (.bool false) ∧ w'.cell? ⟨1, 4, none⟩ = some (.int .i64 8) ∧ w'.cell? ⟨1, 5, none⟩ = some (.bool true) ∧ w'.cell? ⟨1, 6, none⟩ = some (.int .i64 8) ∧ w'.cell? ⟨1, 7, none⟩ = some (.bool false) ∧ w.heap.size + 3 ≤ w'.heap.size) (exact ⟨by go_simp, by go_simp, by go_simp, by go_simp, by go_simp, by go_simp, by go_simp, by go_simp, by go_simp, by go_simp, by go_simp, by go_simp, by (first | omega | (simp; done) | (simp; omega))⟩) (first | (go_at_call 20; (with_reducible refine (H1 _ ?hpp).mono ?_); (try case hpp => exact ⟨by go_simp, by go_simp, by go_simp, by go_simp, by go_simp, by go_simp, by go_simp, by go_simp⟩); rintro e w1 ⟨rfl, hb⟩; obtain ⟨os, n, rfl⟩ := Below.moreE hb; clear hb) | (go_at_call 20; (with_reducible refine (H2 _ ?hpp).mono ?_); (try case hpp => exact ⟨by go_simp, by go_simp, by go_simp, by go_simp, by go_simp, by go_simp, by go_simp, by go_simp⟩); rintro e w1 ⟨rfl, hb⟩; obtain ⟨os, n, rfl⟩ := Below.moreE hb; clear hb) | (go_at_call 69; (with_reducible refine (R1 _ ?hpp).mono ?_); (try case hpp => exact ⟨by go_simp, by go_simp, by go_simp, by go_simp, by go_simp, by go_simp, by go_simp, by go_simp⟩); rintro e w1 ⟨rfl, hb⟩; obtain ⟨os, n, rfl⟩ := Below.moreE hb; clear hb) | (go_at_call 69; (with_reducible refine (R2 _ ?hpp).mono ?_); (try case hpp => exact ⟨by go_simp, by go_simp, by go_simp, by go_simp, by go_simp, by go_simp, by go_simp, by go_simp⟩); rintro e w1 ⟨rfl, hb⟩; obtain ⟨os, n, rfl⟩ := Below.moreE hb; clear hb)) | fail
  all_goals
    go_wp2_with fail
    refine bodyPost_ret (v := tyV 8 true) (by simp [results, Tryz.results31, go_sem]) rfl ⟨rfl, (Gr.below (by repeat (first | (with_reducible exact Gr.refl _) | with_reducible refine Gr.alloc ?_ _ | with_reducible refine Gr.more ?_ _ _ | with_reducible refine Gr.setCell ?_ (by dsimp only; omega) _ | with_reducible refine Gr.drew ?_)))⟩
set_option maxHeartbeats 2000000 in
theorem rcommon_03 {s1 s2 : Int} {g1 g2 : Bool} (H1 : QetV 20 #[tyV s1 g1] 4 true) (H2 : QetV 20 #[tyV s2 g2] 8 false) : QetV 31 #[tyV s1 g1, tyV s2 g2] 8 false := fun w hq => by
  have hm : max (0 : Int) 3 = 3 := by decide
  have R1 := rrank_0
  have R2 := rrank_3
  obtain ⟨q0, q1, q2, q3, q4, q5, q6, q7⟩ := hq
  have zq := szc q0
  go_enter Tryz.func31, Tryz.ntmps31
  go_upto_region 1 with fail
  first | skip; go_region_held3 (fun w' => w'.cell? ⟨w.heap.size, 0, none⟩ = some (.int .i64 s1) ∧ w'.cell? ⟨w.heap.size, 1, none⟩ = some (.bool g1) ∧ w'.cell? ⟨w.heap.size + 1, 0, none⟩ = some (.int .i64 s2) ∧ w'.cell? ⟨w.heap.size + 1, 1, none⟩ = some (.bool g2) ∧ w'.cell? ⟨1, 0, none⟩ = some (.int .i64 4) ∧ w'.cell? ⟨1, 1, none⟩ = some (.bool true) ∧ w'.cell? ⟨1, 2, none⟩ = some (.int .i64 4) ∧ w'.cell? ⟨1, 3, none⟩ = some (.bool false) ∧ w'.cell? ⟨1, 4, none⟩ = some (.int .i64 8) ∧ w'.cell? ⟨1, 5, none⟩ = some (.bool true) ∧ w'.cell? ⟨1, 6, none⟩ = some (.int .i64 8) ∧ w'.cell? ⟨1, 7, none⟩ = some (.bool false) ∧ w.heap.size + 3 ≤ w'.heap.size) (exact ⟨by go_simp, by go_simp, by go_simp, by go_simp, by go_simp, by go_simp, by go_simp, by go_simp, by go_simp, by go_simp, by go_simp, by go_simp, by (first | omega | (simp; done) | (simp; omega))⟩) (first | (go_at_call 20; (with_reducible refine (H1 _ ?hpp).mono ?_); (try case hpp => exact ⟨by go_simp, by go_simp, by go_simp, by go_simp, by go_simp, by go_simp, by go_simp, by go_simp⟩); rintro e w1 ⟨rfl, hb⟩; obtain ⟨os, n, rfl⟩ := Below.moreE hb; clear hb) | (go_at_call 20; (with_reducible refine (H2 _ ?hpp).mono ?_); (try case hpp => exact ⟨by go_simp, by go_simp, by go_simp, by go_simp, by go_simp, by go_simp, by go_simp, by go_simp⟩); rintro e w1 ⟨rfl, hb⟩; obtain ⟨os, n, rfl⟩ := Below.moreE hb; clear hb) | (go_at_call 69; (with_reducible refine (R1 _ ?hpp).mono ?_); (try case hpp => exact ⟨by go_simp, by go_simp, by go_simp, by go_simp, by go_simp, by go_simp, by go_simp, by go_simp⟩); rintro e w1 ⟨rfl, hb⟩; obtain ⟨os, n, rfl⟩ := Below.moreE hb; clear hb) | (go_at_call 69; (with_reducible refine (R2 _ ?hpp).mono ?_); (try case hpp => exact ⟨by go_simp, by go_simp, by go_simp, by go_simp, by go_simp, by go_simp, by go_simp, by go_simp⟩); rintro e w1 ⟨rfl, hb⟩; obtain ⟨os, n, rfl⟩ := Below.moreE hb; clear hb)) | fail
  all_goals
    go_wp2_with fail
    refine bodyPost_ret (v := tyV 8 false) (by simp [results, Tryz.results31, go_sem]) rfl ⟨rfl, (Gr.below (by repeat (first | (with_reducible exact Gr.refl _) | with_reducible refine Gr.alloc ?_ _ | with_reducible refine Gr.more ?_ _ _ | with_reducible refine Gr.setCell ?_ (by dsimp only; omega) _ | with_reducible refine Gr.drew ?_)))⟩
set_option maxHeartbeats 2000000 in
theorem rcommon_10 {s1 s2 : Int} {g1 g2 : Bool} (H1 : QetV 20 #[tyV s1 g1] 4 false) (H2 : QetV 20 #[tyV s2 g2] 4 true) : QetV 31 #[tyV s1 g1, tyV s2 g2] 4 false := fun w hq => by
  have hm : max (1 : Int) 0 = 1 := by decide
  have R1 := rrank_1
  have R2 := rrank_0
  obtain ⟨q0, q1, q2, q3, q4, q5, q6, q7⟩ := hq
  have zq := szc q0
  go_enter Tryz.func31, Tryz.ntmps31
  go_upto_region 1 with fail
  first | skip; go_region_held3 (fun w' => w'.cell? ⟨w.heap.size, 0, none⟩ = some (.int .i64 s1) ∧ w'.cell? ⟨w.heap.size, 1, none⟩ = some (.bool g1) ∧ w'.cell? ⟨w.heap.size + 1, 0, none⟩ = some (.int .i64 s2) ∧ w'.cell? ⟨w.heap.size + 1, 1, none⟩ = some (.bool g2) ∧ w'.cell? ⟨1, 0, none⟩ = some (.int .i64 4) ∧ w'.cell? ⟨1, 1, none⟩ = some (.bool true) ∧ w'.cell? ⟨1, 2, none⟩ = some (.int .i64 4) ∧ w'.cell? ⟨1, 3, none⟩ = some (.bool false) ∧ w'.cell? ⟨1, 4, none⟩ = some (.int .i64 8) ∧ w'.cell? ⟨1, 5, none⟩ = some (.bool true) ∧ w'.cell? ⟨1, 6, none⟩ = some (.int .i64 8) ∧ w'.cell? ⟨1, 7, none⟩ = some (.bool false) ∧ w.heap.size + 3 ≤ w'.heap.size) (exact ⟨by go_simp, by go_simp, by go_simp, by go_simp, by go_simp, by go_simp, by go_simp, by go_simp, by go_simp, by go_simp, by go_simp, by go_simp, by (first | omega | (simp; done) | (simp; omega))⟩) (first | (go_at_call 20; (with_reducible refine (H1 _ ?hpp).mono ?_); (try case hpp => exact ⟨by go_simp, by go_simp, by go_simp, by go_simp, by go_simp, by go_simp, by go_simp, by go_simp⟩); rintro e w1 ⟨rfl, hb⟩; obtain ⟨os, n, rfl⟩ := Below.moreE hb; clear hb) | (go_at_call 20; (with_reducible refine (H2 _ ?hpp).mono ?_); (try case hpp => exact ⟨by go_simp, by go_simp, by go_simp, by go_simp, by go_simp, by go_simp, by go_simp, by go_simp⟩); rintro e w1 ⟨rfl, hb⟩; obtain ⟨os, n, rfl⟩ := Below.moreE hb; clear hb) | (go_at_call 69; (with_reducible refine (R1 _ ?hpp).mono ?_); (try case hpp => exact ⟨by go_simp, by go_simp, by go_simp, by go_simp, by go_simp, by go_simp, by go_simp, by go_simp⟩); rintro e w1 ⟨rfl, hb⟩; obtain ⟨os, n, rfl⟩ := Below.moreE hb; clear hb) | (go_at_call 69; (with_reducible refine (R2 _ ?hpp).mono ?_); (try case hpp => exact ⟨by go_simp, by go_simp, by go_simp, by go_simp, by go_simp, by go_simp, by go_simp, by go_simp⟩); rintro e w1 ⟨rfl, hb⟩; obtain ⟨os, n, rfl⟩ := Below.moreE hb; clear hb)) | fail
  all_goals
    go_wp2_with fail
    refine bodyPost_ret (v := tyV 4 false) (by simp [results, Tryz.results31, go_sem]) rfl ⟨rfl, (Gr.below (by repeat (first | (with_reducible exact Gr.refl _) | with_reducible refine Gr.alloc ?_ _ | with_reducible refine Gr.more ?_ _ _ | with_reducible refine Gr.setCell ?_ (by dsimp only; omega) _ | with_reducible refine Gr.drew ?_)))⟩
set_option maxHeartbeats 2000000 in
theorem rcommon_11 {s1 s2 : Int} {g1 g2 : Bool} (H1 : QetV 20 #[tyV s1 g1] 4 false) (H2 : QetV 20 #[tyV s2 g2] 4 false) : QetV 31 #[tyV s1 g1, tyV s2 g2] 4 false := fun w hq => by
  have hm : max (1 : Int) 1 = 1 := by decide
  have R1 := rrank_1
  have R2 := rrank_1
  obtain ⟨q0, q1, q2, q3, q4, q5, q6, q7⟩ := hq
  have zq := szc q0
  go_enter Tryz.func31, Tryz.ntmps31
  go_upto_region 1 with fail
  first | skip; go_region_held3 (fun w' => w'.cell? ⟨w.heap.size, 0, none⟩ = some (.int .i64 s1) ∧ w'.cell? ⟨w.heap.size, 1, none⟩ = some (.bool g1) ∧ w'.cell? ⟨w.heap.size + 1, 0, none⟩ = some (.int .i64 s2) ∧ w'.cell? ⟨w.heap.size + 1, 1, none⟩ = some (.bool g2) ∧ w'.cell? ⟨1, 0, none⟩ = some (.int .i64 4) ∧ w'.cell? ⟨1, 1, none⟩ = some (.bool true) ∧ w'.cell? ⟨1, 2, none⟩ = some (.int .i64 4) ∧ w'.cell? ⟨1, 3, none⟩ = some (.bool false) ∧ w'.cell? ⟨1, 4, none⟩ = some (.int .i64 8) ∧ w'.cell? ⟨1, 5, none⟩ = some (.bool true) ∧ w'.cell? ⟨1, 6, none⟩ = some (.int .i64 8) ∧ w'.cell? ⟨1, 7, none⟩ = some (.bool false) ∧ w.heap.size + 3 ≤ w'.heap.size) (exact ⟨by go_simp, by go_simp, by go_simp, by go_simp, by go_simp, by go_simp, by go_simp, by go_simp, by go_simp, by go_simp, by go_simp, by go_simp, by (first | omega | (simp; done) | (simp; omega))⟩) (first | (go_at_call 20; (with_reducible refine (H1 _ ?hpp).mono ?_); (try case hpp => exact ⟨by go_simp, by go_simp, by go_simp, by go_simp, by go_simp, by go_simp, by go_simp, by go_simp⟩); rintro e w1 ⟨rfl, hb⟩; obtain ⟨os, n, rfl⟩ := Below.moreE hb; clear hb) | (go_at_call 20; (with_reducible refine (H2 _ ?hpp).mono ?_); (try case hpp => exact ⟨by go_simp, by go_simp, by go_simp, by go_simp, by go_simp, by go_simp, by go_simp, by go_simp⟩); rintro e w1 ⟨rfl, hb⟩; obtain ⟨os, n, rfl⟩ := Below.moreE hb; clear hb) | (go_at_call 69; (with_reducible refine (R1 _ ?hpp).mono ?_); (try case hpp => exact ⟨by go_simp, by go_simp, by go_simp, by go_simp, by go_simp, by go_simp, by go_simp, by go_simp⟩); rintro e w1 ⟨rfl, hb⟩; obtain ⟨os, n, rfl⟩ := Below.moreE hb; clear hb) | (go_at_call 69; (with_reducible refine (R2 _ ?hpp).mono ?_); (try case hpp => exact ⟨by go_simp, by go_simp, by go_simp, by go_simp, by go_simp, by go_simp, by go_simp, by go_simp⟩); rintro e w1 ⟨rfl, hb⟩; obtain ⟨os, n, rfl⟩ := Below.moreE hb; clear hb)) | fail
  all_goals
    go_wp2_with fail
    refine bodyPost_ret (v := tyV 4 false) (by simp [results, Tryz.results31, go_sem]) rfl ⟨rfl, (Gr.below (by repeat (first | (with_reducible exact Gr.refl _) | with_reducible refine Gr.alloc ?_ _ | with_reducible refine Gr.more ?_ _ _ | with_reducible refine Gr.setCell ?_ (by dsimp only; omega) _ | with_reducible refine Gr.drew ?_)))⟩
set_option maxHeartbeats 2000000 in
theorem rcommon_12 {s1 s2 : Int} {g1 g2 : Bool} (H1 : QetV 20 #[tyV s1 g1] 4 false) (H2 : QetV 20 #[tyV s2 g2] 8 true) : QetV 31 #[tyV s1 g1, tyV s2 g2] 8 true := fun w hq => by
  have hm : max (1 : Int) 2 = 2 := by decide
  have R1 := rrank_1
  have R2 := rrank_2
  obtain ⟨q0, q1, q2, q3, q4, q5, q6, q7⟩ := hq
  have zq := szc q0
  go_enter Tryz.func31, Tryz.ntmps31
  go_upto_region 1 with fail
  first | skip; go_region_held3 (fun w' => w'.cell? ⟨w.heap.size, 0, none⟩ = some (.int .i64 s1) ∧ w'.cell? ⟨w.heap.size, 1, none⟩ = some (.bool g1) ∧ w'.cell? ⟨w.heap.size + 1, 0, none⟩ = some (.int .i64 s2) ∧ w'.cell? ⟨w.heap.size + 1, 1, none⟩ = some (.bool g2) ∧ w'.cell? ⟨1, 0, none⟩ = some (.int .i64 4) ∧ w'.cell? ⟨1, 1, none⟩ = some (.bool true) ∧ w'.cell? ⟨1, 2, none⟩ = some (.int .i64 4) ∧ w'.cell? ⟨1, 3, none⟩ = some (.bool false) ∧ w'.cell? ⟨1, 4, none⟩ = some (.int .i64 8) ∧ w'.cell? ⟨1, 5, none⟩ = some (.bool true) ∧ w'.cell? ⟨1, 6, none⟩ = some (.int .i64 8) ∧ w'.cell? ⟨1, 7, none⟩ = some (.bool false) ∧ w.heap.size + 3 ≤ w'.heap.size) (exact ⟨by go_simp, by go_simp, by go_simp, by go_simp, by go_simp, by go_simp, by go_simp, by go_simp, by go_simp, by go_simp, by go_simp, by go_simp, by (first | omega | (simp; done) | (simp; omega))⟩) (first | (go_at_call 20; (with_reducible refine (H1 _ ?hpp).mono ?_); (try case hpp => exact ⟨by go_simp, by go_simp, by go_simp, by go_simp, by go_simp, by go_simp, by go_simp, by go_simp⟩); rintro e w1 ⟨rfl, hb⟩; obtain ⟨os, n, rfl⟩ := Below.moreE hb; clear hb) | (go_at_call 20; (with_reducible refine (H2 _ ?hpp).mono ?_); (try case hpp => exact ⟨by go_simp, by go_simp, by go_simp, by go_simp, by go_simp, by go_simp, by go_simp, by go_simp⟩); rintro e w1 ⟨rfl, hb⟩; obtain ⟨os, n, rfl⟩ := Below.moreE hb; clear hb) | (go_at_call 69; (with_reducible refine (R1 _ ?hpp).mono ?_); (try case hpp => exact ⟨by go_simp, by go_simp, by go_simp, by go_simp, by go_simp, by go_simp, by go_simp, by go_simp⟩); rintro e w1 ⟨rfl, hb⟩; obtain ⟨os, n, rfl⟩ := Below.moreE hb; clear hb) | (go_at_call 69; (with_reducible refine (R2 _ ?hpp).mono ?_); (try case hpp => exact ⟨by go_simp, by go_simp, by go_simp, by go_simp, by go_simp, by go_simp, by go_simp, by go_simp⟩); rintro e w1 ⟨rfl, hb⟩; obtain ⟨os, n, rfl⟩ := Below.moreE hb; clear hb)) | fail
  all_goals
    go_wp2_with fail
    refine bodyPost_ret (v := tyV 8 true) (by simp [results, Tryz.results31, go_sem]) rfl ⟨rfl, (Gr.below (by repeat (first | (with_reducible exact Gr.refl _) | with_reducible refine Gr.alloc ?_ _ | with_reducible refine Gr.more ?_ _ _ | with_reducible refine Gr.setCell ?_ (by dsimp only; omega) _ | with_reducible refine Gr.drew ?_)))⟩
set_option maxHeartbeats 2000000 in
theorem rcommon_13 {s1 s2 : Int} {g1 g2 : Bool} (H1 : QetV 20 #[tyV s1 g1] 4 false) (H2 : QetV 20 #[tyV s2 g2] 8 false) : QetV 31 #[tyV s1 g1, tyV s2 g2] 8 false := fun w hq => by
  have hm : max (1 : Int) 3 = 3 := by decide
  have R1 := rrank_1
  have R2 := rrank_3
  obtain ⟨q0, q1, q2, q3, q4, q5, q6, q7⟩ := hq
  have zq := szc q0
  go_enter Tryz.func31, Tryz.ntmps31
  go_upto_region 1 with fail
  first | skip; go_region_held3 (fun w' => w'.cell? ⟨w.heap.size, 0, none⟩ = some (.int .i64 s1) ∧ w'.cell? ⟨w.heap.size, 1, none⟩ = some (.bool g1) ∧ w'.cell? ⟨w.heap.size + 1, 0, none⟩ = some (.int .i64 s2) ∧ w'.cell? ⟨w.heap.size + 1, 1, none⟩ = some (.bool g2) ∧ w'.cell? ⟨1, 0, none⟩ = some (.int .i64 4) ∧ w'.cell? ⟨1, 1, none⟩ = some (.bool true) ∧ w'.cell? ⟨1, 2, none⟩ = some (.int .i64 4) ∧ w'.cell? ⟨1, 3, none⟩ = some (.bool false) ∧ w'.cell? ⟨1, 4, none⟩ = some (.int .i64 8) ∧ w'.cell? ⟨1, 5, none⟩ = some (.bool true) ∧ w'.cell? ⟨1, 6, none⟩ = some (.int .i64 8) ∧ w'.cell? ⟨1, 7, none⟩ = some (.bool false) ∧ w.heap.size + 3 ≤ w'.heap.size) (exact ⟨by go_simp, by go_simp, by go_simp, by go_simp, by go_simp, by go_simp, by go_simp, by go_simp, by go_simp, by go_simp, by go_simp, by go_simp, by (first | omega | (simp; done) | (simp; omega))⟩) (first | (go_at_call 20; (with_reducible refine (H1 _ ?hpp).mono ?_); (try case hpp => exact ⟨by go_simp, by go_simp, by go_simp, by go_simp, by go_simp, by go_simp, by go_simp, by go_simp⟩); rintro e w1 ⟨rfl, hb⟩; obtain ⟨os, n, rfl⟩ := Below.moreE hb; clear hb) | (go_at_call 20; (with_reducible refine (H2 _ ?hpp).mono ?_); (try case hpp => exact ⟨by go_simp, by go_simp, by go_simp, by go_simp, by go_simp, by go_simp, by go_simp, by go_simp⟩); rintro e w1 ⟨rfl, hb⟩; obtain ⟨os, n, rfl⟩ := Below.moreE hb; clear hb) | (go_at_call 69; (with_reducible refine (R1 _ ?hpp).mono ?_); (try case hpp => exact ⟨by go_simp, by go_simp, by go_simp, by go_simp, by go_simp, by go_simp, by go_simp, by go_simp⟩); rintro e w1 ⟨rfl, hb⟩; obtain ⟨os, n, rfl⟩ := Below.moreE hb; clear hb) | (go_at_call 69; (with_reducible refine (R2 _ ?hpp).mono ?_); (try case hpp => exact ⟨by go_simp, by go_simp, by go_simp, by go_simp, by go_simp, by go_simp, by go_simp, by go_simp⟩); rintro e w1 ⟨rfl, hb⟩; obtain ⟨os, n, rfl⟩ := Below.moreE hb; clear hb)) | fail
  all_goals
    go_wp2_with fail
    refine bodyPost_ret (v := tyV 8 false) (by simp [results, Tryz.results31, go_sem]) rfl ⟨rfl, (Gr.below (by repeat (first | (with_reducible exact Gr.refl _) | with_reducible refine Gr.alloc ?_ _ | with_reducible refine Gr.more ?_ _ _ | with_reducible refine Gr.setCell ?_ (by dsimp only; omega) _ | with_reducible refine Gr.drew ?_)))⟩
set_option maxHeartbeats 2000000 in
theorem rcommon_20 {s1 s2 : Int} {g1 g2 : Bool} (H1 : QetV 20 #[tyV s1 g1] 8 true) (H2 : QetV 20 #[tyV s2 g2] 4 true) : QetV 31 #[tyV s1 g1, tyV s2 g2] 8 true := fun w hq => by
  have hm : max (2 : Int) 0 = 2 := by decide
  have R1 := rrank_2
  have R2 := rrank_0
  obtain ⟨q0, q1, q2, q3, q4, q5, q6, q7⟩ := hq
  have zq := szc q0
  go_enter Tryz.func31, Tryz.ntmps31
  go_upto_region 1 with fail
  first | skip; go_region_held3 (fun w' => w'.cell? ⟨w.heap.size, 0, none⟩ = some (.int .i64 s1) ∧ w'.cell? ⟨w.heap.size, 1, none⟩ = some (.bool g1) ∧ w'.cell? ⟨w.heap.size + 1, 0, none⟩ = some (.int .i64 s2) ∧ w'.cell? ⟨w.heap.size + 1, 1, none⟩ = some (.bool g2) ∧ w'.cell? ⟨1, 0, none⟩ = some (.int .i64 4) ∧ w'.cell? ⟨1, 1, none⟩ = some (.bool true) ∧ w'.cell? ⟨1, 2, none⟩ = some (.int .i64 4) ∧ w'.cell? ⟨1, 3, none⟩ = some (.bool false) ∧ w'.cell? ⟨1, 4, none⟩ = some (.int .i64 8) ∧ w'.cell? ⟨1, 5, none⟩ = some (.bool true) ∧ w'.cell? ⟨1, 6, none⟩ = some (.int .i64 8) ∧ w'.cell? ⟨1, 7, none⟩ = some (.bool false) ∧ w.heap.size + 3 ≤ w'.heap.size) (exact ⟨by go_simp, by go_simp, by go_simp, by go_simp, by go_simp, by go_simp, by go_simp, by go_simp, by go_simp, by go_simp, by go_simp, by go_simp, by (first | omega | (simp; done) | (simp; omega))⟩) (first | (go_at_call 20; (with_reducible refine (H1 _ ?hpp).mono ?_); (try case hpp => exact ⟨by go_simp, by go_simp, by go_simp, by go_simp, by go_simp, by go_simp, by go_simp, by go_simp⟩); rintro e w1 ⟨rfl, hb⟩; obtain ⟨os, n, rfl⟩ := Below.moreE hb; clear hb) | (go_at_call 20; (with_reducible refine (H2 _ ?hpp).mono ?_); (try case hpp => exact ⟨by go_simp, by go_simp, by go_simp, by go_simp, by go_simp, by go_simp, by go_simp, by go_simp⟩); rintro e w1 ⟨rfl, hb⟩; obtain ⟨os, n, rfl⟩ := Below.moreE hb; clear hb) | (go_at_call 69; (with_reducible refine (R1 _ ?hpp).mono ?_); (try case hpp => exact ⟨by go_simp, by go_simp, by go_simp, by go_simp, by go_simp, by go_simp, by go_simp, by go_simp⟩); rintro e w1 ⟨rfl, hb⟩; obtain ⟨os, n, rfl⟩ := Below.moreE hb; clear hb) | (go_at_call 69; (with_reducible refine (R2 _ ?hpp).mono ?_); (try case hpp => exact ⟨by go_simp, by go_simp, by go_simp, by go_simp, by go_simp, by go_simp, by go_simp, by go_simp⟩); rintro e w1 ⟨rfl, hb⟩; obtain ⟨os, n, rfl⟩ := Below.moreE hb; clear hb)) | fail
  all_goals
    go_wp2_with fail
    refine bodyPost_ret (v := tyV 8 true) (by simp [results, Tryz.results31, go_sem]) rfl ⟨rfl, (Gr.below (by repeat (first | (with_reducible exact Gr.refl _) | with_reducible refine Gr.alloc ?_ _ | with_reducible refine Gr.more ?_ _ _ | with_reducible refine Gr.setCell ?_ (by dsimp only; omega) _ | with_reducible refine Gr.drew ?_)))⟩
set_option maxHeartbeats 2000000 in
theorem rcommon_21 {s1 s2 : Int} {g1 g2 : Bool} (H1 : QetV 20 #[tyV s1 g1] 8 true) (H2 : QetV 20 #[tyV s2 g2] 4 false) : QetV 31 #[tyV s1 g1, tyV s2 g2] 8 true := fun w hq => by
  have hm : max (2 : Int) 1 = 2 := by decide
  have R1 := rrank_2
  have R2 := rrank_1
  obtain ⟨q0, q1, q2, q3, q4, q5, q6, q7⟩ := hq
  have zq := szc q0
  go_enter Tryz.func31, Tryz.ntmps31
  go_upto_region 1 with fail
  first | skip; go_region_held3 (fun w' => w'.cell? ⟨w.heap.size, 0, none⟩ = some (.int .i64 s1) ∧ w'.cell? ⟨w.heap.size, 1, none⟩ = some (.bool g1) ∧ w'.cell? ⟨w.heap.size + 1, 0, none⟩ = some (.int .i64 s2) ∧ w'.cell? ⟨w.heap.size + 1, 1, none⟩ = some (.bool g2) ∧ w'.cell? ⟨1, 0, none⟩ = some (.int .i64 4) ∧ w'.cell? ⟨1, 1, none⟩ = some (.bool true) ∧ w'.cell? ⟨1, 2, none⟩ = some (.int .i64 4) ∧ w'.cell? ⟨1, 3, none⟩ = some (.bool false) ∧ w'.cell? ⟨1, 4, none⟩ = some (.int .i64 8) ∧ w'.cell? ⟨1, 5, none⟩ = some (.bool true) ∧ w'.cell? ⟨1, 6, none⟩ = some (.int .i64 8) ∧ w'.cell? ⟨1, 7, none⟩ = some (.bool false) ∧ w.heap.size + 3 ≤ w'.heap.size) (exact ⟨by go_simp, by go_simp, by go_simp, by go_simp, by go_simp, by go_simp, by go_simp, by go_simp, by go_simp, by go_simp, by go_simp, by go_simp, by (first | omega | (simp; done) | (simp; omega))⟩) (first | (go_at_call 20; (with_reducible refine (H1 _ ?hpp).mono ?_); (try case hpp => exact ⟨by go_simp, by go_simp, by go_simp, by go_simp, by go_simp, by go_simp, by go_simp, by go_simp⟩); rintro e w1 ⟨rfl, hb⟩; obtain ⟨os, n, rfl⟩ := Below.moreE hb; clear hb) | (go_at_call 20; (with_reducible refine (H2 _ ?hpp).mono ?_); (try case hpp => exact ⟨by go_simp, by go_simp, by go_simp, by go_simp, by go_simp, by go_simp, by go_simp, by go_simp⟩); rintro e w1 ⟨rfl, hb⟩; obtain ⟨os, n, rfl⟩ := Below.moreE hb; clear hb) | (go_at_call 69; (with_reducible refine (R1 _ ?hpp).mono ?_); (try case hpp => exact ⟨by go_simp, by go_simp, by go_simp, by go_simp, by go_simp, by go_simp, by go_simp, by go_simp⟩); rintro e w1 ⟨rfl, hb⟩; obtain ⟨os, n, rfl⟩ := Below.moreE hb; clear hb) | (go_at_call 69; (with_reducible refine (R2 _ ?hpp).mono ?_); (try case hpp => exact ⟨by go_simp, by go_simp, by go_simp, by go_simp, by go_simp, by go_simp, by go_simp, by go_simp⟩); rintro e w1 ⟨rfl, hb⟩; obtain ⟨os, n, rfl⟩ := Below.moreE hb; clear hb)) | fail
  all_goals
    go_wp2_with fail
    refine bodyPost_ret (v := tyV 8 true) (by simp [results, Tryz.results31, go_sem]) rfl ⟨rfl, (Gr.below (by repeat (first | (with_reducible exact Gr.refl _) | with_reducible refine Gr.alloc ?_ _ | with_reducible refine Gr.more ?_ _ _ | with_reducible refine Gr.setCell ?_ (by dsimp only; omega) _ | with_reducible refine Gr.drew ?_)))⟩
set_option maxHeartbeats 2000000 in
theorem rcommon_22 {s1 s2 : Int} {g1 g2 : Bool} (H1 : QetV 20 #[tyV s1 g1] 8 true) (H2 : QetV 20 #[tyV s2 g2] 8 true) : QetV 31 #[tyV s1 g1, tyV s2 g2] 8 true := fun w hq => by
  have hm : max (2 : Int) 2 = 2 := by decide
  have R1 := rrank_2
  have R2 := rrank_2
  obtain ⟨q0, q1, q2, q3, q4, q5, q6, q7⟩ := hq
  have zq := szc q0
  go_enter Tryz.func31, Tryz.ntmps31
  go_upto_region 1 with fail
  first | skip; go_region_held3 (fun w' => w'.cell? ⟨w.heap.size, 0, none⟩ = some (.int .i64 s1) ∧ w'.cell? ⟨w.heap.size, 1, none⟩ = some (.bool g1) ∧ w'.cell? ⟨w.heap.size + 1, 0, none⟩ = some (.int .i64 s2) ∧ w'.cell? ⟨w.heap.size + 1, 1, none⟩ = some (.bool g2) ∧ w'.cell? ⟨1, 0, none⟩ = some (.int .i64 4) ∧ w'.cell? ⟨1, 1, none⟩ = some (.bool true) ∧ w'.cell? ⟨1, 2, none⟩ = some (.int .i64 4) ∧ w'.cell? ⟨1, 3, none⟩ = some (.bool false) ∧ w'.cell? ⟨1, 4, none⟩ = some (.int .i64 8) ∧ w'.cell? ⟨1, 5, none⟩ = some (.bool true) ∧ w'.cell? ⟨1, 6, none⟩ = some (.int .i64 8) ∧ w'.cell? ⟨1, 7, none⟩ = some (.bool false) ∧ w.heap.size + 3 ≤ w'.heap.size) (exact ⟨by go_simp, by go_simp, by go_simp, by go_simp, by go_simp, by go_simp, by go_simp, by go_simp, by go_simp, by go_simp, by go_simp, by go_simp, by (first | omega | (simp; done) | (simp; omega))⟩) (first | (go_at_call 20; (with_reducible refine (H1 _ ?hpp).mono ?_); (try case hpp => exact ⟨by go_simp, by go_simp, by go_simp, by go_simp, by go_simp, by go_simp, by go_simp, by go_simp⟩); rintro e w1 ⟨rfl, hb⟩; obtain ⟨os, n, rfl⟩ := Below.moreE hb; clear hb) | (go_at_call 20; (with_reducible refine (H2 _ ?hpp).mono ?_); (try case hpp => exact ⟨by go_simp, by go_simp, by go_simp, by go_simp, by go_simp, by go_simp, by go_simp, by go_simp⟩); rintro e w1 ⟨rfl, hb⟩; obtain ⟨os, n, rfl⟩ := Below.moreE hb; clear hb) | (go_at_call 69; (with_reducible refine (R1 _ ?hpp).mono ?_); (try case hpp => exact ⟨by go_simp, by go_simp, by go_simp, by go_simp, by go_simp, by go_simp, by go_simp, by go_simp⟩); rintro e w1 ⟨rfl, hb⟩; obtain ⟨os, n, rfl⟩ := Below.moreE hb; clear hb) | (go_at_call 69; (with_reducible refine (R2 _ ?hpp).mono ?_); (try case hpp => exact ⟨by go_simp, by go_simp, by go_simp, by go_simp, by go_simp, by go_simp, by go_simp, by go_simp⟩); rintro e w1 ⟨rfl, hb⟩; obtain ⟨os, n, rfl⟩ := Below.moreE hb; clear hb)) | fail
  all_goals
    go_wp2_with fail
    refine bodyPost_ret (v := tyV 8 true) (by simp [results, Tryz.results31, go_sem]) rfl ⟨rfl, (Gr.below (by repeat (first | (with_reducible exact Gr.refl _) | with_reducible refine Gr.alloc ?_ _ | with_reducible refine Gr.more ?_ _ _ | with_reducible refine Gr.setCell ?_ (by dsimp only; omega) _ | with_reducible refine Gr.drew ?_)))⟩
set_option maxHeartbeats 2000000 in
theorem rcommon_23 {s1 s2 : Int} {g1 g2 : Bool} (H1 : QetV 20 #[tyV s1 g1] 8 true) (H2 : QetV 20 #[tyV s2 g2] 8 false) : QetV 31 #[tyV s1 g1, tyV s2 g2] 8 false := fun w hq => by
  have hm : max (2 : Int) 3 = 3 := by decide
  have R1 := rrank_2
  have R2 := rrank_3
  obtain ⟨q0, q1, q2, q3, q4, q5, q6, q7⟩ := hq
  have zq := szc q0
  go_enter Tryz.func31, Tryz.ntmps31
  go_upto_region 1 with fail
  first | skip; go_region_held3 (fun w' => w'.cell? ⟨w.heap.size, 0, none⟩ = some (.int .i64 s1) ∧ w'.cell? ⟨w.heap.size, 1, none⟩ = some (.bool g1) ∧ w'.cell? ⟨w.heap.size + 1, 0, none⟩ = some (.int .i64 s2) ∧ w'.cell? ⟨w.heap.size + 1, 1, none⟩ = some (.bool g2) ∧ w'.cell? ⟨1, 0, none⟩ = some (.int .i64 4) ∧ w'.cell? ⟨1, 1, none⟩ = some (.bool true) ∧ w'.cell? ⟨1, 2, none⟩ = some (.int .i64 4) ∧ w'.cell? ⟨1, 3, none⟩ = some (.bool false) ∧ w'.cell? ⟨1, 4, none⟩ = some (.int .i64 8) ∧ w'.cell? ⟨1, 5, none⟩ = some (.bool true) ∧ w'.cell? ⟨1, 6, none⟩ = some (.int .i64 8) ∧ w'.cell? ⟨1, 7, none⟩ = some (.bool false) ∧ w.heap.size + 3 ≤ w'.heap.size) (exact ⟨by go_simp, by go_simp, by go_simp, by go_simp, by go_simp, by go_simp, by go_simp, by go_simp, by go_simp, by go_simp, by go_simp, by go_simp, by (first | omega | (simp; done) | (simp; omega))⟩) (first | (go_at_call 20; (with_reducible refine (H1 _ ?hpp).mono ?_); (try case hpp => exact ⟨by go_simp, by go_simp, by go_simp, by go_simp, by go_simp, by go_simp, by go_simp, by go_simp⟩); rintro e w1 ⟨rfl, hb⟩; obtain ⟨os, n, rfl⟩ := Below.moreE hb; clear hb) | (go_at_call 20; (with_reducible refine (H2 _ ?hpp).mono ?_); (try case hpp => exact ⟨by go_simp, by go_simp, by go_simp, by go_simp, by go_simp, by go_simp, by go_simp, by go_simp⟩); rintro e w1 ⟨rfl, hb⟩; obtain ⟨os, n, rfl⟩ := Below.moreE hb; clear hb) | (go_at_call 69; (with_reducible refine (R1 _ ?hpp).mono ?_); (try case hpp => exact ⟨by go_simp, by go_simp, by go_simp, by go_simp, by go_simp, by go_simp, by go_simp, by go_simp⟩); rintro e w1 ⟨rfl, hb⟩; obtain ⟨os, n, rfl⟩ := Below.moreE hb; clear hb) | (go_at_call 69; (with_reducible refine (R2 _ ?hpp).mono ?_); (try case hpp => exact ⟨by go_simp, by go_simp, by go_simp, by go_simp, by go_simp, by go_simp, by go_simp, by go_simp⟩); rintro e w1 ⟨rfl, hb⟩; obtain ⟨os, n, rfl⟩ := Below.moreE hb; clear hb)) | fail
  all_goals
    go_wp2_with fail
    refine bodyPost_ret (v := tyV 8 false) (by simp [results, Tryz.results31, go_sem]) rfl ⟨rfl, (Gr.below (by repeat (first | (with_reducible exact Gr.refl _) | with_reducible refine Gr.alloc ?_ _ | with_reducible refine Gr.more ?_ _ _ | with_reducible refine Gr.setCell ?_ (by dsimp only; omega) _ | with_reducible refine Gr.drew ?_)))⟩
set_option maxHeartbeats 2000000 in
theorem rcommon_30 {s1 s2 : Int} {g1 g2 : Bool} (H1 : QetV 20 #[tyV s1 g1] 8 false) (H2 : QetV 20 #[tyV s2 g2] 4 true) : QetV 31 #[tyV s1 g1, tyV s2 g2] 8 false := fun w hq => by
  have hm : max (3 : Int) 0 = 3 := by decide
  have R1 := rrank_3
  have R2 := rrank_0
  obtain ⟨q0, q1, q2, q3, q4, q5, q6, q7⟩ := hq
  have zq := szc q0
  go_enter Tryz.func31, Tryz.ntmps31
  go_upto_region 1 with fail
  first | skip; go_region_held3 (fun w' => w'.cell? ⟨w.heap.size, 0, none⟩ = some (.int .i64 s1) ∧ w'.cell? ⟨w.heap.size, 1, none⟩ = some (.bool g1) ∧ w'.cell? ⟨w.heap.size + 1, 0, none⟩ = some (.int .i64 s2) ∧ w'.cell? ⟨w.heap.size + 1, 1, none⟩ = some (.bool g2) ∧ w'.cell? ⟨1, 0, none⟩ = some (.int .i64 4) ∧ w'.cell? ⟨1, 1, none⟩ = some (.bool true) ∧ w'.cell? ⟨1, 2, none⟩ = some (.int .i64 4) ∧ w'.cell? ⟨1, 3, none⟩ = some (.bool false) ∧ w'.cell? ⟨1, 4, none⟩ = some (.int .i64 8) ∧ w'.cell? ⟨1, 5, none⟩ = some (.bool true) ∧ w'.cell? ⟨1, 6, none⟩ = some (.int .i64 8) ∧ w'.cell? ⟨1, 7, none⟩ = some (.bool false) ∧ w.heap.size + 3 ≤ w'.heap.size) (exact ⟨by go_simp, by go_simp, by go_simp, by go_simp, by go_simp, by go_simp, by go_simp, by go_simp, by go_simp, by go_simp, by go_simp, by go_simp, by (first | omega | (simp; done) | (simp; omega))⟩) (first | (go_at_call 20; (with_reducible refine (H1 _ ?hpp).mono ?_); (try case hpp => exact ⟨by go_simp, by go_simp, by go_simp, by go_simp, by go_simp, by go_simp, by go_simp, by go_simp⟩); rintro e w1 ⟨rfl, hb⟩; obtain ⟨os, n, rfl⟩ := Below.moreE hb; clear hb) | (go_at_call 20; (with_reducible refine (H2 _ ?hpp).mono ?_); (try case hpp => exact ⟨by go_simp, by go_simp, by go_simp, by go_simp, by go_simp, by go_simp, by go_simp, by go_simp⟩); rintro e w1 ⟨rfl, hb⟩; obtain ⟨os, n, rfl⟩ := Below.moreE hb; clear hb) | (go_at_call 69; (with_reducible refine (R1 _ ?hpp).mono ?_); (try case hpp => exact ⟨by go_simp, by go_simp, by go_simp, by go_simp, by go_simp, by go_simp, by go_simp, by go_simp⟩); rintro e w1 ⟨rfl, hb⟩; obtain ⟨os, n, rfl⟩ := Below.moreE hb; clear hb) | (go_at_call 69; (with_reducible refine (R2 _ ?hpp).mono ?_); (try case hpp => exact ⟨by go_simp, by go_simp, by go_simp, by go_simp, by go_simp, by go_simp, by go_simp, by go_simp⟩); rintro e w1 ⟨rfl, hb⟩; obtain ⟨os, n, rfl⟩ := Below.moreE hb; clear hb)) | fail
  all_goals
    go_wp2_with fail
    refine bodyPost_ret (v := tyV 8 false) (by simp [results, Tryz.results31, go_sem]) rfl ⟨rfl, (Gr.below (by repeat (first | (with_reducible exact Gr.refl _) | with_reducible refine Gr.alloc ?_ _ | with_reducible refine Gr.more ?_ _ _ | with_reducible refine Gr.setCell ?_ (by dsimp only; omega) _ | with_reducible refine Gr.drew ?_)))⟩
set_option maxHeartbeats 2000000 in
theorem rcommon_31 {s1 s2 : Int} {g1 g2 : Bool} (H1 : QetV 20 #[tyV s1 g1] 8 false) (H2 : QetV 20 #[tyV s2 g2] 4 false) : QetV 31 #[tyV s1 g1, tyV s2 g2] 8 false := fun w hq => by
  have hm : max (3 : Int) 1 = 3 := by decide
  have R1 := rrank_3
  have R2 := rrank_1
  obtain ⟨q0, q1, q2, q3, q4, q5, q6, q7⟩ := hq
  have zq := szc q0
  go_enter Tryz.func31, Tryz.ntmps31
  go_upto_region 1 with fail
  first | skip; go_region_held3 (fun w' => w'.cell? ⟨w.heap.size, 0, none⟩ = some (.int .i64 s1) ∧ w'.cell? ⟨w.heap.size, 1, none⟩ = some (.bool g1) ∧ w'.cell? ⟨w.heap.size + 1, 0, none⟩ = some (.int .i64 s2) ∧ w'.cell? ⟨w.heap.size + 1, 1, none⟩ = some (.bool g2) ∧ w'.cell? ⟨1, 0, none⟩ = some (.int .i64 4) ∧ w'.cell? ⟨1, 1, none⟩ = some (.bool true) ∧ w'.cell? ⟨1, 2, none⟩ = some (.int .i64 4) ∧ w'.cell? ⟨1, 3, none⟩ = some (.bool false) ∧ w'.cell? ⟨1, 4, none⟩ = some (.int .i64 8) ∧ w'.cell? ⟨1, 5, none⟩ = some (.bool true) ∧ w'.cell? ⟨1, 6, none⟩ = some (.int .i64 8) ∧ w'.cell? ⟨1, 7, none⟩ = some (.bool false) ∧ w.heap.size + 3 ≤ w'.heap.size) (exact ⟨by go_simp, by go_simp, by go_simp, by go_simp, by go_simp, by go_simp, by go_simp, by go_simp, by go_simp, by go_simp, by go_simp, by go_simp, by (first | omega | (simp; done) | (simp; omega))⟩) (first | (go_at_call 20; (with_reducible refine (H1 _ ?hpp).mono ?_); (try case hpp => exact ⟨by go_simp, by go_simp, by go_simp, by go_simp, by go_simp, by go_simp, by go_simp, by go_simp⟩); rintro e w1 ⟨rfl, hb⟩; obtain ⟨os, n, rfl⟩ := Below.moreE hb; clear hb) | (go_at_call 20; (with_reducible refine (H2 _ ?hpp).mono ?_); (try case hpp => exact ⟨by go_simp, by go_simp, by go_simp, by go_simp, by go_simp, by go_simp, by go_simp, by go_simp⟩); rintro e w1 ⟨rfl, hb⟩; obtain ⟨os, n, rfl⟩ := Below.moreE hb; clear hb) | (go_at_call 69; (with_reducible refine (R1 _ ?hpp).mono ?_); (try case hpp => exact ⟨by go_simp, by go_simp, by go_simp, by go_simp, by go_simp, by go_simp, by go_simp, by go_simp⟩); rintro e w1 ⟨rfl, hb⟩; obtain ⟨os, n, rfl⟩ := Below.moreE hb; clear hb) | (go_at_call 69; (with_reducible refine (R2 _ ?hpp).mono ?_); (try case hpp => exact ⟨by go_simp, by go_simp, by go_simp, by go_simp, by go_simp, by go_simp, by go_simp, by go_simp⟩); rintro e w1 ⟨rfl, hb⟩; obtain ⟨os, n, rfl⟩ := Below.moreE hb; clear hb)) | fail
  all_goals
    go_wp2_with fail
    refine bodyPost_ret (v := tyV 8 false) (by simp [results, Tryz.results31, go_sem]) rfl ⟨rfl, (Gr.below (by repeat (first | (with_reducible exact Gr.refl _) | with_reducible refine Gr.alloc ?_ _ | with_reducible refine Gr.more ?_ _ _ | with_reducible refine Gr.setCell ?_ (by dsimp only; omega) _ | with_reducible refine Gr.drew ?_)))⟩
set_option maxHeartbeats 2000000 in
theorem rcommon_32 {s1 s2 : Int} {g1 g2 : Bool} (H1 : QetV 20 #[tyV s1 g1] 8 false) (H2 : QetV 20 #[tyV s2 g2] 8 true) : QetV 31 #[tyV s1 g1, tyV s2 g2] 8 false := fun w hq => by
  have hm : max (3 : Int) 2 = 3 := by decide
  have R1 := rrank_3
  have R2 := rrank_2
  obtain ⟨q0, q1, q2, q3, q4, q5, q6, q7⟩ := hq
  have zq := szc q0
  go_enter Tryz.func31, Tryz.ntmps31
  go_upto_region 1 with fail
  first | skip; go_region_held3 (fun w' => w'.cell? ⟨w.heap.size, 0, none⟩ = some (.int .i64 s1) ∧ w'.cell? ⟨w.heap.size, 1, none⟩ = some (.bool g1) ∧ w'.cell? ⟨w.heap.size + 1, 0, none⟩ = some (.int .i64 s2) ∧ w'.cell? ⟨w.heap.size + 1, 1, none⟩ = some (.bool g2) ∧ w'.cell? ⟨1, 0, none⟩ = some (.int .i64 4) ∧ w'.cell? ⟨1, 1, none⟩ = some (.bool true) ∧ w'.cell? ⟨1, 2, none⟩ = some (.int .i64 4) ∧ w'.cell? ⟨1, 3, none⟩ = some (.bool false) ∧ w'.cell? ⟨1, 4, none⟩ = some (.int .i64 8) ∧ w'.cell? ⟨1, 5, none⟩ = some (.bool true) ∧ w'.cell? ⟨1, 6, none⟩ = some (.int .i64 8) ∧ w'.cell? ⟨1, 7, none⟩ = some (.bool false) ∧ w.heap.size + 3 ≤ w'.heap.size) (exact ⟨by go_simp, by go_simp, by go_simp, by go_simp, by go_simp, by go_simp, by go_simp, by go_simp, by go_simp, by go_simp, by go_simp, by go_simp, by (first | omega | (simp; done) | (simp; omega))⟩) (first | (go_at_call 20; (with_reducible refine (H1 _ ?hpp).mono ?_); (try case hpp => exact ⟨by go_simp, by go_simp, by go_simp, by go_simp, by go_simp, by go_simp, by go_simp, by go_simp⟩); rintro e w1 ⟨rfl, hb⟩; obtain ⟨os, n, rfl⟩ := Below.moreE hb; clear hb) | (go_at_call 20; (with_reducible refine (H2 _ ?hpp).mono ?_); (try case hpp => exact ⟨by go_simp, by go_simp, by go_simp, by go_simp, by go_simp, by go_simp, by go_simp, by go_simp⟩); rintro e w1 ⟨rfl, hb⟩; obtain ⟨os, n, rfl⟩ := Below.moreE hb; clear hb) | (go_at_call 69; (with_reducible refine (R1 _ ?hpp).mono ?_); (try case hpp => exact ⟨by go_simp, by go_simp, by go_simp, by go_simp, by go_simp, by go_simp, by go_simp, by go_simp⟩); rintro e w1 ⟨rfl, hb⟩; obtain ⟨os, n, rfl⟩ := Below.moreE hb; clear hb) | (go_at_call 69; (with_reducible refine (R2 _ ?hpp).mono ?_); (try case hpp => exact ⟨by go_simp, by go_simp, by go_simp, by go_simp, by go_simp, by go_simp, by go_simp, by go_simp⟩); rintro e w1 ⟨rfl, hb⟩; obtain ⟨os, n, rfl⟩ := Below.moreE hb; clear hb)) | fail
  all_goals
    go_wp2_with fail
    refine bodyPost_ret (v := tyV 8 false) (by simp [results, Tryz.results31, go_sem]) rfl ⟨rfl, (Gr.below (by repeat (first | (with_reducible exact Gr.refl _) | with_reducible refine Gr.alloc ?_ _ | with_reducible refine Gr.more ?_ _ _ | with_reducible refine Gr.setCell ?_ (by dsimp only; omega) _ | with_reducible refine Gr.drew ?_)))⟩
set_option maxHeartbeats 2000000 in
theorem rcommon_33 {s1 s2 : Int} {g1 g2 : Bool} (H1 : QetV 20 #[tyV s1 g1] 8 false) (H2 : QetV 20 #[tyV s2 g2] 8 false) : QetV 31 #[tyV s1 g1, tyV s2 g2] 8 false := fun w hq => by
  have hm : max (3 : Int) 3 = 3 := by decide
  have R1 := rrank_3
  have R2 := rrank_3
  obtain ⟨q0, q1, q2, q3, q4, q5, q6, q7⟩ := hq
  have zq := szc q0
  go_enter Tryz.func31, Tryz.ntmps31
  go_upto_region 1 with fail
  first | skip; go_region_held3 (fun w' => w'.cell? ⟨w.heap.size, 0, none⟩ = some (.int .i64 s1) ∧ w'.cell? ⟨w.heap.size, 1, none⟩ = some (.bool g1) ∧ w'.cell? ⟨w.heap.size + 1, 0, none⟩ = some (.int .i64 s2) ∧ w'.cell? ⟨w.heap.size + 1, 1, none⟩ = some (.bool g2) ∧ w'.cell? ⟨1, 0, none⟩ = some (.int .i64 4) ∧ w'.cell? ⟨1, 1, none⟩ = some (.bool true) ∧ w'.cell? ⟨1, 2, none⟩ = some (.int .i64 4) ∧ w'.cell? ⟨1, 3, none⟩ = some (.bool false) ∧ w'.cell? ⟨1, 4, none⟩ = some (.int .i64 8) ∧ w'.cell? ⟨1, 5, none⟩ = some (.bool true) ∧ w'.cell? ⟨1, 6, none⟩ = some (.int .i64 8) ∧ w'.cell? ⟨1, 7, none⟩ = some (.bool false) ∧ w.heap.size + 3 ≤ w'.heap.size) (exact ⟨by go_simp, by go_simp, by go_simp, by go_simp, by go_simp, by go_simp, by go_simp, by go_simp, by go_simp, by go_simp, by go_simp, by go_simp, by (first | omega | (simp; done) | (simp; omega))⟩) (first | (go_at_call 20; (with_reducible refine (H1 _ ?hpp).mono ?_); (try case hpp => exact ⟨by go_simp, by go_simp, by go_simp, by go_simp, by go_simp, by go_simp, by go_simp, by go_simp⟩); rintro e w1 ⟨rfl, hb⟩; obtain ⟨os, n, rfl⟩ := Below.moreE hb; clear hb) | (go_at_call 20; (with_reducible refine (H2 _ ?hpp).mono ?_); (try case hpp => exact ⟨by go_simp, by go_simp, by go_simp, by go_simp, by go_simp, by go_simp, by go_simp, by go_simp⟩); rintro e w1 ⟨rfl, hb⟩; obtain ⟨os, n, rfl⟩ := Below.moreE hb; clear hb) | (go_at_call 69; (with_reducible refine (R1 _ ?hpp).mono ?_); (try case hpp => exact ⟨by go_simp, by go_simp, by go_simp, by go_simp, by go_simp, by go_simp, by go_simp, by go_simp⟩); rintro e w1 ⟨rfl, hb⟩; obtain ⟨os, n, rfl⟩ := Below.moreE hb; clear hb) | (go_at_call 69; (with_reducible refine (R2 _ ?hpp).mono ?_); (try case hpp => exact ⟨by go_simp, by go_simp, by go_simp, by go_simp, by go_simp, by go_simp, by go_simp, by go_simp⟩); rintro e w1 ⟨rfl, hb⟩; obtain ⟨os, n, rfl⟩ := Below.moreE hb; clear hb)) | fail
  all_goals
    go_wp2_with fail
    refine bodyPost_ret (v := tyV 8 false) (by simp [results, Tryz.results31, go_sem]) rfl ⟨rfl, (Gr.below (by repeat (first | (with_reducible exact Gr.refl _) | with_reducible refine Gr.alloc ?_ _ | with_reducible refine Gr.more ?_ _ _ | with_reducible refine Gr.setCell ?_ (by dsimp only; omega) _ | with_reducible refine Gr.drew ?_)))⟩
theorem cm_pr (s1 : Int) (g1 : Bool) (s2 : Int) (g2 : Bool) : cmS s1 g1 s2 g2 = (if rkI (prS s1) (prG s1 g1) < rkI (prS s2) (prG s2 g2) then prS s2 else prS s1) ∧ cmG s1 g1 s2 g2 = (if rkI (prS s1) (prG s1 g1) < rkI (prS s2) (prG s2 g2) then prG s2 g2 else prG s1 g1) := by
  unfold cmS cmG cmL
  by_cases h : rkI (prS s1) (prG s1 g1) < rkI (prS s2) (prG s2 g2) <;> simp [h]
theorem rcommon_ok {s1 s2 : Int} (v1 : validB s1 = true) (v2 : validB s2 = true) (g1 g2 : Bool) : QetV 31 #[tyV s1 g1, tyV s2 g2] (cmS s1 g1 s2 g2) (cmG s1 g1 s2 g2) := by
  have H1 := rpromoted_any s1 g1
  have H2 := rpromoted_any s2 g2
  have c := cm_pr s1 g1 s2 g2
  rw [c.1, c.2]
  generalize prG s1 g1 = G1 at *
  generalize prG s2 g2 = G2 at *
  rcases prS_of s1 v1 with e1 | e1 <;> rcases prS_of s2 v2 with e2 | e2 <;> rw [e1] at H1 ⊢ <;> rw [e2] at H2 ⊢ <;> cases G1 <;> cases G2
  · exact rcommon_11 H1 H2
  · exact rcommon_10 H1 H2
  · exact rcommon_01 H1 H2
  · exact rcommon_00 H1 H2
  · exact rcommon_13 H1 H2
  · exact rcommon_12 H1 H2
  · exact rcommon_03 H1 H2
  · exact rcommon_02 H1 H2
  · exact rcommon_31 H1 H2
  · exact rcommon_30 H1 H2
  · exact rcommon_21 H1 H2
  · exact rcommon_20 H1 H2
  · exact rcommon_33 H1 H2
  · exact rcommon_32 H1 H2
  · exact rcommon_23 H1 H2
  · exact rcommon_22 H1 H2
end Go.Proofs.YtojcdjpaojgkkaaGreatDoor
