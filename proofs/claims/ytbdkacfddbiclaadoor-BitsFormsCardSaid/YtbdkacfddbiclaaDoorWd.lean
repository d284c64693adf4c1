import Derived.Test.YtbdkacfddbiclaaDoorWb
import Derived.Test.YtbdkacfddbiclaaDoorWc
namespace Go.Proofs.YtbdkacfddbiclaaDoor
open Go.RowKit

set_option maxHeartbeats 400000 in
theorem check_any (s : Int) (g : Bool) (w : World) : Calls Tryd.prog 23 #[tyV s g] w fun e w' => e = .returned (.int .i64 (eT s)) ∧ Below w.heap.size w w' := by
  by_cases hv : validB s = true
  all_goals
    go_enter Tryd.func23, Tryd.ntmps23
    go_wp2_with (go_at_call 40; (refine (valid_any _ _ _).mono ?_); rintro e w1 ⟨rfl, hb⟩; obtain ⟨os, n, rfl⟩ := Below.moreE hb; clear hb)
    go_ret
    exact ⟨ret_int (by simp [eT, hv, sel]), (Gr.below (by repeat (first | (with_reducible exact Gr.refl _) | with_reducible refine Gr.alloc ?_ _ | with_reducible refine Gr.more ?_ _ _ | with_reducible refine Gr.setCell ?_ (by dsimp only; omega) _ | with_reducible refine Gr.drew ?_)))⟩

set_option maxHeartbeats 400000 in
theorem bwrap_any (s : Int) (g : Bool) (v : Int) (w : World) : Calls Tryd.prog 19 #[tyV s g, .int .i64 v] w fun e w' => e = .returned (.tuple #[.int .i64 (sel (validB s) (wrapI s g v) 0), .int .i64 (eT s)]) ∧ Below w.heap.size w w' := by
  by_cases hv : validB s = true
  all_goals
    go_enter Tryd.func19, Tryd.ntmps19
    go_wp2_with first | (go_at_call 40; (refine (valid_any _ _ _).mono ?_); rintro e w1 ⟨rfl, hb⟩; obtain ⟨os, n, rfl⟩ := Below.moreE hb; clear hb) | (go_at_call 48; (refine (wrap_any _ _ _ _).mono ?_); rintro e w1 ⟨rfl, hb⟩; obtain ⟨os, n, rfl⟩ := Below.moreE hb; clear hb)
    go_ret2
    exact ⟨by simp [eT, hv, sel], (Gr.below (by repeat (first | (with_reducible exact Gr.refl _) | with_reducible refine Gr.alloc ?_ _ | with_reducible refine Gr.more ?_ _ _ | with_reducible refine Gr.setCell ?_ (by dsimp only; omega) _ | with_reducible refine Gr.drew ?_)))⟩

set_option maxHeartbeats 400000 in
theorem bcompare_any (s : Int) (g : Bool) (a b : Int) (w : World) : Calls Tryd.prog 25 #[tyV s g, .int .i64 a, .int .i64 b] w fun e w' => e = .returned (.tuple #[.int .i64 (sel (validB s) (ordI g (wrapI s g a) (wrapI s g b)) 0), .int .i64 (eT s)]) ∧ Below w.heap.size w w' := by
  by_cases hv : validB s = true
  all_goals
    go_enter Tryd.func25, Tryd.ntmps25
    go_wp2_with (go_at_call 40; (refine (valid_any _ _ _).mono ?_); rintro e w1 ⟨rfl, hb⟩; obtain ⟨os, n, rfl⟩ := Below.moreE hb; clear hb)
  · go_region_held3 (fun w' => w'.cell? ⟨w.heap.size, 0, none⟩ = some (.int .i64 s) ∧ w'.cell? ⟨w.heap.size, 1, none⟩ = some (.bool g)) (exact ⟨by go_simp <;> omega, by go_simp <;> omega⟩) (first | (go_at_call 48; (refine (wrap_any _ _ _ _).mono ?_); rintro e w1 ⟨rfl, hb⟩; obtain ⟨os, n, rfl⟩ := Below.moreE hb; clear hb) | (go_at_call 49; (refine (order_any _ _ _ _ _).mono ?_); rintro e w1 ⟨rfl, hb⟩; obtain ⟨os, n, rfl⟩ := Below.moreE hb; clear hb))
    go_wp2
    go_ret2
    exact ⟨by simp [eT, hv, sel], (Gr.below (by repeat (first | (with_reducible exact Gr.refl _) | with_reducible refine Gr.alloc ?_ _ | with_reducible refine Gr.more ?_ _ _ | with_reducible refine Gr.setCell ?_ (by dsimp only; omega) _ | with_reducible refine Gr.drew ?_)))⟩
  · go_ret2
    exact ⟨by simp [eT, hv, sel], (Gr.below (by repeat (first | (with_reducible exact Gr.refl _) | with_reducible refine Gr.alloc ?_ _ | with_reducible refine Gr.more ?_ _ _ | with_reducible refine Gr.setCell ?_ (by dsimp only; omega) _ | with_reducible refine Gr.drew ?_)))⟩

set_option maxHeartbeats 400000 in
theorem bconvert_any (s1 : Int) (g1 : Bool) (s2 : Int) (g2 : Bool) (v : Int) (w : World) : Calls Tryd.prog 21 #[tyV s1 g1, tyV s2 g2, .int .i64 v] w fun e w' => e = .returned (.tuple #[.int .i64 (sel (validB s1 && validB s2) (wrapI s2 g2 (wrapI s1 g1 v)) 0), .int .i64 (eTT s1 s2)]) ∧ Below w.heap.size w w' := by
  by_cases hv : validB s1 = true
  · by_cases hv2 : validB s2 = true
    all_goals
      go_enter Tryd.func21, Tryd.ntmps21
      go_wp2_with (go_at_call 40; (refine (valid_any _ _ _).mono ?_); rintro e w1 ⟨rfl, hb⟩; obtain ⟨os, n, rfl⟩ := Below.moreE hb; clear hb)
    · go_region_held3 (fun w' => w'.cell? ⟨w.heap.size, 0, none⟩ = some (.int .i64 s1) ∧ w'.cell? ⟨w.heap.size, 1, none⟩ = some (.bool g1) ∧ w'.cell? ⟨w.heap.size + 1, 0, none⟩ = some (.int .i64 s2) ∧ w'.cell? ⟨w.heap.size + 1, 1, none⟩ = some (.bool g2)) (exact ⟨by go_simp <;> omega, by go_simp <;> omega, by go_simp <;> omega, by go_simp <;> omega⟩) (first | (go_at_call 48; (refine (wrap_any _ _ _ _).mono ?_); rintro e w1 ⟨rfl, hb⟩; obtain ⟨os, n, rfl⟩ := Below.moreE hb; clear hb))
      go_wp2
      go_ret2
      exact ⟨by simp [eT, eTT, hv, hv2, sel], (Gr.below (by repeat (first | (with_reducible exact Gr.refl _) | with_reducible refine Gr.alloc ?_ _ | with_reducible refine Gr.more ?_ _ _ | with_reducible refine Gr.setCell ?_ (by dsimp only; omega) _ | with_reducible refine Gr.drew ?_)))⟩
    · go_ret2
      exact ⟨by simp [eT, eTT, hv, hv2, sel], (Gr.below (by repeat (first | (with_reducible exact Gr.refl _) | with_reducible refine Gr.alloc ?_ _ | with_reducible refine Gr.more ?_ _ _ | with_reducible refine Gr.setCell ?_ (by dsimp only; omega) _ | with_reducible refine Gr.drew ?_)))⟩
  · go_enter Tryd.func21, Tryd.ntmps21
    go_wp2_with (go_at_call 40; (refine (valid_any _ _ _).mono ?_); rintro e w1 ⟨rfl, hb⟩; obtain ⟨os, n, rfl⟩ := Below.moreE hb; clear hb)
    go_ret2
    exact ⟨by simp [eTT, hv, sel], (Gr.below (by repeat (first | (with_reducible exact Gr.refl _) | with_reducible refine Gr.alloc ?_ _ | with_reducible refine Gr.more ?_ _ _ | with_reducible refine Gr.setCell ?_ (by dsimp only; omega) _ | with_reducible refine Gr.drew ?_)))⟩

set_option maxHeartbeats 400000 in
theorem limits_any (s : Int) (g : Bool) (w : World) (h : validB s = true) : Calls Tryd.prog 41 #[tyV s g] w fun e w' => e = .returned (.tuple #[.int .i64 (rgL s g), .int .i64 (rgH s g)]) ∧ Below w.heap.size w w' := by
  rcases (valid_iff s).1 h with rfl | rfl | rfl | rfl <;> cases g
  all_goals
    clear h
    go_enter Tryd.func41, Tryd.ntmps41
    go_wp2_with first | (go_at_call 48; (refine (wrap_any _ _ _ _).mono ?_); rintro e w1 ⟨rfl, hb⟩; obtain ⟨os, n, rfl⟩ := Below.moreE hb; clear hb) | (go_at_call 63; (refine (width_any _ _ _ ?hpp).mono ?_; case hpp => omega); rintro e w1 ⟨rfl, hb⟩; obtain ⟨os, n, rfl⟩ := Below.moreE hb; clear hb)
    go_ret2
    exact ⟨by (simp [rgL, rgH, wrapI]; try decide +kernel), (Gr.below (by repeat (first | (with_reducible exact Gr.refl _) | with_reducible refine Gr.alloc ?_ _ | with_reducible refine Gr.more ?_ _ _ | with_reducible refine Gr.setCell ?_ (by dsimp only; omega) _ | with_reducible refine Gr.drew ?_)))⟩

set_option maxHeartbeats 400000 in
theorem brange_any (s : Int) (g : Bool) (w : World) : Calls Tryd.prog 13 #[tyV s g] w fun e w' => e = .returned (.tuple #[.int .i64 (sel (validB s) (rgL s g) 0), .int .i64 (sel (validB s) (rgH s g) 0), .int .i64 (eT s)]) ∧ Below w.heap.size w w' := by
  by_cases hv : validB s = true
  all_goals
    go_enter Tryd.func13, Tryd.ntmps13
    go_wp2_with first | (go_at_call 40; (refine (valid_any _ _ _).mono ?_); rintro e w1 ⟨rfl, hb⟩; obtain ⟨os, n, rfl⟩ := Below.moreE hb; clear hb) | (go_at_call 41; (refine (limits_any _ _ _ ?hpp).mono ?_; case hpp => exact hv); rintro e w1 ⟨rfl, hb⟩; obtain ⟨os, n, rfl⟩ := Below.moreE hb; clear hb)
    go_ret3
    exact ⟨by simp [eT, hv, sel], (Gr.below (by repeat (first | (with_reducible exact Gr.refl _) | with_reducible refine Gr.alloc ?_ _ | with_reducible refine Gr.more ?_ _ _ | with_reducible refine Gr.setCell ?_ (by dsimp only; omega) _ | with_reducible refine Gr.drew ?_)))⟩

set_option maxHeartbeats 400000 in
theorem bpromote_any (s : Int) (g : Bool) (w : World) (hp : PI w) : Calls Tryd.prog 15 #[tyV s g] w fun e w' => e = .returned (.tuple #[selV (validB s) (tyV (prS s) (prG s g)) (tyV 0 false), .int .i64 (eT s)]) ∧ Below w.heap.size w w' := by
  obtain ⟨p0, p1, hsz⟩ := hp
  by_cases hv : validB s = true
  all_goals
    go_enter Tryd.func15, Tryd.ntmps15
    go_wp2_with first | (go_at_call 40; (refine (valid_any _ _ _).mono ?_); rintro e w1 ⟨rfl, hb⟩; obtain ⟨os, n, rfl⟩ := Below.moreE hb; clear hb) | (go_at_call 43; (refine (promoted_any _ _ _ ?hpp).mono ?_; case hpp => exact ⟨by go_simp, by go_simp, by go_simp <;> omega⟩); rintro e w1 ⟨rfl, hb⟩; obtain ⟨os, n, rfl⟩ := Below.moreE hb; clear hb)
    refine bodyPost_ret (v := .tuple #[selV (validB s) (tyV (prS s) (prG s g)) (tyV 0 false), .int .i64 (eT s)]) ?_ rfl ⟨rfl, (Gr.below (by repeat (first | (with_reducible exact Gr.refl _) | with_reducible refine Gr.alloc ?_ _ | with_reducible refine Gr.more ?_ _ _ | with_reducible refine Gr.setCell ?_ (by dsimp only; omega) _ | with_reducible refine Gr.drew ?_)))⟩
    simp [results, Tryd.results15, go_sem, eT, selV, *]

set_option maxHeartbeats 400000 in
theorem busual_any (s1 : Int) (g1 : Bool) (s2 : Int) (g2 : Bool) (w : World) (hp : PI w) : Calls Tryd.prog 17 #[tyV s1 g1, tyV s2 g2] w fun e w' => e = .returned (.tuple #[selV (validB s1 && validB s2) (tyV (cmS s1 g1 s2 g2) (cmG s1 g1 s2 g2)) (tyV 0 false), .int .i64 (eTT s1 s2)]) ∧ Below w.heap.size w w' := by
  obtain ⟨p0, p1, hsz⟩ := hp
  by_cases hv : validB s1 = true
  · by_cases hv2 : validB s2 = true
    all_goals
      go_enter Tryd.func17, Tryd.ntmps17
      go_wp2_with first | (go_at_call 40; (refine (valid_any _ _ _).mono ?_); rintro e w1 ⟨rfl, hb⟩; obtain ⟨os, n, rfl⟩ := Below.moreE hb; clear hb) | (go_at_call 45; (refine (common_any _ _ _ _ _ ?hpp hv hv2).mono ?_; case hpp => exact ⟨by go_simp, by go_simp, by go_simp <;> omega⟩); rintro e w1 ⟨rfl, hb⟩; obtain ⟨os, n, rfl⟩ := Below.moreE hb; clear hb)
      refine bodyPost_ret (v := .tuple #[selV (validB s1 && validB s2) (tyV (cmS s1 g1 s2 g2) (cmG s1 g1 s2 g2)) (tyV 0 false), .int .i64 (eTT s1 s2)]) ?_ rfl ⟨rfl, (Gr.below (by repeat (first | (with_reducible exact Gr.refl _) | with_reducible refine Gr.alloc ?_ _ | with_reducible refine Gr.more ?_ _ _ | with_reducible refine Gr.setCell ?_ (by dsimp only; omega) _ | with_reducible refine Gr.drew ?_)))⟩
      simp [results, Tryd.results17, go_sem, eT, eTT, selV, *]
  · go_enter Tryd.func17, Tryd.ntmps17
    go_wp2_with (go_at_call 40; (refine (valid_any _ _ _).mono ?_); rintro e w1 ⟨rfl, hb⟩; obtain ⟨os, n, rfl⟩ := Below.moreE hb; clear hb)
    refine bodyPost_ret (v := .tuple #[selV (validB s1 && validB s2) (tyV (cmS s1 g1 s2 g2) (cmG s1 g1 s2 g2)) (tyV 0 false), .int .i64 (eTT s1 s2)]) ?_ rfl ⟨rfl, (Gr.below (by repeat (first | (with_reducible exact Gr.refl _) | with_reducible refine Gr.alloc ?_ _ | with_reducible refine Gr.more ?_ _ _ | with_reducible refine Gr.setCell ?_ (by dsimp only; omega) _ | with_reducible refine Gr.drew ?_)))⟩
    simp [results, Tryd.results17, go_sem, eT, eTT, selV, *]
end Go.Proofs.YtbdkacfddbiclaaDoor
