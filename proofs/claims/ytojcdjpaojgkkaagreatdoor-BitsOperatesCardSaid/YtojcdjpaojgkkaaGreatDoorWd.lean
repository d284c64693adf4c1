import Derived.Test.YtojcdjpaojgkkaaGreatDoorWb
import Derived.Test.YtojcdjpaojgkkaaGreatDoorWc
namespace Go.Proofs.YtojcdjpaojgkkaaGreatDoor
open Go.RowKit

set_option maxHeartbeats 400000 in
theorem bwrap_any (s : Int) (g : Bool) (v : Int) (w : World) : Calls Tryz.prog 10 #[tyV s g, .int .i64 v] w fun e w' => e = .returned (.tuple #[.int .i64 (sel (validB s) (wrapI s g v) 0), .int .i64 (eT s)]) ∧ Below w.heap.size w w' := by
  by_cases hv : validB s = true
  all_goals
    go_enter Tryz.func10, Tryz.ntmps10
    go_wp2_with first | (go_at_call 14; (refine (valid_any _ _ _).mono ?_); rintro e w1 ⟨rfl, hb⟩; obtain ⟨os, n, rfl⟩ := Below.moreE hb; clear hb) | (go_at_call 17; (refine (wrap_any _ _ _ _).mono ?_); rintro e w1 ⟨rfl, hb⟩; obtain ⟨os, n, rfl⟩ := Below.moreE hb; clear hb)
    go_ret2
    exact ⟨by simp [eT, hv, sel], (Gr.below (by repeat (first | (with_reducible exact Gr.refl _) | with_reducible refine Gr.alloc ?_ _ | with_reducible refine Gr.more ?_ _ _ | with_reducible refine Gr.setCell ?_ (by dsimp only; omega) _ | with_reducible refine Gr.drew ?_)))⟩

set_option maxHeartbeats 400000 in
theorem limits_any (s : Int) (g : Bool) (w : World) (h : validB s = true) : Calls Tryz.prog 73 #[tyV s g] w fun e w' => e = .returned (.tuple #[.int .i64 (rgL s g), .int .i64 (rgH s g)]) ∧ Below w.heap.size w w' := by
  rcases (valid_iff s).1 h with rfl | rfl | rfl | rfl <;> cases g
  all_goals
    clear h
    go_enter Tryz.func73, Tryz.ntmps73
    go_wp2_with first | (go_at_call 17; (refine (wrap_any _ _ _ _).mono ?_); rintro e w1 ⟨rfl, hb⟩; obtain ⟨os, n, rfl⟩ := Below.moreE hb; clear hb) | (go_at_call 60; (refine (width_any _ _ _ ?hpp).mono ?_; case hpp => omega); rintro e w1 ⟨rfl, hb⟩; obtain ⟨os, n, rfl⟩ := Below.moreE hb; clear hb)
    go_ret2
    exact ⟨by (simp [rgL, rgH, wrapI]; try decide +kernel), (Gr.below (by repeat (first | (with_reducible exact Gr.refl _) | with_reducible refine Gr.alloc ?_ _ | with_reducible refine Gr.more ?_ _ _ | with_reducible refine Gr.setCell ?_ (by dsimp only; omega) _ | with_reducible refine Gr.drew ?_)))⟩

set_option maxHeartbeats 400000 in
theorem busual_any (s1 : Int) (g1 : Bool) (s2 : Int) (g2 : Bool) (w : World) (hp : PI w) : Calls Tryz.prog 11 #[tyV s1 g1, tyV s2 g2] w fun e w' => e = .returned (.tuple #[selV (validB s1 && validB s2) (tyV (cmS s1 g1 s2 g2) (cmG s1 g1 s2 g2)) (tyV 0 false), .int .i64 (eTT s1 s2)]) ∧ Below w.heap.size w w' := by
  obtain ⟨p0, p1, hsz⟩ := hp
  by_cases hv : validB s1 = true
  · by_cases hv2 : validB s2 = true
    all_goals
      go_enter Tryz.func11, Tryz.ntmps11
      go_wp2_with first | (go_at_call 14; (refine (valid_any _ _ _).mono ?_); rintro e w1 ⟨rfl, hb⟩; obtain ⟨os, n, rfl⟩ := Below.moreE hb; clear hb) | (go_at_call 23; (refine (common_any _ _ _ _ _ ?hpp hv hv2).mono ?_; case hpp => exact ⟨by go_simp, by go_simp, by go_simp <;> omega⟩); rintro e w1 ⟨rfl, hb⟩; obtain ⟨os, n, rfl⟩ := Below.moreE hb; clear hb)
      refine bodyPost_ret (v := .tuple #[selV (validB s1 && validB s2) (tyV (cmS s1 g1 s2 g2) (cmG s1 g1 s2 g2)) (tyV 0 false), .int .i64 (eTT s1 s2)]) ?_ rfl ⟨rfl, (Gr.below (by repeat (first | (with_reducible exact Gr.refl _) | with_reducible refine Gr.alloc ?_ _ | with_reducible refine Gr.more ?_ _ _ | with_reducible refine Gr.setCell ?_ (by dsimp only; omega) _ | with_reducible refine Gr.drew ?_)))⟩
      simp [results, Tryz.results11, go_sem, eT, eTT, selV, *]
  · go_enter Tryz.func11, Tryz.ntmps11
    go_wp2_with (go_at_call 14; (refine (valid_any _ _ _).mono ?_); rintro e w1 ⟨rfl, hb⟩; obtain ⟨os, n, rfl⟩ := Below.moreE hb; clear hb)
    refine bodyPost_ret (v := .tuple #[selV (validB s1 && validB s2) (tyV (cmS s1 g1 s2 g2) (cmG s1 g1 s2 g2)) (tyV 0 false), .int .i64 (eTT s1 s2)]) ?_ rfl ⟨rfl, (Gr.below (by repeat (first | (with_reducible exact Gr.refl _) | with_reducible refine Gr.alloc ?_ _ | with_reducible refine Gr.more ?_ _ _ | with_reducible refine Gr.setCell ?_ (by dsimp only; omega) _ | with_reducible refine Gr.drew ?_)))⟩
    simp [results, Tryz.results11, go_sem, eTT, selV, *]
end Go.Proofs.YtojcdjpaojgkkaaGreatDoor
