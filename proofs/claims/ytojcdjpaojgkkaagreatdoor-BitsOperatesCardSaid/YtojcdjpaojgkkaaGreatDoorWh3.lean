import Derived.Test.YtojcdjpaojgkkaaGreatDoorWg
import Derived.Test.YtojcdjpaojgkkaaGreatDoorMathc
namespace Go.Proofs.YtojcdjpaojgkkaaGreatDoor
open Go.RowKit

set_option maxRecDepth 100000 in
set_option maxHeartbeats 2000000 in
theorem bin_ar6 (s1 : Int) (g1 : Bool) (a : Int) (s2 : Int) (g2 : Bool) (b : Int) (w : World) (hp : PI w) (v1 : validB s1 = true) (v2 : validB s2 = true) :
    Calls Tryz.prog 7 #[.int .i64 6, tyV s1 g1, .int .i64 a, tyV s2 g2, .int .i64 b] w fun e w' => e = .returned (triV (cmS s1 g1 s2 g2) (cmG s1 g1 s2 g2) (wrapI (cmS s1 g1 s2 g2) (cmG s1 g1 s2 g2) (arI 6 (cmG s1 g1 s2 g2) (opX s1 g1 a s2 g2) (opY s1 g1 s2 g2 b))) 0) ∧ Below w.heap.size w w' := by
  obtain ⟨p0, p1, hsz⟩ := hp
  go_enter Tryz.func7, Tryz.ntmps7
  go_wp2_with (go_at_call 14; (refine (valid_any _ _ _).mono ?_); rintro e w1 ⟨rfl, hb⟩; obtain ⟨os, n, rfl⟩ := Below.moreE hb; clear hb)
  go_region_held3 (fun w' => w'.cell? ⟨w.heap.size, 0, none⟩ = some (.int .i64 s1) ∧ w'.cell? ⟨w.heap.size, 1, none⟩ = some (.bool g1) ∧ w'.cell? ⟨w.heap.size + 1, 0, none⟩ = some (.int .i64 s2) ∧ w'.cell? ⟨w.heap.size + 1, 1, none⟩ = some (.bool g2)) (exact ⟨by go_simp <;> omega, by go_simp <;> omega, by go_simp <;> omega, by go_simp <;> omega⟩) (first | (go_at_call 17; (refine (wrap_any _ _ _ _).mono ?_); rintro e w1 ⟨rfl, hb⟩; obtain ⟨os, n, rfl⟩ := Below.moreE hb; clear hb))
  go_upto_region 6 with (go_at_call 22; (refine (arithmetic_look 6 (by decide) (.func (.func 54) #[] #[]) true rfl rfl _).mono ?_); rintro e w1 ⟨bm, rfl, hl, hb⟩; obtain ⟨os, n, rfl⟩ := Below.moreE hb; clear hb)
  clear hl
  go_cut [15] (fun s15 wx => ∃ B : Nat, s15 = .pointer (some ⟨B, 0, none⟩) ∧ (w.heap.size + 3 ≤ B ∧ B < wx.heap.size) ∧ wx.cell? ⟨B, 0, none⟩ = some (.int .i64 (cmS s1 g1 s2 g2)) ∧ wx.cell? ⟨B, 1, none⟩ = some (.bool (cmG s1 g1 s2 g2)) ∧
    wx.cell? ⟨w.heap.size + 1 + 1, 0, none⟩ = some (.int .i64 0) ∧ wx.cell? ⟨w.heap.size + 1 + 1, 1, none⟩ = some (.bool false) ∧ wx.frozen? ⟨w.heap.size + 1 + 1, 0, none⟩ = false ∧ wx.frozen? ⟨w.heap.size + 1 + 1, 1, none⟩ = false ∧ Below w.heap.size w wx ∧ wx.cell? ⟨0, 0, none⟩ = some (.int .i64 4) ∧ wx.cell? ⟨0, 1, none⟩ = some (.bool true))
  case first =>
    go_wp2_with (go_at_call 23; (refine (common_any _ _ _ _ _ ?hpp v1 v2).mono ?_; case hpp => exact ⟨by go_simp, by go_simp, by go_simp <;> omega⟩); rintro e w1 ⟨rfl, hb⟩; obtain ⟨os, n, rfl⟩ := Below.moreE hb; clear hb)
    go_meet
    exact ⟨_, rfl, ⟨by simp <;> omega, by simp <;> omega⟩, by go_simp, by go_simp, by go_simp, by go_simp, by go_simp, by go_simp, (Gr.below (by repeat (first | (with_reducible exact Gr.refl _) | with_reducible refine Gr.alloc ?_ _ | with_reducible refine Gr.more ?_ _ _ | with_reducible refine Gr.setCell ?_ (by dsimp only; omega) _ | with_reducible refine Gr.drew ?_))), by go_simp, by go_simp⟩
  case rest =>
  obtain ⟨B, rfl, ⟨b0, b1⟩, c0, c1, r0, r1, f0, f1, hB, q0, q1⟩ := hcut
  have hG : Gr w.heap.size w wc := ⟨hB, by omega⟩
  clear p0 p1 hB
  go_upto_region 7 with fail
  go_region_held3 (fun w' => w'.cell? ⟨B, 0, none⟩ = some (.int .i64 (cmS s1 g1 s2 g2)) ∧ w'.cell? ⟨B, 1, none⟩ = some (.bool (cmG s1 g1 s2 g2))) (exact ⟨by go_simp, by go_simp⟩) (first | (go_at_call 17; (refine (wrap_any _ _ _ _).mono ?_); rintro e w1 ⟨rfl, hb⟩; obtain ⟨os, n, rfl⟩ := Below.moreE hb; clear hb))
  go_upto_region 10 with fail
  all_goals
    go_region_held3 (fun w' => w'.cell? ⟨B, 0, none⟩ = some (.int .i64 (cmS s1 g1 s2 g2)) ∧ w'.cell? ⟨B, 1, none⟩ = some (.bool (cmG s1 g1 s2 g2))) (exact ⟨by go_simp, by go_simp⟩) (first | (go_at_call 17; (refine (wrap_any _ _ _ _).mono ?_); rintro e w1 ⟨rfl, hb⟩; obtain ⟨os, n, rfl⟩ := Below.moreE hb; clear hb) | (go_at_call 54; (refine (ar6_any _ _ _ _ _).mono ?_); rintro e w1 ⟨rfl, hb⟩; obtain ⟨os, n, rfl⟩ := Below.moreE hb; clear hb))
  all_goals
    go_wp2
    refine bodyPost_ret (v := triV (cmS s1 g1 s2 g2) (cmG s1 g1 s2 g2) (wrapI (cmS s1 g1 s2 g2) (cmG s1 g1 s2 g2) (arI 6 (cmG s1 g1 s2 g2) (opX s1 g1 a s2 g2) (opY s1 g1 s2 g2 b))) 0) ?_ rfl ⟨rfl, ?_⟩
    · simp [results, Tryz.results7, go_sem, triV, arI, opX, opY, *]
    · refine Gr.below ?_
      repeat (first | (with_reducible exact hG) | with_reducible refine Gr.alloc ?_ _ | with_reducible refine Gr.more ?_ _ _ | with_reducible refine Gr.setCell ?_ (by dsimp only; omega) _ | with_reducible refine Gr.drew ?_)

set_option maxRecDepth 100000 in
set_option maxHeartbeats 2000000 in
theorem bin_ar7 (s1 : Int) (g1 : Bool) (a : Int) (s2 : Int) (g2 : Bool) (b : Int) (w : World) (hp : PI w) (v1 : validB s1 = true) (v2 : validB s2 = true) :
    Calls Tryz.prog 7 #[.int .i64 7, tyV s1 g1, .int .i64 a, tyV s2 g2, .int .i64 b] w fun e w' => e = .returned (triV (cmS s1 g1 s2 g2) (cmG s1 g1 s2 g2) (wrapI (cmS s1 g1 s2 g2) (cmG s1 g1 s2 g2) (arI 7 (cmG s1 g1 s2 g2) (opX s1 g1 a s2 g2) (opY s1 g1 s2 g2 b))) 0) ∧ Below w.heap.size w w' := by
  obtain ⟨p0, p1, hsz⟩ := hp
  go_enter Tryz.func7, Tryz.ntmps7
  go_wp2_with (go_at_call 14; (refine (valid_any _ _ _).mono ?_); rintro e w1 ⟨rfl, hb⟩; obtain ⟨os, n, rfl⟩ := Below.moreE hb; clear hb)
  go_region_held3 (fun w' => w'.cell? ⟨w.heap.size, 0, none⟩ = some (.int .i64 s1) ∧ w'.cell? ⟨w.heap.size, 1, none⟩ = some (.bool g1) ∧ w'.cell? ⟨w.heap.size + 1, 0, none⟩ = some (.int .i64 s2) ∧ w'.cell? ⟨w.heap.size + 1, 1, none⟩ = some (.bool g2)) (exact ⟨by go_simp <;> omega, by go_simp <;> omega, by go_simp <;> omega, by go_simp <;> omega⟩) (first | (go_at_call 17; (refine (wrap_any _ _ _ _).mono ?_); rintro e w1 ⟨rfl, hb⟩; obtain ⟨os, n, rfl⟩ := Below.moreE hb; clear hb))
  go_upto_region 6 with (go_at_call 22; (refine (arithmetic_look 7 (by decide) (.func (.func 55) #[] #[]) true rfl rfl _).mono ?_); rintro e w1 ⟨bm, rfl, hl, hb⟩; obtain ⟨os, n, rfl⟩ := Below.moreE hb; clear hb)
  clear hl
  go_cut [15] (fun s15 wx => ∃ B : Nat, s15 = .pointer (some ⟨B, 0, none⟩) ∧ (w.heap.size + 3 ≤ B ∧ B < wx.heap.size) ∧ wx.cell? ⟨B, 0, none⟩ = some (.int .i64 (cmS s1 g1 s2 g2)) ∧ wx.cell? ⟨B, 1, none⟩ = some (.bool (cmG s1 g1 s2 g2)) ∧
    wx.cell? ⟨w.heap.size + 1 + 1, 0, none⟩ = some (.int .i64 0) ∧ wx.cell? ⟨w.heap.size + 1 + 1, 1, none⟩ = some (.bool false) ∧ wx.frozen? ⟨w.heap.size + 1 + 1, 0, none⟩ = false ∧ wx.frozen? ⟨w.heap.size + 1 + 1, 1, none⟩ = false ∧ Below w.heap.size w wx ∧ wx.cell? ⟨0, 0, none⟩ = some (.int .i64 4) ∧ wx.cell? ⟨0, 1, none⟩ = some (.bool true))
  case first =>
    go_wp2_with (go_at_call 23; (refine (common_any _ _ _ _ _ ?hpp v1 v2).mono ?_; case hpp => exact ⟨by go_simp, by go_simp, by go_simp <;> omega⟩); rintro e w1 ⟨rfl, hb⟩; obtain ⟨os, n, rfl⟩ := Below.moreE hb; clear hb)
    go_meet
    exact ⟨_, rfl, ⟨by simp <;> omega, by simp <;> omega⟩, by go_simp, by go_simp, by go_simp, by go_simp, by go_simp, by go_simp, (Gr.below (by repeat (first | (with_reducible exact Gr.refl _) | with_reducible refine Gr.alloc ?_ _ | with_reducible refine Gr.more ?_ _ _ | with_reducible refine Gr.setCell ?_ (by dsimp only; omega) _ | with_reducible refine Gr.drew ?_))), by go_simp, by go_simp⟩
  case rest =>
  obtain ⟨B, rfl, ⟨b0, b1⟩, c0, c1, r0, r1, f0, f1, hB, q0, q1⟩ := hcut
  have hG : Gr w.heap.size w wc := ⟨hB, by omega⟩
  clear p0 p1 hB
  go_upto_region 7 with fail
  go_region_held3 (fun w' => w'.cell? ⟨B, 0, none⟩ = some (.int .i64 (cmS s1 g1 s2 g2)) ∧ w'.cell? ⟨B, 1, none⟩ = some (.bool (cmG s1 g1 s2 g2))) (exact ⟨by go_simp, by go_simp⟩) (first | (go_at_call 17; (refine (wrap_any _ _ _ _).mono ?_); rintro e w1 ⟨rfl, hb⟩; obtain ⟨os, n, rfl⟩ := Below.moreE hb; clear hb))
  go_upto_region 10 with fail
  all_goals
    go_region_held3 (fun w' => w'.cell? ⟨B, 0, none⟩ = some (.int .i64 (cmS s1 g1 s2 g2)) ∧ w'.cell? ⟨B, 1, none⟩ = some (.bool (cmG s1 g1 s2 g2))) (exact ⟨by go_simp, by go_simp⟩) (first | (go_at_call 17; (refine (wrap_any _ _ _ _).mono ?_); rintro e w1 ⟨rfl, hb⟩; obtain ⟨os, n, rfl⟩ := Below.moreE hb; clear hb) | (go_at_call 55; (refine (ar7_any _ _ _ _ _).mono ?_); rintro e w1 ⟨rfl, hb⟩; obtain ⟨os, n, rfl⟩ := Below.moreE hb; clear hb))
  all_goals
    go_wp2
    refine bodyPost_ret (v := triV (cmS s1 g1 s2 g2) (cmG s1 g1 s2 g2) (wrapI (cmS s1 g1 s2 g2) (cmG s1 g1 s2 g2) (arI 7 (cmG s1 g1 s2 g2) (opX s1 g1 a s2 g2) (opY s1 g1 s2 g2 b))) 0) ?_ rfl ⟨rfl, ?_⟩
    · simp [results, Tryz.results7, go_sem, triV, arI, opX, opY, *]
    · refine Gr.below ?_
      repeat (first | (with_reducible exact hG) | with_reducible refine Gr.alloc ?_ _ | with_reducible refine Gr.more ?_ _ _ | with_reducible refine Gr.setCell ?_ (by dsimp only; omega) _ | with_reducible refine Gr.drew ?_)

set_option maxRecDepth 100000 in
set_option maxHeartbeats 2000000 in
theorem bin_ar8 (s1 : Int) (g1 : Bool) (a : Int) (s2 : Int) (g2 : Bool) (b : Int) (w : World) (hp : PI w) (v1 : validB s1 = true) (v2 : validB s2 = true) :
    Calls Tryz.prog 7 #[.int .i64 8, tyV s1 g1, .int .i64 a, tyV s2 g2, .int .i64 b] w fun e w' => e = .returned (triV (cmS s1 g1 s2 g2) (cmG s1 g1 s2 g2) (wrapI (cmS s1 g1 s2 g2) (cmG s1 g1 s2 g2) (arI 8 (cmG s1 g1 s2 g2) (opX s1 g1 a s2 g2) (opY s1 g1 s2 g2 b))) 0) ∧ Below w.heap.size w w' := by
  obtain ⟨p0, p1, hsz⟩ := hp
  go_enter Tryz.func7, Tryz.ntmps7
  go_wp2_with (go_at_call 14; (refine (valid_any _ _ _).mono ?_); rintro e w1 ⟨rfl, hb⟩; obtain ⟨os, n, rfl⟩ := Below.moreE hb; clear hb)
  go_region_held3 (fun w' => w'.cell? ⟨w.heap.size, 0, none⟩ = some (.int .i64 s1) ∧ w'.cell? ⟨w.heap.size, 1, none⟩ = some (.bool g1) ∧ w'.cell? ⟨w.heap.size + 1, 0, none⟩ = some (.int .i64 s2) ∧ w'.cell? ⟨w.heap.size + 1, 1, none⟩ = some (.bool g2)) (exact ⟨by go_simp <;> omega, by go_simp <;> omega, by go_simp <;> omega, by go_simp <;> omega⟩) (first | (go_at_call 17; (refine (wrap_any _ _ _ _).mono ?_); rintro e w1 ⟨rfl, hb⟩; obtain ⟨os, n, rfl⟩ := Below.moreE hb; clear hb))
  go_upto_region 6 with (go_at_call 22; (refine (arithmetic_look 8 (by decide) (.func (.func 56) #[] #[]) true rfl rfl _).mono ?_); rintro e w1 ⟨bm, rfl, hl, hb⟩; obtain ⟨os, n, rfl⟩ := Below.moreE hb; clear hb)
  clear hl
  go_cut [15] (fun s15 wx => ∃ B : Nat, s15 = .pointer (some ⟨B, 0, none⟩) ∧ (w.heap.size + 3 ≤ B ∧ B < wx.heap.size) ∧ wx.cell? ⟨B, 0, none⟩ = some (.int .i64 (cmS s1 g1 s2 g2)) ∧ wx.cell? ⟨B, 1, none⟩ = some (.bool (cmG s1 g1 s2 g2)) ∧
    wx.cell? ⟨w.heap.size + 1 + 1, 0, none⟩ = some (.int .i64 0) ∧ wx.cell? ⟨w.heap.size + 1 + 1, 1, none⟩ = some (.bool false) ∧ wx.frozen? ⟨w.heap.size + 1 + 1, 0, none⟩ = false ∧ wx.frozen? ⟨w.heap.size + 1 + 1, 1, none⟩ = false ∧ Below w.heap.size w wx ∧ wx.cell? ⟨0, 0, none⟩ = some (.int .i64 4) ∧ wx.cell? ⟨0, 1, none⟩ = some (.bool true))
  case first =>
    go_wp2_with (go_at_call 23; (refine (common_any _ _ _ _ _ ?hpp v1 v2).mono ?_; case hpp => exact ⟨by go_simp, by go_simp, by go_simp <;> omega⟩); rintro e w1 ⟨rfl, hb⟩; obtain ⟨os, n, rfl⟩ := Below.moreE hb; clear hb)
    go_meet
    exact ⟨_, rfl, ⟨by simp <;> omega, by simp <;> omega⟩, by go_simp, by go_simp, by go_simp, by go_simp, by go_simp, by go_simp, (Gr.below (by repeat (first | (with_reducible exact Gr.refl _) | with_reducible refine Gr.alloc ?_ _ | with_reducible refine Gr.more ?_ _ _ | with_reducible refine Gr.setCell ?_ (by dsimp only; omega) _ | with_reducible refine Gr.drew ?_))), by go_simp, by go_simp⟩
  case rest =>
  obtain ⟨B, rfl, ⟨b0, b1⟩, c0, c1, r0, r1, f0, f1, hB, q0, q1⟩ := hcut
  have hG : Gr w.heap.size w wc := ⟨hB, by omega⟩
  clear p0 p1 hB
  go_upto_region 7 with fail
  go_region_held3 (fun w' => w'.cell? ⟨B, 0, none⟩ = some (.int .i64 (cmS s1 g1 s2 g2)) ∧ w'.cell? ⟨B, 1, none⟩ = some (.bool (cmG s1 g1 s2 g2))) (exact ⟨by go_simp, by go_simp⟩) (first | (go_at_call 17; (refine (wrap_any _ _ _ _).mono ?_); rintro e w1 ⟨rfl, hb⟩; obtain ⟨os, n, rfl⟩ := Below.moreE hb; clear hb))
  go_upto_region 10 with fail
  all_goals
    go_region_held3 (fun w' => w'.cell? ⟨B, 0, none⟩ = some (.int .i64 (cmS s1 g1 s2 g2)) ∧ w'.cell? ⟨B, 1, none⟩ = some (.bool (cmG s1 g1 s2 g2))) (exact ⟨by go_simp, by go_simp⟩) (first | (go_at_call 17; (refine (wrap_any _ _ _ _).mono ?_); rintro e w1 ⟨rfl, hb⟩; obtain ⟨os, n, rfl⟩ := Below.moreE hb; clear hb) | (go_at_call 56; (refine (ar8_any _ _ _ _ _).mono ?_); rintro e w1 ⟨rfl, hb⟩; obtain ⟨os, n, rfl⟩ := Below.moreE hb; clear hb))
  all_goals
    go_wp2
    refine bodyPost_ret (v := triV (cmS s1 g1 s2 g2) (cmG s1 g1 s2 g2) (wrapI (cmS s1 g1 s2 g2) (cmG s1 g1 s2 g2) (arI 8 (cmG s1 g1 s2 g2) (opX s1 g1 a s2 g2) (opY s1 g1 s2 g2 b))) 0) ?_ rfl ⟨rfl, ?_⟩
    · simp [results, Tryz.results7, go_sem, triV, arI, opX, opY, *]
    · refine Gr.below ?_
      repeat (first | (with_reducible exact hG) | with_reducible refine Gr.alloc ?_ _ | with_reducible refine Gr.more ?_ _ _ | with_reducible refine Gr.setCell ?_ (by dsimp only; omega) _ | with_reducible refine Gr.drew ?_)

end Go.Proofs.YtojcdjpaojgkkaaGreatDoor
