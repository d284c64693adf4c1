/-
  The reference of layer 1: Range, rank, Common, Usual.
-/
import Derived.Test.YtojcdjpaojgkkaaGreatDoorUa
import Derived.Test.YtojcdjpaojgkkaaGreatDoorLk
namespace Go.Proofs.YtojcdjpaojgkkaaGreatDoor
open Go.RowKit

/-- A call that returns two numbers and an error. -/
@[reducible] def RetR (f : Nat) (args : Array Value) (a b e : Int) : Prop := ∀ w : World, Calls Tryz.prog f args w fun r w' => r = .returned (.tuple #[.int .i64 a, .int .i64 b, .int .i64 e]) ∧ Below w.heap.size w w'

theorem two_w64 {K : Int} (k0 : 0 ≤ K) (k1 : K < 63) : wrap64 (-2 ^ K.toNat * 2) = -2 ^ (K + 1).toNat := by
  have e : (K + 1).toNat = K.toNat + 1 := by omega
  rw [e, Int.pow_succ]
  have l := pow_le2 (a := K.toNat) (b := 62) (by omega)
  have p := pow_pos2 K.toNat
  have l' : (2 : Int) ^ 62 = 4611686018427387904 := by decide
  rw [l'] at l
  generalize (2 : Int) ^ K.toNat = q at *
  unfold wrap64; omega
set_option maxHeartbeats 2000000 in
theorem rrank_0 : QetI 69 #[tyV 4 true] 0 := fun w hq => by
  obtain ⟨q0, q1, q2, q3, q4, q5, q6, q7⟩ := hq
  have zq := szc q0
  go_enter Tryz.func69, Tryz.ntmps69
  go_upto_region 1 with fail
  go_cut [3] (fun s3 wr => s3 = .int .i64 0 ∧ wr.cell? ⟨w.heap.size, 0, none⟩ = some (.int .i64 4) ∧ wr.cell? ⟨w.heap.size, 1, none⟩ = some (.bool true) ∧ wr.cell? ⟨1, 0, none⟩ = some (.int .i64 4) ∧ wr.cell? ⟨1, 1, none⟩ = some (.bool true) ∧ wr.cell? ⟨1, 2, none⟩ = some (.int .i64 4) ∧ wr.cell? ⟨1, 3, none⟩ = some (.bool false) ∧ wr.cell? ⟨1, 4, none⟩ = some (.int .i64 8) ∧ wr.cell? ⟨1, 5, none⟩ = some (.bool true) ∧ wr.cell? ⟨1, 6, none⟩ = some (.int .i64 8) ∧ wr.cell? ⟨1, 7, none⟩ = some (.bool false) ∧ Below w.heap.size w wr)
  case first =>
    go_wp2_with fail
    go_meet
    exact ⟨rfl, by go_simp, by go_simp, by go_simp, by go_simp, by go_simp, by go_simp, by go_simp, by go_simp, by go_simp, by go_simp, (Gr.below (by repeat (first | (with_reducible exact Gr.refl _) | with_reducible refine Gr.alloc ?_ _ | with_reducible refine Gr.more ?_ _ _ | with_reducible refine Gr.setCell ?_ (by dsimp only; omega) _ | with_reducible refine Gr.drew ?_)))⟩
  case rest =>
  clear q0 q1 q2 q3 q4 q5 q6 q7
  obtain ⟨rfl, a1, b1, q0, q1, q2, q3, q4, q5, q6, q7, hB⟩ := hcut
  go_wp2_with fail
  go_loopw [3] (fun v wr => ∃ K : Int, (K = 0) ∧ v = .int .i64 K ∧ wr.cell? ⟨w.heap.size, 0, none⟩ = some (.int .i64 4) ∧ wr.cell? ⟨w.heap.size, 1, none⟩ = some (.bool true) ∧ wr.cell? ⟨1, 0, none⟩ = some (.int .i64 4) ∧ wr.cell? ⟨1, 1, none⟩ = some (.bool true) ∧ wr.cell? ⟨1, 2, none⟩ = some (.int .i64 4) ∧ wr.cell? ⟨1, 3, none⟩ = some (.bool false) ∧ wr.cell? ⟨1, 4, none⟩ = some (.int .i64 8) ∧ wr.cell? ⟨1, 5, none⟩ = some (.bool true) ∧ wr.cell? ⟨1, 6, none⟩ = some (.int .i64 8) ∧ wr.cell? ⟨1, 7, none⟩ = some (.bool false) ∧ Below w.heap.size w wr) (fun v _ => 4 - (intOf v).toNat)
  case atStart => exact ⟨0, by decide, rfl, a1, b1, q0, q1, q2, q3, q4, q5, q6, q7, hB⟩
  case round =>
    clear a1 b1 hB q0 q1 q2 q3 q4 q5 q6 q7
    obtain ⟨K, hk, rfl, a1, b1, q0, q1, q2, q3, q4, q5, q6, q7, hB⟩ := hrel
    rcases hk with rfl
    · go_upto_region 4 with fail
      go_region_held3 (fun w' => w'.cell? ⟨1, 0, none⟩ = some (.int .i64 4) ∧ w'.cell? ⟨1, 1, none⟩ = some (.bool true) ∧ w'.cell? ⟨w.heap.size, 0, none⟩ = some (.int .i64 4) ∧ w'.cell? ⟨w.heap.size, 1, none⟩ = some (.bool true)) (exact ⟨by go_simp, by go_simp, by go_simp, by go_simp⟩) (fail)
      go_wp2_with fail
      refine bodyPost_ret (v := .int .i64 0) (by simp [results, Tryz.results69, go_sem]) rfl ⟨rfl, (Below.drew hB)⟩
set_option maxHeartbeats 2000000 in
theorem rrank_1 : QetI 69 #[tyV 4 false] 1 := fun w hq => by
  obtain ⟨q0, q1, q2, q3, q4, q5, q6, q7⟩ := hq
  have zq := szc q0
  go_enter Tryz.func69, Tryz.ntmps69
  go_upto_region 1 with fail
  go_cut [3] (fun s3 wr => s3 = .int .i64 0 ∧ wr.cell? ⟨w.heap.size, 0, none⟩ = some (.int .i64 4) ∧ wr.cell? ⟨w.heap.size, 1, none⟩ = some (.bool false) ∧ wr.cell? ⟨1, 0, none⟩ = some (.int .i64 4) ∧ wr.cell? ⟨1, 1, none⟩ = some (.bool true) ∧ wr.cell? ⟨1, 2, none⟩ = some (.int .i64 4) ∧ wr.cell? ⟨1, 3, none⟩ = some (.bool false) ∧ wr.cell? ⟨1, 4, none⟩ = some (.int .i64 8) ∧ wr.cell? ⟨1, 5, none⟩ = some (.bool true) ∧ wr.cell? ⟨1, 6, none⟩ = some (.int .i64 8) ∧ wr.cell? ⟨1, 7, none⟩ = some (.bool false) ∧ Below w.heap.size w wr)
  case first =>
    go_wp2_with fail
    go_meet
    exact ⟨rfl, by go_simp, by go_simp, by go_simp, by go_simp, by go_simp, by go_simp, by go_simp, by go_simp, by go_simp, by go_simp, (Gr.below (by repeat (first | (with_reducible exact Gr.refl _) | with_reducible refine Gr.alloc ?_ _ | with_reducible refine Gr.more ?_ _ _ | with_reducible refine Gr.setCell ?_ (by dsimp only; omega) _ | with_reducible refine Gr.drew ?_)))⟩
  case rest =>
  clear q0 q1 q2 q3 q4 q5 q6 q7
  obtain ⟨rfl, a1, b1, q0, q1, q2, q3, q4, q5, q6, q7, hB⟩ := hcut
  go_wp2_with fail
  go_loopw [3] (fun v wr => ∃ K : Int, (K = 0 ∨ K = 1) ∧ v = .int .i64 K ∧ wr.cell? ⟨w.heap.size, 0, none⟩ = some (.int .i64 4) ∧ wr.cell? ⟨w.heap.size, 1, none⟩ = some (.bool false) ∧ wr.cell? ⟨1, 0, none⟩ = some (.int .i64 4) ∧ wr.cell? ⟨1, 1, none⟩ = some (.bool true) ∧ wr.cell? ⟨1, 2, none⟩ = some (.int .i64 4) ∧ wr.cell? ⟨1, 3, none⟩ = some (.bool false) ∧ wr.cell? ⟨1, 4, none⟩ = some (.int .i64 8) ∧ wr.cell? ⟨1, 5, none⟩ = some (.bool true) ∧ wr.cell? ⟨1, 6, none⟩ = some (.int .i64 8) ∧ wr.cell? ⟨1, 7, none⟩ = some (.bool false) ∧ Below w.heap.size w wr) (fun v _ => 4 - (intOf v).toNat)
  case atStart => exact ⟨0, by decide, rfl, a1, b1, q0, q1, q2, q3, q4, q5, q6, q7, hB⟩
  case round =>
    clear a1 b1 hB q0 q1 q2 q3 q4 q5 q6 q7
    obtain ⟨K, hk, rfl, a1, b1, q0, q1, q2, q3, q4, q5, q6, q7, hB⟩ := hrel
    rcases hk with rfl | rfl
    · go_upto_region 4 with fail
      go_region_held3 (fun w' => w'.cell? ⟨1, 0, none⟩ = some (.int .i64 4) ∧ w'.cell? ⟨1, 1, none⟩ = some (.bool true) ∧ w'.cell? ⟨w.heap.size, 0, none⟩ = some (.int .i64 4) ∧ w'.cell? ⟨w.heap.size, 1, none⟩ = some (.bool false)) (exact ⟨by go_simp, by go_simp, by go_simp, by go_simp⟩) (fail)
      go_wp2_with fail
      go_roundw
      case rel => exact ⟨1, by decide, rfl, by go_simp, by go_simp, by go_simp, by go_simp, by go_simp, by go_simp, by go_simp, by go_simp, by go_simp, by go_simp, (Below.drew hB)⟩
      case measure => simp [intOf]
    · go_upto_region 4 with fail
      go_region_held3 (fun w' => w'.cell? ⟨1, 2, none⟩ = some (.int .i64 4) ∧ w'.cell? ⟨1, 3, none⟩ = some (.bool false) ∧ w'.cell? ⟨w.heap.size, 0, none⟩ = some (.int .i64 4) ∧ w'.cell? ⟨w.heap.size, 1, none⟩ = some (.bool false)) (exact ⟨by go_simp, by go_simp, by go_simp, by go_simp⟩) (fail)
      go_wp2_with fail
      refine bodyPost_ret (v := .int .i64 1) (by simp [results, Tryz.results69, go_sem]) rfl ⟨rfl, (Below.drew hB)⟩
set_option maxHeartbeats 2000000 in
theorem rrank_2 : QetI 69 #[tyV 8 true] 2 := fun w hq => by
  obtain ⟨q0, q1, q2, q3, q4, q5, q6, q7⟩ := hq
  have zq := szc q0
  go_enter Tryz.func69, Tryz.ntmps69
  go_upto_region 1 with fail
  go_cut [3] (fun s3 wr => s3 = .int .i64 0 ∧ wr.cell? ⟨w.heap.size, 0, none⟩ = some (.int .i64 8) ∧ wr.cell? ⟨w.heap.size, 1, none⟩ = some (.bool true) ∧ wr.cell? ⟨1, 0, none⟩ = some (.int .i64 4) ∧ wr.cell? ⟨1, 1, none⟩ = some (.bool true) ∧ wr.cell? ⟨1, 2, none⟩ = some (.int .i64 4) ∧ wr.cell? ⟨1, 3, none⟩ = some (.bool false) ∧ wr.cell? ⟨1, 4, none⟩ = some (.int .i64 8) ∧ wr.cell? ⟨1, 5, none⟩ = some (.bool true) ∧ wr.cell? ⟨1, 6, none⟩ = some (.int .i64 8) ∧ wr.cell? ⟨1, 7, none⟩ = some (.bool false) ∧ Below w.heap.size w wr)
  case first =>
    go_wp2_with fail
    go_meet
    exact ⟨rfl, by go_simp, by go_simp, by go_simp, by go_simp, by go_simp, by go_simp, by go_simp, by go_simp, by go_simp, by go_simp, (Gr.below (by repeat (first | (with_reducible exact Gr.refl _) | with_reducible refine Gr.alloc ?_ _ | with_reducible refine Gr.more ?_ _ _ | with_reducible refine Gr.setCell ?_ (by dsimp only; omega) _ | with_reducible refine Gr.drew ?_)))⟩
  case rest =>
  clear q0 q1 q2 q3 q4 q5 q6 q7
  obtain ⟨rfl, a1, b1, q0, q1, q2, q3, q4, q5, q6, q7, hB⟩ := hcut
  go_wp2_with fail
  go_loopw [3] (fun v wr => ∃ K : Int, (K = 0 ∨ K = 1 ∨ K = 2) ∧ v = .int .i64 K ∧ wr.cell? ⟨w.heap.size, 0, none⟩ = some (.int .i64 8) ∧ wr.cell? ⟨w.heap.size, 1, none⟩ = some (.bool true) ∧ wr.cell? ⟨1, 0, none⟩ = some (.int .i64 4) ∧ wr.cell? ⟨1, 1, none⟩ = some (.bool true) ∧ wr.cell? ⟨1, 2, none⟩ = some (.int .i64 4) ∧ wr.cell? ⟨1, 3, none⟩ = some (.bool false) ∧ wr.cell? ⟨1, 4, none⟩ = some (.int .i64 8) ∧ wr.cell? ⟨1, 5, none⟩ = some (.bool true) ∧ wr.cell? ⟨1, 6, none⟩ = some (.int .i64 8) ∧ wr.cell? ⟨1, 7, none⟩ = some (.bool false) ∧ Below w.heap.size w wr) (fun v _ => 4 - (intOf v).toNat)
  case atStart => exact ⟨0, by decide, rfl, a1, b1, q0, q1, q2, q3, q4, q5, q6, q7, hB⟩
  case round =>
    clear a1 b1 hB q0 q1 q2 q3 q4 q5 q6 q7
    obtain ⟨K, hk, rfl, a1, b1, q0, q1, q2, q3, q4, q5, q6, q7, hB⟩ := hrel
    rcases hk with rfl | rfl | rfl
    · go_upto_region 4 with fail
      go_region_held3 (fun w' => w'.cell? ⟨1, 0, none⟩ = some (.int .i64 4) ∧ w'.cell? ⟨1, 1, none⟩ = some (.bool true) ∧ w'.cell? ⟨w.heap.size, 0, none⟩ = some (.int .i64 8) ∧ w'.cell? ⟨w.heap.size, 1, none⟩ = some (.bool true)) (exact ⟨by go_simp, by go_simp, by go_simp, by go_simp⟩) (fail)
      go_wp2_with fail
      go_roundw
      case rel => exact ⟨1, by decide, rfl, by go_simp, by go_simp, by go_simp, by go_simp, by go_simp, by go_simp, by go_simp, by go_simp, by go_simp, by go_simp, (Below.drew hB)⟩
      case measure => simp [intOf]
    · go_upto_region 4 with fail
      go_region_held3 (fun w' => w'.cell? ⟨1, 2, none⟩ = some (.int .i64 4) ∧ w'.cell? ⟨1, 3, none⟩ = some (.bool false) ∧ w'.cell? ⟨w.heap.size, 0, none⟩ = some (.int .i64 8) ∧ w'.cell? ⟨w.heap.size, 1, none⟩ = some (.bool true)) (exact ⟨by go_simp, by go_simp, by go_simp, by go_simp⟩) (fail)
      go_wp2_with fail
      go_roundw
      case rel => exact ⟨2, by decide, rfl, by go_simp, by go_simp, by go_simp, by go_simp, by go_simp, by go_simp, by go_simp, by go_simp, by go_simp, by go_simp, (Below.drew hB)⟩
      case measure => simp [intOf]
    · go_upto_region 4 with fail
      go_region_held3 (fun w' => w'.cell? ⟨1, 4, none⟩ = some (.int .i64 8) ∧ w'.cell? ⟨1, 5, none⟩ = some (.bool true) ∧ w'.cell? ⟨w.heap.size, 0, none⟩ = some (.int .i64 8) ∧ w'.cell? ⟨w.heap.size, 1, none⟩ = some (.bool true)) (exact ⟨by go_simp, by go_simp, by go_simp, by go_simp⟩) (fail)
      go_wp2_with fail
      refine bodyPost_ret (v := .int .i64 2) (by simp [results, Tryz.results69, go_sem]) rfl ⟨rfl, (Below.drew hB)⟩
set_option maxHeartbeats 2000000 in
theorem rrank_3 : QetI 69 #[tyV 8 false] 3 := fun w hq => by
  obtain ⟨q0, q1, q2, q3, q4, q5, q6, q7⟩ := hq
  have zq := szc q0
  go_enter Tryz.func69, Tryz.ntmps69
  go_upto_region 1 with fail
  go_cut [3] (fun s3 wr => s3 = .int .i64 0 ∧ wr.cell? ⟨w.heap.size, 0, none⟩ = some (.int .i64 8) ∧ wr.cell? ⟨w.heap.size, 1, none⟩ = some (.bool false) ∧ wr.cell? ⟨1, 0, none⟩ = some (.int .i64 4) ∧ wr.cell? ⟨1, 1, none⟩ = some (.bool true) ∧ wr.cell? ⟨1, 2, none⟩ = some (.int .i64 4) ∧ wr.cell? ⟨1, 3, none⟩ = some (.bool false) ∧ wr.cell? ⟨1, 4, none⟩ = some (.int .i64 8) ∧ wr.cell? ⟨1, 5, none⟩ = some (.bool true) ∧ wr.cell? ⟨1, 6, none⟩ = some (.int .i64 8) ∧ wr.cell? ⟨1, 7, none⟩ = some (.bool false) ∧ Below w.heap.size w wr)
  case first =>
    go_wp2_with fail
    go_meet
    exact ⟨rfl, by go_simp, by go_simp, by go_simp, by go_simp, by go_simp, by go_simp, by go_simp, by go_simp, by go_simp, by go_simp, (Gr.below (by repeat (first | (with_reducible exact Gr.refl _) | with_reducible refine Gr.alloc ?_ _ | with_reducible refine Gr.more ?_ _ _ | with_reducible refine Gr.setCell ?_ (by dsimp only; omega) _ | with_reducible refine Gr.drew ?_)))⟩
  case rest =>
  clear q0 q1 q2 q3 q4 q5 q6 q7
  obtain ⟨rfl, a1, b1, q0, q1, q2, q3, q4, q5, q6, q7, hB⟩ := hcut
  go_wp2_with fail
  go_loopw [3] (fun v wr => ∃ K : Int, (K = 0 ∨ K = 1 ∨ K = 2 ∨ K = 3) ∧ v = .int .i64 K ∧ wr.cell? ⟨w.heap.size, 0, none⟩ = some (.int .i64 8) ∧ wr.cell? ⟨w.heap.size, 1, none⟩ = some (.bool false) ∧ wr.cell? ⟨1, 0, none⟩ = some (.int .i64 4) ∧ wr.cell? ⟨1, 1, none⟩ = some (.bool true) ∧ wr.cell? ⟨1, 2, none⟩ = some (.int .i64 4) ∧ wr.cell? ⟨1, 3, none⟩ = some (.bool false) ∧ wr.cell? ⟨1, 4, none⟩ = some (.int .i64 8) ∧ wr.cell? ⟨1, 5, none⟩ = some (.bool true) ∧ wr.cell? ⟨1, 6, none⟩ = some (.int .i64 8) ∧ wr.cell? ⟨1, 7, none⟩ = some (.bool false) ∧ Below w.heap.size w wr) (fun v _ => 4 - (intOf v).toNat)
  case atStart => exact ⟨0, by decide, rfl, a1, b1, q0, q1, q2, q3, q4, q5, q6, q7, hB⟩
  case round =>
    clear a1 b1 hB q0 q1 q2 q3 q4 q5 q6 q7
    obtain ⟨K, hk, rfl, a1, b1, q0, q1, q2, q3, q4, q5, q6, q7, hB⟩ := hrel
    rcases hk with rfl | rfl | rfl | rfl
    · go_upto_region 4 with fail
      go_region_held3 (fun w' => w'.cell? ⟨1, 0, none⟩ = some (.int .i64 4) ∧ w'.cell? ⟨1, 1, none⟩ = some (.bool true) ∧ w'.cell? ⟨w.heap.size, 0, none⟩ = some (.int .i64 8) ∧ w'.cell? ⟨w.heap.size, 1, none⟩ = some (.bool false)) (exact ⟨by go_simp, by go_simp, by go_simp, by go_simp⟩) (fail)
      go_wp2_with fail
      go_roundw
      case rel => exact ⟨1, by decide, rfl, by go_simp, by go_simp, by go_simp, by go_simp, by go_simp, by go_simp, by go_simp, by go_simp, by go_simp, by go_simp, (Below.drew hB)⟩
      case measure => simp [intOf]
    · go_upto_region 4 with fail
      go_region_held3 (fun w' => w'.cell? ⟨1, 2, none⟩ = some (.int .i64 4) ∧ w'.cell? ⟨1, 3, none⟩ = some (.bool false) ∧ w'.cell? ⟨w.heap.size, 0, none⟩ = some (.int .i64 8) ∧ w'.cell? ⟨w.heap.size, 1, none⟩ = some (.bool false)) (exact ⟨by go_simp, by go_simp, by go_simp, by go_simp⟩) (fail)
      go_wp2_with fail
      go_roundw
      case rel => exact ⟨2, by decide, rfl, by go_simp, by go_simp, by go_simp, by go_simp, by go_simp, by go_simp, by go_simp, by go_simp, by go_simp, by go_simp, (Below.drew hB)⟩
      case measure => simp [intOf]
    · go_upto_region 4 with fail
      go_region_held3 (fun w' => w'.cell? ⟨1, 4, none⟩ = some (.int .i64 8) ∧ w'.cell? ⟨1, 5, none⟩ = some (.bool true) ∧ w'.cell? ⟨w.heap.size, 0, none⟩ = some (.int .i64 8) ∧ w'.cell? ⟨w.heap.size, 1, none⟩ = some (.bool false)) (exact ⟨by go_simp, by go_simp, by go_simp, by go_simp⟩) (fail)
      go_wp2_with fail
      go_roundw
      case rel => exact ⟨3, by decide, rfl, by go_simp, by go_simp, by go_simp, by go_simp, by go_simp, by go_simp, by go_simp, by go_simp, by go_simp, by go_simp, (Below.drew hB)⟩
      case measure => simp [intOf]
    · go_upto_region 4 with fail
      go_region_held3 (fun w' => w'.cell? ⟨1, 6, none⟩ = some (.int .i64 8) ∧ w'.cell? ⟨1, 7, none⟩ = some (.bool false) ∧ w'.cell? ⟨w.heap.size, 0, none⟩ = some (.int .i64 8) ∧ w'.cell? ⟨w.heap.size, 1, none⟩ = some (.bool false)) (exact ⟨by go_simp, by go_simp, by go_simp, by go_simp⟩) (fail)
      go_wp2_with fail
      refine bodyPost_ret (v := .int .i64 3) (by simp [results, Tryz.results69, go_sem]) rfl ⟨rfl, (Below.drew hB)⟩
/-- The place of a promoted type. -/
def rkN (s : Int) (g : Bool) : Int := if s = 8 then (if g = true then 2 else 3) else (if g = true then 0 else 1)
theorem rrank_any {s : Int} (h : s = 4 ∨ s = 8) (g : Bool) : QetI 69 #[tyV s g] (rkN s g) := by
  rcases h with rfl | rfl <;> cases g
  · exact rrank_1
  · exact rrank_0
  · exact rrank_3
  · exact rrank_2
end Go.Proofs.YtojcdjpaojgkkaaGreatDoor
