/-
  The reference of layer 1: Range, rank, Common, Usual.
-/
import Derived.Test.YtbdkacfddbiclaaDoorUa
import Derived.Test.YtbdkacfddbiclaaDoorLk
namespace Go.Proofs.YtbdkacfddbiclaaDoor
open Go.RowKit

/-- A call that returns two numbers and an error. -/
@[reducible] def RetR (f : Nat) (args : Array Value) (a b e : Int) : Prop := ∀ w : World, Calls Tryd.prog f args w fun r w' => r = .returned (.tuple #[.int .i64 a, .int .i64 b, .int .i64 e]) ∧ Below w.heap.size w w'

theorem rrange_bad {s : Int} (v : validB s = false) (g : Bool) : RetR 14 #[tyV s g] 0 0 10 := fun w => by
  have HK := rcheck_bad v g
  go_enter Tryd.func14, Tryd.ntmps14
  go_wp2_with (go_at_call 24; (refine (HK _).mono ?_); rintro e w1 ⟨rfl, hb⟩; obtain ⟨os, n, rfl⟩ := Below.moreE hb; clear hb)
  refine bodyPost_ret (v := .tuple #[.int .i64 0, .int .i64 0, .int .i64 10]) (by simp [results, Tryd.results14, go_sem]) rfl ⟨rfl, (Gr.below (by repeat (first | (with_reducible exact Gr.refl _) | with_reducible refine Gr.alloc ?_ _ | with_reducible refine Gr.more ?_ _ _ | with_reducible refine Gr.setCell ?_ (by dsimp only; omega) _ | with_reducible refine Gr.drew ?_)))⟩
theorem rrange_f {s : Int} (v : validB s = true) : RetR 14 #[tyV s false] 0 (wrapI s false (-1)) 0 := fun w => by
  have HK := rcheck_ok v false
  go_enter Tryd.func14, Tryd.ntmps14
  go_wp2_with first | (go_at_call 24; (refine (HK _).mono ?_); rintro e w1 ⟨rfl, hb⟩; obtain ⟨os, n, rfl⟩ := Below.moreE hb; clear hb) | (go_at_call 42; (refine (rwrapped_any _ _ _ _).mono ?_); rintro e w1 ⟨rfl, hb⟩; obtain ⟨os, n, rfl⟩ := Below.moreE hb; clear hb)
  refine bodyPost_ret (v := .tuple #[.int .i64 0, .int .i64 (wrapI s false (-1)), .int .i64 0]) (by simp [results, Tryd.results14, go_sem]) rfl ⟨rfl, (Gr.below (by repeat (first | (with_reducible exact Gr.refl _) | with_reducible refine Gr.alloc ?_ _ | with_reducible refine Gr.more ?_ _ _ | with_reducible refine Gr.setCell ?_ (by dsimp only; omega) _ | with_reducible refine Gr.drew ?_)))⟩
theorem two_w64 {K : Int} (k0 : 0 ≤ K) (k1 : K < 63) : wrap64 (-2 ^ K.toNat * 2) = -2 ^ (K + 1).toNat := by
  have e : (K + 1).toNat = K.toNat + 1 := by omega
  rw [e, Int.pow_succ]
  have l := pow_le2 (a := K.toNat) (b := 62) (by omega)
  have p := pow_pos2 K.toNat
  have l' : (2 : Int) ^ 62 = 4611686018427387904 := by decide
  rw [l'] at l
  generalize (2 : Int) ^ K.toNat = q at *
  unfold wrap64; omega
set_option maxHeartbeats 1000000 in
theorem rrange_t1 : RetR 14 #[tyV 1 true] (-2 ^ 7) (2 ^ 7 - 1) 0 := fun w => by
  have HK := rcheck_ok (s := 1) rfl true
  go_enter Tryd.func14, Tryd.ntmps14
  go_upto_region 7 with (go_at_call 24; (refine (HK _).mono ?_); rintro e w1 ⟨rfl, hb⟩; obtain ⟨os, n, rfl⟩ := Below.moreE hb; clear hb)
  go_cut [7] (fun s7 wx => s7 = .int .i64 0 ∧ wx.cell? ⟨w.heap.size, 0, none⟩ = some (.int .i64 1) ∧ wx.cell? ⟨w.heap.size, 1, none⟩ = some (.bool true) ∧ w.heap.size < wx.heap.size ∧ Below w.heap.size w wx)
  case first =>
    go_wp2_with fail
    go_meet
    exact ⟨rfl, by go_simp, by go_simp, by (first | omega | (simp; done) | (simp; omega)), (Gr.below (by repeat (first | (with_reducible exact Gr.refl _) | with_reducible refine Gr.alloc ?_ _ | with_reducible refine Gr.more ?_ _ _ | with_reducible refine Gr.setCell ?_ (by dsimp only; omega) _ | with_reducible refine Gr.drew ?_)))⟩
  case rest =>
  obtain ⟨rfl, a1, b1, hz, hB⟩ := hcut
  go_wp2_with fail
  go_loopw [6, 7] (fun u v wr => ∃ K x : Int, 0 ≤ K ∧ K ≤ 7 ∧ x = -2 ^ K.toNat ∧ u = .int .i64 x ∧ v = .int .i64 K ∧ wr.cell? ⟨w.heap.size, 0, none⟩ = some (.int .i64 1) ∧ Below w.heap.size w wr) (fun _ v _ => 7 - (intOf v).toNat)
  case atStart => exact ⟨0, -1, by omega, by omega, rfl, rfl, rfl, a1, hB⟩
  case round =>
    clear a1 b1 hz hB
    obtain ⟨K, x, k0, k1, hx, rfl, rfl, a1, hB⟩ := hrel
    have hw : wrap64 (K + 1) = K + 1 := by unfold wrap64; omega
    by_cases hk : K < 7
    · have ht := two_w64 k0 (by omega : K < 63)
      go_wp2_with fail
      go_roundw
      case rel => exact ⟨_, _, by first | omega | (rw [hw]; omega), by first | omega | (rw [hw]; omega), by first | exact ht | (rw [hx]; exact ht) | (rw [hw]; exact ht) | (rw [hw, hx]; exact ht), rfl, rfl, a1, hB⟩
      case measure => simp [intOf]; omega
    · obtain rfl : K = 7 := by omega
      have hx' : x = -2 ^ 7 := hx
      clear hx
      subst hx'
      go_wp2_with fail
      refine bodyPost_ret (v := .tuple #[.int .i64 (-2 ^ 7), .int .i64 (2 ^ 7 - 1), .int .i64 0]) (by simp [results, Tryd.results14, go_sem]; try decide) rfl ⟨rfl, hB⟩
set_option maxHeartbeats 1000000 in
theorem rrange_t2 : RetR 14 #[tyV 2 true] (-2 ^ 15) (2 ^ 15 - 1) 0 := fun w => by
  have HK := rcheck_ok (s := 2) rfl true
  go_enter Tryd.func14, Tryd.ntmps14
  go_upto_region 7 with (go_at_call 24; (refine (HK _).mono ?_); rintro e w1 ⟨rfl, hb⟩; obtain ⟨os, n, rfl⟩ := Below.moreE hb; clear hb)
  go_cut [7] (fun s7 wx => s7 = .int .i64 0 ∧ wx.cell? ⟨w.heap.size, 0, none⟩ = some (.int .i64 2) ∧ wx.cell? ⟨w.heap.size, 1, none⟩ = some (.bool true) ∧ w.heap.size < wx.heap.size ∧ Below w.heap.size w wx)
  case first =>
    go_wp2_with fail
    go_meet
    exact ⟨rfl, by go_simp, by go_simp, by (first | omega | (simp; done) | (simp; omega)), (Gr.below (by repeat (first | (with_reducible exact Gr.refl _) | with_reducible refine Gr.alloc ?_ _ | with_reducible refine Gr.more ?_ _ _ | with_reducible refine Gr.setCell ?_ (by dsimp only; omega) _ | with_reducible refine Gr.drew ?_)))⟩
  case rest =>
  obtain ⟨rfl, a1, b1, hz, hB⟩ := hcut
  go_wp2_with fail
  go_loopw [6, 7] (fun u v wr => ∃ K x : Int, 0 ≤ K ∧ K ≤ 15 ∧ x = -2 ^ K.toNat ∧ u = .int .i64 x ∧ v = .int .i64 K ∧ wr.cell? ⟨w.heap.size, 0, none⟩ = some (.int .i64 2) ∧ Below w.heap.size w wr) (fun _ v _ => 15 - (intOf v).toNat)
  case atStart => exact ⟨0, -1, by omega, by omega, rfl, rfl, rfl, a1, hB⟩
  case round =>
    clear a1 b1 hz hB
    obtain ⟨K, x, k0, k1, hx, rfl, rfl, a1, hB⟩ := hrel
    have hw : wrap64 (K + 1) = K + 1 := by unfold wrap64; omega
    by_cases hk : K < 15
    · have ht := two_w64 k0 (by omega : K < 63)
      go_wp2_with fail
      go_roundw
      case rel => exact ⟨_, _, by first | omega | (rw [hw]; omega), by first | omega | (rw [hw]; omega), by first | exact ht | (rw [hx]; exact ht) | (rw [hw]; exact ht) | (rw [hw, hx]; exact ht), rfl, rfl, a1, hB⟩
      case measure => simp [intOf]; omega
    · obtain rfl : K = 15 := by omega
      have hx' : x = -2 ^ 15 := hx
      clear hx
      subst hx'
      go_wp2_with fail
      refine bodyPost_ret (v := .tuple #[.int .i64 (-2 ^ 15), .int .i64 (2 ^ 15 - 1), .int .i64 0]) (by simp [results, Tryd.results14, go_sem]; try decide) rfl ⟨rfl, hB⟩
set_option maxHeartbeats 1000000 in
theorem rrange_t4 : RetR 14 #[tyV 4 true] (-2 ^ 31) (2 ^ 31 - 1) 0 := fun w => by
  have HK := rcheck_ok (s := 4) rfl true
  go_enter Tryd.func14, Tryd.ntmps14
  go_upto_region 7 with (go_at_call 24; (refine (HK _).mono ?_); rintro e w1 ⟨rfl, hb⟩; obtain ⟨os, n, rfl⟩ := Below.moreE hb; clear hb)
  go_cut [7] (fun s7 wx => s7 = .int .i64 0 ∧ wx.cell? ⟨w.heap.size, 0, none⟩ = some (.int .i64 4) ∧ wx.cell? ⟨w.heap.size, 1, none⟩ = some (.bool true) ∧ w.heap.size < wx.heap.size ∧ Below w.heap.size w wx)
  case first =>
    go_wp2_with fail
    go_meet
    exact ⟨rfl, by go_simp, by go_simp, by (first | omega | (simp; done) | (simp; omega)), (Gr.below (by repeat (first | (with_reducible exact Gr.refl _) | with_reducible refine Gr.alloc ?_ _ | with_reducible refine Gr.more ?_ _ _ | with_reducible refine Gr.setCell ?_ (by dsimp only; omega) _ | with_reducible refine Gr.drew ?_)))⟩
  case rest =>
  obtain ⟨rfl, a1, b1, hz, hB⟩ := hcut
  go_wp2_with fail
  go_loopw [6, 7] (fun u v wr => ∃ K x : Int, 0 ≤ K ∧ K ≤ 31 ∧ x = -2 ^ K.toNat ∧ u = .int .i64 x ∧ v = .int .i64 K ∧ wr.cell? ⟨w.heap.size, 0, none⟩ = some (.int .i64 4) ∧ Below w.heap.size w wr) (fun _ v _ => 31 - (intOf v).toNat)
  case atStart => exact ⟨0, -1, by omega, by omega, rfl, rfl, rfl, a1, hB⟩
  case round =>
    clear a1 b1 hz hB
    obtain ⟨K, x, k0, k1, hx, rfl, rfl, a1, hB⟩ := hrel
    have hw : wrap64 (K + 1) = K + 1 := by unfold wrap64; omega
    by_cases hk : K < 31
    · have ht := two_w64 k0 (by omega : K < 63)
      go_wp2_with fail
      go_roundw
      case rel => exact ⟨_, _, by first | omega | (rw [hw]; omega), by first | omega | (rw [hw]; omega), by first | exact ht | (rw [hx]; exact ht) | (rw [hw]; exact ht) | (rw [hw, hx]; exact ht), rfl, rfl, a1, hB⟩
      case measure => simp [intOf]; omega
    · obtain rfl : K = 31 := by omega
      have hx' : x = -2 ^ 31 := hx
      clear hx
      subst hx'
      go_wp2_with fail
      refine bodyPost_ret (v := .tuple #[.int .i64 (-2 ^ 31), .int .i64 (2 ^ 31 - 1), .int .i64 0]) (by simp [results, Tryd.results14, go_sem]; try decide) rfl ⟨rfl, hB⟩
set_option maxHeartbeats 1000000 in
theorem rrange_t8 : RetR 14 #[tyV 8 true] (-2 ^ 63) (2 ^ 63 - 1) 0 := fun w => by
  have HK := rcheck_ok (s := 8) rfl true
  go_enter Tryd.func14, Tryd.ntmps14
  go_upto_region 7 with (go_at_call 24; (refine (HK _).mono ?_); rintro e w1 ⟨rfl, hb⟩; obtain ⟨os, n, rfl⟩ := Below.moreE hb; clear hb)
  go_cut [7] (fun s7 wx => s7 = .int .i64 0 ∧ wx.cell? ⟨w.heap.size, 0, none⟩ = some (.int .i64 8) ∧ wx.cell? ⟨w.heap.size, 1, none⟩ = some (.bool true) ∧ w.heap.size < wx.heap.size ∧ Below w.heap.size w wx)
  case first =>
    go_wp2_with fail
    go_meet
    exact ⟨rfl, by go_simp, by go_simp, by (first | omega | (simp; done) | (simp; omega)), (Gr.below (by repeat (first | (with_reducible exact Gr.refl _) | with_reducible refine Gr.alloc ?_ _ | with_reducible refine Gr.more ?_ _ _ | with_reducible refine Gr.setCell ?_ (by dsimp only; omega) _ | with_reducible refine Gr.drew ?_)))⟩
  case rest =>
  obtain ⟨rfl, a1, b1, hz, hB⟩ := hcut
  go_wp2_with fail
  go_loopw [6, 7] (fun u v wr => ∃ K x : Int, 0 ≤ K ∧ K ≤ 63 ∧ x = -2 ^ K.toNat ∧ u = .int .i64 x ∧ v = .int .i64 K ∧ wr.cell? ⟨w.heap.size, 0, none⟩ = some (.int .i64 8) ∧ Below w.heap.size w wr) (fun _ v _ => 63 - (intOf v).toNat)
  case atStart => exact ⟨0, -1, by omega, by omega, rfl, rfl, rfl, a1, hB⟩
  case round =>
    clear a1 b1 hz hB
    obtain ⟨K, x, k0, k1, hx, rfl, rfl, a1, hB⟩ := hrel
    have hw : wrap64 (K + 1) = K + 1 := by unfold wrap64; omega
    by_cases hk : K < 63
    · have ht := two_w64 k0 (by omega : K < 63)
      go_wp2_with fail
      go_roundw
      case rel => exact ⟨_, _, by first | omega | (rw [hw]; omega), by first | omega | (rw [hw]; omega), by first | exact ht | (rw [hx]; exact ht) | (rw [hw]; exact ht) | (rw [hw, hx]; exact ht), rfl, rfl, a1, hB⟩
      case measure => simp [intOf]; omega
    · obtain rfl : K = 63 := by omega
      have hx' : x = -2 ^ 63 := hx
      clear hx
      subst hx'
      go_wp2_with fail
      refine bodyPost_ret (v := .tuple #[.int .i64 (-2 ^ 63), .int .i64 (2 ^ 63 - 1), .int .i64 0]) (by simp [results, Tryd.results14, go_sem]; try decide) rfl ⟨rfl, hB⟩
theorem rrange_ok {s : Int} (v : validB s = true) (g : Bool) : RetR 14 #[tyV s g] (rgL s g) (rgH s g) 0 := by
  cases g
  · have h := rrange_f v
    have e : wrapI s false (-1) = rgH s false := by rcases (valid_iff s).1 v with rfl | rfl | rfl | rfl <;> decide
    rw [e] at h
    exact h
  · rcases (valid_iff s).1 v with rfl | rfl | rfl | rfl
    · exact rrange_t1
    · exact rrange_t2
    · exact rrange_t4
    · exact rrange_t8

set_option maxHeartbeats 2000000 in
theorem rrank_0 : QetI 65 #[tyV 4 true] 0 := fun w hq => by
  obtain ⟨q0, q1, q2, q3, q4, q5, q6, q7⟩ := hq
  have zq := szc q0
  go_enter Tryd.func65, Tryd.ntmps65
  go_upto_region 1 with fail
  go_cut [3] (fun s3 wr => s3 = .int .i64 0 ∧ wr.cell? ⟨w.heap.size, 0, none⟩ = some (.int .i64 4) ∧ wr.cell? ⟨w.heap.size, 1, none⟩ = some (.bool true) ∧ wr.cell? ⟨1, 0, none⟩ = some (.int .i64 4) ∧ wr.cell? ⟨1, 1, none⟩ = some (.bool true) ∧ wr.cell? ⟨1, 2, none⟩ = some (.int .i64 4) ∧ wr.cell? ⟨1, 3, none⟩ = some (.bool false) ∧ wr.cell? ⟨1, 4, none⟩ = some (.int .i64 8) ∧ wr.cell? ⟨1, 5, none⟩ = some (.bool true) ∧ wr.cell? ⟨1, 6, none⟩ = some (.int .i64 8) ∧ wr.cell? ⟨1, 7, none⟩ = some (.bool false) ∧ Below w.heap.size w wr)
  case first =>
    go_wp2_with fail
    go_meet
    exact ⟨rfl, by go_simp, by go_simp, by go_simp, by go_simp, by go_simp, by go_simp, by go_simp, by go_simp, by go_simp, by go_simp, (Gr.below (by repeat (first | (with_reducible exact Gr.refl _) | with_reducible refine Gr.alloc ?_ _ | with_reducible refine Gr.more ?_ _ _ | with_reducible refine Gr.setCell ?_ (by dsimp only; omega) _ | with_reducible refine Gr.drew ?_)))⟩
  case rest =>
  clear q0 q1 q2 q3 q4 q5 q6 q7
  obtain ⟨rfl, a1, b1, q0, q1, q2, q3, q4, q5, q6, q7, hB⟩ := hcut
  go_wp2_with fail
  go_loopw [3] (fun v wr => ∃ K : Int, (K = 0) ∧ v = .int .i64 K ∧ wr.cell? ⟨w.heap.size, 0, none⟩ = some (.int .i64 4) ∧ wr.cell? ⟨w.heap.size, 1, none⟩ = some (.bool true) ∧ wr.cell? ⟨1, 0, none⟩ = some (.int .i64 4) ∧ wr.cell? ⟨1, 1, none⟩ = some (.bool true) ∧ wr.cell? ⟨1, 2, none⟩ = some (.int .i64 4) ∧ wr.cell? ⟨1, 3, none⟩ = some (.bool false) ∧ wr.cell? ⟨1, 4, none⟩ = some (.int .i64 8) ∧ wr.cell? ⟨1, 5, none⟩ = some (.bool true) ∧ wr.cell? ⟨1, 6, none⟩ = some (.int .i64 8) ∧ wr.cell? ⟨1, 7, none⟩ = some (.bool false) ∧ Below w.heap.size w wr) (fun v _ => 4 - (intOf v).toNat)
  case atStart => exact ⟨0, by decide, rfl, a1, b1, q0, q1, q2, q3, q4, q5, q6, q7, hB⟩
  case round =>
    clear a1 b1 hB q0 q1 q2 q3 q4 q5 q6 q7
    obtain ⟨K, hk, rfl, a1, b1, q0, q1, q2, q3, q4, q5, q6, q7, hB⟩ := hrel
    rcases hk with rfl
    · go_upto_region 4 with fail
      go_region_held3 (fun w' => w'.cell? ⟨1, 0, none⟩ = some (.int .i64 4) ∧ w'.cell? ⟨1, 1, none⟩ = some (.bool true) ∧ w'.cell? ⟨w.heap.size, 0, none⟩ = some (.int .i64 4) ∧ w'.cell? ⟨w.heap.size, 1, none⟩ = some (.bool true)) (exact ⟨by go_simp, by go_simp, by go_simp, by go_simp⟩) (fail)
      go_wp2_with fail
      refine bodyPost_ret (v := .int .i64 0) (by simp [results, Tryd.results65, go_sem]) rfl ⟨rfl, (Below.drew hB)⟩
set_option maxHeartbeats 2000000 in
theorem rrank_1 : QetI 65 #[tyV 4 false] 1 := fun w hq => by
  obtain ⟨q0, q1, q2, q3, q4, q5, q6, q7⟩ := hq
  have zq := szc q0
  go_enter Tryd.func65, Tryd.ntmps65
  go_upto_region 1 with fail
  go_cut [3] (fun s3 wr => s3 = .int .i64 0 ∧ wr.cell? ⟨w.heap.size, 0, none⟩ = some (.int .i64 4) ∧ wr.cell? ⟨w.heap.size, 1, none⟩ = some (.bool false) ∧ wr.cell? ⟨1, 0, none⟩ = some (.int .i64 4) ∧ wr.cell? ⟨1, 1, none⟩ = some (.bool true) ∧ wr.cell? ⟨1, 2, none⟩ = some (.int .i64 4) ∧ wr.cell? ⟨1, 3, none⟩ = some (.bool false) ∧ wr.cell? ⟨1, 4, none⟩ = some (.int .i64 8) ∧ wr.cell? ⟨1, 5, none⟩ = some (.bool true) ∧ wr.cell? ⟨1, 6, none⟩ = some (.int .i64 8) ∧ wr.cell? ⟨1, 7, none⟩ = some (.bool false) ∧ Below w.heap.size w wr)
  case first =>
    go_wp2_with fail
    go_meet
    exact ⟨rfl, by go_simp, by go_simp, by go_simp, by go_simp, by go_simp, by go_simp, by go_simp, by go_simp, by go_simp, by go_simp, (Gr.below (by repeat (first | (with_reducible exact Gr.refl _) | with_reducible refine Gr.alloc ?_ _ | with_reducible refine Gr.more ?_ _ _ | with_reducible refine Gr.setCell ?_ (by dsimp only; omega) _ | with_reducible refine Gr.drew ?_)))⟩
  case rest =>
  clear q0 q1 q2 q3 q4 q5 q6 q7
  obtain ⟨rfl, a1, b1, q0, q1, q2, q3, q4, q5, q6, q7, hB⟩ := hcut
  go_wp2_with fail
  go_loopw [3] (fun v wr => ∃ K : Int, (K = 0 ∨ K = 1) ∧ v = .int .i64 K ∧ wr.cell? ⟨w.heap.size, 0, none⟩ = some (.int .i64 4) ∧ wr.cell? ⟨w.heap.size, 1, none⟩ = some (.bool false) ∧ wr.cell? ⟨1, 0, none⟩ = some (.int .i64 4) ∧ wr.cell? ⟨1, 1, none⟩ = some (.bool true) ∧ wr.cell? ⟨1, 2, none⟩ = some (.int .i64 4) ∧ wr.cell? ⟨1, 3, none⟩ = some (.bool false) ∧ wr.cell? ⟨1, 4, none⟩ = some (.int .i64 8) ∧ wr.cell? ⟨1, 5, none⟩ = some (.bool true) ∧ wr.cell? ⟨1, 6, none⟩ = some (.int .i64 8) ∧ wr.cell? ⟨1, 7, none⟩ = some (.bool false) ∧ Below w.heap.size w wr) (fun v _ => 4 - (intOf v).toNat)
  case atStart => exact ⟨0, by decide, rfl, a1, b1, q0, q1, q2, q3, q4, q5, q6, q7, hB⟩
  case round =>
    clear a1 b1 hB q0 q1 q2 q3 q4 q5 q6 q7
    obtain ⟨K, hk, rfl, a1, b1, q0, q1, q2, q3, q4, q5, q6, q7, hB⟩ := hrel
    rcases hk with rfl | rfl
    · go_upto_region 4 with fail
      go_region_held3 (fun w' => w'.cell? ⟨1, 0, none⟩ = some (.int .i64 4) ∧ w'.cell? ⟨1, 1, none⟩ = some (.bool true) ∧ w'.cell? ⟨w.heap.size, 0, none⟩ = some (.int .i64 4) ∧ w'.cell? ⟨w.heap.size, 1, none⟩ = some (.bool false)) (exact ⟨by go_simp, by go_simp, by go_simp, by go_simp⟩) (fail)
      go_wp2_with fail
      go_roundw
      case rel => exact ⟨1, by decide, rfl, by go_simp, by go_simp, by go_simp, by go_simp, by go_simp, by go_simp, by go_simp, by go_simp, by go_simp, by go_simp, (Below.drew hB)⟩
      case measure => simp [intOf]
    · go_upto_region 4 with fail
      go_region_held3 (fun w' => w'.cell? ⟨1, 2, none⟩ = some (.int .i64 4) ∧ w'.cell? ⟨1, 3, none⟩ = some (.bool false) ∧ w'.cell? ⟨w.heap.size, 0, none⟩ = some (.int .i64 4) ∧ w'.cell? ⟨w.heap.size, 1, none⟩ = some (.bool false)) (exact ⟨by go_simp, by go_simp, by go_simp, by go_simp⟩) (fail)
      go_wp2_with fail
      refine bodyPost_ret (v := .int .i64 1) (by simp [results, Tryd.results65, go_sem]) rfl ⟨rfl, (Below.drew hB)⟩
set_option maxHeartbeats 2000000 in
theorem rrank_2 : QetI 65 #[tyV 8 true] 2 := fun w hq => by
  obtain ⟨q0, q1, q2, q3, q4, q5, q6, q7⟩ := hq
  have zq := szc q0
  go_enter Tryd.func65, Tryd.ntmps65
  go_upto_region 1 with fail
  go_cut [3] (fun s3 wr => s3 = .int .i64 0 ∧ wr.cell? ⟨w.heap.size, 0, none⟩ = some (.int .i64 8) ∧ wr.cell? ⟨w.heap.size, 1, none⟩ = some (.bool true) ∧ wr.cell? ⟨1, 0, none⟩ = some (.int .i64 4) ∧ wr.cell? ⟨1, 1, none⟩ = some (.bool true) ∧ wr.cell? ⟨1, 2, none⟩ = some (.int .i64 4) ∧ wr.cell? ⟨1, 3, none⟩ = some (.bool false) ∧ wr.cell? ⟨1, 4, none⟩ = some (.int .i64 8) ∧ wr.cell? ⟨1, 5, none⟩ = some (.bool true) ∧ wr.cell? ⟨1, 6, none⟩ = some (.int .i64 8) ∧ wr.cell? ⟨1, 7, none⟩ = some (.bool false) ∧ Below w.heap.size w wr)
  case first =>
    go_wp2_with fail
    go_meet
    exact ⟨rfl, by go_simp, by go_simp, by go_simp, by go_simp, by go_simp, by go_simp, by go_simp, by go_simp, by go_simp, by go_simp, (Gr.below (by repeat (first | (with_reducible exact Gr.refl _) | with_reducible refine Gr.alloc ?_ _ | with_reducible refine Gr.more ?_ _ _ | with_reducible refine Gr.setCell ?_ (by dsimp only; omega) _ | with_reducible refine Gr.drew ?_)))⟩
  case rest =>
  clear q0 q1 q2 q3 q4 q5 q6 q7
  obtain ⟨rfl, a1, b1, q0, q1, q2, q3, q4, q5, q6, q7, hB⟩ := hcut
  go_wp2_with fail
  go_loopw [3] (fun v wr => ∃ K : Int, (K = 0 ∨ K = 1 ∨ K = 2) ∧ v = .int .i64 K ∧ wr.cell? ⟨w.heap.size, 0, none⟩ = some (.int .i64 8) ∧ wr.cell? ⟨w.heap.size, 1, none⟩ = some (.bool true) ∧ wr.cell? ⟨1, 0, none⟩ = some (.int .i64 4) ∧ wr.cell? ⟨1, 1, none⟩ = some (.bool true) ∧ wr.cell? ⟨1, 2, none⟩ = some (.int .i64 4) ∧ wr.cell? ⟨1, 3, none⟩ = some (.bool false) ∧ wr.cell? ⟨1, 4, none⟩ = some (.int .i64 8) ∧ wr.cell? ⟨1, 5, none⟩ = some (.bool true) ∧ wr.cell? ⟨1, 6, none⟩ = some (.int .i64 8) ∧ wr.cell? ⟨1, 7, none⟩ = some (.bool false) ∧ Below w.heap.size w wr) (fun v _ => 4 - (intOf v).toNat)
  case atStart => exact ⟨0, by decide, rfl, a1, b1, q0, q1, q2, q3, q4, q5, q6, q7, hB⟩
  case round =>
    clear a1 b1 hB q0 q1 q2 q3 q4 q5 q6 q7
    obtain ⟨K, hk, rfl, a1, b1, q0, q1, q2, q3, q4, q5, q6, q7, hB⟩ := hrel
    rcases hk with rfl | rfl | rfl
    · go_upto_region 4 with fail
      go_region_held3 (fun w' => w'.cell? ⟨1, 0, none⟩ = some (.int .i64 4) ∧ w'.cell? ⟨1, 1, none⟩ = some (.bool true) ∧ w'.cell? ⟨w.heap.size, 0, none⟩ = some (.int .i64 8) ∧ w'.cell? ⟨w.heap.size, 1, none⟩ = some (.bool true)) (exact ⟨by go_simp, by go_simp, by go_simp, by go_simp⟩) (fail)
      go_wp2_with fail
      go_roundw
      case rel => exact ⟨1, by decide, rfl, by go_simp, by go_simp, by go_simp, by go_simp, by go_simp, by go_simp, by go_simp, by go_simp, by go_simp, by go_simp, (Below.drew hB)⟩
      case measure => simp [intOf]
    · go_upto_region 4 with fail
      go_region_held3 (fun w' => w'.cell? ⟨1, 2, none⟩ = some (.int .i64 4) ∧ w'.cell? ⟨1, 3, none⟩ = some (.bool false) ∧ w'.cell? ⟨w.heap.size, 0, none⟩ = some (.int .i64 8) ∧ w'.cell? ⟨w.heap.size, 1, none⟩ = some (.bool true)) (exact ⟨by go_simp, by go_simp, by go_simp, by go_simp⟩) (fail)
      go_wp2_with fail
      go_roundw
      case rel => exact ⟨2, by decide, rfl, by go_simp, by go_simp, by go_simp, by go_simp, by go_simp, by go_simp, by go_simp, by go_simp, by go_simp, by go_simp, (Below.drew hB)⟩
      case measure => simp [intOf]
    · go_upto_region 4 with fail
      go_region_held3 (fun w' => w'.cell? ⟨1, 4, none⟩ = some (.int .i64 8) ∧ w'.cell? ⟨1, 5, none⟩ = some (.bool true) ∧ w'.cell? ⟨w.heap.size, 0, none⟩ = some (.int .i64 8) ∧ w'.cell? ⟨w.heap.size, 1, none⟩ = some (.bool true)) (exact ⟨by go_simp, by go_simp, by go_simp, by go_simp⟩) (fail)
      go_wp2_with fail
      refine bodyPost_ret (v := .int .i64 2) (by simp [results, Tryd.results65, go_sem]) rfl ⟨rfl, (Below.drew hB)⟩
set_option maxHeartbeats 2000000 in
theorem rrank_3 : QetI 65 #[tyV 8 false] 3 := fun w hq => by
  obtain ⟨q0, q1, q2, q3, q4, q5, q6, q7⟩ := hq
  have zq := szc q0
  go_enter Tryd.func65, Tryd.ntmps65
  go_upto_region 1 with fail
  go_cut [3] (fun s3 wr => s3 = .int .i64 0 ∧ wr.cell? ⟨w.heap.size, 0, none⟩ = some (.int .i64 8) ∧ wr.cell? ⟨w.heap.size, 1, none⟩ = some (.bool false) ∧ wr.cell? ⟨1, 0, none⟩ = some (.int .i64 4) ∧ wr.cell? ⟨1, 1, none⟩ = some (.bool true) ∧ wr.cell? ⟨1, 2, none⟩ = some (.int .i64 4) ∧ wr.cell? ⟨1, 3, none⟩ = some (.bool false) ∧ wr.cell? ⟨1, 4, none⟩ = some (.int .i64 8) ∧ wr.cell? ⟨1, 5, none⟩ = some (.bool true) ∧ wr.cell? ⟨1, 6, none⟩ = some (.int .i64 8) ∧ wr.cell? ⟨1, 7, none⟩ = some (.bool false) ∧ Below w.heap.size w wr)
  case first =>
    go_wp2_with fail
    go_meet
    exact ⟨rfl, by go_simp, by go_simp, by go_simp, by go_simp, by go_simp, by go_simp, by go_simp, by go_simp, by go_simp, by go_simp, (Gr.below (by repeat (first | (with_reducible exact Gr.refl _) | with_reducible refine Gr.alloc ?_ _ | with_reducible refine Gr.more ?_ _ _ | with_reducible refine Gr.setCell ?_ (by dsimp only; omega) _ | with_reducible refine Gr.drew ?_)))⟩
  case rest =>
  clear q0 q1 q2 q3 q4 q5 q6 q7
  obtain ⟨rfl, a1, b1, q0, q1, q2, q3, q4, q5, q6, q7, hB⟩ := hcut
  go_wp2_with fail
  go_loopw [3] (fun v wr => ∃ K : Int, (K = 0 ∨ K = 1 ∨ K = 2 ∨ K = 3) ∧ v = .int .i64 K ∧ wr.cell? ⟨w.heap.size, 0, none⟩ = some (.int .i64 8) ∧ wr.cell? ⟨w.heap.size, 1, none⟩ = some (.bool false) ∧ wr.cell? ⟨1, 0, none⟩ = some (.int .i64 4) ∧ wr.cell? ⟨1, 1, none⟩ = some (.bool true) ∧ wr.cell? ⟨1, 2, none⟩ = some (.int .i64 4) ∧ wr.cell? ⟨1, 3, none⟩ = some (.bool false) ∧ wr.cell? ⟨1, 4, none⟩ = some (.int .i64 8) ∧ wr.cell? ⟨1, 5, none⟩ = some (.bool true) ∧ wr.cell? ⟨1, 6, none⟩ = some (.int .i64 8) ∧ wr.cell? ⟨1, 7, none⟩ = some (.bool false) ∧ Below w.heap.size w wr) (fun v _ => 4 - (intOf v).toNat)
  case atStart => exact ⟨0, by decide, rfl, a1, b1, q0, q1, q2, q3, q4, q5, q6, q7, hB⟩
  case round =>
    clear a1 b1 hB q0 q1 q2 q3 q4 q5 q6 q7
    obtain ⟨K, hk, rfl, a1, b1, q0, q1, q2, q3, q4, q5, q6, q7, hB⟩ := hrel
    rcases hk with rfl | rfl | rfl | rfl
    · go_upto_region 4 with fail
      go_region_held3 (fun w' => w'.cell? ⟨1, 0, none⟩ = some (.int .i64 4) ∧ w'.cell? ⟨1, 1, none⟩ = some (.bool true) ∧ w'.cell? ⟨w.heap.size, 0, none⟩ = some (.int .i64 8) ∧ w'.cell? ⟨w.heap.size, 1, none⟩ = some (.bool false)) (exact ⟨by go_simp, by go_simp, by go_simp, by go_simp⟩) (fail)
      go_wp2_with fail
      go_roundw
      case rel => exact ⟨1, by decide, rfl, by go_simp, by go_simp, by go_simp, by go_simp, by go_simp, by go_simp, by go_simp, by go_simp, by go_simp, by go_simp, (Below.drew hB)⟩
      case measure => simp [intOf]
    · go_upto_region 4 with fail
      go_region_held3 (fun w' => w'.cell? ⟨1, 2, none⟩ = some (.int .i64 4) ∧ w'.cell? ⟨1, 3, none⟩ = some (.bool false) ∧ w'.cell? ⟨w.heap.size, 0, none⟩ = some (.int .i64 8) ∧ w'.cell? ⟨w.heap.size, 1, none⟩ = some (.bool false)) (exact ⟨by go_simp, by go_simp, by go_simp, by go_simp⟩) (fail)
      go_wp2_with fail
      go_roundw
      case rel => exact ⟨2, by decide, rfl, by go_simp, by go_simp, by go_simp, by go_simp, by go_simp, by go_simp, by go_simp, by go_simp, by go_simp, by go_simp, (Below.drew hB)⟩
      case measure => simp [intOf]
    · go_upto_region 4 with fail
      go_region_held3 (fun w' => w'.cell? ⟨1, 4, none⟩ = some (.int .i64 8) ∧ w'.cell? ⟨1, 5, none⟩ = some (.bool true) ∧ w'.cell? ⟨w.heap.size, 0, none⟩ = some (.int .i64 8) ∧ w'.cell? ⟨w.heap.size, 1, none⟩ = some (.bool false)) (exact ⟨by go_simp, by go_simp, by go_simp, by go_simp⟩) (fail)
      go_wp2_with fail
      go_roundw
      case rel => exact ⟨3, by decide, rfl, by go_simp, by go_simp, by go_simp, by go_simp, by go_simp, by go_simp, by go_simp, by go_simp, by go_simp, by go_simp, (Below.drew hB)⟩
      case measure => simp [intOf]
    · go_upto_region 4 with fail
      go_region_held3 (fun w' => w'.cell? ⟨1, 6, none⟩ = some (.int .i64 8) ∧ w'.cell? ⟨1, 7, none⟩ = some (.bool false) ∧ w'.cell? ⟨w.heap.size, 0, none⟩ = some (.int .i64 8) ∧ w'.cell? ⟨w.heap.size, 1, none⟩ = some (.bool false)) (exact ⟨by go_simp, by go_simp, by go_simp, by go_simp⟩) (fail)
      go_wp2_with fail
      refine bodyPost_ret (v := .int .i64 3) (by simp [results, Tryd.results65, go_sem]) rfl ⟨rfl, (Below.drew hB)⟩
/-- The place of a promoted type. -/
def rkN (s : Int) (g : Bool) : Int := if s = 8 then (if g = true then 2 else 3) else (if g = true then 0 else 1)
theorem rrank_any {s : Int} (h : s = 4 ∨ s = 8) (g : Bool) : QetI 65 #[tyV s g] (rkN s g) := by
  rcases h with rfl | rfl <;> cases g
  · exact rrank_1
  · exact rrank_0
  · exact rrank_3
  · exact rrank_2
end Go.Proofs.YtbdkacfddbiclaaDoor
