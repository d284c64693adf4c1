/-
  The reference of layer 1: Parse, walked over named results.
-/
import Derived.Test.YtbdkacfddbiclaaDoorF1
namespace Go.Proofs.YtbdkacfddbiclaaDoor
open Go.RowKit

/-- Calls of number and of Digits, by name. -/
@[reducible] def RetU (t : ByteArray) (b u : Int) (ok : Bool) : Prop := ∀ w : World, Calls Tryd.prog 57 #[.string t, .int .u64 b] w fun r w' => r = .returned (.tuple #[.int .u64 u, .bool ok]) ∧ Below w.heap.size w w'
@[reducible] def RetG (u : Int) (d : ByteArray) : Prop := ∀ w : World, Calls Tryd.prog 52 #[.int .u64 u] w fun r w' => r = .returned (.string d) ∧ w' = w

theorem rparse_bad {s : Int} (v : validB s = false) (g : Bool) (t : ByteArray) : RetM 34 #[tyV s g, .string t] 0 10 := fun w => by
  have HK := rcheck_bad v g
  go_enter Tryd.func34, Tryd.ntmps34
  go_wp2_with (go_at_call 24; (refine (HK _).mono ?_); rintro e w1 ⟨rfl, hb⟩; obtain ⟨os, n, rfl⟩ := Below.moreE hb; clear hb)
  refine bodyPost_ret (v := .tuple #[.int .i64 0, .int .i64 10]) (by simp [results, Tryd.results34, go_sem]) rfl ⟨rfl, (Gr.below (by repeat (first | (with_reducible exact Gr.refl _) | with_reducible refine Gr.alloc ?_ _ | with_reducible refine Gr.more ?_ _ _ | with_reducible refine Gr.setCell ?_ (by dsimp only; omega) _ | with_reducible refine Gr.drew ?_)))⟩
theorem rparse_long {s : Int} (v : validB s = true) (g : Bool) (t : ByteArray) (h : 20 < t.size) : RetM 34 #[tyV s g, .string t] 0 13 := fun w => by
  have HK := rcheck_ok v g
  have h' : (20 : Int) < (t.size : Int) := by omega
  go_enter Tryd.func34, Tryd.ntmps34
  go_wp2_with (go_at_call 24; (refine (HK _).mono ?_); rintro e w1 ⟨rfl, hb⟩; obtain ⟨os, n, rfl⟩ := Below.moreE hb; clear hb)
  refine bodyPost_ret (v := .tuple #[.int .i64 0, .int .i64 13]) (by simp [results, Tryd.results34, go_sem]) rfl ⟨rfl, (Gr.below (by repeat (first | (with_reducible exact Gr.refl _) | with_reducible refine Gr.alloc ?_ _ | with_reducible refine Gr.more ?_ _ _ | with_reducible refine Gr.setCell ?_ (by dsimp only; omega) _ | with_reducible refine Gr.drew ?_)))⟩
set_option maxRecDepth 100000 in
set_option maxHeartbeats 4000000 in
theorem rparse_rej_n (s : Int) (v : validB s = true) (g : Bool) (t : ByteArray) (h20 : ¬ 20 < t.size) (h0 : ¬ 0 < t.size) (u : Int) (ok : Bool) (HN : RetU t 10 u ok) (y : Int) (HW : RetV 42 #[tyV s g, .int .i64 (wrap64 u)] y) (tx : ByteArray) (HT : RetS 32 #[tyV s g, .int .i64 (wrap64 u)] tx 0) (hr : ok = false ∨ (ok = true ∧ (y != (wrap64 u)) = true) ∨ (ok = true ∧ y = (wrap64 u) ∧ ¬ tx.toList = t.toList)) : RetM 34 #[tyV s g, .string t] 0 13 := fun w => by
  have HK := rcheck_ok v g
  have g20 : ¬ (20 : Int) < (t.size : Int) := by omega
  have g0 : ¬ (0 : Int) < (t.size : Int) := by omega
  have g2 : ¬ (2 : Int) < (t.size : Int) := by omega
  rcases hr with rfl | ⟨rfl, hy⟩ | ⟨rfl, rfl, ht⟩
  · go_enter Tryd.func34, Tryd.ntmps34
    go_wp2_with first | (go_at_call 24; (with_reducible refine (HK _).mono ?_); rintro e w1 ⟨rfl, hb⟩; obtain ⟨os, n, rfl⟩ := Below.moreE hb; clear hb) | (go_at_call 57; (with_reducible refine (HN _).mono ?_); rintro e w1 ⟨rfl, hb⟩; obtain ⟨os, n, rfl⟩ := Below.moreE hb; clear hb) | (go_at_call 42; (with_reducible refine (HW _).mono ?_); rintro e w1 ⟨rfl, hb⟩; obtain ⟨os, n, rfl⟩ := Below.moreE hb; clear hb) | (go_at_call 32; (with_reducible refine (HT _).mono ?_); rintro e w1 ⟨rfl, hb⟩; obtain ⟨os, n, rfl⟩ := Below.moreE hb; clear hb)
    refine bodyPost_ret (v := .tuple #[.int .i64 0, .int .i64 13]) (by simp [results, Tryd.results34, go_sem]) rfl ⟨rfl, (Gr.below (by repeat (first | (with_reducible exact Gr.refl _) | with_reducible refine Gr.alloc ?_ _ | with_reducible refine Gr.more ?_ _ _ | with_reducible refine Gr.setCell ?_ (by dsimp only; omega) _ | with_reducible refine Gr.drew ?_)))⟩
  · go_enter Tryd.func34, Tryd.ntmps34
    go_wp2_with first | (go_at_call 24; (with_reducible refine (HK _).mono ?_); rintro e w1 ⟨rfl, hb⟩; obtain ⟨os, n, rfl⟩ := Below.moreE hb; clear hb) | (go_at_call 57; (with_reducible refine (HN _).mono ?_); rintro e w1 ⟨rfl, hb⟩; obtain ⟨os, n, rfl⟩ := Below.moreE hb; clear hb) | (go_at_call 42; (with_reducible refine (HW _).mono ?_); rintro e w1 ⟨rfl, hb⟩; obtain ⟨os, n, rfl⟩ := Below.moreE hb; clear hb) | (go_at_call 32; (with_reducible refine (HT _).mono ?_); rintro e w1 ⟨rfl, hb⟩; obtain ⟨os, n, rfl⟩ := Below.moreE hb; clear hb)
    refine bodyPost_ret (v := .tuple #[.int .i64 0, .int .i64 13]) (by simp [results, Tryd.results34, go_sem]) rfl ⟨rfl, (Gr.below (by repeat (first | (with_reducible exact Gr.refl _) | with_reducible refine Gr.alloc ?_ _ | with_reducible refine Gr.more ?_ _ _ | with_reducible refine Gr.setCell ?_ (by dsimp only; omega) _ | with_reducible refine Gr.drew ?_)))⟩
  · go_enter Tryd.func34, Tryd.ntmps34
    go_wp2_with first | (go_at_call 24; (with_reducible refine (HK _).mono ?_); rintro e w1 ⟨rfl, hb⟩; obtain ⟨os, n, rfl⟩ := Below.moreE hb; clear hb) | (go_at_call 57; (with_reducible refine (HN _).mono ?_); rintro e w1 ⟨rfl, hb⟩; obtain ⟨os, n, rfl⟩ := Below.moreE hb; clear hb) | (go_at_call 42; (with_reducible refine (HW _).mono ?_); rintro e w1 ⟨rfl, hb⟩; obtain ⟨os, n, rfl⟩ := Below.moreE hb; clear hb) | (go_at_call 32; (with_reducible refine (HT _).mono ?_); rintro e w1 ⟨rfl, hb⟩; obtain ⟨os, n, rfl⟩ := Below.moreE hb; clear hb)
    refine bodyPost_ret (v := .tuple #[.int .i64 0, .int .i64 13]) (by simp [results, Tryd.results34, go_sem]) rfl ⟨rfl, (Gr.below (by repeat (first | (with_reducible exact Gr.refl _) | with_reducible refine Gr.alloc ?_ _ | with_reducible refine Gr.more ?_ _ _ | with_reducible refine Gr.setCell ?_ (by dsimp only; omega) _ | with_reducible refine Gr.drew ?_)))⟩
set_option maxRecDepth 100000 in
set_option maxHeartbeats 4000000 in
theorem rparse_acc_n (s : Int) (v : validB s = true) (g : Bool) (t : ByteArray) (h20 : ¬ 20 < t.size) (h0 : ¬ 0 < t.size) (u : Int) (HN : RetU t 10 u true) (HW : RetV 42 #[tyV s g, .int .i64 (wrap64 u)] (wrap64 u)) (HT : RetS 32 #[tyV s g, .int .i64 (wrap64 u)] t 0) : RetM 34 #[tyV s g, .string t] (wrap64 u) 0 := fun w => by
  have HK := rcheck_ok v g
  have g20 : ¬ (20 : Int) < (t.size : Int) := by omega
  have g0 : ¬ (0 : Int) < (t.size : Int) := by omega
  have g2 : ¬ (2 : Int) < (t.size : Int) := by omega
  go_enter Tryd.func34, Tryd.ntmps34
  go_wp2_with first | (go_at_call 24; (with_reducible refine (HK _).mono ?_); rintro e w1 ⟨rfl, hb⟩; obtain ⟨os, n, rfl⟩ := Below.moreE hb; clear hb) | (go_at_call 57; (with_reducible refine (HN _).mono ?_); rintro e w1 ⟨rfl, hb⟩; obtain ⟨os, n, rfl⟩ := Below.moreE hb; clear hb) | (go_at_call 42; (with_reducible refine (HW _).mono ?_); rintro e w1 ⟨rfl, hb⟩; obtain ⟨os, n, rfl⟩ := Below.moreE hb; clear hb) | (go_at_call 32; (with_reducible refine (HT _).mono ?_); rintro e w1 ⟨rfl, hb⟩; obtain ⟨os, n, rfl⟩ := Below.moreE hb; clear hb)
  refine bodyPost_ret (v := .tuple #[.int .i64 (wrap64 u), .int .i64 0]) (by simp [results, Tryd.results34, go_sem]) rfl ⟨rfl, (Gr.below (by repeat (first | (with_reducible exact Gr.refl _) | with_reducible refine Gr.alloc ?_ _ | with_reducible refine Gr.more ?_ _ _ | with_reducible refine Gr.setCell ?_ (by dsimp only; omega) _ | with_reducible refine Gr.drew ?_)))⟩
set_option maxRecDepth 100000 in
set_option maxHeartbeats 4000000 in
theorem rparse_rej_a (s : Int) (v : validB s = true) (g : Bool) (t : ByteArray) (h20 : ¬ 20 < t.size) (h0 : 0 < t.size) (hm : ((t[0].toNat : Int) == 45) = false) (h2 : ¬ 2 < t.size) (u : Int) (ok : Bool) (HN : RetU t 10 u ok) (y : Int) (HW : RetV 42 #[tyV s g, .int .i64 (wrap64 u)] y) (tx : ByteArray) (HT : RetS 32 #[tyV s g, .int .i64 (wrap64 u)] tx 0) (hr : ok = false ∨ (ok = true ∧ (y != (wrap64 u)) = true) ∨ (ok = true ∧ y = (wrap64 u) ∧ ¬ tx.toList = t.toList)) : RetM 34 #[tyV s g, .string t] 0 13 := fun w => by
  have HK := rcheck_ok v g
  have g20 : ¬ (20 : Int) < (t.size : Int) := by omega
  have g0 : (0 : Int) < (t.size : Int) := by omega
  have g2 : ¬ (2 : Int) < (t.size : Int) := by omega
  rcases hr with rfl | ⟨rfl, hy⟩ | ⟨rfl, rfl, ht⟩
  · go_enter Tryd.func34, Tryd.ntmps34
    go_wp2_with first | (go_at_call 24; (with_reducible refine (HK _).mono ?_); rintro e w1 ⟨rfl, hb⟩; obtain ⟨os, n, rfl⟩ := Below.moreE hb; clear hb) | (go_at_call 57; (with_reducible refine (HN _).mono ?_); rintro e w1 ⟨rfl, hb⟩; obtain ⟨os, n, rfl⟩ := Below.moreE hb; clear hb) | (go_at_call 42; (with_reducible refine (HW _).mono ?_); rintro e w1 ⟨rfl, hb⟩; obtain ⟨os, n, rfl⟩ := Below.moreE hb; clear hb) | (go_at_call 32; (with_reducible refine (HT _).mono ?_); rintro e w1 ⟨rfl, hb⟩; obtain ⟨os, n, rfl⟩ := Below.moreE hb; clear hb)
    refine bodyPost_ret (v := .tuple #[.int .i64 0, .int .i64 13]) (by simp [results, Tryd.results34, go_sem]) rfl ⟨rfl, (Gr.below (by repeat (first | (with_reducible exact Gr.refl _) | with_reducible refine Gr.alloc ?_ _ | with_reducible refine Gr.more ?_ _ _ | with_reducible refine Gr.setCell ?_ (by dsimp only; omega) _ | with_reducible refine Gr.drew ?_)))⟩
  · go_enter Tryd.func34, Tryd.ntmps34
    go_wp2_with first | (go_at_call 24; (with_reducible refine (HK _).mono ?_); rintro e w1 ⟨rfl, hb⟩; obtain ⟨os, n, rfl⟩ := Below.moreE hb; clear hb) | (go_at_call 57; (with_reducible refine (HN _).mono ?_); rintro e w1 ⟨rfl, hb⟩; obtain ⟨os, n, rfl⟩ := Below.moreE hb; clear hb) | (go_at_call 42; (with_reducible refine (HW _).mono ?_); rintro e w1 ⟨rfl, hb⟩; obtain ⟨os, n, rfl⟩ := Below.moreE hb; clear hb) | (go_at_call 32; (with_reducible refine (HT _).mono ?_); rintro e w1 ⟨rfl, hb⟩; obtain ⟨os, n, rfl⟩ := Below.moreE hb; clear hb)
    refine bodyPost_ret (v := .tuple #[.int .i64 0, .int .i64 13]) (by simp [results, Tryd.results34, go_sem]) rfl ⟨rfl, (Gr.below (by repeat (first | (with_reducible exact Gr.refl _) | with_reducible refine Gr.alloc ?_ _ | with_reducible refine Gr.more ?_ _ _ | with_reducible refine Gr.setCell ?_ (by dsimp only; omega) _ | with_reducible refine Gr.drew ?_)))⟩
  · go_enter Tryd.func34, Tryd.ntmps34
    go_wp2_with first | (go_at_call 24; (with_reducible refine (HK _).mono ?_); rintro e w1 ⟨rfl, hb⟩; obtain ⟨os, n, rfl⟩ := Below.moreE hb; clear hb) | (go_at_call 57; (with_reducible refine (HN _).mono ?_); rintro e w1 ⟨rfl, hb⟩; obtain ⟨os, n, rfl⟩ := Below.moreE hb; clear hb) | (go_at_call 42; (with_reducible refine (HW _).mono ?_); rintro e w1 ⟨rfl, hb⟩; obtain ⟨os, n, rfl⟩ := Below.moreE hb; clear hb) | (go_at_call 32; (with_reducible refine (HT _).mono ?_); rintro e w1 ⟨rfl, hb⟩; obtain ⟨os, n, rfl⟩ := Below.moreE hb; clear hb)
    refine bodyPost_ret (v := .tuple #[.int .i64 0, .int .i64 13]) (by simp [results, Tryd.results34, go_sem]) rfl ⟨rfl, (Gr.below (by repeat (first | (with_reducible exact Gr.refl _) | with_reducible refine Gr.alloc ?_ _ | with_reducible refine Gr.more ?_ _ _ | with_reducible refine Gr.setCell ?_ (by dsimp only; omega) _ | with_reducible refine Gr.drew ?_)))⟩
set_option maxRecDepth 100000 in
set_option maxHeartbeats 4000000 in
theorem rparse_acc_a (s : Int) (v : validB s = true) (g : Bool) (t : ByteArray) (h20 : ¬ 20 < t.size) (h0 : 0 < t.size) (hm : ((t[0].toNat : Int) == 45) = false) (h2 : ¬ 2 < t.size) (u : Int) (HN : RetU t 10 u true) (HW : RetV 42 #[tyV s g, .int .i64 (wrap64 u)] (wrap64 u)) (HT : RetS 32 #[tyV s g, .int .i64 (wrap64 u)] t 0) : RetM 34 #[tyV s g, .string t] (wrap64 u) 0 := fun w => by
  have HK := rcheck_ok v g
  have g20 : ¬ (20 : Int) < (t.size : Int) := by omega
  have g0 : (0 : Int) < (t.size : Int) := by omega
  have g2 : ¬ (2 : Int) < (t.size : Int) := by omega
  go_enter Tryd.func34, Tryd.ntmps34
  go_wp2_with first | (go_at_call 24; (with_reducible refine (HK _).mono ?_); rintro e w1 ⟨rfl, hb⟩; obtain ⟨os, n, rfl⟩ := Below.moreE hb; clear hb) | (go_at_call 57; (with_reducible refine (HN _).mono ?_); rintro e w1 ⟨rfl, hb⟩; obtain ⟨os, n, rfl⟩ := Below.moreE hb; clear hb) | (go_at_call 42; (with_reducible refine (HW _).mono ?_); rintro e w1 ⟨rfl, hb⟩; obtain ⟨os, n, rfl⟩ := Below.moreE hb; clear hb) | (go_at_call 32; (with_reducible refine (HT _).mono ?_); rintro e w1 ⟨rfl, hb⟩; obtain ⟨os, n, rfl⟩ := Below.moreE hb; clear hb)
  refine bodyPost_ret (v := .tuple #[.int .i64 (wrap64 u), .int .i64 0]) (by simp [results, Tryd.results34, go_sem]) rfl ⟨rfl, (Gr.below (by repeat (first | (with_reducible exact Gr.refl _) | with_reducible refine Gr.alloc ?_ _ | with_reducible refine Gr.more ?_ _ _ | with_reducible refine Gr.setCell ?_ (by dsimp only; omega) _ | with_reducible refine Gr.drew ?_)))⟩
set_option maxRecDepth 100000 in
set_option maxHeartbeats 4000000 in
theorem rparse_rej_b (s : Int) (v : validB s = true) (g : Bool) (t : ByteArray) (h20 : ¬ 20 < t.size) (h2 : 2 < t.size) (hm : ((t[0].toNat : Int) == 45) = false) (hz : ((t[0].toNat : Int) == 48) = false) (u : Int) (ok : Bool) (HN : RetU t 10 u ok) (y : Int) (HW : RetV 42 #[tyV s g, .int .i64 (wrap64 u)] y) (tx : ByteArray) (HT : RetS 32 #[tyV s g, .int .i64 (wrap64 u)] tx 0) (hr : ok = false ∨ (ok = true ∧ (y != (wrap64 u)) = true) ∨ (ok = true ∧ y = (wrap64 u) ∧ ¬ tx.toList = t.toList)) : RetM 34 #[tyV s g, .string t] 0 13 := fun w => by
  have HK := rcheck_ok v g
  have g20 : ¬ (20 : Int) < (t.size : Int) := by omega
  have g0 : (0 : Int) < (t.size : Int) := by omega
  have g2 : (2 : Int) < (t.size : Int) := by omega
  rcases hr with rfl | ⟨rfl, hy⟩ | ⟨rfl, rfl, ht⟩
  · go_enter Tryd.func34, Tryd.ntmps34
    go_wp2_with first | (go_at_call 24; (with_reducible refine (HK _).mono ?_); rintro e w1 ⟨rfl, hb⟩; obtain ⟨os, n, rfl⟩ := Below.moreE hb; clear hb) | (go_at_call 57; (with_reducible refine (HN _).mono ?_); rintro e w1 ⟨rfl, hb⟩; obtain ⟨os, n, rfl⟩ := Below.moreE hb; clear hb) | (go_at_call 42; (with_reducible refine (HW _).mono ?_); rintro e w1 ⟨rfl, hb⟩; obtain ⟨os, n, rfl⟩ := Below.moreE hb; clear hb) | (go_at_call 32; (with_reducible refine (HT _).mono ?_); rintro e w1 ⟨rfl, hb⟩; obtain ⟨os, n, rfl⟩ := Below.moreE hb; clear hb)
    refine bodyPost_ret (v := .tuple #[.int .i64 0, .int .i64 13]) (by simp [results, Tryd.results34, go_sem]) rfl ⟨rfl, (Gr.below (by repeat (first | (with_reducible exact Gr.refl _) | with_reducible refine Gr.alloc ?_ _ | with_reducible refine Gr.more ?_ _ _ | with_reducible refine Gr.setCell ?_ (by dsimp only; omega) _ | with_reducible refine Gr.drew ?_)))⟩
  · go_enter Tryd.func34, Tryd.ntmps34
    go_wp2_with first | (go_at_call 24; (with_reducible refine (HK _).mono ?_); rintro e w1 ⟨rfl, hb⟩; obtain ⟨os, n, rfl⟩ := Below.moreE hb; clear hb) | (go_at_call 57; (with_reducible refine (HN _).mono ?_); rintro e w1 ⟨rfl, hb⟩; obtain ⟨os, n, rfl⟩ := Below.moreE hb; clear hb) | (go_at_call 42; (with_reducible refine (HW _).mono ?_); rintro e w1 ⟨rfl, hb⟩; obtain ⟨os, n, rfl⟩ := Below.moreE hb; clear hb) | (go_at_call 32; (with_reducible refine (HT _).mono ?_); rintro e w1 ⟨rfl, hb⟩; obtain ⟨os, n, rfl⟩ := Below.moreE hb; clear hb)
    refine bodyPost_ret (v := .tuple #[.int .i64 0, .int .i64 13]) (by simp [results, Tryd.results34, go_sem]) rfl ⟨rfl, (Gr.below (by repeat (first | (with_reducible exact Gr.refl _) | with_reducible refine Gr.alloc ?_ _ | with_reducible refine Gr.more ?_ _ _ | with_reducible refine Gr.setCell ?_ (by dsimp only; omega) _ | with_reducible refine Gr.drew ?_)))⟩
  · go_enter Tryd.func34, Tryd.ntmps34
    go_wp2_with first | (go_at_call 24; (with_reducible refine (HK _).mono ?_); rintro e w1 ⟨rfl, hb⟩; obtain ⟨os, n, rfl⟩ := Below.moreE hb; clear hb) | (go_at_call 57; (with_reducible refine (HN _).mono ?_); rintro e w1 ⟨rfl, hb⟩; obtain ⟨os, n, rfl⟩ := Below.moreE hb; clear hb) | (go_at_call 42; (with_reducible refine (HW _).mono ?_); rintro e w1 ⟨rfl, hb⟩; obtain ⟨os, n, rfl⟩ := Below.moreE hb; clear hb) | (go_at_call 32; (with_reducible refine (HT _).mono ?_); rintro e w1 ⟨rfl, hb⟩; obtain ⟨os, n, rfl⟩ := Below.moreE hb; clear hb)
    refine bodyPost_ret (v := .tuple #[.int .i64 0, .int .i64 13]) (by simp [results, Tryd.results34, go_sem]) rfl ⟨rfl, (Gr.below (by repeat (first | (with_reducible exact Gr.refl _) | with_reducible refine Gr.alloc ?_ _ | with_reducible refine Gr.more ?_ _ _ | with_reducible refine Gr.setCell ?_ (by dsimp only; omega) _ | with_reducible refine Gr.drew ?_)))⟩
set_option maxRecDepth 100000 in
set_option maxHeartbeats 4000000 in
theorem rparse_acc_b (s : Int) (v : validB s = true) (g : Bool) (t : ByteArray) (h20 : ¬ 20 < t.size) (h2 : 2 < t.size) (hm : ((t[0].toNat : Int) == 45) = false) (hz : ((t[0].toNat : Int) == 48) = false) (u : Int) (HN : RetU t 10 u true) (HW : RetV 42 #[tyV s g, .int .i64 (wrap64 u)] (wrap64 u)) (HT : RetS 32 #[tyV s g, .int .i64 (wrap64 u)] t 0) : RetM 34 #[tyV s g, .string t] (wrap64 u) 0 := fun w => by
  have HK := rcheck_ok v g
  have g20 : ¬ (20 : Int) < (t.size : Int) := by omega
  have g0 : (0 : Int) < (t.size : Int) := by omega
  have g2 : (2 : Int) < (t.size : Int) := by omega
  go_enter Tryd.func34, Tryd.ntmps34
  go_wp2_with first | (go_at_call 24; (with_reducible refine (HK _).mono ?_); rintro e w1 ⟨rfl, hb⟩; obtain ⟨os, n, rfl⟩ := Below.moreE hb; clear hb) | (go_at_call 57; (with_reducible refine (HN _).mono ?_); rintro e w1 ⟨rfl, hb⟩; obtain ⟨os, n, rfl⟩ := Below.moreE hb; clear hb) | (go_at_call 42; (with_reducible refine (HW _).mono ?_); rintro e w1 ⟨rfl, hb⟩; obtain ⟨os, n, rfl⟩ := Below.moreE hb; clear hb) | (go_at_call 32; (with_reducible refine (HT _).mono ?_); rintro e w1 ⟨rfl, hb⟩; obtain ⟨os, n, rfl⟩ := Below.moreE hb; clear hb)
  refine bodyPost_ret (v := .tuple #[.int .i64 (wrap64 u), .int .i64 0]) (by simp [results, Tryd.results34, go_sem]) rfl ⟨rfl, (Gr.below (by repeat (first | (with_reducible exact Gr.refl _) | with_reducible refine Gr.alloc ?_ _ | with_reducible refine Gr.more ?_ _ _ | with_reducible refine Gr.setCell ?_ (by dsimp only; omega) _ | with_reducible refine Gr.drew ?_)))⟩
set_option maxRecDepth 100000 in
set_option maxHeartbeats 4000000 in
theorem rparse_rej_c (s : Int) (v : validB s = true) (g : Bool) (t : ByteArray) (h20 : ¬ 20 < t.size) (h2 : 2 < t.size) (hm : ((t[0].toNat : Int) == 45) = false) (hz : ((t[0].toNat : Int) == 48) = true) (hx : ((t[1].toNat : Int) == 120) = false) (u : Int) (ok : Bool) (HN : RetU t 10 u ok) (y : Int) (HW : RetV 42 #[tyV s g, .int .i64 (wrap64 u)] y) (tx : ByteArray) (HT : RetS 32 #[tyV s g, .int .i64 (wrap64 u)] tx 0) (hr : ok = false ∨ (ok = true ∧ (y != (wrap64 u)) = true) ∨ (ok = true ∧ y = (wrap64 u) ∧ ¬ tx.toList = t.toList)) : RetM 34 #[tyV s g, .string t] 0 13 := fun w => by
  have HK := rcheck_ok v g
  have g20 : ¬ (20 : Int) < (t.size : Int) := by omega
  have g0 : (0 : Int) < (t.size : Int) := by omega
  have g2 : (2 : Int) < (t.size : Int) := by omega
  rcases hr with rfl | ⟨rfl, hy⟩ | ⟨rfl, rfl, ht⟩
  · go_enter Tryd.func34, Tryd.ntmps34
    go_wp2_with first | (go_at_call 24; (with_reducible refine (HK _).mono ?_); rintro e w1 ⟨rfl, hb⟩; obtain ⟨os, n, rfl⟩ := Below.moreE hb; clear hb) | (go_at_call 57; (with_reducible refine (HN _).mono ?_); rintro e w1 ⟨rfl, hb⟩; obtain ⟨os, n, rfl⟩ := Below.moreE hb; clear hb) | (go_at_call 42; (with_reducible refine (HW _).mono ?_); rintro e w1 ⟨rfl, hb⟩; obtain ⟨os, n, rfl⟩ := Below.moreE hb; clear hb) | (go_at_call 32; (with_reducible refine (HT _).mono ?_); rintro e w1 ⟨rfl, hb⟩; obtain ⟨os, n, rfl⟩ := Below.moreE hb; clear hb)
    refine bodyPost_ret (v := .tuple #[.int .i64 0, .int .i64 13]) (by simp [results, Tryd.results34, go_sem]) rfl ⟨rfl, (Gr.below (by repeat (first | (with_reducible exact Gr.refl _) | with_reducible refine Gr.alloc ?_ _ | with_reducible refine Gr.more ?_ _ _ | with_reducible refine Gr.setCell ?_ (by dsimp only; omega) _ | with_reducible refine Gr.drew ?_)))⟩
  · go_enter Tryd.func34, Tryd.ntmps34
    go_wp2_with first | (go_at_call 24; (with_reducible refine (HK _).mono ?_); rintro e w1 ⟨rfl, hb⟩; obtain ⟨os, n, rfl⟩ := Below.moreE hb; clear hb) | (go_at_call 57; (with_reducible refine (HN _).mono ?_); rintro e w1 ⟨rfl, hb⟩; obtain ⟨os, n, rfl⟩ := Below.moreE hb; clear hb) | (go_at_call 42; (with_reducible refine (HW _).mono ?_); rintro e w1 ⟨rfl, hb⟩; obtain ⟨os, n, rfl⟩ := Below.moreE hb; clear hb) | (go_at_call 32; (with_reducible refine (HT _).mono ?_); rintro e w1 ⟨rfl, hb⟩; obtain ⟨os, n, rfl⟩ := Below.moreE hb; clear hb)
    refine bodyPost_ret (v := .tuple #[.int .i64 0, .int .i64 13]) (by simp [results, Tryd.results34, go_sem]) rfl ⟨rfl, (Gr.below (by repeat (first | (with_reducible exact Gr.refl _) | with_reducible refine Gr.alloc ?_ _ | with_reducible refine Gr.more ?_ _ _ | with_reducible refine Gr.setCell ?_ (by dsimp only; omega) _ | with_reducible refine Gr.drew ?_)))⟩
  · go_enter Tryd.func34, Tryd.ntmps34
    go_wp2_with first | (go_at_call 24; (with_reducible refine (HK _).mono ?_); rintro e w1 ⟨rfl, hb⟩; obtain ⟨os, n, rfl⟩ := Below.moreE hb; clear hb) | (go_at_call 57; (with_reducible refine (HN _).mono ?_); rintro e w1 ⟨rfl, hb⟩; obtain ⟨os, n, rfl⟩ := Below.moreE hb; clear hb) | (go_at_call 42; (with_reducible refine (HW _).mono ?_); rintro e w1 ⟨rfl, hb⟩; obtain ⟨os, n, rfl⟩ := Below.moreE hb; clear hb) | (go_at_call 32; (with_reducible refine (HT _).mono ?_); rintro e w1 ⟨rfl, hb⟩; obtain ⟨os, n, rfl⟩ := Below.moreE hb; clear hb)
    refine bodyPost_ret (v := .tuple #[.int .i64 0, .int .i64 13]) (by simp [results, Tryd.results34, go_sem]) rfl ⟨rfl, (Gr.below (by repeat (first | (with_reducible exact Gr.refl _) | with_reducible refine Gr.alloc ?_ _ | with_reducible refine Gr.more ?_ _ _ | with_reducible refine Gr.setCell ?_ (by dsimp only; omega) _ | with_reducible refine Gr.drew ?_)))⟩
set_option maxRecDepth 100000 in
set_option maxHeartbeats 4000000 in
theorem rparse_acc_c (s : Int) (v : validB s = true) (g : Bool) (t : ByteArray) (h20 : ¬ 20 < t.size) (h2 : 2 < t.size) (hm : ((t[0].toNat : Int) == 45) = false) (hz : ((t[0].toNat : Int) == 48) = true) (hx : ((t[1].toNat : Int) == 120) = false) (u : Int) (HN : RetU t 10 u true) (HW : RetV 42 #[tyV s g, .int .i64 (wrap64 u)] (wrap64 u)) (HT : RetS 32 #[tyV s g, .int .i64 (wrap64 u)] t 0) : RetM 34 #[tyV s g, .string t] (wrap64 u) 0 := fun w => by
  have HK := rcheck_ok v g
  have g20 : ¬ (20 : Int) < (t.size : Int) := by omega
  have g0 : (0 : Int) < (t.size : Int) := by omega
  have g2 : (2 : Int) < (t.size : Int) := by omega
  go_enter Tryd.func34, Tryd.ntmps34
  go_wp2_with first | (go_at_call 24; (with_reducible refine (HK _).mono ?_); rintro e w1 ⟨rfl, hb⟩; obtain ⟨os, n, rfl⟩ := Below.moreE hb; clear hb) | (go_at_call 57; (with_reducible refine (HN _).mono ?_); rintro e w1 ⟨rfl, hb⟩; obtain ⟨os, n, rfl⟩ := Below.moreE hb; clear hb) | (go_at_call 42; (with_reducible refine (HW _).mono ?_); rintro e w1 ⟨rfl, hb⟩; obtain ⟨os, n, rfl⟩ := Below.moreE hb; clear hb) | (go_at_call 32; (with_reducible refine (HT _).mono ?_); rintro e w1 ⟨rfl, hb⟩; obtain ⟨os, n, rfl⟩ := Below.moreE hb; clear hb)
  refine bodyPost_ret (v := .tuple #[.int .i64 (wrap64 u), .int .i64 0]) (by simp [results, Tryd.results34, go_sem]) rfl ⟨rfl, (Gr.below (by repeat (first | (with_reducible exact Gr.refl _) | with_reducible refine Gr.alloc ?_ _ | with_reducible refine Gr.more ?_ _ _ | with_reducible refine Gr.setCell ?_ (by dsimp only; omega) _ | with_reducible refine Gr.drew ?_)))⟩
set_option maxRecDepth 100000 in
set_option maxHeartbeats 4000000 in
theorem rparse_rej_m (s : Int) (v : validB s = true) (g : Bool) (t : ByteArray) (h20 : ¬ 20 < t.size) (h0 : 0 < t.size) (hm : ((t[0].toNat : Int) == 45) = true) (hz : ((t[0].toNat : Int) == 48) = false) (h2 : ¬ 2 < t.size) (u : Int) (ok : Bool) (HN : RetU (t.extract 1 t.size) 10 u ok) (y : Int) (HW : RetV 42 #[tyV s g, .int .i64 (wrap64 (-wrap64 u))] y) (tx : ByteArray) (HT : RetS 32 #[tyV s g, .int .i64 (wrap64 (-wrap64 u))] tx 0) (hr : ok = false ∨ (ok = true ∧ (y != (wrap64 (-wrap64 u))) = true) ∨ (ok = true ∧ y = (wrap64 (-wrap64 u)) ∧ ¬ tx.toList = t.toList)) : RetM 34 #[tyV s g, .string t] 0 13 := fun w => by
  have HK := rcheck_ok v g
  have g20 : ¬ (20 : Int) < (t.size : Int) := by omega
  have g0 : (0 : Int) < (t.size : Int) := by omega
  have g2 : ¬ (2 : Int) < (t.size : Int) := by omega
  rcases hr with rfl | ⟨rfl, hy⟩ | ⟨rfl, rfl, ht⟩
  · go_enter Tryd.func34, Tryd.ntmps34
    go_wp2_with first | (go_at_call 24; (with_reducible refine (HK _).mono ?_); rintro e w1 ⟨rfl, hb⟩; obtain ⟨os, n, rfl⟩ := Below.moreE hb; clear hb) | (go_at_call 57; (with_reducible refine (HN _).mono ?_); rintro e w1 ⟨rfl, hb⟩; obtain ⟨os, n, rfl⟩ := Below.moreE hb; clear hb) | (go_at_call 42; (with_reducible refine (HW _).mono ?_); rintro e w1 ⟨rfl, hb⟩; obtain ⟨os, n, rfl⟩ := Below.moreE hb; clear hb) | (go_at_call 32; (with_reducible refine (HT _).mono ?_); rintro e w1 ⟨rfl, hb⟩; obtain ⟨os, n, rfl⟩ := Below.moreE hb; clear hb)
    refine bodyPost_ret (v := .tuple #[.int .i64 0, .int .i64 13]) (by simp [results, Tryd.results34, go_sem]) rfl ⟨rfl, (Gr.below (by repeat (first | (with_reducible exact Gr.refl _) | with_reducible refine Gr.alloc ?_ _ | with_reducible refine Gr.more ?_ _ _ | with_reducible refine Gr.setCell ?_ (by dsimp only; omega) _ | with_reducible refine Gr.drew ?_)))⟩
  · go_enter Tryd.func34, Tryd.ntmps34
    go_wp2_with first | (go_at_call 24; (with_reducible refine (HK _).mono ?_); rintro e w1 ⟨rfl, hb⟩; obtain ⟨os, n, rfl⟩ := Below.moreE hb; clear hb) | (go_at_call 57; (with_reducible refine (HN _).mono ?_); rintro e w1 ⟨rfl, hb⟩; obtain ⟨os, n, rfl⟩ := Below.moreE hb; clear hb) | (go_at_call 42; (with_reducible refine (HW _).mono ?_); rintro e w1 ⟨rfl, hb⟩; obtain ⟨os, n, rfl⟩ := Below.moreE hb; clear hb) | (go_at_call 32; (with_reducible refine (HT _).mono ?_); rintro e w1 ⟨rfl, hb⟩; obtain ⟨os, n, rfl⟩ := Below.moreE hb; clear hb)
    refine bodyPost_ret (v := .tuple #[.int .i64 0, .int .i64 13]) (by simp [results, Tryd.results34, go_sem]) rfl ⟨rfl, (Gr.below (by repeat (first | (with_reducible exact Gr.refl _) | with_reducible refine Gr.alloc ?_ _ | with_reducible refine Gr.more ?_ _ _ | with_reducible refine Gr.setCell ?_ (by dsimp only; omega) _ | with_reducible refine Gr.drew ?_)))⟩
  · go_enter Tryd.func34, Tryd.ntmps34
    go_wp2_with first | (go_at_call 24; (with_reducible refine (HK _).mono ?_); rintro e w1 ⟨rfl, hb⟩; obtain ⟨os, n, rfl⟩ := Below.moreE hb; clear hb) | (go_at_call 57; (with_reducible refine (HN _).mono ?_); rintro e w1 ⟨rfl, hb⟩; obtain ⟨os, n, rfl⟩ := Below.moreE hb; clear hb) | (go_at_call 42; (with_reducible refine (HW _).mono ?_); rintro e w1 ⟨rfl, hb⟩; obtain ⟨os, n, rfl⟩ := Below.moreE hb; clear hb) | (go_at_call 32; (with_reducible refine (HT _).mono ?_); rintro e w1 ⟨rfl, hb⟩; obtain ⟨os, n, rfl⟩ := Below.moreE hb; clear hb)
    refine bodyPost_ret (v := .tuple #[.int .i64 0, .int .i64 13]) (by simp [results, Tryd.results34, go_sem]) rfl ⟨rfl, (Gr.below (by repeat (first | (with_reducible exact Gr.refl _) | with_reducible refine Gr.alloc ?_ _ | with_reducible refine Gr.more ?_ _ _ | with_reducible refine Gr.setCell ?_ (by dsimp only; omega) _ | with_reducible refine Gr.drew ?_)))⟩
set_option maxRecDepth 100000 in
set_option maxHeartbeats 4000000 in
theorem rparse_acc_m (s : Int) (v : validB s = true) (g : Bool) (t : ByteArray) (h20 : ¬ 20 < t.size) (h0 : 0 < t.size) (hm : ((t[0].toNat : Int) == 45) = true) (hz : ((t[0].toNat : Int) == 48) = false) (h2 : ¬ 2 < t.size) (u : Int) (HN : RetU (t.extract 1 t.size) 10 u true) (HW : RetV 42 #[tyV s g, .int .i64 (wrap64 (-wrap64 u))] (wrap64 (-wrap64 u))) (HT : RetS 32 #[tyV s g, .int .i64 (wrap64 (-wrap64 u))] t 0) : RetM 34 #[tyV s g, .string t] (wrap64 (-wrap64 u)) 0 := fun w => by
  have HK := rcheck_ok v g
  have g20 : ¬ (20 : Int) < (t.size : Int) := by omega
  have g0 : (0 : Int) < (t.size : Int) := by omega
  have g2 : ¬ (2 : Int) < (t.size : Int) := by omega
  go_enter Tryd.func34, Tryd.ntmps34
  go_wp2_with first | (go_at_call 24; (with_reducible refine (HK _).mono ?_); rintro e w1 ⟨rfl, hb⟩; obtain ⟨os, n, rfl⟩ := Below.moreE hb; clear hb) | (go_at_call 57; (with_reducible refine (HN _).mono ?_); rintro e w1 ⟨rfl, hb⟩; obtain ⟨os, n, rfl⟩ := Below.moreE hb; clear hb) | (go_at_call 42; (with_reducible refine (HW _).mono ?_); rintro e w1 ⟨rfl, hb⟩; obtain ⟨os, n, rfl⟩ := Below.moreE hb; clear hb) | (go_at_call 32; (with_reducible refine (HT _).mono ?_); rintro e w1 ⟨rfl, hb⟩; obtain ⟨os, n, rfl⟩ := Below.moreE hb; clear hb)
  refine bodyPost_ret (v := .tuple #[.int .i64 (wrap64 (-wrap64 u)), .int .i64 0]) (by simp [results, Tryd.results34, go_sem]) rfl ⟨rfl, (Gr.below (by repeat (first | (with_reducible exact Gr.refl _) | with_reducible refine Gr.alloc ?_ _ | with_reducible refine Gr.more ?_ _ _ | with_reducible refine Gr.setCell ?_ (by dsimp only; omega) _ | with_reducible refine Gr.drew ?_)))⟩
set_option maxRecDepth 100000 in
set_option maxHeartbeats 4000000 in
theorem rparse_rej_o (s : Int) (v : validB s = true) (g : Bool) (t : ByteArray) (h20 : ¬ 20 < t.size) (h2 : 2 < t.size) (hm : ((t[0].toNat : Int) == 45) = true) (hz : ((t[0].toNat : Int) == 48) = false) (u : Int) (ok : Bool) (HN : RetU (t.extract 1 t.size) 10 u ok) (y : Int) (HW : RetV 42 #[tyV s g, .int .i64 (wrap64 (-wrap64 u))] y) (tx : ByteArray) (HT : RetS 32 #[tyV s g, .int .i64 (wrap64 (-wrap64 u))] tx 0) (hr : ok = false ∨ (ok = true ∧ (y != (wrap64 (-wrap64 u))) = true) ∨ (ok = true ∧ y = (wrap64 (-wrap64 u)) ∧ ¬ tx.toList = t.toList)) : RetM 34 #[tyV s g, .string t] 0 13 := fun w => by
  have HK := rcheck_ok v g
  have g20 : ¬ (20 : Int) < (t.size : Int) := by omega
  have g0 : (0 : Int) < (t.size : Int) := by omega
  have g2 : (2 : Int) < (t.size : Int) := by omega
  rcases hr with rfl | ⟨rfl, hy⟩ | ⟨rfl, rfl, ht⟩
  · go_enter Tryd.func34, Tryd.ntmps34
    go_wp2_with first | (go_at_call 24; (with_reducible refine (HK _).mono ?_); rintro e w1 ⟨rfl, hb⟩; obtain ⟨os, n, rfl⟩ := Below.moreE hb; clear hb) | (go_at_call 57; (with_reducible refine (HN _).mono ?_); rintro e w1 ⟨rfl, hb⟩; obtain ⟨os, n, rfl⟩ := Below.moreE hb; clear hb) | (go_at_call 42; (with_reducible refine (HW _).mono ?_); rintro e w1 ⟨rfl, hb⟩; obtain ⟨os, n, rfl⟩ := Below.moreE hb; clear hb) | (go_at_call 32; (with_reducible refine (HT _).mono ?_); rintro e w1 ⟨rfl, hb⟩; obtain ⟨os, n, rfl⟩ := Below.moreE hb; clear hb)
    refine bodyPost_ret (v := .tuple #[.int .i64 0, .int .i64 13]) (by simp [results, Tryd.results34, go_sem]) rfl ⟨rfl, (Gr.below (by repeat (first | (with_reducible exact Gr.refl _) | with_reducible refine Gr.alloc ?_ _ | with_reducible refine Gr.more ?_ _ _ | with_reducible refine Gr.setCell ?_ (by dsimp only; omega) _ | with_reducible refine Gr.drew ?_)))⟩
  · go_enter Tryd.func34, Tryd.ntmps34
    go_wp2_with first | (go_at_call 24; (with_reducible refine (HK _).mono ?_); rintro e w1 ⟨rfl, hb⟩; obtain ⟨os, n, rfl⟩ := Below.moreE hb; clear hb) | (go_at_call 57; (with_reducible refine (HN _).mono ?_); rintro e w1 ⟨rfl, hb⟩; obtain ⟨os, n, rfl⟩ := Below.moreE hb; clear hb) | (go_at_call 42; (with_reducible refine (HW _).mono ?_); rintro e w1 ⟨rfl, hb⟩; obtain ⟨os, n, rfl⟩ := Below.moreE hb; clear hb) | (go_at_call 32; (with_reducible refine (HT _).mono ?_); rintro e w1 ⟨rfl, hb⟩; obtain ⟨os, n, rfl⟩ := Below.moreE hb; clear hb)
    refine bodyPost_ret (v := .tuple #[.int .i64 0, .int .i64 13]) (by simp [results, Tryd.results34, go_sem]) rfl ⟨rfl, (Gr.below (by repeat (first | (with_reducible exact Gr.refl _) | with_reducible refine Gr.alloc ?_ _ | with_reducible refine Gr.more ?_ _ _ | with_reducible refine Gr.setCell ?_ (by dsimp only; omega) _ | with_reducible refine Gr.drew ?_)))⟩
  · go_enter Tryd.func34, Tryd.ntmps34
    go_wp2_with first | (go_at_call 24; (with_reducible refine (HK _).mono ?_); rintro e w1 ⟨rfl, hb⟩; obtain ⟨os, n, rfl⟩ := Below.moreE hb; clear hb) | (go_at_call 57; (with_reducible refine (HN _).mono ?_); rintro e w1 ⟨rfl, hb⟩; obtain ⟨os, n, rfl⟩ := Below.moreE hb; clear hb) | (go_at_call 42; (with_reducible refine (HW _).mono ?_); rintro e w1 ⟨rfl, hb⟩; obtain ⟨os, n, rfl⟩ := Below.moreE hb; clear hb) | (go_at_call 32; (with_reducible refine (HT _).mono ?_); rintro e w1 ⟨rfl, hb⟩; obtain ⟨os, n, rfl⟩ := Below.moreE hb; clear hb)
    refine bodyPost_ret (v := .tuple #[.int .i64 0, .int .i64 13]) (by simp [results, Tryd.results34, go_sem]) rfl ⟨rfl, (Gr.below (by repeat (first | (with_reducible exact Gr.refl _) | with_reducible refine Gr.alloc ?_ _ | with_reducible refine Gr.more ?_ _ _ | with_reducible refine Gr.setCell ?_ (by dsimp only; omega) _ | with_reducible refine Gr.drew ?_)))⟩
set_option maxRecDepth 100000 in
set_option maxHeartbeats 4000000 in
theorem rparse_acc_o (s : Int) (v : validB s = true) (g : Bool) (t : ByteArray) (h20 : ¬ 20 < t.size) (h2 : 2 < t.size) (hm : ((t[0].toNat : Int) == 45) = true) (hz : ((t[0].toNat : Int) == 48) = false) (u : Int) (HN : RetU (t.extract 1 t.size) 10 u true) (HW : RetV 42 #[tyV s g, .int .i64 (wrap64 (-wrap64 u))] (wrap64 (-wrap64 u))) (HT : RetS 32 #[tyV s g, .int .i64 (wrap64 (-wrap64 u))] t 0) : RetM 34 #[tyV s g, .string t] (wrap64 (-wrap64 u)) 0 := fun w => by
  have HK := rcheck_ok v g
  have g20 : ¬ (20 : Int) < (t.size : Int) := by omega
  have g0 : (0 : Int) < (t.size : Int) := by omega
  have g2 : (2 : Int) < (t.size : Int) := by omega
  go_enter Tryd.func34, Tryd.ntmps34
  go_wp2_with first | (go_at_call 24; (with_reducible refine (HK _).mono ?_); rintro e w1 ⟨rfl, hb⟩; obtain ⟨os, n, rfl⟩ := Below.moreE hb; clear hb) | (go_at_call 57; (with_reducible refine (HN _).mono ?_); rintro e w1 ⟨rfl, hb⟩; obtain ⟨os, n, rfl⟩ := Below.moreE hb; clear hb) | (go_at_call 42; (with_reducible refine (HW _).mono ?_); rintro e w1 ⟨rfl, hb⟩; obtain ⟨os, n, rfl⟩ := Below.moreE hb; clear hb) | (go_at_call 32; (with_reducible refine (HT _).mono ?_); rintro e w1 ⟨rfl, hb⟩; obtain ⟨os, n, rfl⟩ := Below.moreE hb; clear hb)
  refine bodyPost_ret (v := .tuple #[.int .i64 (wrap64 (-wrap64 u)), .int .i64 0]) (by simp [results, Tryd.results34, go_sem]) rfl ⟨rfl, (Gr.below (by repeat (first | (with_reducible exact Gr.refl _) | with_reducible refine Gr.alloc ?_ _ | with_reducible refine Gr.more ?_ _ _ | with_reducible refine Gr.setCell ?_ (by dsimp only; omega) _ | with_reducible refine Gr.drew ?_)))⟩
set_option maxRecDepth 100000 in
set_option maxHeartbeats 4000000 in
theorem rparse_rej_h (s : Int) (v : validB s = true) (g : Bool) (t : ByteArray) (h20 : ¬ 20 < t.size) (h2 : 2 < t.size) (hm : ((t[0].toNat : Int) == 45) = false) (hz : ((t[0].toNat : Int) == 48) = true) (hx : ((t[1].toNat : Int) == 120) = true) (u : Int) (ok : Bool) (HN : RetU (t.extract 2 t.size) 16 u ok) (y : Int) (HW : RetV 42 #[tyV s g, .int .i64 (wrap64 u)] y) (tx : ByteArray) (HT : RetS 32 #[tyV s g, .int .i64 (wrap64 u)] tx 0) (d : ByteArray) (HG : RetG u d) (hr : ok = false ∨ (ok = true ∧ 18 < t.size) ∨ (ok = true ∧ ¬ 18 < t.size ∧ (y != (wrap64 u)) = true) ∨ (ok = true ∧ ¬ 18 < t.size ∧ y = (wrap64 u) ∧ ¬ tx.toList = d.toList)) : RetM 34 #[tyV s g, .string t] 0 13 := fun w => by
  have HK := rcheck_ok v g
  have g20 : ¬ (20 : Int) < (t.size : Int) := by omega
  have g0 : (0 : Int) < (t.size : Int) := by omega
  have g2 : (2 : Int) < (t.size : Int) := by omega
  rcases hr with rfl | ⟨rfl, h18⟩ | ⟨rfl, h18, hy⟩ | ⟨rfl, h18, rfl, ht⟩
  · go_enter Tryd.func34, Tryd.ntmps34
    go_wp2_with first | (go_at_call 24; (with_reducible refine (HK _).mono ?_); rintro e w1 ⟨rfl, hb⟩; obtain ⟨os, n, rfl⟩ := Below.moreE hb; clear hb) | (go_at_call 57; (with_reducible refine (HN _).mono ?_); rintro e w1 ⟨rfl, hb⟩; obtain ⟨os, n, rfl⟩ := Below.moreE hb; clear hb) | (go_at_call 42; (with_reducible refine (HW _).mono ?_); rintro e w1 ⟨rfl, hb⟩; obtain ⟨os, n, rfl⟩ := Below.moreE hb; clear hb) | (go_at_call 32; (with_reducible refine (HT _).mono ?_); rintro e w1 ⟨rfl, hb⟩; obtain ⟨os, n, rfl⟩ := Below.moreE hb; clear hb) | (go_at_call 52; (with_reducible refine (HG _).mono ?_); rintro e w1 ⟨rfl, rfl⟩)
    refine bodyPost_ret (v := .tuple #[.int .i64 0, .int .i64 13]) (by simp [results, Tryd.results34, go_sem]) rfl ⟨rfl, (Gr.below (by repeat (first | (with_reducible exact Gr.refl _) | with_reducible refine Gr.alloc ?_ _ | with_reducible refine Gr.more ?_ _ _ | with_reducible refine Gr.setCell ?_ (by dsimp only; omega) _ | with_reducible refine Gr.drew ?_)))⟩
  · have g18 : ¬ (t.size : Int) ≤ 18 := by omega
    go_enter Tryd.func34, Tryd.ntmps34
    go_wp2_with first | (go_at_call 24; (with_reducible refine (HK _).mono ?_); rintro e w1 ⟨rfl, hb⟩; obtain ⟨os, n, rfl⟩ := Below.moreE hb; clear hb) | (go_at_call 57; (with_reducible refine (HN _).mono ?_); rintro e w1 ⟨rfl, hb⟩; obtain ⟨os, n, rfl⟩ := Below.moreE hb; clear hb) | (go_at_call 42; (with_reducible refine (HW _).mono ?_); rintro e w1 ⟨rfl, hb⟩; obtain ⟨os, n, rfl⟩ := Below.moreE hb; clear hb) | (go_at_call 32; (with_reducible refine (HT _).mono ?_); rintro e w1 ⟨rfl, hb⟩; obtain ⟨os, n, rfl⟩ := Below.moreE hb; clear hb) | (go_at_call 52; (with_reducible refine (HG _).mono ?_); rintro e w1 ⟨rfl, rfl⟩)
    refine bodyPost_ret (v := .tuple #[.int .i64 0, .int .i64 13]) (by simp [results, Tryd.results34, go_sem]) rfl ⟨rfl, (Gr.below (by repeat (first | (with_reducible exact Gr.refl _) | with_reducible refine Gr.alloc ?_ _ | with_reducible refine Gr.more ?_ _ _ | with_reducible refine Gr.setCell ?_ (by dsimp only; omega) _ | with_reducible refine Gr.drew ?_)))⟩
  · have g18 : (t.size : Int) ≤ 18 := by omega
    go_enter Tryd.func34, Tryd.ntmps34
    go_wp2_with first | (go_at_call 24; (with_reducible refine (HK _).mono ?_); rintro e w1 ⟨rfl, hb⟩; obtain ⟨os, n, rfl⟩ := Below.moreE hb; clear hb) | (go_at_call 57; (with_reducible refine (HN _).mono ?_); rintro e w1 ⟨rfl, hb⟩; obtain ⟨os, n, rfl⟩ := Below.moreE hb; clear hb) | (go_at_call 42; (with_reducible refine (HW _).mono ?_); rintro e w1 ⟨rfl, hb⟩; obtain ⟨os, n, rfl⟩ := Below.moreE hb; clear hb) | (go_at_call 32; (with_reducible refine (HT _).mono ?_); rintro e w1 ⟨rfl, hb⟩; obtain ⟨os, n, rfl⟩ := Below.moreE hb; clear hb) | (go_at_call 52; (with_reducible refine (HG _).mono ?_); rintro e w1 ⟨rfl, rfl⟩)
    refine bodyPost_ret (v := .tuple #[.int .i64 0, .int .i64 13]) (by simp [results, Tryd.results34, go_sem]) rfl ⟨rfl, (Gr.below (by repeat (first | (with_reducible exact Gr.refl _) | with_reducible refine Gr.alloc ?_ _ | with_reducible refine Gr.more ?_ _ _ | with_reducible refine Gr.setCell ?_ (by dsimp only; omega) _ | with_reducible refine Gr.drew ?_)))⟩
  · have ht3 : (tx.toList == d.toList) = false := beq_eq_false_iff_ne.2 ht
    have g18 : (t.size : Int) ≤ 18 := by omega
    go_enter Tryd.func34, Tryd.ntmps34
    go_wp2_with first | (go_at_call 24; (with_reducible refine (HK _).mono ?_); rintro e w1 ⟨rfl, hb⟩; obtain ⟨os, n, rfl⟩ := Below.moreE hb; clear hb) | (go_at_call 57; (with_reducible refine (HN _).mono ?_); rintro e w1 ⟨rfl, hb⟩; obtain ⟨os, n, rfl⟩ := Below.moreE hb; clear hb) | (go_at_call 42; (with_reducible refine (HW _).mono ?_); rintro e w1 ⟨rfl, hb⟩; obtain ⟨os, n, rfl⟩ := Below.moreE hb; clear hb) | (go_at_call 32; (with_reducible refine (HT _).mono ?_); rintro e w1 ⟨rfl, hb⟩; obtain ⟨os, n, rfl⟩ := Below.moreE hb; clear hb) | (go_at_call 52; (with_reducible refine (HG _).mono ?_); rintro e w1 ⟨rfl, rfl⟩)
    refine bodyPost_ret (v := .tuple #[.int .i64 0, .int .i64 13]) (by simp [results, Tryd.results34, go_sem]) rfl ⟨rfl, (Gr.below (by repeat (first | (with_reducible exact Gr.refl _) | with_reducible refine Gr.alloc ?_ _ | with_reducible refine Gr.more ?_ _ _ | with_reducible refine Gr.setCell ?_ (by dsimp only; omega) _ | with_reducible refine Gr.drew ?_)))⟩
set_option maxRecDepth 100000 in
set_option maxHeartbeats 4000000 in
theorem rparse_acc_h (s : Int) (v : validB s = true) (g : Bool) (t : ByteArray) (h20 : ¬ 20 < t.size) (h2 : 2 < t.size) (hm : ((t[0].toNat : Int) == 45) = false) (hz : ((t[0].toNat : Int) == 48) = true) (hx : ((t[1].toNat : Int) == 120) = true) (u : Int) (HN : RetU (t.extract 2 t.size) 16 u true) (h18 : ¬ 18 < t.size) (HW : RetV 42 #[tyV s g, .int .i64 (wrap64 u)] (wrap64 u)) (d : ByteArray) (HG : RetG u d) (HT : RetS 32 #[tyV s g, .int .i64 (wrap64 u)] d 0) : RetM 34 #[tyV s g, .string t] (wrap64 u) 0 := fun w => by
  have HK := rcheck_ok v g
  have g20 : ¬ (20 : Int) < (t.size : Int) := by omega
  have g0 : (0 : Int) < (t.size : Int) := by omega
  have g2 : (2 : Int) < (t.size : Int) := by omega
  have g18 : (t.size : Int) ≤ 18 := by omega
  go_enter Tryd.func34, Tryd.ntmps34
  go_wp2_with first | (go_at_call 24; (with_reducible refine (HK _).mono ?_); rintro e w1 ⟨rfl, hb⟩; obtain ⟨os, n, rfl⟩ := Below.moreE hb; clear hb) | (go_at_call 57; (with_reducible refine (HN _).mono ?_); rintro e w1 ⟨rfl, hb⟩; obtain ⟨os, n, rfl⟩ := Below.moreE hb; clear hb) | (go_at_call 42; (with_reducible refine (HW _).mono ?_); rintro e w1 ⟨rfl, hb⟩; obtain ⟨os, n, rfl⟩ := Below.moreE hb; clear hb) | (go_at_call 32; (with_reducible refine (HT _).mono ?_); rintro e w1 ⟨rfl, hb⟩; obtain ⟨os, n, rfl⟩ := Below.moreE hb; clear hb) | (go_at_call 52; (with_reducible refine (HG _).mono ?_); rintro e w1 ⟨rfl, rfl⟩)
  refine bodyPost_ret (v := .tuple #[.int .i64 (wrap64 u), .int .i64 0]) (by simp [results, Tryd.results34, go_sem]) rfl ⟨rfl, (Gr.below (by repeat (first | (with_reducible exact Gr.refl _) | with_reducible refine Gr.alloc ?_ _ | with_reducible refine Gr.more ?_ _ _ | with_reducible refine Gr.setCell ?_ (by dsimp only; omega) _ | with_reducible refine Gr.drew ?_)))⟩
end Go.Proofs.YtbdkacfddbiclaaDoor
