/-
  The law MemStrings: its walks (made by genzv.py).
-/
import Derived.Test.YtbfakdbhmpjmlaaZv
namespace Go.Proofs.Ytbfakdbhmpjmlaa
open Go.RowKit

set_option maxRecDepth 100000 in
set_option maxHeartbeats 16000000 in
theorem strs_e1 (w : World) (P : List Int) (p : Option Addr) (pc : Nat) (B : List UInt8) (q : Option Addr) (qc : Nat) (hS : SpIn 0 w.heap.size w P p B q qc) (a : Int) (n m : Int) {t : ByteArray} {K A E : Int} (H1 : CStr P B a n t K A E) (hE : (E != 0) = true) : Calls Try.prog 13 #[spV p P.length pc q B.length qc, .agg #[.int .i64 a, .int .i64 n, .int .i64 m]] w fun e w' => e = .returned (.bool true) ∧ Below w.heap.size w w' := by
  go_enter Try.func13, Try.ntmps13
  go_upto_region 1 with fail
  refine strs_r1 msane_any ?_
  intro _ W1 g1
  have h2 : SpBx 0 W1 (w.heap.size) P B := SpBx.up g1 ⟨p, pc, q, qc, Bx.mk2 (by go_simp) (by go_simp) (by go_simp) (by go_simp), (hS.up (by repeat (first | (with_reducible exact Gr.refl _) | with_reducible refine Gr.alloc ?_ _ | with_reducible refine Gr.more ?_ _ _ | with_reducible refine Gr.setCell ?_ (by dsimp only; (try simp only [World.size_more, World.size_alloc, World.size_setCell, World.size_drew, Array.size_append]); omega) _ | with_reducible refine Gr.drew ?_))).mono (by (try simp only [World.size_more, World.size_alloc, World.size_setCell, World.size_drew, Array.size_append]); omega) (by (try simp only [World.size_more, World.size_alloc, World.size_setCell, World.size_drew, Array.size_append]); omega)⟩
  have h3 : Bx W1 (w.heap.size + 1) [.int .i64 a, .int .i64 n, .int .i64 m] := Bx.up g1 (Bx.mk3 (by go_simp) (by go_simp) (by go_simp) (by go_simp) (by go_simp) (by go_simp))
  have hG : Gr w.heap.size w W1 := Gr.trans (by repeat (first | (with_reducible exact Gr.refl _) | with_reducible refine Gr.alloc ?_ _ | with_reducible refine Gr.more ?_ _ _ | with_reducible refine Gr.setCell ?_ (by dsimp only; (try simp only [World.size_more, World.size_alloc, World.size_setCell, World.size_drew, Array.size_append]); omega) _ | with_reducible refine Gr.drew ?_)) g1
  clear g1
  go_upto_region 2 with fail
  refine strs_r2 h2 h3 H1 ?_
  intro _ _ _ _ _ _ _ _ _ _ b7 W2 g2 ge7 n7
  replace h2 := SpBx.up g2 h2
  replace h3 := Bx.up g2 h3
  have h7 := n7
  clear n7
  replace hG := Gr.trans hG g2
  clear g2
  have c7_0 := h7.get 0 _ rfl
  have c7_1 := h7.get 1 _ rfl
  go_wp2_with fail
  refine bodyPost_ret (v := .bool true) (by simp [results, Try.results13, go_sem]) rfl ⟨rfl, Gr.below (by repeat (first | (with_reducible exact hG) | with_reducible refine Gr.alloc ?_ _ | with_reducible refine Gr.more ?_ _ _ | with_reducible refine Gr.setCell ?_ (by dsimp only; (try simp only [World.size_more, World.size_alloc, World.size_setCell, World.size_drew, Array.size_append]); omega) _ | with_reducible refine Gr.drew ?_))⟩

set_option maxRecDepth 100000 in
set_option maxHeartbeats 16000000 in
theorem strs_e2 (w : World) (P : List Int) (p : Option Addr) (pc : Nat) (B : List UInt8) (q : Option Addr) (qc : Nat) (hS : SpIn 0 w.heap.size w P p B q qc) (a : Int) (n m : Int) {t : ByteArray} {K A : Int} (H1 : CStr P B a n t K A 0) (hK : (K != 0) = true) : Calls Try.prog 13 #[spV p P.length pc q B.length qc, .agg #[.int .i64 a, .int .i64 n, .int .i64 m]] w fun e w' => e = .returned (.bool true) ∧ Below w.heap.size w w' := by
  go_enter Try.func13, Try.ntmps13
  go_upto_region 1 with fail
  refine strs_r1 msane_any ?_
  intro _ W1 g1
  have h2 : SpBx 0 W1 (w.heap.size) P B := SpBx.up g1 ⟨p, pc, q, qc, Bx.mk2 (by go_simp) (by go_simp) (by go_simp) (by go_simp), (hS.up (by repeat (first | (with_reducible exact Gr.refl _) | with_reducible refine Gr.alloc ?_ _ | with_reducible refine Gr.more ?_ _ _ | with_reducible refine Gr.setCell ?_ (by dsimp only; (try simp only [World.size_more, World.size_alloc, World.size_setCell, World.size_drew, Array.size_append]); omega) _ | with_reducible refine Gr.drew ?_))).mono (by (try simp only [World.size_more, World.size_alloc, World.size_setCell, World.size_drew, Array.size_append]); omega) (by (try simp only [World.size_more, World.size_alloc, World.size_setCell, World.size_drew, Array.size_append]); omega)⟩
  have h3 : Bx W1 (w.heap.size + 1) [.int .i64 a, .int .i64 n, .int .i64 m] := Bx.up g1 (Bx.mk3 (by go_simp) (by go_simp) (by go_simp) (by go_simp) (by go_simp) (by go_simp))
  have hG : Gr w.heap.size w W1 := Gr.trans (by repeat (first | (with_reducible exact Gr.refl _) | with_reducible refine Gr.alloc ?_ _ | with_reducible refine Gr.more ?_ _ _ | with_reducible refine Gr.setCell ?_ (by dsimp only; (try simp only [World.size_more, World.size_alloc, World.size_setCell, World.size_drew, Array.size_append]); omega) _ | with_reducible refine Gr.drew ?_)) g1
  clear g1
  go_upto_region 2 with fail
  refine strs_r2 h2 h3 H1 ?_
  intro _ _ _ _ _ _ _ _ _ _ b7 W2 g2 ge7 n7
  replace h2 := SpBx.up g2 h2
  replace h3 := Bx.up g2 h3
  have h7 := n7
  clear n7
  replace hG := Gr.trans hG g2
  clear g2
  have c7_0 := h7.get 0 _ rfl
  have c7_1 := h7.get 1 _ rfl
  go_wp2_with fail
  refine bodyPost_ret (v := .bool true) (by simp [results, Try.results13, go_sem]) rfl ⟨rfl, Gr.below (by repeat (first | (with_reducible exact hG) | with_reducible refine Gr.alloc ?_ _ | with_reducible refine Gr.more ?_ _ _ | with_reducible refine Gr.setCell ?_ (by dsimp only; (try simp only [World.size_more, World.size_alloc, World.size_setCell, World.size_drew, Array.size_append]); omega) _ | with_reducible refine Gr.drew ?_))⟩

set_option maxRecDepth 100000 in
set_option maxHeartbeats 16000000 in
theorem strs_arg (w : World) (P : List Int) (p : Option Addr) (pc : Nat) (B : List UInt8) (q : Option Addr) (qc : Nat) (hS : SpIn 0 w.heap.size w P p B q qc) (a : Int) (N : Nat) (m : Int) {t u : ByteArray} {Y : List UInt8} (hz : ∀ k (h : k < t.size), (((t[k]'h).toNat : Int) == 0) = false) (hY : (⟨Y.toArray⟩ : ByteArray) = t) (H1 : CStr P B a (N : Int) t 0 0 0) (HP : CPeek P B a (t.size : Int) Y 0 0 0) (H3 : CStr P B a (wrap64 ((N : Int) + 1)) u 0 0 1) (hle : ¬ (N : Int) < (t.size : Int)) (hle' : (t.size : Int) ≤ (N : Int)) (hz0 : (0 : Int) ≤ (t.size : Int)) (h64 : t.size ≤ 64) : Calls Try.prog 13 #[spV p P.length pc q B.length qc, .agg #[.int .i64 a, .int .i64 (N : Int), .int .i64 m]] w fun e w' => e = .returned (.bool true) ∧ Below w.heap.size w w' := by
  go_enter Try.func13, Try.ntmps13
  go_upto_region 1 with fail
  refine strs_r1 msane_any ?_
  intro _ W1 g1
  have h2 : SpBx 0 W1 (w.heap.size) P B := SpBx.up g1 ⟨p, pc, q, qc, Bx.mk2 (by go_simp) (by go_simp) (by go_simp) (by go_simp), (hS.up (by repeat (first | (with_reducible exact Gr.refl _) | with_reducible refine Gr.alloc ?_ _ | with_reducible refine Gr.more ?_ _ _ | with_reducible refine Gr.setCell ?_ (by dsimp only; (try simp only [World.size_more, World.size_alloc, World.size_setCell, World.size_drew, Array.size_append]); omega) _ | with_reducible refine Gr.drew ?_))).mono (by (try simp only [World.size_more, World.size_alloc, World.size_setCell, World.size_drew, Array.size_append]); omega) (by (try simp only [World.size_more, World.size_alloc, World.size_setCell, World.size_drew, Array.size_append]); omega)⟩
  have h3 : Bx W1 (w.heap.size + 1) [.int .i64 a, .int .i64 (N : Int), .int .i64 m] := Bx.up g1 (Bx.mk3 (by go_simp) (by go_simp) (by go_simp) (by go_simp) (by go_simp) (by go_simp))
  have hG : Gr w.heap.size w W1 := Gr.trans (by repeat (first | (with_reducible exact Gr.refl _) | with_reducible refine Gr.alloc ?_ _ | with_reducible refine Gr.more ?_ _ _ | with_reducible refine Gr.setCell ?_ (by dsimp only; (try simp only [World.size_more, World.size_alloc, World.size_setCell, World.size_drew, Array.size_append]); omega) _ | with_reducible refine Gr.drew ?_)) g1
  clear g1
  go_upto_region 2 with fail
  refine strs_r2 h2 h3 H1 ?_
  intro _ _ _ _ _ _ _ _ _ _ b7 W2 g2 ge7 n7
  replace h2 := SpBx.up g2 h2
  replace h3 := Bx.up g2 h3
  have h7 := n7
  clear n7
  replace hG := Gr.trans hG g2
  clear g2
  have c7_0 := h7.get 0 _ rfl
  have c7_1 := h7.get 1 _ rfl
  go_wp2_with fail
  clear c7_0 c7_1
  go_loop [9] (fun i => ∃ k : Nat, k ≤ t.size ∧ i = .int .i64 (k : Int)) (fun i => t.size - (intOf i).toNat)
  case atStart => exact ⟨0, Nat.zero_le _, rfl⟩
  case round =>
  obtain ⟨k, hk, rfl⟩ := hrel
  by_cases hlt : k < t.size
  · have hki : (k : Int) < (t.size : Int) := by omega
    have hk0 : (0 : Int) ≤ (k : Int) := by omega
    have hne := hz k hlt
    have hw1 : wrap64 ((k : Int) + 1) = (k : Int) + 1 := by unfold wrap64; omega
    go_wp2_with fail
    go_round
    case rel => exact ⟨k + 1, hlt, by go_num⟩
    case measure => simp [intOf]; omega
  · obtain rfl : k = t.size := by omega
    have hki : ¬ (t.size : Int) < (t.size : Int) := by omega
    clear hz hlt hk
    go_upto_region 10 with fail
    refine strs_r10 h2 h3 HP ?_
    intro _ _ _ _ _ _ _ _ _ _ y10 b11 W11 g11 ge11 n11 nq10
    replace h2 := SpBx.up g11 h2
    replace h3 := Bx.up g11 h3
    replace h7 := Bx.up g11 h7
    have h11 := n11
    clear n11
    have h10 := nq10
    clear nq10
    replace hG := Gr.trans hG g11
    clear g11
    have c11_0 := h11.get 0 _ rfl
    have c11_1 := h11.get 1 _ rfl
    have c3_0 := h3.get 0 _ rfl
    have c3_1 := h3.get 1 _ rfl
    have c3_2 := h3.get 2 _ rfl
    obtain ⟨p10, pc10, rfl, s10⟩ := h10
    have cv := conv_any Y p10 pc10 _ s10.at
    rw [hY] at cv
    go_upto_region 13 with fail
    clear cv
    clear c11_0 c11_1
    clear c3_0 c3_1 c3_2
    go_upto_region 13 with fail
    refine strs_r13 h2 h3 rfl H3 ?_
    intro _ _ _ _ _ _ _ _ _ _ _ b14 W12 g12 ge14 n14
    replace h2 := SpBx.up g12 h2
    replace h3 := Bx.up g12 h3
    replace h7 := Bx.up g12 h7
    replace h11 := Bx.up g12 h11
    have h14 := n14
    clear n14
    replace hG := Gr.trans hG g12
    clear g12
    have c14_0 := h14.get 0 _ rfl
    have c14_1 := h14.get 1 _ rfl
    have c3_0 := h3.get 0 _ rfl
    have c3_1 := h3.get 1 _ rfl
    have c3_2 := h3.get 2 _ rfl
    go_wp2_with fail
    refine bodyPost_ret (v := .bool true) (by simp [results, Try.results13, go_sem]) rfl ⟨rfl, Gr.below (by repeat (first | (with_reducible exact hG) | with_reducible refine Gr.alloc ?_ _ | with_reducible refine Gr.more ?_ _ _ | with_reducible refine Gr.setCell ?_ (by dsimp only; (try simp only [World.size_more, World.size_alloc, World.size_setCell, World.size_drew, Array.size_append]); omega) _ | with_reducible refine Gr.drew ?_))⟩

set_option maxRecDepth 100000 in
set_option maxHeartbeats 16000000 in
theorem strs_flt (w : World) (P : List Int) (p : Option Addr) (pc : Nat) (B : List UInt8) (q : Option Addr) (qc : Nat) (hS : SpIn 0 w.heap.size w P p B q qc) (a : Int) (N : Nat) (m : Int) {t u : ByteArray} {Y : List UInt8} {K3 A3 : Int} (hz : ∀ k (h : k < t.size), (((t[k]'h).toNat : Int) == 0) = false) (hY : (⟨Y.toArray⟩ : ByteArray) = t) (H1 : CStr P B a (N : Int) t 0 0 0) (HP : CPeek P B a (t.size : Int) Y 0 0 0) (H3 : CStr P B a (wrap64 ((N : Int) + 1)) u K3 A3 0) (hle : ¬ (N : Int) < (t.size : Int)) (hle' : (t.size : Int) ≤ (N : Int)) (hz0 : (0 : Int) ≤ (t.size : Int)) (h64 : t.size ≤ 64) (hk3 : (K3 != 0) = true) (hA3 : wrap64 (a + (N : Int)) = A3) (hsz : ((t.size : Int) == (N : Int)) = true) : Calls Try.prog 13 #[spV p P.length pc q B.length qc, .agg #[.int .i64 a, .int .i64 (N : Int), .int .i64 m]] w fun e w' => e = .returned (.bool true) ∧ Below w.heap.size w w' := by
  go_enter Try.func13, Try.ntmps13
  go_upto_region 1 with fail
  refine strs_r1 msane_any ?_
  intro _ W1 g1
  have h2 : SpBx 0 W1 (w.heap.size) P B := SpBx.up g1 ⟨p, pc, q, qc, Bx.mk2 (by go_simp) (by go_simp) (by go_simp) (by go_simp), (hS.up (by repeat (first | (with_reducible exact Gr.refl _) | with_reducible refine Gr.alloc ?_ _ | with_reducible refine Gr.more ?_ _ _ | with_reducible refine Gr.setCell ?_ (by dsimp only; (try simp only [World.size_more, World.size_alloc, World.size_setCell, World.size_drew, Array.size_append]); omega) _ | with_reducible refine Gr.drew ?_))).mono (by (try simp only [World.size_more, World.size_alloc, World.size_setCell, World.size_drew, Array.size_append]); omega) (by (try simp only [World.size_more, World.size_alloc, World.size_setCell, World.size_drew, Array.size_append]); omega)⟩
  have h3 : Bx W1 (w.heap.size + 1) [.int .i64 a, .int .i64 (N : Int), .int .i64 m] := Bx.up g1 (Bx.mk3 (by go_simp) (by go_simp) (by go_simp) (by go_simp) (by go_simp) (by go_simp))
  have hG : Gr w.heap.size w W1 := Gr.trans (by repeat (first | (with_reducible exact Gr.refl _) | with_reducible refine Gr.alloc ?_ _ | with_reducible refine Gr.more ?_ _ _ | with_reducible refine Gr.setCell ?_ (by dsimp only; (try simp only [World.size_more, World.size_alloc, World.size_setCell, World.size_drew, Array.size_append]); omega) _ | with_reducible refine Gr.drew ?_)) g1
  clear g1
  go_upto_region 2 with fail
  refine strs_r2 h2 h3 H1 ?_
  intro _ _ _ _ _ _ _ _ _ _ b7 W2 g2 ge7 n7
  replace h2 := SpBx.up g2 h2
  replace h3 := Bx.up g2 h3
  have h7 := n7
  clear n7
  replace hG := Gr.trans hG g2
  clear g2
  have c7_0 := h7.get 0 _ rfl
  have c7_1 := h7.get 1 _ rfl
  go_wp2_with fail
  clear c7_0 c7_1
  go_loop [9] (fun i => ∃ k : Nat, k ≤ t.size ∧ i = .int .i64 (k : Int)) (fun i => t.size - (intOf i).toNat)
  case atStart => exact ⟨0, Nat.zero_le _, rfl⟩
  case round =>
  obtain ⟨k, hk, rfl⟩ := hrel
  by_cases hlt : k < t.size
  · have hki : (k : Int) < (t.size : Int) := by omega
    have hk0 : (0 : Int) ≤ (k : Int) := by omega
    have hne := hz k hlt
    have hw1 : wrap64 ((k : Int) + 1) = (k : Int) + 1 := by unfold wrap64; omega
    go_wp2_with fail
    go_round
    case rel => exact ⟨k + 1, hlt, by go_num⟩
    case measure => simp [intOf]; omega
  · obtain rfl : k = t.size := by omega
    have hki : ¬ (t.size : Int) < (t.size : Int) := by omega
    clear hz hlt hk
    go_upto_region 10 with fail
    refine strs_r10 h2 h3 HP ?_
    intro _ _ _ _ _ _ _ _ _ _ y10 b11 W11 g11 ge11 n11 nq10
    replace h2 := SpBx.up g11 h2
    replace h3 := Bx.up g11 h3
    replace h7 := Bx.up g11 h7
    have h11 := n11
    clear n11
    have h10 := nq10
    clear nq10
    replace hG := Gr.trans hG g11
    clear g11
    have c11_0 := h11.get 0 _ rfl
    have c11_1 := h11.get 1 _ rfl
    have c3_0 := h3.get 0 _ rfl
    have c3_1 := h3.get 1 _ rfl
    have c3_2 := h3.get 2 _ rfl
    obtain ⟨p10, pc10, rfl, s10⟩ := h10
    have cv := conv_any Y p10 pc10 _ s10.at
    rw [hY] at cv
    go_upto_region 13 with fail
    clear cv
    clear c11_0 c11_1
    clear c3_0 c3_1 c3_2
    go_upto_region 13 with fail
    refine strs_r13 h2 h3 rfl H3 ?_
    intro _ _ _ _ _ _ _ _ _ _ _ b14 W12 g12 ge14 n14
    replace h2 := SpBx.up g12 h2
    replace h3 := Bx.up g12 h3
    replace h7 := Bx.up g12 h7
    replace h11 := Bx.up g12 h11
    have h14 := n14
    clear n14
    replace hG := Gr.trans hG g12
    clear g12
    have c14_0 := h14.get 0 _ rfl
    have c14_1 := h14.get 1 _ rfl
    have c3_0 := h3.get 0 _ rfl
    have c3_1 := h3.get 1 _ rfl
    have c3_2 := h3.get 2 _ rfl
    go_wp2_with fail
    refine bodyPost_ret (v := .bool true) (by simp [results, Try.results13, go_sem]) rfl ⟨rfl, Gr.below (by repeat (first | (with_reducible exact hG) | with_reducible refine Gr.alloc ?_ _ | with_reducible refine Gr.more ?_ _ _ | with_reducible refine Gr.setCell ?_ (by dsimp only; (try simp only [World.size_more, World.size_alloc, World.size_setCell, World.size_drew, Array.size_append]); omega) _ | with_reducible refine Gr.drew ?_))⟩

set_option maxRecDepth 100000 in
set_option maxHeartbeats 16000000 in
theorem strs_same (w : World) (P : List Int) (p : Option Addr) (pc : Nat) (B : List UInt8) (q : Option Addr) (qc : Nat) (hS : SpIn 0 w.heap.size w P p B q qc) (a : Int) (N : Nat) (m : Int) {t u : ByteArray} {Y : List UInt8} (hz : ∀ k (h : k < t.size), (((t[k]'h).toNat : Int) == 0) = false) (hY : (⟨Y.toArray⟩ : ByteArray) = t) (H1 : CStr P B a (N : Int) t 0 0 0) (HP : CPeek P B a (t.size : Int) Y 0 0 0) (H3 : CStr P B a (wrap64 ((N : Int) + 1)) u 0 0 0) (hle : ¬ (N : Int) < (t.size : Int)) (hle' : (t.size : Int) ≤ (N : Int)) (hz0 : (0 : Int) ≤ (t.size : Int)) (h64 : t.size ≤ 64) (hge : (t.size : Int) ≤ (u.size : Int)) (hex : (u.extract 0 t.size).toList = t.toList) (hsz : ((t.size : Int) == (N : Int)) = false) (hut : u.toList = t.toList) : Calls Try.prog 13 #[spV p P.length pc q B.length qc, .agg #[.int .i64 a, .int .i64 (N : Int), .int .i64 m]] w fun e w' => e = .returned (.bool true) ∧ Below w.heap.size w w' := by
  go_enter Try.func13, Try.ntmps13
  go_upto_region 1 with fail
  refine strs_r1 msane_any ?_
  intro _ W1 g1
  have h2 : SpBx 0 W1 (w.heap.size) P B := SpBx.up g1 ⟨p, pc, q, qc, Bx.mk2 (by go_simp) (by go_simp) (by go_simp) (by go_simp), (hS.up (by repeat (first | (with_reducible exact Gr.refl _) | with_reducible refine Gr.alloc ?_ _ | with_reducible refine Gr.more ?_ _ _ | with_reducible refine Gr.setCell ?_ (by dsimp only; (try simp only [World.size_more, World.size_alloc, World.size_setCell, World.size_drew, Array.size_append]); omega) _ | with_reducible refine Gr.drew ?_))).mono (by (try simp only [World.size_more, World.size_alloc, World.size_setCell, World.size_drew, Array.size_append]); omega) (by (try simp only [World.size_more, World.size_alloc, World.size_setCell, World.size_drew, Array.size_append]); omega)⟩
  have h3 : Bx W1 (w.heap.size + 1) [.int .i64 a, .int .i64 (N : Int), .int .i64 m] := Bx.up g1 (Bx.mk3 (by go_simp) (by go_simp) (by go_simp) (by go_simp) (by go_simp) (by go_simp))
  have hG : Gr w.heap.size w W1 := Gr.trans (by repeat (first | (with_reducible exact Gr.refl _) | with_reducible refine Gr.alloc ?_ _ | with_reducible refine Gr.more ?_ _ _ | with_reducible refine Gr.setCell ?_ (by dsimp only; (try simp only [World.size_more, World.size_alloc, World.size_setCell, World.size_drew, Array.size_append]); omega) _ | with_reducible refine Gr.drew ?_)) g1
  clear g1
  go_upto_region 2 with fail
  refine strs_r2 h2 h3 H1 ?_
  intro _ _ _ _ _ _ _ _ _ _ b7 W2 g2 ge7 n7
  replace h2 := SpBx.up g2 h2
  replace h3 := Bx.up g2 h3
  have h7 := n7
  clear n7
  replace hG := Gr.trans hG g2
  clear g2
  have c7_0 := h7.get 0 _ rfl
  have c7_1 := h7.get 1 _ rfl
  go_wp2_with fail
  clear c7_0 c7_1
  go_loop [9] (fun i => ∃ k : Nat, k ≤ t.size ∧ i = .int .i64 (k : Int)) (fun i => t.size - (intOf i).toNat)
  case atStart => exact ⟨0, Nat.zero_le _, rfl⟩
  case round =>
  obtain ⟨k, hk, rfl⟩ := hrel
  by_cases hlt : k < t.size
  · have hki : (k : Int) < (t.size : Int) := by omega
    have hk0 : (0 : Int) ≤ (k : Int) := by omega
    have hne := hz k hlt
    have hw1 : wrap64 ((k : Int) + 1) = (k : Int) + 1 := by unfold wrap64; omega
    go_wp2_with fail
    go_round
    case rel => exact ⟨k + 1, hlt, by go_num⟩
    case measure => simp [intOf]; omega
  · obtain rfl : k = t.size := by omega
    have hki : ¬ (t.size : Int) < (t.size : Int) := by omega
    clear hz hlt hk
    go_upto_region 10 with fail
    refine strs_r10 h2 h3 HP ?_
    intro _ _ _ _ _ _ _ _ _ _ y10 b11 W11 g11 ge11 n11 nq10
    replace h2 := SpBx.up g11 h2
    replace h3 := Bx.up g11 h3
    replace h7 := Bx.up g11 h7
    have h11 := n11
    clear n11
    have h10 := nq10
    clear nq10
    replace hG := Gr.trans hG g11
    clear g11
    have c11_0 := h11.get 0 _ rfl
    have c11_1 := h11.get 1 _ rfl
    have c3_0 := h3.get 0 _ rfl
    have c3_1 := h3.get 1 _ rfl
    have c3_2 := h3.get 2 _ rfl
    obtain ⟨p10, pc10, rfl, s10⟩ := h10
    have cv := conv_any Y p10 pc10 _ s10.at
    rw [hY] at cv
    go_upto_region 13 with fail
    clear cv
    clear c11_0 c11_1
    clear c3_0 c3_1 c3_2
    go_upto_region 13 with fail
    refine strs_r13 h2 h3 rfl H3 ?_
    intro _ _ _ _ _ _ _ _ _ _ _ b14 W12 g12 ge14 n14
    replace h2 := SpBx.up g12 h2
    replace h3 := Bx.up g12 h3
    replace h7 := Bx.up g12 h7
    replace h11 := Bx.up g12 h11
    have h14 := n14
    clear n14
    replace hG := Gr.trans hG g12
    clear g12
    have c14_0 := h14.get 0 _ rfl
    have c14_1 := h14.get 1 _ rfl
    have c3_0 := h3.get 0 _ rfl
    have c3_1 := h3.get 1 _ rfl
    have c3_2 := h3.get 2 _ rfl
    go_wp2_with fail
    refine bodyPost_ret (v := .bool true) (by simp [results, Try.results13, go_sem]) rfl ⟨rfl, Gr.below (by repeat (first | (with_reducible exact hG) | with_reducible refine Gr.alloc ?_ _ | with_reducible refine Gr.more ?_ _ _ | with_reducible refine Gr.setCell ?_ (by dsimp only; (try simp only [World.size_more, World.size_alloc, World.size_setCell, World.size_drew, Array.size_append]); omega) _ | with_reducible refine Gr.drew ?_))⟩

set_option maxRecDepth 100000 in
set_option maxHeartbeats 16000000 in
theorem strs_more (w : World) (P : List Int) (p : Option Addr) (pc : Nat) (B : List UInt8) (q : Option Addr) (qc : Nat) (hS : SpIn 0 w.heap.size w P p B q qc) (a : Int) (N : Nat) (m : Int) {t u : ByteArray} {Y : List UInt8} (hz : ∀ k (h : k < t.size), (((t[k]'h).toNat : Int) == 0) = false) (hY : (⟨Y.toArray⟩ : ByteArray) = t) (H1 : CStr P B a (N : Int) t 0 0 0) (HP : CPeek P B a (t.size : Int) Y 0 0 0) (H3 : CStr P B a (wrap64 ((N : Int) + 1)) u 0 0 0) (hle : ¬ (N : Int) < (t.size : Int)) (hle' : (t.size : Int) ≤ (N : Int)) (hz0 : (0 : Int) ≤ (t.size : Int)) (h64 : t.size ≤ 64) (hge : (t.size : Int) ≤ (u.size : Int)) (hex : (u.extract 0 t.size).toList = t.toList) (hsz : ((t.size : Int) == (N : Int)) = true) : Calls Try.prog 13 #[spV p P.length pc q B.length qc, .agg #[.int .i64 a, .int .i64 (N : Int), .int .i64 m]] w fun e w' => e = .returned (.bool true) ∧ Below w.heap.size w w' := by
  go_enter Try.func13, Try.ntmps13
  go_upto_region 1 with fail
  refine strs_r1 msane_any ?_
  intro _ W1 g1
  have h2 : SpBx 0 W1 (w.heap.size) P B := SpBx.up g1 ⟨p, pc, q, qc, Bx.mk2 (by go_simp) (by go_simp) (by go_simp) (by go_simp), (hS.up (by repeat (first | (with_reducible exact Gr.refl _) | with_reducible refine Gr.alloc ?_ _ | with_reducible refine Gr.more ?_ _ _ | with_reducible refine Gr.setCell ?_ (by dsimp only; (try simp only [World.size_more, World.size_alloc, World.size_setCell, World.size_drew, Array.size_append]); omega) _ | with_reducible refine Gr.drew ?_))).mono (by (try simp only [World.size_more, World.size_alloc, World.size_setCell, World.size_drew, Array.size_append]); omega) (by (try simp only [World.size_more, World.size_alloc, World.size_setCell, World.size_drew, Array.size_append]); omega)⟩
  have h3 : Bx W1 (w.heap.size + 1) [.int .i64 a, .int .i64 (N : Int), .int .i64 m] := Bx.up g1 (Bx.mk3 (by go_simp) (by go_simp) (by go_simp) (by go_simp) (by go_simp) (by go_simp))
  have hG : Gr w.heap.size w W1 := Gr.trans (by repeat (first | (with_reducible exact Gr.refl _) | with_reducible refine Gr.alloc ?_ _ | with_reducible refine Gr.more ?_ _ _ | with_reducible refine Gr.setCell ?_ (by dsimp only; (try simp only [World.size_more, World.size_alloc, World.size_setCell, World.size_drew, Array.size_append]); omega) _ | with_reducible refine Gr.drew ?_)) g1
  clear g1
  go_upto_region 2 with fail
  refine strs_r2 h2 h3 H1 ?_
  intro _ _ _ _ _ _ _ _ _ _ b7 W2 g2 ge7 n7
  replace h2 := SpBx.up g2 h2
  replace h3 := Bx.up g2 h3
  have h7 := n7
  clear n7
  replace hG := Gr.trans hG g2
  clear g2
  have c7_0 := h7.get 0 _ rfl
  have c7_1 := h7.get 1 _ rfl
  go_wp2_with fail
  clear c7_0 c7_1
  go_loop [9] (fun i => ∃ k : Nat, k ≤ t.size ∧ i = .int .i64 (k : Int)) (fun i => t.size - (intOf i).toNat)
  case atStart => exact ⟨0, Nat.zero_le _, rfl⟩
  case round =>
  obtain ⟨k, hk, rfl⟩ := hrel
  by_cases hlt : k < t.size
  · have hki : (k : Int) < (t.size : Int) := by omega
    have hk0 : (0 : Int) ≤ (k : Int) := by omega
    have hne := hz k hlt
    have hw1 : wrap64 ((k : Int) + 1) = (k : Int) + 1 := by unfold wrap64; omega
    go_wp2_with fail
    go_round
    case rel => exact ⟨k + 1, hlt, by go_num⟩
    case measure => simp [intOf]; omega
  · obtain rfl : k = t.size := by omega
    have hki : ¬ (t.size : Int) < (t.size : Int) := by omega
    clear hz hlt hk
    go_upto_region 10 with fail
    refine strs_r10 h2 h3 HP ?_
    intro _ _ _ _ _ _ _ _ _ _ y10 b11 W11 g11 ge11 n11 nq10
    replace h2 := SpBx.up g11 h2
    replace h3 := Bx.up g11 h3
    replace h7 := Bx.up g11 h7
    have h11 := n11
    clear n11
    have h10 := nq10
    clear nq10
    replace hG := Gr.trans hG g11
    clear g11
    have c11_0 := h11.get 0 _ rfl
    have c11_1 := h11.get 1 _ rfl
    have c3_0 := h3.get 0 _ rfl
    have c3_1 := h3.get 1 _ rfl
    have c3_2 := h3.get 2 _ rfl
    obtain ⟨p10, pc10, rfl, s10⟩ := h10
    have cv := conv_any Y p10 pc10 _ s10.at
    rw [hY] at cv
    go_upto_region 13 with fail
    clear cv
    clear c11_0 c11_1
    clear c3_0 c3_1 c3_2
    go_upto_region 13 with fail
    refine strs_r13 h2 h3 rfl H3 ?_
    intro _ _ _ _ _ _ _ _ _ _ _ b14 W12 g12 ge14 n14
    replace h2 := SpBx.up g12 h2
    replace h3 := Bx.up g12 h3
    replace h7 := Bx.up g12 h7
    replace h11 := Bx.up g12 h11
    have h14 := n14
    clear n14
    replace hG := Gr.trans hG g12
    clear g12
    have c14_0 := h14.get 0 _ rfl
    have c14_1 := h14.get 1 _ rfl
    have c3_0 := h3.get 0 _ rfl
    have c3_1 := h3.get 1 _ rfl
    have c3_2 := h3.get 2 _ rfl
    go_wp2_with fail
    refine bodyPost_ret (v := .bool true) (by simp [results, Try.results13, go_sem]) rfl ⟨rfl, Gr.below (by repeat (first | (with_reducible exact hG) | with_reducible refine Gr.alloc ?_ _ | with_reducible refine Gr.more ?_ _ _ | with_reducible refine Gr.setCell ?_ (by dsimp only; (try simp only [World.size_more, World.size_alloc, World.size_setCell, World.size_drew, Array.size_append]); omega) _ | with_reducible refine Gr.drew ?_))⟩

end Go.Proofs.Ytbfakdbhmpjmlaa
