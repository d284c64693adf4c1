/-
  The law MemHalves: its walks (made by genzs.py).
-/
import Derived.Test.YtbfakdbhmpjmlaaZs
namespace Go.Proofs.Ytbfakdbhmpjmlaa
open Go.RowKit

set_option maxRecDepth 100000 in
set_option maxHeartbeats 16000000 in
theorem halves_e1 (w : World) (P : List Int) (p : Option Addr) (pc : Nat) (B : List UInt8) (q : Option Addr) (qc : Nat) (hS : SpIn 0 w.heap.size w P p B q qc) (a : Int) (g : Bool) (v : Int) (z : Int) (HC : CCheck P B 30) : Calls Try.prog 10 #[spV p P.length pc q B.length qc, .agg #[.int .i64 a, .int .i64 z, .bool g, .int .i64 v]] w fun e w' => e = .returned (.bool true) ∧ Below w.heap.size w w' := by
  go_enter Try.func10, Try.ntmps10
  go_upto_region 1 with fail
  refine halves_r1 msane_any ?_
  intro _ W1 g1
  have h2 : SpBx 0 W1 (w.heap.size) P B := SpBx.up g1 ⟨p, pc, q, qc, Bx.mk2 (by go_simp) (by go_simp) (by go_simp) (by go_simp), (hS.up (by repeat (first | (with_reducible exact Gr.refl _) | with_reducible refine Gr.alloc ?_ _ | with_reducible refine Gr.more ?_ _ _ | with_reducible refine Gr.setCell ?_ (by dsimp only; (try simp only [World.size_more, World.size_alloc, World.size_setCell, World.size_drew, Array.size_append]); omega) _ | with_reducible refine Gr.drew ?_))).mono (by (try simp only [World.size_more, World.size_alloc, World.size_setCell, World.size_drew, Array.size_append]); omega) (by (try simp only [World.size_more, World.size_alloc, World.size_setCell, World.size_drew, Array.size_append]); omega)⟩
  have h3 : Bx W1 (w.heap.size + 1) [.int .i64 a, .int .i64 z, .bool g, .int .i64 v] := Bx.up g1 (Bx.mk4 (by go_simp) (by go_simp) (by go_simp) (by go_simp) (by go_simp) (by go_simp) (by go_simp) (by go_simp))
  have hG : Gr w.heap.size w W1 := Gr.trans (by repeat (first | (with_reducible exact Gr.refl _) | with_reducible refine Gr.alloc ?_ _ | with_reducible refine Gr.more ?_ _ _ | with_reducible refine Gr.setCell ?_ (by dsimp only; (try simp only [World.size_more, World.size_alloc, World.size_setCell, World.size_drew, Array.size_append]); omega) _ | with_reducible refine Gr.drew ?_)) g1
  clear g1
  go_upto_region 2 with fail
  refine halves_r2 h3 ?_
  intro _ _  W2 g2 n3
  replace h2 := h2.caught g2 (by omega) (by omega)
  replace h3 := n3
  clear n3
  replace hG := Gr.caught hG g2 (by omega)
  clear g2
  obtain ⟨p2, pc2, q2, qc2, x2, s2⟩ := h2
  have c2_0 := x2.get 0 _ rfl
  have c2_1 := x2.get 1 _ rfl
  have l2 := x2.lt
  have l3 := h3.lt
  have c3_0 := h3.get 0 _ rfl
  have c3_1 := h3.get 1 _ rfl
  have c3_2 := h3.get 2 _ rfl
  have c3_3 := h3.get 3 _ rfl
  go_wp2_with first | (go_at_call 21; (refine (HC _ _ _ _ _ (s2.at.up (Gr.below (by repeat (first | (with_reducible exact Gr.refl _) | with_reducible refine Gr.alloc ?_ _ | with_reducible refine Gr.more ?_ _ _ | with_reducible refine Gr.setCell ?_ (by dsimp only; (try simp only [World.size_more, World.size_alloc, World.size_setCell, World.size_drew, Array.size_append]); omega) _ | with_reducible refine Gr.drew ?_))))).mono ?_); rintro e w1 ⟨rfl, hb⟩; obtain ⟨os, n, rfl⟩ := Below.moreE hb; clear hb)
  refine bodyPost_ret (v := .bool true) (by simp [results, Try.results10, go_sem]) rfl ⟨rfl, Gr.below (by repeat (first | (with_reducible exact hG) | with_reducible refine Gr.alloc ?_ _ | with_reducible refine Gr.more ?_ _ _ | with_reducible refine Gr.setCell ?_ (by dsimp only; (try simp only [World.size_more, World.size_alloc, World.size_setCell, World.size_drew, Array.size_append]); omega) _ | with_reducible refine Gr.drew ?_))⟩

set_option maxRecDepth 100000 in
set_option maxHeartbeats 16000000 in
theorem halves_e2 (w : World) (P : List Int) (p : Option Addr) (pc : Nat) (B : List UInt8) (q : Option Addr) (qc : Nat) (hS : SpIn 0 w.heap.size w P p B q qc) (a : Int) (g : Bool) (v : Int) (z : Int) (HC : CCheck P B 0) (HR : ∀ w, Calls Try.prog 45 #[tyV z false] w fun e w' => e = .returned (.int .i64 10) ∧ Below w.heap.size w w') : Calls Try.prog 10 #[spV p P.length pc q B.length qc, .agg #[.int .i64 a, .int .i64 z, .bool g, .int .i64 v]] w fun e w' => e = .returned (.bool true) ∧ Below w.heap.size w w' := by
  go_enter Try.func10, Try.ntmps10
  go_upto_region 1 with fail
  refine halves_r1 msane_any ?_
  intro _ W1 g1
  have h2 : SpBx 0 W1 (w.heap.size) P B := SpBx.up g1 ⟨p, pc, q, qc, Bx.mk2 (by go_simp) (by go_simp) (by go_simp) (by go_simp), (hS.up (by repeat (first | (with_reducible exact Gr.refl _) | with_reducible refine Gr.alloc ?_ _ | with_reducible refine Gr.more ?_ _ _ | with_reducible refine Gr.setCell ?_ (by dsimp only; (try simp only [World.size_more, World.size_alloc, World.size_setCell, World.size_drew, Array.size_append]); omega) _ | with_reducible refine Gr.drew ?_))).mono (by (try simp only [World.size_more, World.size_alloc, World.size_setCell, World.size_drew, Array.size_append]); omega) (by (try simp only [World.size_more, World.size_alloc, World.size_setCell, World.size_drew, Array.size_append]); omega)⟩
  have h3 : Bx W1 (w.heap.size + 1) [.int .i64 a, .int .i64 z, .bool g, .int .i64 v] := Bx.up g1 (Bx.mk4 (by go_simp) (by go_simp) (by go_simp) (by go_simp) (by go_simp) (by go_simp) (by go_simp) (by go_simp))
  have hG : Gr w.heap.size w W1 := Gr.trans (by repeat (first | (with_reducible exact Gr.refl _) | with_reducible refine Gr.alloc ?_ _ | with_reducible refine Gr.more ?_ _ _ | with_reducible refine Gr.setCell ?_ (by dsimp only; (try simp only [World.size_more, World.size_alloc, World.size_setCell, World.size_drew, Array.size_append]); omega) _ | with_reducible refine Gr.drew ?_)) g1
  clear g1
  go_upto_region 2 with fail
  refine halves_r2 h3 ?_
  intro _ _  W2 g2 n3
  replace h2 := h2.caught g2 (by omega) (by omega)
  replace h3 := n3
  clear n3
  replace hG := Gr.caught hG g2 (by omega)
  clear g2
  obtain ⟨p2, pc2, q2, qc2, x2, s2⟩ := h2
  have c2_0 := x2.get 0 _ rfl
  have c2_1 := x2.get 1 _ rfl
  have l2 := x2.lt
  have l3 := h3.lt
  have c3_0 := h3.get 0 _ rfl
  have c3_1 := h3.get 1 _ rfl
  have c3_2 := h3.get 2 _ rfl
  have c3_3 := h3.get 3 _ rfl
  go_wp2_with first | (go_at_call 21; (refine (HC _ _ _ _ _ (s2.at.up (Gr.below (by repeat (first | (with_reducible exact Gr.refl _) | with_reducible refine Gr.alloc ?_ _ | with_reducible refine Gr.more ?_ _ _ | with_reducible refine Gr.setCell ?_ (by dsimp only; (try simp only [World.size_more, World.size_alloc, World.size_setCell, World.size_drew, Array.size_append]); omega) _ | with_reducible refine Gr.drew ?_))))).mono ?_); rintro e w1 ⟨rfl, hb⟩; obtain ⟨os, n, rfl⟩ := Below.moreE hb; clear hb) | (go_at_call 45; (refine (HR _).mono ?_); rintro e w1 ⟨rfl, hb⟩; obtain ⟨os, n, rfl⟩ := Below.moreE hb; clear hb)
  refine bodyPost_ret (v := .bool true) (by simp [results, Try.results10, go_sem]) rfl ⟨rfl, Gr.below (by repeat (first | (with_reducible exact hG) | with_reducible refine Gr.alloc ?_ _ | with_reducible refine Gr.more ?_ _ _ | with_reducible refine Gr.setCell ?_ (by dsimp only; (try simp only [World.size_more, World.size_alloc, World.size_setCell, World.size_drew, Array.size_append]); omega) _ | with_reducible refine Gr.drew ?_))⟩

set_option maxRecDepth 100000 in
set_option maxHeartbeats 16000000 in
theorem halves_e3 (w : World) (P : List Int) (p : Option Addr) (pc : Nat) (B : List UInt8) (q : Option Addr) (qc : Nat) (hS : SpIn 0 w.heap.size w P p B q qc) (a : Int) (g : Bool) (v : Int) (HC : CCheck P B 0) (HR : ∀ w, Calls Try.prog 45 #[tyV 1 false] w fun e w' => e = .returned (.int .i64 0) ∧ Below w.heap.size w w') : Calls Try.prog 10 #[spV p P.length pc q B.length qc, .agg #[.int .i64 a, .int .i64 1, .bool g, .int .i64 v]] w fun e w' => e = .returned (.bool true) ∧ Below w.heap.size w w' := by
  go_enter Try.func10, Try.ntmps10
  go_upto_region 1 with fail
  refine halves_r1 msane_any ?_
  intro _ W1 g1
  have h2 : SpBx 0 W1 (w.heap.size) P B := SpBx.up g1 ⟨p, pc, q, qc, Bx.mk2 (by go_simp) (by go_simp) (by go_simp) (by go_simp), (hS.up (by repeat (first | (with_reducible exact Gr.refl _) | with_reducible refine Gr.alloc ?_ _ | with_reducible refine Gr.more ?_ _ _ | with_reducible refine Gr.setCell ?_ (by dsimp only; (try simp only [World.size_more, World.size_alloc, World.size_setCell, World.size_drew, Array.size_append]); omega) _ | with_reducible refine Gr.drew ?_))).mono (by (try simp only [World.size_more, World.size_alloc, World.size_setCell, World.size_drew, Array.size_append]); omega) (by (try simp only [World.size_more, World.size_alloc, World.size_setCell, World.size_drew, Array.size_append]); omega)⟩
  have h3 : Bx W1 (w.heap.size + 1) [.int .i64 a, .int .i64 1, .bool g, .int .i64 v] := Bx.up g1 (Bx.mk4 (by go_simp) (by go_simp) (by go_simp) (by go_simp) (by go_simp) (by go_simp) (by go_simp) (by go_simp))
  have hG : Gr w.heap.size w W1 := Gr.trans (by repeat (first | (with_reducible exact Gr.refl _) | with_reducible refine Gr.alloc ?_ _ | with_reducible refine Gr.more ?_ _ _ | with_reducible refine Gr.setCell ?_ (by dsimp only; (try simp only [World.size_more, World.size_alloc, World.size_setCell, World.size_drew, Array.size_append]); omega) _ | with_reducible refine Gr.drew ?_)) g1
  clear g1
  go_upto_region 2 with fail
  refine halves_r2 h3 ?_
  intro _ _  W2 g2 n3
  replace h2 := h2.caught g2 (by omega) (by omega)
  replace h3 := n3
  clear n3
  replace hG := Gr.caught hG g2 (by omega)
  clear g2
  obtain ⟨p2, pc2, q2, qc2, x2, s2⟩ := h2
  have c2_0 := x2.get 0 _ rfl
  have c2_1 := x2.get 1 _ rfl
  have l2 := x2.lt
  have l3 := h3.lt
  have c3_0 := h3.get 0 _ rfl
  have c3_1 := h3.get 1 _ rfl
  have c3_2 := h3.get 2 _ rfl
  have c3_3 := h3.get 3 _ rfl
  go_wp2_with first | (go_at_call 21; (refine (HC _ _ _ _ _ (s2.at.up (Gr.below (by repeat (first | (with_reducible exact Gr.refl _) | with_reducible refine Gr.alloc ?_ _ | with_reducible refine Gr.more ?_ _ _ | with_reducible refine Gr.setCell ?_ (by dsimp only; (try simp only [World.size_more, World.size_alloc, World.size_setCell, World.size_drew, Array.size_append]); omega) _ | with_reducible refine Gr.drew ?_))))).mono ?_); rintro e w1 ⟨rfl, hb⟩; obtain ⟨os, n, rfl⟩ := Below.moreE hb; clear hb) | (go_at_call 45; (refine (HR _).mono ?_); rintro e w1 ⟨rfl, hb⟩; obtain ⟨os, n, rfl⟩ := Below.moreE hb; clear hb)
  refine bodyPost_ret (v := .bool true) (by simp [results, Try.results10, go_sem]) rfl ⟨rfl, Gr.below (by repeat (first | (with_reducible exact hG) | with_reducible refine Gr.alloc ?_ _ | with_reducible refine Gr.more ?_ _ _ | with_reducible refine Gr.setCell ?_ (by dsimp only; (try simp only [World.size_more, World.size_alloc, World.size_setCell, World.size_drew, Array.size_append]); omega) _ | with_reducible refine Gr.drew ?_))⟩

set_option maxRecDepth 100000 in
set_option maxHeartbeats 16000000 in
theorem halves_2_oo (w : World) (P : List Int) (p : Option Addr) (pc : Nat) (B : List UInt8) (q : Option Addr) (qc : Nat) (hS : SpIn 0 w.heap.size w P p B q qc) (a : Int) (g : Bool) (v : Int) {P1 P2 P3 : List Int} {B1 B2 B3 : List UInt8} (HC : CCheck P B 0) (HR : ∀ w, Calls Try.prog 45 #[tyV 2 false] w fun e w' => e = .returned (.int .i64 0) ∧ Below w.heap.size w w') (nx V1 V2 V3 : Int) (hn : wrap64 (a + 1) = nx) (L1 : CLoad P B a 2 false V1 0 0 0) (L2 : CLoad P B a 1 false V2 0 0 0) (L3 : CLoad P B nx 1 false V3 0 0 0) (hv : (V1 != wrap64 (V2 + wrap64 (V3 * 256))) = false) (S1 : CStore P B a 2 false v P1 B1 0 0 0) (S2 : CStore P B a 1 false v P2 B2 0 0 0) (S3 : CStore P2 B2 nx 1 false (v / 256) P3 B3 0 0 0) (HS : CSame P1 B1 P3 B3 true) : Calls Try.prog 10 #[spV p P.length pc q B.length qc, .agg #[.int .i64 a, .int .i64 2, .bool g, .int .i64 v]] w fun e w' => e = .returned (.bool true) ∧ Below w.heap.size w w' := by
  go_enter Try.func10, Try.ntmps10
  go_upto_region 1 with fail
  refine halves_r1 msane_any ?_
  intro _ W1 g1
  have h2 : SpBx 0 W1 (w.heap.size) P B := SpBx.up g1 ⟨p, pc, q, qc, Bx.mk2 (by go_simp) (by go_simp) (by go_simp) (by go_simp), (hS.up (by repeat (first | (with_reducible exact Gr.refl _) | with_reducible refine Gr.alloc ?_ _ | with_reducible refine Gr.more ?_ _ _ | with_reducible refine Gr.setCell ?_ (by dsimp only; (try simp only [World.size_more, World.size_alloc, World.size_setCell, World.size_drew, Array.size_append]); omega) _ | with_reducible refine Gr.drew ?_))).mono (by (try simp only [World.size_more, World.size_alloc, World.size_setCell, World.size_drew, Array.size_append]); omega) (by (try simp only [World.size_more, World.size_alloc, World.size_setCell, World.size_drew, Array.size_append]); omega)⟩
  have h3 : Bx W1 (w.heap.size + 1) [.int .i64 a, .int .i64 2, .bool g, .int .i64 v] := Bx.up g1 (Bx.mk4 (by go_simp) (by go_simp) (by go_simp) (by go_simp) (by go_simp) (by go_simp) (by go_simp) (by go_simp))
  have hG : Gr w.heap.size w W1 := Gr.trans (by repeat (first | (with_reducible exact Gr.refl _) | with_reducible refine Gr.alloc ?_ _ | with_reducible refine Gr.more ?_ _ _ | with_reducible refine Gr.setCell ?_ (by dsimp only; (try simp only [World.size_more, World.size_alloc, World.size_setCell, World.size_drew, Array.size_append]); omega) _ | with_reducible refine Gr.drew ?_)) g1
  clear g1
  go_upto_region 2 with fail
  refine halves_r2 h3 ?_
  intro _ _  W2 g2 n3
  replace h2 := h2.caught g2 (by omega) (by omega)
  replace h3 := n3
  clear n3
  replace hG := Gr.caught hG g2 (by omega)
  clear g2
  go_upto_region 3 with fail
  refine halves_r3 h2 h3 HC HR rfl ?_
  intro _ _ _ _ _ _ _ _ _ _ _ _ _ _ _ _ _ _  W3 g3
  replace h2 := SpBx.up g3 h2
  replace h3 := Bx.up g3 h3
  replace hG := Gr.trans hG g3
  clear g3
  go_upto_region 5 with fail
  refine halves_r5_2 h3 ?_
  intro _ _ _ _ _ b6 W4 g4 ge6 n6
  replace h2 := SpBx.up g4 h2
  replace h3 := Bx.up g4 h3
  have h6 := n6
  clear n6
  replace hG := Gr.trans hG g4
  clear g4
  go_upto_region 6 with fail
  refine halves_r6_2 h3 h6 hn ?_
  intro _ _ _ _ _  W5 g5
  replace h2 := SpBx.up g5 h2
  replace h3 := Bx.up g5 h3
  replace h6 := Bx.up g5 h6
  replace hG := Gr.trans hG g5
  clear g5
  go_upto_region 7 with fail
  refine halves_r7 h2 h3 L1 ?_
  intro _ _ _ _ _ _ _ _ _ _ b9 W6 g6 ge9 n9
  replace h2 := SpBx.up g6 h2
  replace h3 := Bx.up g6 h3
  replace h6 := Bx.up g6 h6
  have h9 := n9
  clear n9
  replace hG := Gr.trans hG g6
  clear g6
  go_upto_region 8 with fail
  refine halves_r8 h2 h3 h6 L2 ?_
  intro _ _ _ _ _ _ _ _ _ b12 W7 g7 ge12 n12
  replace h2 := SpBx.up g7 h2
  replace h3 := Bx.up g7 h3
  replace h6 := Bx.up g7 h6
  replace h9 := Bx.up g7 h9
  have h12 := n12
  clear n12
  replace hG := Gr.trans hG g7
  clear g7
  go_upto_region 9 with fail
  refine halves_r9 h2 h6 L3 ?_
  intro _ _ _ _ _ _ _ _ b15 W8 g8 ge15 n15
  replace h2 := SpBx.up g8 h2
  replace h3 := Bx.up g8 h3
  replace h6 := Bx.up g8 h6
  replace h9 := Bx.up g8 h9
  replace h12 := Bx.up g8 h12
  have h15 := n15
  clear n15
  replace hG := Gr.trans hG g8
  clear g8
  have c9_0 := h9.get 0 _ rfl
  have c9_1 := h9.get 1 _ rfl
  have c12_0 := h12.get 0 _ rfl
  have c12_1 := h12.get 1 _ rfl
  have c15_0 := h15.get 0 _ rfl
  have c15_1 := h15.get 1 _ rfl
  go_upto_region 12 with fail
  clear c9_0 c9_1
  clear c12_0 c12_1
  clear c15_0 c15_1
  go_upto_region 12 with fail
  refine halves_r12_2 h6 h9 hv ?_
  intro _ _ _ _ _ _ _ _ _ _ _ _ _  W9 g9
  replace h2 := SpBx.up g9 h2
  replace h3 := Bx.up g9 h3
  replace h6 := Bx.up g9 h6
  replace h9 := Bx.up g9 h9
  replace h12 := Bx.up g9 h12
  replace h15 := Bx.up g9 h15
  replace hG := Gr.trans hG g9
  clear g9
  go_upto_region 14 with fail
  go_upto_region 14 with fail
  refine halves_r14 h2 h3 S1 ?_
  intro _ _ _ _ _ _ _ _ _ _ _ _ b17 b18 W10 g10 ge17 n17 ge18 lt18 n18
  replace h2 := SpBx.up g10 h2
  replace h3 := Bx.up g10 h3
  replace h6 := Bx.up g10 h6
  replace h9 := Bx.up g10 h9
  replace h12 := Bx.up g10 h12
  replace h15 := Bx.up g10 h15
  have h17 := n17
  clear n17
  have h18 := n18
  clear n18
  replace hG := Gr.trans hG g10
  clear g10
  have c18_0 := h18.get 0 _ rfl
  have c18_1 := h18.get 1 _ rfl
  go_upto_region 17 with fail
  clear c18_0 c18_1
  go_upto_region 17 with fail
  refine halves_r17 h2 h3 h6 S2 ?_
  intro _ _ _ _ _ _ _ _ _ _ _ b20 b21 W11 g11 ge20 n20 ge21 lt21 n21
  replace h2 := SpBx.up g11 h2
  replace h3 := Bx.up g11 h3
  replace h6 := Bx.up g11 h6
  replace h9 := Bx.up g11 h9
  replace h12 := Bx.up g11 h12
  replace h15 := Bx.up g11 h15
  replace h17 := SpBx.up g11 h17
  replace h18 := Bx.up g11 h18
  have h20 := n20
  clear n20
  have h21 := n21
  clear n21
  replace hG := Gr.trans hG g11
  clear g11
  go_upto_region 18 with fail
  refine halves_r18_2 h20 h6 h3 rfl S3 ?_
  intro _ _ _ _ _ _ _ _ _ _ _ _ _ _ b23 b24 W12 g12 ge23 n23 ge24 n24
  replace h2 := SpBx.up g12 h2
  replace h3 := Bx.up g12 h3
  replace h6 := Bx.up g12 h6
  replace h9 := Bx.up g12 h9
  replace h12 := Bx.up g12 h12
  replace h15 := Bx.up g12 h15
  replace h17 := SpBx.up g12 h17
  replace h18 := Bx.up g12 h18
  replace h20 := SpBx.up g12 h20
  replace h21 := Bx.up g12 h21
  have h23 := n23
  clear n23
  have h24 := n24
  clear n24
  replace hG := Gr.trans hG g12
  clear g12
  have c21_0 := h21.get 0 _ rfl
  have c21_1 := h21.get 1 _ rfl
  have c24_0 := h24.get 0 _ rfl
  have c24_1 := h24.get 1 _ rfl
  obtain ⟨p17, pc17, q17, qc17, x17, s17⟩ := h17
  have c17_0 := x17.get 0 _ rfl
  have c17_1 := x17.get 1 _ rfl
  obtain ⟨p23, pc23, q23, qc23, x23, s23⟩ := h23
  have c23_0 := x23.get 0 _ rfl
  have c23_1 := x23.get 1 _ rfl
  go_wp2_with (go_at_call 24; (refine (HS _ _ _ _ _ _ _ _ _ (s17.at.up (Gr.below (by repeat (first | (with_reducible exact Gr.refl _) | with_reducible refine Gr.alloc ?_ _ | with_reducible refine Gr.more ?_ _ _ | with_reducible refine Gr.setCell ?_ (by dsimp only; (try simp only [World.size_more, World.size_alloc, World.size_setCell, World.size_drew, Array.size_append]); omega) _ | with_reducible refine Gr.drew ?_)))) (s23.up (Gr.below (by repeat (first | (with_reducible exact Gr.refl _) | with_reducible refine Gr.alloc ?_ _ | with_reducible refine Gr.more ?_ _ _ | with_reducible refine Gr.setCell ?_ (by dsimp only; (try simp only [World.size_more, World.size_alloc, World.size_setCell, World.size_drew, Array.size_append]); omega) _ | with_reducible refine Gr.drew ?_))))).mono ?_); rintro e w1 ⟨rfl, hb⟩; obtain ⟨os, n, rfl⟩ := Below.moreE hb; clear hb)
  refine bodyPost_ret (v := .bool true) (by simp [results, Try.results10, go_sem]) rfl ⟨rfl, Gr.below (by repeat (first | (with_reducible exact hG) | with_reducible refine Gr.alloc ?_ _ | with_reducible refine Gr.more ?_ _ _ | with_reducible refine Gr.setCell ?_ (by dsimp only; (try simp only [World.size_more, World.size_alloc, World.size_setCell, World.size_drew, Array.size_append]); omega) _ | with_reducible refine Gr.drew ?_))⟩

set_option maxRecDepth 100000 in
set_option maxHeartbeats 16000000 in
theorem halves_2_of (w : World) (P : List Int) (p : Option Addr) (pc : Nat) (B : List UInt8) (q : Option Addr) (qc : Nat) (hS : SpIn 0 w.heap.size w P p B q qc) (a : Int) (g : Bool) (v : Int) {P1 : List Int} {B1 : List UInt8} {KS AS : Int} (HC : CCheck P B 0) (HR : ∀ w, Calls Try.prog 45 #[tyV 2 false] w fun e w' => e = .returned (.int .i64 0) ∧ Below w.heap.size w w') (nx V1 V2 V3 : Int) (hn : wrap64 (a + 1) = nx) (L1 : CLoad P B a 2 false V1 0 0 0) (L2 : CLoad P B a 1 false V2 0 0 0) (L3 : CLoad P B nx 1 false V3 0 0 0) (hv : (V1 != wrap64 (V2 + wrap64 (V3 * 256))) = false) (S1 : CStore P B a 2 false v P1 B1 KS AS 0) (hks : (KS != 0) = true) : Calls Try.prog 10 #[spV p P.length pc q B.length qc, .agg #[.int .i64 a, .int .i64 2, .bool g, .int .i64 v]] w fun e w' => e = .returned (.bool true) ∧ Below w.heap.size w w' := by
  go_enter Try.func10, Try.ntmps10
  go_upto_region 1 with fail
  refine halves_r1 msane_any ?_
  intro _ W1 g1
  have h2 : SpBx 0 W1 (w.heap.size) P B := SpBx.up g1 ⟨p, pc, q, qc, Bx.mk2 (by go_simp) (by go_simp) (by go_simp) (by go_simp), (hS.up (by repeat (first | (with_reducible exact Gr.refl _) | with_reducible refine Gr.alloc ?_ _ | with_reducible refine Gr.more ?_ _ _ | with_reducible refine Gr.setCell ?_ (by dsimp only; (try simp only [World.size_more, World.size_alloc, World.size_setCell, World.size_drew, Array.size_append]); omega) _ | with_reducible refine Gr.drew ?_))).mono (by (try simp only [World.size_more, World.size_alloc, World.size_setCell, World.size_drew, Array.size_append]); omega) (by (try simp only [World.size_more, World.size_alloc, World.size_setCell, World.size_drew, Array.size_append]); omega)⟩
  have h3 : Bx W1 (w.heap.size + 1) [.int .i64 a, .int .i64 2, .bool g, .int .i64 v] := Bx.up g1 (Bx.mk4 (by go_simp) (by go_simp) (by go_simp) (by go_simp) (by go_simp) (by go_simp) (by go_simp) (by go_simp))
  have hG : Gr w.heap.size w W1 := Gr.trans (by repeat (first | (with_reducible exact Gr.refl _) | with_reducible refine Gr.alloc ?_ _ | with_reducible refine Gr.more ?_ _ _ | with_reducible refine Gr.setCell ?_ (by dsimp only; (try simp only [World.size_more, World.size_alloc, World.size_setCell, World.size_drew, Array.size_append]); omega) _ | with_reducible refine Gr.drew ?_)) g1
  clear g1
  go_upto_region 2 with fail
  refine halves_r2 h3 ?_
  intro _ _  W2 g2 n3
  replace h2 := h2.caught g2 (by omega) (by omega)
  replace h3 := n3
  clear n3
  replace hG := Gr.caught hG g2 (by omega)
  clear g2
  go_upto_region 3 with fail
  refine halves_r3 h2 h3 HC HR rfl ?_
  intro _ _ _ _ _ _ _ _ _ _ _ _ _ _ _ _ _ _  W3 g3
  replace h2 := SpBx.up g3 h2
  replace h3 := Bx.up g3 h3
  replace hG := Gr.trans hG g3
  clear g3
  go_upto_region 5 with fail
  refine halves_r5_2 h3 ?_
  intro _ _ _ _ _ b6 W4 g4 ge6 n6
  replace h2 := SpBx.up g4 h2
  replace h3 := Bx.up g4 h3
  have h6 := n6
  clear n6
  replace hG := Gr.trans hG g4
  clear g4
  go_upto_region 6 with fail
  refine halves_r6_2 h3 h6 hn ?_
  intro _ _ _ _ _  W5 g5
  replace h2 := SpBx.up g5 h2
  replace h3 := Bx.up g5 h3
  replace h6 := Bx.up g5 h6
  replace hG := Gr.trans hG g5
  clear g5
  go_upto_region 7 with fail
  refine halves_r7 h2 h3 L1 ?_
  intro _ _ _ _ _ _ _ _ _ _ b9 W6 g6 ge9 n9
  replace h2 := SpBx.up g6 h2
  replace h3 := Bx.up g6 h3
  replace h6 := Bx.up g6 h6
  have h9 := n9
  clear n9
  replace hG := Gr.trans hG g6
  clear g6
  go_upto_region 8 with fail
  refine halves_r8 h2 h3 h6 L2 ?_
  intro _ _ _ _ _ _ _ _ _ b12 W7 g7 ge12 n12
  replace h2 := SpBx.up g7 h2
  replace h3 := Bx.up g7 h3
  replace h6 := Bx.up g7 h6
  replace h9 := Bx.up g7 h9
  have h12 := n12
  clear n12
  replace hG := Gr.trans hG g7
  clear g7
  go_upto_region 9 with fail
  refine halves_r9 h2 h6 L3 ?_
  intro _ _ _ _ _ _ _ _ b15 W8 g8 ge15 n15
  replace h2 := SpBx.up g8 h2
  replace h3 := Bx.up g8 h3
  replace h6 := Bx.up g8 h6
  replace h9 := Bx.up g8 h9
  replace h12 := Bx.up g8 h12
  have h15 := n15
  clear n15
  replace hG := Gr.trans hG g8
  clear g8
  have c9_0 := h9.get 0 _ rfl
  have c9_1 := h9.get 1 _ rfl
  have c12_0 := h12.get 0 _ rfl
  have c12_1 := h12.get 1 _ rfl
  have c15_0 := h15.get 0 _ rfl
  have c15_1 := h15.get 1 _ rfl
  go_upto_region 12 with fail
  clear c9_0 c9_1
  clear c12_0 c12_1
  clear c15_0 c15_1
  go_upto_region 12 with fail
  refine halves_r12_2 h6 h9 hv ?_
  intro _ _ _ _ _ _ _ _ _ _ _ _ _  W9 g9
  replace h2 := SpBx.up g9 h2
  replace h3 := Bx.up g9 h3
  replace h6 := Bx.up g9 h6
  replace h9 := Bx.up g9 h9
  replace h12 := Bx.up g9 h12
  replace h15 := Bx.up g9 h15
  replace hG := Gr.trans hG g9
  clear g9
  go_upto_region 14 with fail
  go_upto_region 14 with fail
  refine halves_r14 h2 h3 S1 ?_
  intro _ _ _ _ _ _ _ _ _ _ _ _ b17 b18 W10 g10 ge17 n17 ge18 lt18 n18
  replace h2 := SpBx.up g10 h2
  replace h3 := Bx.up g10 h3
  replace h6 := Bx.up g10 h6
  replace h9 := Bx.up g10 h9
  replace h12 := Bx.up g10 h12
  replace h15 := Bx.up g10 h15
  have h17 := n17
  clear n17
  have h18 := n18
  clear n18
  replace hG := Gr.trans hG g10
  clear g10
  have c18_0 := h18.get 0 _ rfl
  have c18_1 := h18.get 1 _ rfl
  go_wp2_with fail
  refine bodyPost_ret (v := .bool true) (by simp [results, Try.results10, go_sem]) rfl ⟨rfl, Gr.below (by repeat (first | (with_reducible exact hG) | with_reducible refine Gr.alloc ?_ _ | with_reducible refine Gr.more ?_ _ _ | with_reducible refine Gr.setCell ?_ (by dsimp only; (try simp only [World.size_more, World.size_alloc, World.size_setCell, World.size_drew, Array.size_append]); omega) _ | with_reducible refine Gr.drew ?_))⟩

set_option maxRecDepth 100000 in
set_option maxHeartbeats 16000000 in
theorem halves_2_f2 (w : World) (P : List Int) (p : Option Addr) (pc : Nat) (B : List UInt8) (q : Option Addr) (qc : Nat) (hS : SpIn 0 w.heap.size w P p B q qc) (a : Int) (g : Bool) (v : Int) {P1 : List Int} {B1 : List UInt8} {K1 A1 K2 A2 K3 A3 KS AS : Int} (HC : CCheck P B 0) (HR : ∀ w, Calls Try.prog 45 #[tyV 2 false] w fun e w' => e = .returned (.int .i64 0) ∧ Below w.heap.size w w') (nx V1 V2 V3 : Int) (hn : wrap64 (a + 1) = nx) (L1 : CLoad P B a 2 false V1 K1 A1 0) (L2 : CLoad P B a 1 false V2 K2 A2 0) (L3 : CLoad P B nx 1 false V3 K3 A3 0) (hk1 : (K1 == 0) = false) (hk2 : (K2 == 0) = false) (S1 : CStore P B a 2 false v P1 B1 KS AS 0) (hks : (KS != 0) = true) : Calls Try.prog 10 #[spV p P.length pc q B.length qc, .agg #[.int .i64 a, .int .i64 2, .bool g, .int .i64 v]] w fun e w' => e = .returned (.bool true) ∧ Below w.heap.size w w' := by
  go_enter Try.func10, Try.ntmps10
  go_upto_region 1 with fail
  refine halves_r1 msane_any ?_
  intro _ W1 g1
  have h2 : SpBx 0 W1 (w.heap.size) P B := SpBx.up g1 ⟨p, pc, q, qc, Bx.mk2 (by go_simp) (by go_simp) (by go_simp) (by go_simp), (hS.up (by repeat (first | (with_reducible exact Gr.refl _) | with_reducible refine Gr.alloc ?_ _ | with_reducible refine Gr.more ?_ _ _ | with_reducible refine Gr.setCell ?_ (by dsimp only; (try simp only [World.size_more, World.size_alloc, World.size_setCell, World.size_drew, Array.size_append]); omega) _ | with_reducible refine Gr.drew ?_))).mono (by (try simp only [World.size_more, World.size_alloc, World.size_setCell, World.size_drew, Array.size_append]); omega) (by (try simp only [World.size_more, World.size_alloc, World.size_setCell, World.size_drew, Array.size_append]); omega)⟩
  have h3 : Bx W1 (w.heap.size + 1) [.int .i64 a, .int .i64 2, .bool g, .int .i64 v] := Bx.up g1 (Bx.mk4 (by go_simp) (by go_simp) (by go_simp) (by go_simp) (by go_simp) (by go_simp) (by go_simp) (by go_simp))
  have hG : Gr w.heap.size w W1 := Gr.trans (by repeat (first | (with_reducible exact Gr.refl _) | with_reducible refine Gr.alloc ?_ _ | with_reducible refine Gr.more ?_ _ _ | with_reducible refine Gr.setCell ?_ (by dsimp only; (try simp only [World.size_more, World.size_alloc, World.size_setCell, World.size_drew, Array.size_append]); omega) _ | with_reducible refine Gr.drew ?_)) g1
  clear g1
  go_upto_region 2 with fail
  refine halves_r2 h3 ?_
  intro _ _  W2 g2 n3
  replace h2 := h2.caught g2 (by omega) (by omega)
  replace h3 := n3
  clear n3
  replace hG := Gr.caught hG g2 (by omega)
  clear g2
  go_upto_region 3 with fail
  refine halves_r3 h2 h3 HC HR rfl ?_
  intro _ _ _ _ _ _ _ _ _ _ _ _ _ _ _ _ _ _  W3 g3
  replace h2 := SpBx.up g3 h2
  replace h3 := Bx.up g3 h3
  replace hG := Gr.trans hG g3
  clear g3
  go_upto_region 5 with fail
  refine halves_r5_2 h3 ?_
  intro _ _ _ _ _ b6 W4 g4 ge6 n6
  replace h2 := SpBx.up g4 h2
  replace h3 := Bx.up g4 h3
  have h6 := n6
  clear n6
  replace hG := Gr.trans hG g4
  clear g4
  go_upto_region 6 with fail
  refine halves_r6_2 h3 h6 hn ?_
  intro _ _ _ _ _  W5 g5
  replace h2 := SpBx.up g5 h2
  replace h3 := Bx.up g5 h3
  replace h6 := Bx.up g5 h6
  replace hG := Gr.trans hG g5
  clear g5
  go_upto_region 7 with fail
  refine halves_r7 h2 h3 L1 ?_
  intro _ _ _ _ _ _ _ _ _ _ b9 W6 g6 ge9 n9
  replace h2 := SpBx.up g6 h2
  replace h3 := Bx.up g6 h3
  replace h6 := Bx.up g6 h6
  have h9 := n9
  clear n9
  replace hG := Gr.trans hG g6
  clear g6
  go_upto_region 8 with fail
  refine halves_r8 h2 h3 h6 L2 ?_
  intro _ _ _ _ _ _ _ _ _ b12 W7 g7 ge12 n12
  replace h2 := SpBx.up g7 h2
  replace h3 := Bx.up g7 h3
  replace h6 := Bx.up g7 h6
  replace h9 := Bx.up g7 h9
  have h12 := n12
  clear n12
  replace hG := Gr.trans hG g7
  clear g7
  go_upto_region 9 with fail
  refine halves_r9 h2 h6 L3 ?_
  intro _ _ _ _ _ _ _ _ b15 W8 g8 ge15 n15
  replace h2 := SpBx.up g8 h2
  replace h3 := Bx.up g8 h3
  replace h6 := Bx.up g8 h6
  replace h9 := Bx.up g8 h9
  replace h12 := Bx.up g8 h12
  have h15 := n15
  clear n15
  replace hG := Gr.trans hG g8
  clear g8
  have c9_0 := h9.get 0 _ rfl
  have c9_1 := h9.get 1 _ rfl
  have c12_0 := h12.get 0 _ rfl
  have c12_1 := h12.get 1 _ rfl
  have c15_0 := h15.get 0 _ rfl
  have c15_1 := h15.get 1 _ rfl
  go_upto_region 14 with fail
  clear c9_0 c9_1
  clear c12_0 c12_1
  clear c15_0 c15_1
  go_upto_region 14 with fail
  refine halves_r14 h2 h3 S1 ?_
  intro _ _ _ _ _ _ _ _ _ _ _ _ b17 b18 W9 g9 ge17 n17 ge18 lt18 n18
  replace h2 := SpBx.up g9 h2
  replace h3 := Bx.up g9 h3
  replace h6 := Bx.up g9 h6
  replace h9 := Bx.up g9 h9
  replace h12 := Bx.up g9 h12
  replace h15 := Bx.up g9 h15
  have h17 := n17
  clear n17
  have h18 := n18
  clear n18
  replace hG := Gr.trans hG g9
  clear g9
  have c18_0 := h18.get 0 _ rfl
  have c18_1 := h18.get 1 _ rfl
  go_wp2_with fail
  refine bodyPost_ret (v := .bool true) (by simp [results, Try.results10, go_sem]) rfl ⟨rfl, Gr.below (by repeat (first | (with_reducible exact hG) | with_reducible refine Gr.alloc ?_ _ | with_reducible refine Gr.more ?_ _ _ | with_reducible refine Gr.setCell ?_ (by dsimp only; (try simp only [World.size_more, World.size_alloc, World.size_setCell, World.size_drew, Array.size_append]); omega) _ | with_reducible refine Gr.drew ?_))⟩

set_option maxRecDepth 100000 in
set_option maxHeartbeats 16000000 in
theorem halves_2_f3 (w : World) (P : List Int) (p : Option Addr) (pc : Nat) (B : List UInt8) (q : Option Addr) (qc : Nat) (hS : SpIn 0 w.heap.size w P p B q qc) (a : Int) (g : Bool) (v : Int) {P1 : List Int} {B1 : List UInt8} {K1 A1 K3 A3 KS AS : Int} (HC : CCheck P B 0) (HR : ∀ w, Calls Try.prog 45 #[tyV 2 false] w fun e w' => e = .returned (.int .i64 0) ∧ Below w.heap.size w w') (nx V1 V2 V3 : Int) (hn : wrap64 (a + 1) = nx) (L1 : CLoad P B a 2 false V1 K1 A1 0) (L2 : CLoad P B a 1 false V2 0 0 0) (L3 : CLoad P B nx 1 false V3 K3 A3 0) (hk1 : (K1 == 0) = false) (hk3 : (K3 == 0) = false) (S1 : CStore P B a 2 false v P1 B1 KS AS 0) (hks : (KS != 0) = true) : Calls Try.prog 10 #[spV p P.length pc q B.length qc, .agg #[.int .i64 a, .int .i64 2, .bool g, .int .i64 v]] w fun e w' => e = .returned (.bool true) ∧ Below w.heap.size w w' := by
  go_enter Try.func10, Try.ntmps10
  go_upto_region 1 with fail
  refine halves_r1 msane_any ?_
  intro _ W1 g1
  have h2 : SpBx 0 W1 (w.heap.size) P B := SpBx.up g1 ⟨p, pc, q, qc, Bx.mk2 (by go_simp) (by go_simp) (by go_simp) (by go_simp), (hS.up (by repeat (first | (with_reducible exact Gr.refl _) | with_reducible refine Gr.alloc ?_ _ | with_reducible refine Gr.more ?_ _ _ | with_reducible refine Gr.setCell ?_ (by dsimp only; (try simp only [World.size_more, World.size_alloc, World.size_setCell, World.size_drew, Array.size_append]); omega) _ | with_reducible refine Gr.drew ?_))).mono (by (try simp only [World.size_more, World.size_alloc, World.size_setCell, World.size_drew, Array.size_append]); omega) (by (try simp only [World.size_more, World.size_alloc, World.size_setCell, World.size_drew, Array.size_append]); omega)⟩
  have h3 : Bx W1 (w.heap.size + 1) [.int .i64 a, .int .i64 2, .bool g, .int .i64 v] := Bx.up g1 (Bx.mk4 (by go_simp) (by go_simp) (by go_simp) (by go_simp) (by go_simp) (by go_simp) (by go_simp) (by go_simp))
  have hG : Gr w.heap.size w W1 := Gr.trans (by repeat (first | (with_reducible exact Gr.refl _) | with_reducible refine Gr.alloc ?_ _ | with_reducible refine Gr.more ?_ _ _ | with_reducible refine Gr.setCell ?_ (by dsimp only; (try simp only [World.size_more, World.size_alloc, World.size_setCell, World.size_drew, Array.size_append]); omega) _ | with_reducible refine Gr.drew ?_)) g1
  clear g1
  go_upto_region 2 with fail
  refine halves_r2 h3 ?_
  intro _ _  W2 g2 n3
  replace h2 := h2.caught g2 (by omega) (by omega)
  replace h3 := n3
  clear n3
  replace hG := Gr.caught hG g2 (by omega)
  clear g2
  go_upto_region 3 with fail
  refine halves_r3 h2 h3 HC HR rfl ?_
  intro _ _ _ _ _ _ _ _ _ _ _ _ _ _ _ _ _ _  W3 g3
  replace h2 := SpBx.up g3 h2
  replace h3 := Bx.up g3 h3
  replace hG := Gr.trans hG g3
  clear g3
  go_upto_region 5 with fail
  refine halves_r5_2 h3 ?_
  intro _ _ _ _ _ b6 W4 g4 ge6 n6
  replace h2 := SpBx.up g4 h2
  replace h3 := Bx.up g4 h3
  have h6 := n6
  clear n6
  replace hG := Gr.trans hG g4
  clear g4
  go_upto_region 6 with fail
  refine halves_r6_2 h3 h6 hn ?_
  intro _ _ _ _ _  W5 g5
  replace h2 := SpBx.up g5 h2
  replace h3 := Bx.up g5 h3
  replace h6 := Bx.up g5 h6
  replace hG := Gr.trans hG g5
  clear g5
  go_upto_region 7 with fail
  refine halves_r7 h2 h3 L1 ?_
  intro _ _ _ _ _ _ _ _ _ _ b9 W6 g6 ge9 n9
  replace h2 := SpBx.up g6 h2
  replace h3 := Bx.up g6 h3
  replace h6 := Bx.up g6 h6
  have h9 := n9
  clear n9
  replace hG := Gr.trans hG g6
  clear g6
  go_upto_region 8 with fail
  refine halves_r8 h2 h3 h6 L2 ?_
  intro _ _ _ _ _ _ _ _ _ b12 W7 g7 ge12 n12
  replace h2 := SpBx.up g7 h2
  replace h3 := Bx.up g7 h3
  replace h6 := Bx.up g7 h6
  replace h9 := Bx.up g7 h9
  have h12 := n12
  clear n12
  replace hG := Gr.trans hG g7
  clear g7
  go_upto_region 9 with fail
  refine halves_r9 h2 h6 L3 ?_
  intro _ _ _ _ _ _ _ _ b15 W8 g8 ge15 n15
  replace h2 := SpBx.up g8 h2
  replace h3 := Bx.up g8 h3
  replace h6 := Bx.up g8 h6
  replace h9 := Bx.up g8 h9
  replace h12 := Bx.up g8 h12
  have h15 := n15
  clear n15
  replace hG := Gr.trans hG g8
  clear g8
  have c9_0 := h9.get 0 _ rfl
  have c9_1 := h9.get 1 _ rfl
  have c12_0 := h12.get 0 _ rfl
  have c12_1 := h12.get 1 _ rfl
  have c15_0 := h15.get 0 _ rfl
  have c15_1 := h15.get 1 _ rfl
  go_upto_region 14 with fail
  clear c9_0 c9_1
  clear c12_0 c12_1
  clear c15_0 c15_1
  go_upto_region 14 with fail
  refine halves_r14 h2 h3 S1 ?_
  intro _ _ _ _ _ _ _ _ _ _ _ _ b17 b18 W9 g9 ge17 n17 ge18 lt18 n18
  replace h2 := SpBx.up g9 h2
  replace h3 := Bx.up g9 h3
  replace h6 := Bx.up g9 h6
  replace h9 := Bx.up g9 h9
  replace h12 := Bx.up g9 h12
  replace h15 := Bx.up g9 h15
  have h17 := n17
  clear n17
  have h18 := n18
  clear n18
  replace hG := Gr.trans hG g9
  clear g9
  have c18_0 := h18.get 0 _ rfl
  have c18_1 := h18.get 1 _ rfl
  go_wp2_with fail
  refine bodyPost_ret (v := .bool true) (by simp [results, Try.results10, go_sem]) rfl ⟨rfl, Gr.below (by repeat (first | (with_reducible exact hG) | with_reducible refine Gr.alloc ?_ _ | with_reducible refine Gr.more ?_ _ _ | with_reducible refine Gr.setCell ?_ (by dsimp only; (try simp only [World.size_more, World.size_alloc, World.size_setCell, World.size_drew, Array.size_append]); omega) _ | with_reducible refine Gr.drew ?_))⟩

set_option maxRecDepth 100000 in
set_option maxHeartbeats 16000000 in
theorem halves_4_oo (w : World) (P : List Int) (p : Option Addr) (pc : Nat) (B : List UInt8) (q : Option Addr) (qc : Nat) (hS : SpIn 0 w.heap.size w P p B q qc) (a : Int) (g : Bool) (v : Int) {P1 P2 P3 : List Int} {B1 B2 B3 : List UInt8} (HC : CCheck P B 0) (HR : ∀ w, Calls Try.prog 45 #[tyV 4 false] w fun e w' => e = .returned (.int .i64 0) ∧ Below w.heap.size w w') (nx V1 V2 V3 : Int) (hn : wrap64 (a + 2) = nx) (L1 : CLoad P B a 4 false V1 0 0 0) (L2 : CLoad P B a 2 false V2 0 0 0) (L3 : CLoad P B nx 2 false V3 0 0 0) (hv : (V1 != wrap64 (V2 + wrap64 (V3 * 65536))) = false) (S1 : CStore P B a 4 false v P1 B1 0 0 0) (S2 : CStore P B a 2 false v P2 B2 0 0 0) (S3 : CStore P2 B2 nx 2 false (v / 65536) P3 B3 0 0 0) (HS : CSame P1 B1 P3 B3 true) : Calls Try.prog 10 #[spV p P.length pc q B.length qc, .agg #[.int .i64 a, .int .i64 4, .bool g, .int .i64 v]] w fun e w' => e = .returned (.bool true) ∧ Below w.heap.size w w' := by
  go_enter Try.func10, Try.ntmps10
  go_upto_region 1 with fail
  refine halves_r1 msane_any ?_
  intro _ W1 g1
  have h2 : SpBx 0 W1 (w.heap.size) P B := SpBx.up g1 ⟨p, pc, q, qc, Bx.mk2 (by go_simp) (by go_simp) (by go_simp) (by go_simp), (hS.up (by repeat (first | (with_reducible exact Gr.refl _) | with_reducible refine Gr.alloc ?_ _ | with_reducible refine Gr.more ?_ _ _ | with_reducible refine Gr.setCell ?_ (by dsimp only; (try simp only [World.size_more, World.size_alloc, World.size_setCell, World.size_drew, Array.size_append]); omega) _ | with_reducible refine Gr.drew ?_))).mono (by (try simp only [World.size_more, World.size_alloc, World.size_setCell, World.size_drew, Array.size_append]); omega) (by (try simp only [World.size_more, World.size_alloc, World.size_setCell, World.size_drew, Array.size_append]); omega)⟩
  have h3 : Bx W1 (w.heap.size + 1) [.int .i64 a, .int .i64 4, .bool g, .int .i64 v] := Bx.up g1 (Bx.mk4 (by go_simp) (by go_simp) (by go_simp) (by go_simp) (by go_simp) (by go_simp) (by go_simp) (by go_simp))
  have hG : Gr w.heap.size w W1 := Gr.trans (by repeat (first | (with_reducible exact Gr.refl _) | with_reducible refine Gr.alloc ?_ _ | with_reducible refine Gr.more ?_ _ _ | with_reducible refine Gr.setCell ?_ (by dsimp only; (try simp only [World.size_more, World.size_alloc, World.size_setCell, World.size_drew, Array.size_append]); omega) _ | with_reducible refine Gr.drew ?_)) g1
  clear g1
  go_upto_region 2 with fail
  refine halves_r2 h3 ?_
  intro _ _  W2 g2 n3
  replace h2 := h2.caught g2 (by omega) (by omega)
  replace h3 := n3
  clear n3
  replace hG := Gr.caught hG g2 (by omega)
  clear g2
  go_upto_region 3 with fail
  refine halves_r3 h2 h3 HC HR rfl ?_
  intro _ _ _ _ _ _ _ _ _ _ _ _ _ _ _ _ _ _  W3 g3
  replace h2 := SpBx.up g3 h2
  replace h3 := Bx.up g3 h3
  replace hG := Gr.trans hG g3
  clear g3
  go_upto_region 5 with fail
  refine halves_r5_4 h3 ?_
  intro _ _ _ _ _ b6 W4 g4 ge6 n6
  replace h2 := SpBx.up g4 h2
  replace h3 := Bx.up g4 h3
  have h6 := n6
  clear n6
  replace hG := Gr.trans hG g4
  clear g4
  go_upto_region 6 with fail
  refine halves_r6_4 h3 h6 hn ?_
  intro _ _ _ _ _  W5 g5
  replace h2 := SpBx.up g5 h2
  replace h3 := Bx.up g5 h3
  replace h6 := Bx.up g5 h6
  replace hG := Gr.trans hG g5
  clear g5
  go_upto_region 7 with fail
  refine halves_r7 h2 h3 L1 ?_
  intro _ _ _ _ _ _ _ _ _ _ b9 W6 g6 ge9 n9
  replace h2 := SpBx.up g6 h2
  replace h3 := Bx.up g6 h3
  replace h6 := Bx.up g6 h6
  have h9 := n9
  clear n9
  replace hG := Gr.trans hG g6
  clear g6
  go_upto_region 8 with fail
  refine halves_r8 h2 h3 h6 L2 ?_
  intro _ _ _ _ _ _ _ _ _ b12 W7 g7 ge12 n12
  replace h2 := SpBx.up g7 h2
  replace h3 := Bx.up g7 h3
  replace h6 := Bx.up g7 h6
  replace h9 := Bx.up g7 h9
  have h12 := n12
  clear n12
  replace hG := Gr.trans hG g7
  clear g7
  go_upto_region 9 with fail
  refine halves_r9 h2 h6 L3 ?_
  intro _ _ _ _ _ _ _ _ b15 W8 g8 ge15 n15
  replace h2 := SpBx.up g8 h2
  replace h3 := Bx.up g8 h3
  replace h6 := Bx.up g8 h6
  replace h9 := Bx.up g8 h9
  replace h12 := Bx.up g8 h12
  have h15 := n15
  clear n15
  replace hG := Gr.trans hG g8
  clear g8
  have c9_0 := h9.get 0 _ rfl
  have c9_1 := h9.get 1 _ rfl
  have c12_0 := h12.get 0 _ rfl
  have c12_1 := h12.get 1 _ rfl
  have c15_0 := h15.get 0 _ rfl
  have c15_1 := h15.get 1 _ rfl
  go_upto_region 12 with fail
  clear c9_0 c9_1
  clear c12_0 c12_1
  clear c15_0 c15_1
  go_upto_region 12 with fail
  refine halves_r12_4 h6 h9 hv ?_
  intro _ _ _ _ _ _ _ _ _ _ _ _ _  W9 g9
  replace h2 := SpBx.up g9 h2
  replace h3 := Bx.up g9 h3
  replace h6 := Bx.up g9 h6
  replace h9 := Bx.up g9 h9
  replace h12 := Bx.up g9 h12
  replace h15 := Bx.up g9 h15
  replace hG := Gr.trans hG g9
  clear g9
  go_upto_region 14 with fail
  go_upto_region 14 with fail
  refine halves_r14 h2 h3 S1 ?_
  intro _ _ _ _ _ _ _ _ _ _ _ _ b17 b18 W10 g10 ge17 n17 ge18 lt18 n18
  replace h2 := SpBx.up g10 h2
  replace h3 := Bx.up g10 h3
  replace h6 := Bx.up g10 h6
  replace h9 := Bx.up g10 h9
  replace h12 := Bx.up g10 h12
  replace h15 := Bx.up g10 h15
  have h17 := n17
  clear n17
  have h18 := n18
  clear n18
  replace hG := Gr.trans hG g10
  clear g10
  have c18_0 := h18.get 0 _ rfl
  have c18_1 := h18.get 1 _ rfl
  go_upto_region 17 with fail
  clear c18_0 c18_1
  go_upto_region 17 with fail
  refine halves_r17 h2 h3 h6 S2 ?_
  intro _ _ _ _ _ _ _ _ _ _ _ b20 b21 W11 g11 ge20 n20 ge21 lt21 n21
  replace h2 := SpBx.up g11 h2
  replace h3 := Bx.up g11 h3
  replace h6 := Bx.up g11 h6
  replace h9 := Bx.up g11 h9
  replace h12 := Bx.up g11 h12
  replace h15 := Bx.up g11 h15
  replace h17 := SpBx.up g11 h17
  replace h18 := Bx.up g11 h18
  have h20 := n20
  clear n20
  have h21 := n21
  clear n21
  replace hG := Gr.trans hG g11
  clear g11
  go_upto_region 18 with fail
  refine halves_r18_4 h20 h6 h3 rfl S3 ?_
  intro _ _ _ _ _ _ _ _ _ _ _ _ _ _ b23 b24 W12 g12 ge23 n23 ge24 n24
  replace h2 := SpBx.up g12 h2
  replace h3 := Bx.up g12 h3
  replace h6 := Bx.up g12 h6
  replace h9 := Bx.up g12 h9
  replace h12 := Bx.up g12 h12
  replace h15 := Bx.up g12 h15
  replace h17 := SpBx.up g12 h17
  replace h18 := Bx.up g12 h18
  replace h20 := SpBx.up g12 h20
  replace h21 := Bx.up g12 h21
  have h23 := n23
  clear n23
  have h24 := n24
  clear n24
  replace hG := Gr.trans hG g12
  clear g12
  have c21_0 := h21.get 0 _ rfl
  have c21_1 := h21.get 1 _ rfl
  have c24_0 := h24.get 0 _ rfl
  have c24_1 := h24.get 1 _ rfl
  obtain ⟨p17, pc17, q17, qc17, x17, s17⟩ := h17
  have c17_0 := x17.get 0 _ rfl
  have c17_1 := x17.get 1 _ rfl
  obtain ⟨p23, pc23, q23, qc23, x23, s23⟩ := h23
  have c23_0 := x23.get 0 _ rfl
  have c23_1 := x23.get 1 _ rfl
  go_wp2_with (go_at_call 24; (refine (HS _ _ _ _ _ _ _ _ _ (s17.at.up (Gr.below (by repeat (first | (with_reducible exact Gr.refl _) | with_reducible refine Gr.alloc ?_ _ | with_reducible refine Gr.more ?_ _ _ | with_reducible refine Gr.setCell ?_ (by dsimp only; (try simp only [World.size_more, World.size_alloc, World.size_setCell, World.size_drew, Array.size_append]); omega) _ | with_reducible refine Gr.drew ?_)))) (s23.up (Gr.below (by repeat (first | (with_reducible exact Gr.refl _) | with_reducible refine Gr.alloc ?_ _ | with_reducible refine Gr.more ?_ _ _ | with_reducible refine Gr.setCell ?_ (by dsimp only; (try simp only [World.size_more, World.size_alloc, World.size_setCell, World.size_drew, Array.size_append]); omega) _ | with_reducible refine Gr.drew ?_))))).mono ?_); rintro e w1 ⟨rfl, hb⟩; obtain ⟨os, n, rfl⟩ := Below.moreE hb; clear hb)
  refine bodyPost_ret (v := .bool true) (by simp [results, Try.results10, go_sem]) rfl ⟨rfl, Gr.below (by repeat (first | (with_reducible exact hG) | with_reducible refine Gr.alloc ?_ _ | with_reducible refine Gr.more ?_ _ _ | with_reducible refine Gr.setCell ?_ (by dsimp only; (try simp only [World.size_more, World.size_alloc, World.size_setCell, World.size_drew, Array.size_append]); omega) _ | with_reducible refine Gr.drew ?_))⟩

set_option maxRecDepth 100000 in
set_option maxHeartbeats 16000000 in
theorem halves_4_of (w : World) (P : List Int) (p : Option Addr) (pc : Nat) (B : List UInt8) (q : Option Addr) (qc : Nat) (hS : SpIn 0 w.heap.size w P p B q qc) (a : Int) (g : Bool) (v : Int) {P1 : List Int} {B1 : List UInt8} {KS AS : Int} (HC : CCheck P B 0) (HR : ∀ w, Calls Try.prog 45 #[tyV 4 false] w fun e w' => e = .returned (.int .i64 0) ∧ Below w.heap.size w w') (nx V1 V2 V3 : Int) (hn : wrap64 (a + 2) = nx) (L1 : CLoad P B a 4 false V1 0 0 0) (L2 : CLoad P B a 2 false V2 0 0 0) (L3 : CLoad P B nx 2 false V3 0 0 0) (hv : (V1 != wrap64 (V2 + wrap64 (V3 * 65536))) = false) (S1 : CStore P B a 4 false v P1 B1 KS AS 0) (hks : (KS != 0) = true) : Calls Try.prog 10 #[spV p P.length pc q B.length qc, .agg #[.int .i64 a, .int .i64 4, .bool g, .int .i64 v]] w fun e w' => e = .returned (.bool true) ∧ Below w.heap.size w w' := by
  go_enter Try.func10, Try.ntmps10
  go_upto_region 1 with fail
  refine halves_r1 msane_any ?_
  intro _ W1 g1
  have h2 : SpBx 0 W1 (w.heap.size) P B := SpBx.up g1 ⟨p, pc, q, qc, Bx.mk2 (by go_simp) (by go_simp) (by go_simp) (by go_simp), (hS.up (by repeat (first | (with_reducible exact Gr.refl _) | with_reducible refine Gr.alloc ?_ _ | with_reducible refine Gr.more ?_ _ _ | with_reducible refine Gr.setCell ?_ (by dsimp only; (try simp only [World.size_more, World.size_alloc, World.size_setCell, World.size_drew, Array.size_append]); omega) _ | with_reducible refine Gr.drew ?_))).mono (by (try simp only [World.size_more, World.size_alloc, World.size_setCell, World.size_drew, Array.size_append]); omega) (by (try simp only [World.size_more, World.size_alloc, World.size_setCell, World.size_drew, Array.size_append]); omega)⟩
  have h3 : Bx W1 (w.heap.size + 1) [.int .i64 a, .int .i64 4, .bool g, .int .i64 v] := Bx.up g1 (Bx.mk4 (by go_simp) (by go_simp) (by go_simp) (by go_simp) (by go_simp) (by go_simp) (by go_simp) (by go_simp))
  have hG : Gr w.heap.size w W1 := Gr.trans (by repeat (first | (with_reducible exact Gr.refl _) | with_reducible refine Gr.alloc ?_ _ | with_reducible refine Gr.more ?_ _ _ | with_reducible refine Gr.setCell ?_ (by dsimp only; (try simp only [World.size_more, World.size_alloc, World.size_setCell, World.size_drew, Array.size_append]); omega) _ | with_reducible refine Gr.drew ?_)) g1
  clear g1
  go_upto_region 2 with fail
  refine halves_r2 h3 ?_
  intro _ _  W2 g2 n3
  replace h2 := h2.caught g2 (by omega) (by omega)
  replace h3 := n3
  clear n3
  replace hG := Gr.caught hG g2 (by omega)
  clear g2
  go_upto_region 3 with fail
  refine halves_r3 h2 h3 HC HR rfl ?_
  intro _ _ _ _ _ _ _ _ _ _ _ _ _ _ _ _ _ _  W3 g3
  replace h2 := SpBx.up g3 h2
  replace h3 := Bx.up g3 h3
  replace hG := Gr.trans hG g3
  clear g3
  go_upto_region 5 with fail
  refine halves_r5_4 h3 ?_
  intro _ _ _ _ _ b6 W4 g4 ge6 n6
  replace h2 := SpBx.up g4 h2
  replace h3 := Bx.up g4 h3
  have h6 := n6
  clear n6
  replace hG := Gr.trans hG g4
  clear g4
  go_upto_region 6 with fail
  refine halves_r6_4 h3 h6 hn ?_
  intro _ _ _ _ _  W5 g5
  replace h2 := SpBx.up g5 h2
  replace h3 := Bx.up g5 h3
  replace h6 := Bx.up g5 h6
  replace hG := Gr.trans hG g5
  clear g5
  go_upto_region 7 with fail
  refine halves_r7 h2 h3 L1 ?_
  intro _ _ _ _ _ _ _ _ _ _ b9 W6 g6 ge9 n9
  replace h2 := SpBx.up g6 h2
  replace h3 := Bx.up g6 h3
  replace h6 := Bx.up g6 h6
  have h9 := n9
  clear n9
  replace hG := Gr.trans hG g6
  clear g6
  go_upto_region 8 with fail
  refine halves_r8 h2 h3 h6 L2 ?_
  intro _ _ _ _ _ _ _ _ _ b12 W7 g7 ge12 n12
  replace h2 := SpBx.up g7 h2
  replace h3 := Bx.up g7 h3
  replace h6 := Bx.up g7 h6
  replace h9 := Bx.up g7 h9
  have h12 := n12
  clear n12
  replace hG := Gr.trans hG g7
  clear g7
  go_upto_region 9 with fail
  refine halves_r9 h2 h6 L3 ?_
  intro _ _ _ _ _ _ _ _ b15 W8 g8 ge15 n15
  replace h2 := SpBx.up g8 h2
  replace h3 := Bx.up g8 h3
  replace h6 := Bx.up g8 h6
  replace h9 := Bx.up g8 h9
  replace h12 := Bx.up g8 h12
  have h15 := n15
  clear n15
  replace hG := Gr.trans hG g8
  clear g8
  have c9_0 := h9.get 0 _ rfl
  have c9_1 := h9.get 1 _ rfl
  have c12_0 := h12.get 0 _ rfl
  have c12_1 := h12.get 1 _ rfl
  have c15_0 := h15.get 0 _ rfl
  have c15_1 := h15.get 1 _ rfl
  go_upto_region 12 with fail
  clear c9_0 c9_1
  clear c12_0 c12_1
  clear c15_0 c15_1
  go_upto_region 12 with fail
  refine halves_r12_4 h6 h9 hv ?_
  intro _ _ _ _ _ _ _ _ _ _ _ _ _  W9 g9
  replace h2 := SpBx.up g9 h2
  replace h3 := Bx.up g9 h3
  replace h6 := Bx.up g9 h6
  replace h9 := Bx.up g9 h9
  replace h12 := Bx.up g9 h12
  replace h15 := Bx.up g9 h15
  replace hG := Gr.trans hG g9
  clear g9
  go_upto_region 14 with fail
  go_upto_region 14 with fail
  refine halves_r14 h2 h3 S1 ?_
  intro _ _ _ _ _ _ _ _ _ _ _ _ b17 b18 W10 g10 ge17 n17 ge18 lt18 n18
  replace h2 := SpBx.up g10 h2
  replace h3 := Bx.up g10 h3
  replace h6 := Bx.up g10 h6
  replace h9 := Bx.up g10 h9
  replace h12 := Bx.up g10 h12
  replace h15 := Bx.up g10 h15
  have h17 := n17
  clear n17
  have h18 := n18
  clear n18
  replace hG := Gr.trans hG g10
  clear g10
  have c18_0 := h18.get 0 _ rfl
  have c18_1 := h18.get 1 _ rfl
  go_wp2_with fail
  refine bodyPost_ret (v := .bool true) (by simp [results, Try.results10, go_sem]) rfl ⟨rfl, Gr.below (by repeat (first | (with_reducible exact hG) | with_reducible refine Gr.alloc ?_ _ | with_reducible refine Gr.more ?_ _ _ | with_reducible refine Gr.setCell ?_ (by dsimp only; (try simp only [World.size_more, World.size_alloc, World.size_setCell, World.size_drew, Array.size_append]); omega) _ | with_reducible refine Gr.drew ?_))⟩

set_option maxRecDepth 100000 in
set_option maxHeartbeats 16000000 in
theorem halves_4_f2 (w : World) (P : List Int) (p : Option Addr) (pc : Nat) (B : List UInt8) (q : Option Addr) (qc : Nat) (hS : SpIn 0 w.heap.size w P p B q qc) (a : Int) (g : Bool) (v : Int) {P1 : List Int} {B1 : List UInt8} {K1 A1 K2 A2 K3 A3 KS AS : Int} (HC : CCheck P B 0) (HR : ∀ w, Calls Try.prog 45 #[tyV 4 false] w fun e w' => e = .returned (.int .i64 0) ∧ Below w.heap.size w w') (nx V1 V2 V3 : Int) (hn : wrap64 (a + 2) = nx) (L1 : CLoad P B a 4 false V1 K1 A1 0) (L2 : CLoad P B a 2 false V2 K2 A2 0) (L3 : CLoad P B nx 2 false V3 K3 A3 0) (hk1 : (K1 == 0) = false) (hk2 : (K2 == 0) = false) (S1 : CStore P B a 4 false v P1 B1 KS AS 0) (hks : (KS != 0) = true) : Calls Try.prog 10 #[spV p P.length pc q B.length qc, .agg #[.int .i64 a, .int .i64 4, .bool g, .int .i64 v]] w fun e w' => e = .returned (.bool true) ∧ Below w.heap.size w w' := by
  go_enter Try.func10, Try.ntmps10
  go_upto_region 1 with fail
  refine halves_r1 msane_any ?_
  intro _ W1 g1
  have h2 : SpBx 0 W1 (w.heap.size) P B := SpBx.up g1 ⟨p, pc, q, qc, Bx.mk2 (by go_simp) (by go_simp) (by go_simp) (by go_simp), (hS.up (by repeat (first | (with_reducible exact Gr.refl _) | with_reducible refine Gr.alloc ?_ _ | with_reducible refine Gr.more ?_ _ _ | with_reducible refine Gr.setCell ?_ (by dsimp only; (try simp only [World.size_more, World.size_alloc, World.size_setCell, World.size_drew, Array.size_append]); omega) _ | with_reducible refine Gr.drew ?_))).mono (by (try simp only [World.size_more, World.size_alloc, World.size_setCell, World.size_drew, Array.size_append]); omega) (by (try simp only [World.size_more, World.size_alloc, World.size_setCell, World.size_drew, Array.size_append]); omega)⟩
  have h3 : Bx W1 (w.heap.size + 1) [.int .i64 a, .int .i64 4, .bool g, .int .i64 v] := Bx.up g1 (Bx.mk4 (by go_simp) (by go_simp) (by go_simp) (by go_simp) (by go_simp) (by go_simp) (by go_simp) (by go_simp))
  have hG : Gr w.heap.size w W1 := Gr.trans (by repeat (first | (with_reducible exact Gr.refl _) | with_reducible refine Gr.alloc ?_ _ | with_reducible refine Gr.more ?_ _ _ | with_reducible refine Gr.setCell ?_ (by dsimp only; (try simp only [World.size_more, World.size_alloc, World.size_setCell, World.size_drew, Array.size_append]); omega) _ | with_reducible refine Gr.drew ?_)) g1
  clear g1
  go_upto_region 2 with fail
  refine halves_r2 h3 ?_
  intro _ _  W2 g2 n3
  replace h2 := h2.caught g2 (by omega) (by omega)
  replace h3 := n3
  clear n3
  replace hG := Gr.caught hG g2 (by omega)
  clear g2
  go_upto_region 3 with fail
  refine halves_r3 h2 h3 HC HR rfl ?_
  intro _ _ _ _ _ _ _ _ _ _ _ _ _ _ _ _ _ _  W3 g3
  replace h2 := SpBx.up g3 h2
  replace h3 := Bx.up g3 h3
  replace hG := Gr.trans hG g3
  clear g3
  go_upto_region 5 with fail
  refine halves_r5_4 h3 ?_
  intro _ _ _ _ _ b6 W4 g4 ge6 n6
  replace h2 := SpBx.up g4 h2
  replace h3 := Bx.up g4 h3
  have h6 := n6
  clear n6
  replace hG := Gr.trans hG g4
  clear g4
  go_upto_region 6 with fail
  refine halves_r6_4 h3 h6 hn ?_
  intro _ _ _ _ _  W5 g5
  replace h2 := SpBx.up g5 h2
  replace h3 := Bx.up g5 h3
  replace h6 := Bx.up g5 h6
  replace hG := Gr.trans hG g5
  clear g5
  go_upto_region 7 with fail
  refine halves_r7 h2 h3 L1 ?_
  intro _ _ _ _ _ _ _ _ _ _ b9 W6 g6 ge9 n9
  replace h2 := SpBx.up g6 h2
  replace h3 := Bx.up g6 h3
  replace h6 := Bx.up g6 h6
  have h9 := n9
  clear n9
  replace hG := Gr.trans hG g6
  clear g6
  go_upto_region 8 with fail
  refine halves_r8 h2 h3 h6 L2 ?_
  intro _ _ _ _ _ _ _ _ _ b12 W7 g7 ge12 n12
  replace h2 := SpBx.up g7 h2
  replace h3 := Bx.up g7 h3
  replace h6 := Bx.up g7 h6
  replace h9 := Bx.up g7 h9
  have h12 := n12
  clear n12
  replace hG := Gr.trans hG g7
  clear g7
  go_upto_region 9 with fail
  refine halves_r9 h2 h6 L3 ?_
  intro _ _ _ _ _ _ _ _ b15 W8 g8 ge15 n15
  replace h2 := SpBx.up g8 h2
  replace h3 := Bx.up g8 h3
  replace h6 := Bx.up g8 h6
  replace h9 := Bx.up g8 h9
  replace h12 := Bx.up g8 h12
  have h15 := n15
  clear n15
  replace hG := Gr.trans hG g8
  clear g8
  have c9_0 := h9.get 0 _ rfl
  have c9_1 := h9.get 1 _ rfl
  have c12_0 := h12.get 0 _ rfl
  have c12_1 := h12.get 1 _ rfl
  have c15_0 := h15.get 0 _ rfl
  have c15_1 := h15.get 1 _ rfl
  go_upto_region 14 with fail
  clear c9_0 c9_1
  clear c12_0 c12_1
  clear c15_0 c15_1
  go_upto_region 14 with fail
  refine halves_r14 h2 h3 S1 ?_
  intro _ _ _ _ _ _ _ _ _ _ _ _ b17 b18 W9 g9 ge17 n17 ge18 lt18 n18
  replace h2 := SpBx.up g9 h2
  replace h3 := Bx.up g9 h3
  replace h6 := Bx.up g9 h6
  replace h9 := Bx.up g9 h9
  replace h12 := Bx.up g9 h12
  replace h15 := Bx.up g9 h15
  have h17 := n17
  clear n17
  have h18 := n18
  clear n18
  replace hG := Gr.trans hG g9
  clear g9
  have c18_0 := h18.get 0 _ rfl
  have c18_1 := h18.get 1 _ rfl
  go_wp2_with fail
  refine bodyPost_ret (v := .bool true) (by simp [results, Try.results10, go_sem]) rfl ⟨rfl, Gr.below (by repeat (first | (with_reducible exact hG) | with_reducible refine Gr.alloc ?_ _ | with_reducible refine Gr.more ?_ _ _ | with_reducible refine Gr.setCell ?_ (by dsimp only; (try simp only [World.size_more, World.size_alloc, World.size_setCell, World.size_drew, Array.size_append]); omega) _ | with_reducible refine Gr.drew ?_))⟩

set_option maxRecDepth 100000 in
set_option maxHeartbeats 16000000 in
theorem halves_4_f3 (w : World) (P : List Int) (p : Option Addr) (pc : Nat) (B : List UInt8) (q : Option Addr) (qc : Nat) (hS : SpIn 0 w.heap.size w P p B q qc) (a : Int) (g : Bool) (v : Int) {P1 : List Int} {B1 : List UInt8} {K1 A1 K3 A3 KS AS : Int} (HC : CCheck P B 0) (HR : ∀ w, Calls Try.prog 45 #[tyV 4 false] w fun e w' => e = .returned (.int .i64 0) ∧ Below w.heap.size w w') (nx V1 V2 V3 : Int) (hn : wrap64 (a + 2) = nx) (L1 : CLoad P B a 4 false V1 K1 A1 0) (L2 : CLoad P B a 2 false V2 0 0 0) (L3 : CLoad P B nx 2 false V3 K3 A3 0) (hk1 : (K1 == 0) = false) (hk3 : (K3 == 0) = false) (S1 : CStore P B a 4 false v P1 B1 KS AS 0) (hks : (KS != 0) = true) : Calls Try.prog 10 #[spV p P.length pc q B.length qc, .agg #[.int .i64 a, .int .i64 4, .bool g, .int .i64 v]] w fun e w' => e = .returned (.bool true) ∧ Below w.heap.size w w' := by
  go_enter Try.func10, Try.ntmps10
  go_upto_region 1 with fail
  refine halves_r1 msane_any ?_
  intro _ W1 g1
  have h2 : SpBx 0 W1 (w.heap.size) P B := SpBx.up g1 ⟨p, pc, q, qc, Bx.mk2 (by go_simp) (by go_simp) (by go_simp) (by go_simp), (hS.up (by repeat (first | (with_reducible exact Gr.refl _) | with_reducible refine Gr.alloc ?_ _ | with_reducible refine Gr.more ?_ _ _ | with_reducible refine Gr.setCell ?_ (by dsimp only; (try simp only [World.size_more, World.size_alloc, World.size_setCell, World.size_drew, Array.size_append]); omega) _ | with_reducible refine Gr.drew ?_))).mono (by (try simp only [World.size_more, World.size_alloc, World.size_setCell, World.size_drew, Array.size_append]); omega) (by (try simp only [World.size_more, World.size_alloc, World.size_setCell, World.size_drew, Array.size_append]); omega)⟩
  have h3 : Bx W1 (w.heap.size + 1) [.int .i64 a, .int .i64 4, .bool g, .int .i64 v] := Bx.up g1 (Bx.mk4 (by go_simp) (by go_simp) (by go_simp) (by go_simp) (by go_simp) (by go_simp) (by go_simp) (by go_simp))
  have hG : Gr w.heap.size w W1 := Gr.trans (by repeat (first | (with_reducible exact Gr.refl _) | with_reducible refine Gr.alloc ?_ _ | with_reducible refine Gr.more ?_ _ _ | with_reducible refine Gr.setCell ?_ (by dsimp only; (try simp only [World.size_more, World.size_alloc, World.size_setCell, World.size_drew, Array.size_append]); omega) _ | with_reducible refine Gr.drew ?_)) g1
  clear g1
  go_upto_region 2 with fail
  refine halves_r2 h3 ?_
  intro _ _  W2 g2 n3
  replace h2 := h2.caught g2 (by omega) (by omega)
  replace h3 := n3
  clear n3
  replace hG := Gr.caught hG g2 (by omega)
  clear g2
  go_upto_region 3 with fail
  refine halves_r3 h2 h3 HC HR rfl ?_
  intro _ _ _ _ _ _ _ _ _ _ _ _ _ _ _ _ _ _  W3 g3
  replace h2 := SpBx.up g3 h2
  replace h3 := Bx.up g3 h3
  replace hG := Gr.trans hG g3
  clear g3
  go_upto_region 5 with fail
  refine halves_r5_4 h3 ?_
  intro _ _ _ _ _ b6 W4 g4 ge6 n6
  replace h2 := SpBx.up g4 h2
  replace h3 := Bx.up g4 h3
  have h6 := n6
  clear n6
  replace hG := Gr.trans hG g4
  clear g4
  go_upto_region 6 with fail
  refine halves_r6_4 h3 h6 hn ?_
  intro _ _ _ _ _  W5 g5
  replace h2 := SpBx.up g5 h2
  replace h3 := Bx.up g5 h3
  replace h6 := Bx.up g5 h6
  replace hG := Gr.trans hG g5
  clear g5
  go_upto_region 7 with fail
  refine halves_r7 h2 h3 L1 ?_
  intro _ _ _ _ _ _ _ _ _ _ b9 W6 g6 ge9 n9
  replace h2 := SpBx.up g6 h2
  replace h3 := Bx.up g6 h3
  replace h6 := Bx.up g6 h6
  have h9 := n9
  clear n9
  replace hG := Gr.trans hG g6
  clear g6
  go_upto_region 8 with fail
  refine halves_r8 h2 h3 h6 L2 ?_
  intro _ _ _ _ _ _ _ _ _ b12 W7 g7 ge12 n12
  replace h2 := SpBx.up g7 h2
  replace h3 := Bx.up g7 h3
  replace h6 := Bx.up g7 h6
  replace h9 := Bx.up g7 h9
  have h12 := n12
  clear n12
  replace hG := Gr.trans hG g7
  clear g7
  go_upto_region 9 with fail
  refine halves_r9 h2 h6 L3 ?_
  intro _ _ _ _ _ _ _ _ b15 W8 g8 ge15 n15
  replace h2 := SpBx.up g8 h2
  replace h3 := Bx.up g8 h3
  replace h6 := Bx.up g8 h6
  replace h9 := Bx.up g8 h9
  replace h12 := Bx.up g8 h12
  have h15 := n15
  clear n15
  replace hG := Gr.trans hG g8
  clear g8
  have c9_0 := h9.get 0 _ rfl
  have c9_1 := h9.get 1 _ rfl
  have c12_0 := h12.get 0 _ rfl
  have c12_1 := h12.get 1 _ rfl
  have c15_0 := h15.get 0 _ rfl
  have c15_1 := h15.get 1 _ rfl
  go_upto_region 14 with fail
  clear c9_0 c9_1
  clear c12_0 c12_1
  clear c15_0 c15_1
  go_upto_region 14 with fail
  refine halves_r14 h2 h3 S1 ?_
  intro _ _ _ _ _ _ _ _ _ _ _ _ b17 b18 W9 g9 ge17 n17 ge18 lt18 n18
  replace h2 := SpBx.up g9 h2
  replace h3 := Bx.up g9 h3
  replace h6 := Bx.up g9 h6
  replace h9 := Bx.up g9 h9
  replace h12 := Bx.up g9 h12
  replace h15 := Bx.up g9 h15
  have h17 := n17
  clear n17
  have h18 := n18
  clear n18
  replace hG := Gr.trans hG g9
  clear g9
  have c18_0 := h18.get 0 _ rfl
  have c18_1 := h18.get 1 _ rfl
  go_wp2_with fail
  refine bodyPost_ret (v := .bool true) (by simp [results, Try.results10, go_sem]) rfl ⟨rfl, Gr.below (by repeat (first | (with_reducible exact hG) | with_reducible refine Gr.alloc ?_ _ | with_reducible refine Gr.more ?_ _ _ | with_reducible refine Gr.setCell ?_ (by dsimp only; (try simp only [World.size_more, World.size_alloc, World.size_setCell, World.size_drew, Array.size_append]); omega) _ | with_reducible refine Gr.drew ?_))⟩

set_option maxRecDepth 100000 in
set_option maxHeartbeats 16000000 in
theorem halves_8_oo (w : World) (P : List Int) (p : Option Addr) (pc : Nat) (B : List UInt8) (q : Option Addr) (qc : Nat) (hS : SpIn 0 w.heap.size w P p B q qc) (a : Int) (g : Bool) (v : Int) {P1 P2 P3 : List Int} {B1 B2 B3 : List UInt8} (HC : CCheck P B 0) (HR : ∀ w, Calls Try.prog 45 #[tyV 8 false] w fun e w' => e = .returned (.int .i64 0) ∧ Below w.heap.size w w') (nx V1 V2 V3 : Int) (hn : wrap64 (a + 4) = nx) (L1 : CLoad P B a 8 false V1 0 0 0) (L2 : CLoad P B a 4 false V2 0 0 0) (L3 : CLoad P B nx 4 false V3 0 0 0) (hv : (V1 != wrap64 (V2 + wrap64 (V3 * 4294967296))) = false) (S1 : CStore P B a 8 false v P1 B1 0 0 0) (S2 : CStore P B a 4 false v P2 B2 0 0 0) (S3 : CStore P2 B2 nx 4 false (v / 4294967296) P3 B3 0 0 0) (HS : CSame P1 B1 P3 B3 true) : Calls Try.prog 10 #[spV p P.length pc q B.length qc, .agg #[.int .i64 a, .int .i64 8, .bool g, .int .i64 v]] w fun e w' => e = .returned (.bool true) ∧ Below w.heap.size w w' := by
  go_enter Try.func10, Try.ntmps10
  go_upto_region 1 with fail
  refine halves_r1 msane_any ?_
  intro _ W1 g1
  have h2 : SpBx 0 W1 (w.heap.size) P B := SpBx.up g1 ⟨p, pc, q, qc, Bx.mk2 (by go_simp) (by go_simp) (by go_simp) (by go_simp), (hS.up (by repeat (first | (with_reducible exact Gr.refl _) | with_reducible refine Gr.alloc ?_ _ | with_reducible refine Gr.more ?_ _ _ | with_reducible refine Gr.setCell ?_ (by dsimp only; (try simp only [World.size_more, World.size_alloc, World.size_setCell, World.size_drew, Array.size_append]); omega) _ | with_reducible refine Gr.drew ?_))).mono (by (try simp only [World.size_more, World.size_alloc, World.size_setCell, World.size_drew, Array.size_append]); omega) (by (try simp only [World.size_more, World.size_alloc, World.size_setCell, World.size_drew, Array.size_append]); omega)⟩
  have h3 : Bx W1 (w.heap.size + 1) [.int .i64 a, .int .i64 8, .bool g, .int .i64 v] := Bx.up g1 (Bx.mk4 (by go_simp) (by go_simp) (by go_simp) (by go_simp) (by go_simp) (by go_simp) (by go_simp) (by go_simp))
  have hG : Gr w.heap.size w W1 := Gr.trans (by repeat (first | (with_reducible exact Gr.refl _) | with_reducible refine Gr.alloc ?_ _ | with_reducible refine Gr.more ?_ _ _ | with_reducible refine Gr.setCell ?_ (by dsimp only; (try simp only [World.size_more, World.size_alloc, World.size_setCell, World.size_drew, Array.size_append]); omega) _ | with_reducible refine Gr.drew ?_)) g1
  clear g1
  go_upto_region 2 with fail
  refine halves_r2 h3 ?_
  intro _ _  W2 g2 n3
  replace h2 := h2.caught g2 (by omega) (by omega)
  replace h3 := n3
  clear n3
  replace hG := Gr.caught hG g2 (by omega)
  clear g2
  go_upto_region 3 with fail
  refine halves_r3 h2 h3 HC HR rfl ?_
  intro _ _ _ _ _ _ _ _ _ _ _ _ _ _ _ _ _ _  W3 g3
  replace h2 := SpBx.up g3 h2
  replace h3 := Bx.up g3 h3
  replace hG := Gr.trans hG g3
  clear g3
  go_upto_region 5 with fail
  refine halves_r5_8 h3 ?_
  intro _ _ _ _ _ b6 W4 g4 ge6 n6
  replace h2 := SpBx.up g4 h2
  replace h3 := Bx.up g4 h3
  have h6 := n6
  clear n6
  replace hG := Gr.trans hG g4
  clear g4
  go_upto_region 6 with fail
  refine halves_r6_8 h3 h6 hn ?_
  intro _ _ _ _ _  W5 g5
  replace h2 := SpBx.up g5 h2
  replace h3 := Bx.up g5 h3
  replace h6 := Bx.up g5 h6
  replace hG := Gr.trans hG g5
  clear g5
  go_upto_region 7 with fail
  refine halves_r7 h2 h3 L1 ?_
  intro _ _ _ _ _ _ _ _ _ _ b9 W6 g6 ge9 n9
  replace h2 := SpBx.up g6 h2
  replace h3 := Bx.up g6 h3
  replace h6 := Bx.up g6 h6
  have h9 := n9
  clear n9
  replace hG := Gr.trans hG g6
  clear g6
  go_upto_region 8 with fail
  refine halves_r8 h2 h3 h6 L2 ?_
  intro _ _ _ _ _ _ _ _ _ b12 W7 g7 ge12 n12
  replace h2 := SpBx.up g7 h2
  replace h3 := Bx.up g7 h3
  replace h6 := Bx.up g7 h6
  replace h9 := Bx.up g7 h9
  have h12 := n12
  clear n12
  replace hG := Gr.trans hG g7
  clear g7
  go_upto_region 9 with fail
  refine halves_r9 h2 h6 L3 ?_
  intro _ _ _ _ _ _ _ _ b15 W8 g8 ge15 n15
  replace h2 := SpBx.up g8 h2
  replace h3 := Bx.up g8 h3
  replace h6 := Bx.up g8 h6
  replace h9 := Bx.up g8 h9
  replace h12 := Bx.up g8 h12
  have h15 := n15
  clear n15
  replace hG := Gr.trans hG g8
  clear g8
  have c9_0 := h9.get 0 _ rfl
  have c9_1 := h9.get 1 _ rfl
  have c12_0 := h12.get 0 _ rfl
  have c12_1 := h12.get 1 _ rfl
  have c15_0 := h15.get 0 _ rfl
  have c15_1 := h15.get 1 _ rfl
  go_upto_region 12 with fail
  clear c9_0 c9_1
  clear c12_0 c12_1
  clear c15_0 c15_1
  go_upto_region 12 with fail
  refine halves_r12_8 h6 h9 hv ?_
  intro _ _ _ _ _ _ _ _ _ _ _ _ _  W9 g9
  replace h2 := SpBx.up g9 h2
  replace h3 := Bx.up g9 h3
  replace h6 := Bx.up g9 h6
  replace h9 := Bx.up g9 h9
  replace h12 := Bx.up g9 h12
  replace h15 := Bx.up g9 h15
  replace hG := Gr.trans hG g9
  clear g9
  go_upto_region 14 with fail
  go_upto_region 14 with fail
  refine halves_r14 h2 h3 S1 ?_
  intro _ _ _ _ _ _ _ _ _ _ _ _ b17 b18 W10 g10 ge17 n17 ge18 lt18 n18
  replace h2 := SpBx.up g10 h2
  replace h3 := Bx.up g10 h3
  replace h6 := Bx.up g10 h6
  replace h9 := Bx.up g10 h9
  replace h12 := Bx.up g10 h12
  replace h15 := Bx.up g10 h15
  have h17 := n17
  clear n17
  have h18 := n18
  clear n18
  replace hG := Gr.trans hG g10
  clear g10
  have c18_0 := h18.get 0 _ rfl
  have c18_1 := h18.get 1 _ rfl
  go_upto_region 17 with fail
  clear c18_0 c18_1
  go_upto_region 17 with fail
  refine halves_r17 h2 h3 h6 S2 ?_
  intro _ _ _ _ _ _ _ _ _ _ _ b20 b21 W11 g11 ge20 n20 ge21 lt21 n21
  replace h2 := SpBx.up g11 h2
  replace h3 := Bx.up g11 h3
  replace h6 := Bx.up g11 h6
  replace h9 := Bx.up g11 h9
  replace h12 := Bx.up g11 h12
  replace h15 := Bx.up g11 h15
  replace h17 := SpBx.up g11 h17
  replace h18 := Bx.up g11 h18
  have h20 := n20
  clear n20
  have h21 := n21
  clear n21
  replace hG := Gr.trans hG g11
  clear g11
  go_upto_region 18 with fail
  refine halves_r18_8 h20 h6 h3 rfl S3 ?_
  intro _ _ _ _ _ _ _ _ _ _ _ _ _ _ b23 b24 W12 g12 ge23 n23 ge24 n24
  replace h2 := SpBx.up g12 h2
  replace h3 := Bx.up g12 h3
  replace h6 := Bx.up g12 h6
  replace h9 := Bx.up g12 h9
  replace h12 := Bx.up g12 h12
  replace h15 := Bx.up g12 h15
  replace h17 := SpBx.up g12 h17
  replace h18 := Bx.up g12 h18
  replace h20 := SpBx.up g12 h20
  replace h21 := Bx.up g12 h21
  have h23 := n23
  clear n23
  have h24 := n24
  clear n24
  replace hG := Gr.trans hG g12
  clear g12
  have c21_0 := h21.get 0 _ rfl
  have c21_1 := h21.get 1 _ rfl
  have c24_0 := h24.get 0 _ rfl
  have c24_1 := h24.get 1 _ rfl
  obtain ⟨p17, pc17, q17, qc17, x17, s17⟩ := h17
  have c17_0 := x17.get 0 _ rfl
  have c17_1 := x17.get 1 _ rfl
  obtain ⟨p23, pc23, q23, qc23, x23, s23⟩ := h23
  have c23_0 := x23.get 0 _ rfl
  have c23_1 := x23.get 1 _ rfl
  go_wp2_with (go_at_call 24; (refine (HS _ _ _ _ _ _ _ _ _ (s17.at.up (Gr.below (by repeat (first | (with_reducible exact Gr.refl _) | with_reducible refine Gr.alloc ?_ _ | with_reducible refine Gr.more ?_ _ _ | with_reducible refine Gr.setCell ?_ (by dsimp only; (try simp only [World.size_more, World.size_alloc, World.size_setCell, World.size_drew, Array.size_append]); omega) _ | with_reducible refine Gr.drew ?_)))) (s23.up (Gr.below (by repeat (first | (with_reducible exact Gr.refl _) | with_reducible refine Gr.alloc ?_ _ | with_reducible refine Gr.more ?_ _ _ | with_reducible refine Gr.setCell ?_ (by dsimp only; (try simp only [World.size_more, World.size_alloc, World.size_setCell, World.size_drew, Array.size_append]); omega) _ | with_reducible refine Gr.drew ?_))))).mono ?_); rintro e w1 ⟨rfl, hb⟩; obtain ⟨os, n, rfl⟩ := Below.moreE hb; clear hb)
  refine bodyPost_ret (v := .bool true) (by simp [results, Try.results10, go_sem]) rfl ⟨rfl, Gr.below (by repeat (first | (with_reducible exact hG) | with_reducible refine Gr.alloc ?_ _ | with_reducible refine Gr.more ?_ _ _ | with_reducible refine Gr.setCell ?_ (by dsimp only; (try simp only [World.size_more, World.size_alloc, World.size_setCell, World.size_drew, Array.size_append]); omega) _ | with_reducible refine Gr.drew ?_))⟩

set_option maxRecDepth 100000 in
set_option maxHeartbeats 16000000 in
theorem halves_8_of (w : World) (P : List Int) (p : Option Addr) (pc : Nat) (B : List UInt8) (q : Option Addr) (qc : Nat) (hS : SpIn 0 w.heap.size w P p B q qc) (a : Int) (g : Bool) (v : Int) {P1 : List Int} {B1 : List UInt8} {KS AS : Int} (HC : CCheck P B 0) (HR : ∀ w, Calls Try.prog 45 #[tyV 8 false] w fun e w' => e = .returned (.int .i64 0) ∧ Below w.heap.size w w') (nx V1 V2 V3 : Int) (hn : wrap64 (a + 4) = nx) (L1 : CLoad P B a 8 false V1 0 0 0) (L2 : CLoad P B a 4 false V2 0 0 0) (L3 : CLoad P B nx 4 false V3 0 0 0) (hv : (V1 != wrap64 (V2 + wrap64 (V3 * 4294967296))) = false) (S1 : CStore P B a 8 false v P1 B1 KS AS 0) (hks : (KS != 0) = true) : Calls Try.prog 10 #[spV p P.length pc q B.length qc, .agg #[.int .i64 a, .int .i64 8, .bool g, .int .i64 v]] w fun e w' => e = .returned (.bool true) ∧ Below w.heap.size w w' := by
  go_enter Try.func10, Try.ntmps10
  go_upto_region 1 with fail
  refine halves_r1 msane_any ?_
  intro _ W1 g1
  have h2 : SpBx 0 W1 (w.heap.size) P B := SpBx.up g1 ⟨p, pc, q, qc, Bx.mk2 (by go_simp) (by go_simp) (by go_simp) (by go_simp), (hS.up (by repeat (first | (with_reducible exact Gr.refl _) | with_reducible refine Gr.alloc ?_ _ | with_reducible refine Gr.more ?_ _ _ | with_reducible refine Gr.setCell ?_ (by dsimp only; (try simp only [World.size_more, World.size_alloc, World.size_setCell, World.size_drew, Array.size_append]); omega) _ | with_reducible refine Gr.drew ?_))).mono (by (try simp only [World.size_more, World.size_alloc, World.size_setCell, World.size_drew, Array.size_append]); omega) (by (try simp only [World.size_more, World.size_alloc, World.size_setCell, World.size_drew, Array.size_append]); omega)⟩
  have h3 : Bx W1 (w.heap.size + 1) [.int .i64 a, .int .i64 8, .bool g, .int .i64 v] := Bx.up g1 (Bx.mk4 (by go_simp) (by go_simp) (by go_simp) (by go_simp) (by go_simp) (by go_simp) (by go_simp) (by go_simp))
  have hG : Gr w.heap.size w W1 := Gr.trans (by repeat (first | (with_reducible exact Gr.refl _) | with_reducible refine Gr.alloc ?_ _ | with_reducible refine Gr.more ?_ _ _ | with_reducible refine Gr.setCell ?_ (by dsimp only; (try simp only [World.size_more, World.size_alloc, World.size_setCell, World.size_drew, Array.size_append]); omega) _ | with_reducible refine Gr.drew ?_)) g1
  clear g1
  go_upto_region 2 with fail
  refine halves_r2 h3 ?_
  intro _ _  W2 g2 n3
  replace h2 := h2.caught g2 (by omega) (by omega)
  replace h3 := n3
  clear n3
  replace hG := Gr.caught hG g2 (by omega)
  clear g2
  go_upto_region 3 with fail
  refine halves_r3 h2 h3 HC HR rfl ?_
  intro _ _ _ _ _ _ _ _ _ _ _ _ _ _ _ _ _ _  W3 g3
  replace h2 := SpBx.up g3 h2
  replace h3 := Bx.up g3 h3
  replace hG := Gr.trans hG g3
  clear g3
  go_upto_region 5 with fail
  refine halves_r5_8 h3 ?_
  intro _ _ _ _ _ b6 W4 g4 ge6 n6
  replace h2 := SpBx.up g4 h2
  replace h3 := Bx.up g4 h3
  have h6 := n6
  clear n6
  replace hG := Gr.trans hG g4
  clear g4
  go_upto_region 6 with fail
  refine halves_r6_8 h3 h6 hn ?_
  intro _ _ _ _ _  W5 g5
  replace h2 := SpBx.up g5 h2
  replace h3 := Bx.up g5 h3
  replace h6 := Bx.up g5 h6
  replace hG := Gr.trans hG g5
  clear g5
  go_upto_region 7 with fail
  refine halves_r7 h2 h3 L1 ?_
  intro _ _ _ _ _ _ _ _ _ _ b9 W6 g6 ge9 n9
  replace h2 := SpBx.up g6 h2
  replace h3 := Bx.up g6 h3
  replace h6 := Bx.up g6 h6
  have h9 := n9
  clear n9
  replace hG := Gr.trans hG g6
  clear g6
  go_upto_region 8 with fail
  refine halves_r8 h2 h3 h6 L2 ?_
  intro _ _ _ _ _ _ _ _ _ b12 W7 g7 ge12 n12
  replace h2 := SpBx.up g7 h2
  replace h3 := Bx.up g7 h3
  replace h6 := Bx.up g7 h6
  replace h9 := Bx.up g7 h9
  have h12 := n12
  clear n12
  replace hG := Gr.trans hG g7
  clear g7
  go_upto_region 9 with fail
  refine halves_r9 h2 h6 L3 ?_
  intro _ _ _ _ _ _ _ _ b15 W8 g8 ge15 n15
  replace h2 := SpBx.up g8 h2
  replace h3 := Bx.up g8 h3
  replace h6 := Bx.up g8 h6
  replace h9 := Bx.up g8 h9
  replace h12 := Bx.up g8 h12
  have h15 := n15
  clear n15
  replace hG := Gr.trans hG g8
  clear g8
  have c9_0 := h9.get 0 _ rfl
  have c9_1 := h9.get 1 _ rfl
  have c12_0 := h12.get 0 _ rfl
  have c12_1 := h12.get 1 _ rfl
  have c15_0 := h15.get 0 _ rfl
  have c15_1 := h15.get 1 _ rfl
  go_upto_region 12 with fail
  clear c9_0 c9_1
  clear c12_0 c12_1
  clear c15_0 c15_1
  go_upto_region 12 with fail
  refine halves_r12_8 h6 h9 hv ?_
  intro _ _ _ _ _ _ _ _ _ _ _ _ _  W9 g9
  replace h2 := SpBx.up g9 h2
  replace h3 := Bx.up g9 h3
  replace h6 := Bx.up g9 h6
  replace h9 := Bx.up g9 h9
  replace h12 := Bx.up g9 h12
  replace h15 := Bx.up g9 h15
  replace hG := Gr.trans hG g9
  clear g9
  go_upto_region 14 with fail
  go_upto_region 14 with fail
  refine halves_r14 h2 h3 S1 ?_
  intro _ _ _ _ _ _ _ _ _ _ _ _ b17 b18 W10 g10 ge17 n17 ge18 lt18 n18
  replace h2 := SpBx.up g10 h2
  replace h3 := Bx.up g10 h3
  replace h6 := Bx.up g10 h6
  replace h9 := Bx.up g10 h9
  replace h12 := Bx.up g10 h12
  replace h15 := Bx.up g10 h15
  have h17 := n17
  clear n17
  have h18 := n18
  clear n18
  replace hG := Gr.trans hG g10
  clear g10
  have c18_0 := h18.get 0 _ rfl
  have c18_1 := h18.get 1 _ rfl
  go_wp2_with fail
  refine bodyPost_ret (v := .bool true) (by simp [results, Try.results10, go_sem]) rfl ⟨rfl, Gr.below (by repeat (first | (with_reducible exact hG) | with_reducible refine Gr.alloc ?_ _ | with_reducible refine Gr.more ?_ _ _ | with_reducible refine Gr.setCell ?_ (by dsimp only; (try simp only [World.size_more, World.size_alloc, World.size_setCell, World.size_drew, Array.size_append]); omega) _ | with_reducible refine Gr.drew ?_))⟩

set_option maxRecDepth 100000 in
set_option maxHeartbeats 16000000 in
theorem halves_8_f2 (w : World) (P : List Int) (p : Option Addr) (pc : Nat) (B : List UInt8) (q : Option Addr) (qc : Nat) (hS : SpIn 0 w.heap.size w P p B q qc) (a : Int) (g : Bool) (v : Int) {P1 : List Int} {B1 : List UInt8} {K1 A1 K2 A2 K3 A3 KS AS : Int} (HC : CCheck P B 0) (HR : ∀ w, Calls Try.prog 45 #[tyV 8 false] w fun e w' => e = .returned (.int .i64 0) ∧ Below w.heap.size w w') (nx V1 V2 V3 : Int) (hn : wrap64 (a + 4) = nx) (L1 : CLoad P B a 8 false V1 K1 A1 0) (L2 : CLoad P B a 4 false V2 K2 A2 0) (L3 : CLoad P B nx 4 false V3 K3 A3 0) (hk1 : (K1 == 0) = false) (hk2 : (K2 == 0) = false) (S1 : CStore P B a 8 false v P1 B1 KS AS 0) (hks : (KS != 0) = true) : Calls Try.prog 10 #[spV p P.length pc q B.length qc, .agg #[.int .i64 a, .int .i64 8, .bool g, .int .i64 v]] w fun e w' => e = .returned (.bool true) ∧ Below w.heap.size w w' := by
  go_enter Try.func10, Try.ntmps10
  go_upto_region 1 with fail
  refine halves_r1 msane_any ?_
  intro _ W1 g1
  have h2 : SpBx 0 W1 (w.heap.size) P B := SpBx.up g1 ⟨p, pc, q, qc, Bx.mk2 (by go_simp) (by go_simp) (by go_simp) (by go_simp), (hS.up (by repeat (first | (with_reducible exact Gr.refl _) | with_reducible refine Gr.alloc ?_ _ | with_reducible refine Gr.more ?_ _ _ | with_reducible refine Gr.setCell ?_ (by dsimp only; (try simp only [World.size_more, World.size_alloc, World.size_setCell, World.size_drew, Array.size_append]); omega) _ | with_reducible refine Gr.drew ?_))).mono (by (try simp only [World.size_more, World.size_alloc, World.size_setCell, World.size_drew, Array.size_append]); omega) (by (try simp only [World.size_more, World.size_alloc, World.size_setCell, World.size_drew, Array.size_append]); omega)⟩
  have h3 : Bx W1 (w.heap.size + 1) [.int .i64 a, .int .i64 8, .bool g, .int .i64 v] := Bx.up g1 (Bx.mk4 (by go_simp) (by go_simp) (by go_simp) (by go_simp) (by go_simp) (by go_simp) (by go_simp) (by go_simp))
  have hG : Gr w.heap.size w W1 := Gr.trans (by repeat (first | (with_reducible exact Gr.refl _) | with_reducible refine Gr.alloc ?_ _ | with_reducible refine Gr.more ?_ _ _ | with_reducible refine Gr.setCell ?_ (by dsimp only; (try simp only [World.size_more, World.size_alloc, World.size_setCell, World.size_drew, Array.size_append]); omega) _ | with_reducible refine Gr.drew ?_)) g1
  clear g1
  go_upto_region 2 with fail
  refine halves_r2 h3 ?_
  intro _ _  W2 g2 n3
  replace h2 := h2.caught g2 (by omega) (by omega)
  replace h3 := n3
  clear n3
  replace hG := Gr.caught hG g2 (by omega)
  clear g2
  go_upto_region 3 with fail
  refine halves_r3 h2 h3 HC HR rfl ?_
  intro _ _ _ _ _ _ _ _ _ _ _ _ _ _ _ _ _ _  W3 g3
  replace h2 := SpBx.up g3 h2
  replace h3 := Bx.up g3 h3
  replace hG := Gr.trans hG g3
  clear g3
  go_upto_region 5 with fail
  refine halves_r5_8 h3 ?_
  intro _ _ _ _ _ b6 W4 g4 ge6 n6
  replace h2 := SpBx.up g4 h2
  replace h3 := Bx.up g4 h3
  have h6 := n6
  clear n6
  replace hG := Gr.trans hG g4
  clear g4
  go_upto_region 6 with fail
  refine halves_r6_8 h3 h6 hn ?_
  intro _ _ _ _ _  W5 g5
  replace h2 := SpBx.up g5 h2
  replace h3 := Bx.up g5 h3
  replace h6 := Bx.up g5 h6
  replace hG := Gr.trans hG g5
  clear g5
  go_upto_region 7 with fail
  refine halves_r7 h2 h3 L1 ?_
  intro _ _ _ _ _ _ _ _ _ _ b9 W6 g6 ge9 n9
  replace h2 := SpBx.up g6 h2
  replace h3 := Bx.up g6 h3
  replace h6 := Bx.up g6 h6
  have h9 := n9
  clear n9
  replace hG := Gr.trans hG g6
  clear g6
  go_upto_region 8 with fail
  refine halves_r8 h2 h3 h6 L2 ?_
  intro _ _ _ _ _ _ _ _ _ b12 W7 g7 ge12 n12
  replace h2 := SpBx.up g7 h2
  replace h3 := Bx.up g7 h3
  replace h6 := Bx.up g7 h6
  replace h9 := Bx.up g7 h9
  have h12 := n12
  clear n12
  replace hG := Gr.trans hG g7
  clear g7
  go_upto_region 9 with fail
  refine halves_r9 h2 h6 L3 ?_
  intro _ _ _ _ _ _ _ _ b15 W8 g8 ge15 n15
  replace h2 := SpBx.up g8 h2
  replace h3 := Bx.up g8 h3
  replace h6 := Bx.up g8 h6
  replace h9 := Bx.up g8 h9
  replace h12 := Bx.up g8 h12
  have h15 := n15
  clear n15
  replace hG := Gr.trans hG g8
  clear g8
  have c9_0 := h9.get 0 _ rfl
  have c9_1 := h9.get 1 _ rfl
  have c12_0 := h12.get 0 _ rfl
  have c12_1 := h12.get 1 _ rfl
  have c15_0 := h15.get 0 _ rfl
  have c15_1 := h15.get 1 _ rfl
  go_upto_region 14 with fail
  clear c9_0 c9_1
  clear c12_0 c12_1
  clear c15_0 c15_1
  go_upto_region 14 with fail
  refine halves_r14 h2 h3 S1 ?_
  intro _ _ _ _ _ _ _ _ _ _ _ _ b17 b18 W9 g9 ge17 n17 ge18 lt18 n18
  replace h2 := SpBx.up g9 h2
  replace h3 := Bx.up g9 h3
  replace h6 := Bx.up g9 h6
  replace h9 := Bx.up g9 h9
  replace h12 := Bx.up g9 h12
  replace h15 := Bx.up g9 h15
  have h17 := n17
  clear n17
  have h18 := n18
  clear n18
  replace hG := Gr.trans hG g9
  clear g9
  have c18_0 := h18.get 0 _ rfl
  have c18_1 := h18.get 1 _ rfl
  go_wp2_with fail
  refine bodyPost_ret (v := .bool true) (by simp [results, Try.results10, go_sem]) rfl ⟨rfl, Gr.below (by repeat (first | (with_reducible exact hG) | with_reducible refine Gr.alloc ?_ _ | with_reducible refine Gr.more ?_ _ _ | with_reducible refine Gr.setCell ?_ (by dsimp only; (try simp only [World.size_more, World.size_alloc, World.size_setCell, World.size_drew, Array.size_append]); omega) _ | with_reducible refine Gr.drew ?_))⟩

set_option maxRecDepth 100000 in
set_option maxHeartbeats 16000000 in
theorem halves_8_f3 (w : World) (P : List Int) (p : Option Addr) (pc : Nat) (B : List UInt8) (q : Option Addr) (qc : Nat) (hS : SpIn 0 w.heap.size w P p B q qc) (a : Int) (g : Bool) (v : Int) {P1 : List Int} {B1 : List UInt8} {K1 A1 K3 A3 KS AS : Int} (HC : CCheck P B 0) (HR : ∀ w, Calls Try.prog 45 #[tyV 8 false] w fun e w' => e = .returned (.int .i64 0) ∧ Below w.heap.size w w') (nx V1 V2 V3 : Int) (hn : wrap64 (a + 4) = nx) (L1 : CLoad P B a 8 false V1 K1 A1 0) (L2 : CLoad P B a 4 false V2 0 0 0) (L3 : CLoad P B nx 4 false V3 K3 A3 0) (hk1 : (K1 == 0) = false) (hk3 : (K3 == 0) = false) (S1 : CStore P B a 8 false v P1 B1 KS AS 0) (hks : (KS != 0) = true) : Calls Try.prog 10 #[spV p P.length pc q B.length qc, .agg #[.int .i64 a, .int .i64 8, .bool g, .int .i64 v]] w fun e w' => e = .returned (.bool true) ∧ Below w.heap.size w w' := by
  go_enter Try.func10, Try.ntmps10
  go_upto_region 1 with fail
  refine halves_r1 msane_any ?_
  intro _ W1 g1
  have h2 : SpBx 0 W1 (w.heap.size) P B := SpBx.up g1 ⟨p, pc, q, qc, Bx.mk2 (by go_simp) (by go_simp) (by go_simp) (by go_simp), (hS.up (by repeat (first | (with_reducible exact Gr.refl _) | with_reducible refine Gr.alloc ?_ _ | with_reducible refine Gr.more ?_ _ _ | with_reducible refine Gr.setCell ?_ (by dsimp only; (try simp only [World.size_more, World.size_alloc, World.size_setCell, World.size_drew, Array.size_append]); omega) _ | with_reducible refine Gr.drew ?_))).mono (by (try simp only [World.size_more, World.size_alloc, World.size_setCell, World.size_drew, Array.size_append]); omega) (by (try simp only [World.size_more, World.size_alloc, World.size_setCell, World.size_drew, Array.size_append]); omega)⟩
  have h3 : Bx W1 (w.heap.size + 1) [.int .i64 a, .int .i64 8, .bool g, .int .i64 v] := Bx.up g1 (Bx.mk4 (by go_simp) (by go_simp) (by go_simp) (by go_simp) (by go_simp) (by go_simp) (by go_simp) (by go_simp))
  have hG : Gr w.heap.size w W1 := Gr.trans (by repeat (first | (with_reducible exact Gr.refl _) | with_reducible refine Gr.alloc ?_ _ | with_reducible refine Gr.more ?_ _ _ | with_reducible refine Gr.setCell ?_ (by dsimp only; (try simp only [World.size_more, World.size_alloc, World.size_setCell, World.size_drew, Array.size_append]); omega) _ | with_reducible refine Gr.drew ?_)) g1
  clear g1
  go_upto_region 2 with fail
  refine halves_r2 h3 ?_
  intro _ _  W2 g2 n3
  replace h2 := h2.caught g2 (by omega) (by omega)
  replace h3 := n3
  clear n3
  replace hG := Gr.caught hG g2 (by omega)
  clear g2
  go_upto_region 3 with fail
  refine halves_r3 h2 h3 HC HR rfl ?_
  intro _ _ _ _ _ _ _ _ _ _ _ _ _ _ _ _ _ _  W3 g3
  replace h2 := SpBx.up g3 h2
  replace h3 := Bx.up g3 h3
  replace hG := Gr.trans hG g3
  clear g3
  go_upto_region 5 with fail
  refine halves_r5_8 h3 ?_
  intro _ _ _ _ _ b6 W4 g4 ge6 n6
  replace h2 := SpBx.up g4 h2
  replace h3 := Bx.up g4 h3
  have h6 := n6
  clear n6
  replace hG := Gr.trans hG g4
  clear g4
  go_upto_region 6 with fail
  refine halves_r6_8 h3 h6 hn ?_
  intro _ _ _ _ _  W5 g5
  replace h2 := SpBx.up g5 h2
  replace h3 := Bx.up g5 h3
  replace h6 := Bx.up g5 h6
  replace hG := Gr.trans hG g5
  clear g5
  go_upto_region 7 with fail
  refine halves_r7 h2 h3 L1 ?_
  intro _ _ _ _ _ _ _ _ _ _ b9 W6 g6 ge9 n9
  replace h2 := SpBx.up g6 h2
  replace h3 := Bx.up g6 h3
  replace h6 := Bx.up g6 h6
  have h9 := n9
  clear n9
  replace hG := Gr.trans hG g6
  clear g6
  go_upto_region 8 with fail
  refine halves_r8 h2 h3 h6 L2 ?_
  intro _ _ _ _ _ _ _ _ _ b12 W7 g7 ge12 n12
  replace h2 := SpBx.up g7 h2
  replace h3 := Bx.up g7 h3
  replace h6 := Bx.up g7 h6
  replace h9 := Bx.up g7 h9
  have h12 := n12
  clear n12
  replace hG := Gr.trans hG g7
  clear g7
  go_upto_region 9 with fail
  refine halves_r9 h2 h6 L3 ?_
  intro _ _ _ _ _ _ _ _ b15 W8 g8 ge15 n15
  replace h2 := SpBx.up g8 h2
  replace h3 := Bx.up g8 h3
  replace h6 := Bx.up g8 h6
  replace h9 := Bx.up g8 h9
  replace h12 := Bx.up g8 h12
  have h15 := n15
  clear n15
  replace hG := Gr.trans hG g8
  clear g8
  have c9_0 := h9.get 0 _ rfl
  have c9_1 := h9.get 1 _ rfl
  have c12_0 := h12.get 0 _ rfl
  have c12_1 := h12.get 1 _ rfl
  have c15_0 := h15.get 0 _ rfl
  have c15_1 := h15.get 1 _ rfl
  go_upto_region 14 with fail
  clear c9_0 c9_1
  clear c12_0 c12_1
  clear c15_0 c15_1
  go_upto_region 14 with fail
  refine halves_r14 h2 h3 S1 ?_
  intro _ _ _ _ _ _ _ _ _ _ _ _ b17 b18 W9 g9 ge17 n17 ge18 lt18 n18
  replace h2 := SpBx.up g9 h2
  replace h3 := Bx.up g9 h3
  replace h6 := Bx.up g9 h6
  replace h9 := Bx.up g9 h9
  replace h12 := Bx.up g9 h12
  replace h15 := Bx.up g9 h15
  have h17 := n17
  clear n17
  have h18 := n18
  clear n18
  replace hG := Gr.trans hG g9
  clear g9
  have c18_0 := h18.get 0 _ rfl
  have c18_1 := h18.get 1 _ rfl
  go_wp2_with fail
  refine bodyPost_ret (v := .bool true) (by simp [results, Try.results10, go_sem]) rfl ⟨rfl, Gr.below (by repeat (first | (with_reducible exact hG) | with_reducible refine Gr.alloc ?_ _ | with_reducible refine Gr.more ?_ _ _ | with_reducible refine Gr.setCell ?_ (by dsimp only; (try simp only [World.size_more, World.size_alloc, World.size_setCell, World.size_drew, Array.size_append]); omega) _ | with_reducible refine Gr.drew ?_))⟩

end Go.Proofs.Ytbfakdbhmpjmlaa
