/-
  The law MemChanges: its walks (made by genmh.py).
-/
import Derived.Test.YtbfakdbhmpjmlaaNb
import Derived.Test.YtbfakdbhmpjmlaaMe
namespace Go.Proofs.Ytbfakdbhmpjmlaa
open Go.RowKit

theorem DfVal.caught {m : Nat} {W W' : World} (g : Caught m W W') {p : Option Addr} {n c : Nat} {B B2 : List UInt8} {D : List Nat} (h : DfVal W (.slice p n c) B B2 D) (hm : D ≠ [] → ∀ b, p = some ⟨b, 0, none⟩ → b ≠ m) : DfVal W' (.slice p n c) B B2 D := by
  obtain ⟨p', c', e, h2⟩ := h
  injection e with e1 e2 e3
  subst e1 e2 e3
  refine ⟨_, _, rfl, ?_⟩
  rcases h2 with h2 | ⟨b, e, h2⟩
  · exact .inl h2
  · by_cases hD : D = []
    · exact .inl hD
    · refine .inr ⟨b, e, fun j hj => ?_⟩
      have hb := hm hD b e
      obtain ⟨a0, a1, a2⟩ := h2 j hj
      exact ⟨g.cell hb a0, g.cell hb a1, g.cell hb a2⟩
theorem df_row {W : World} {p : Option Addr} {n c : Nat} {B B2 : List UInt8} {D : List Nat} (h : DfVal W (.slice p n c) B B2 D) (hD : D ≠ []) : ∃ b, p = some ⟨b, 0, none⟩ ∧ ∀ j (h : j < D.length), W.cell? ⟨b, j * 3, none⟩ = some (.int .i64 (D[j] : Int)) ∧ W.cell? ⟨b, j * 3 + 1, none⟩ = some (.int .u8 ((B.getD D[j] 0).toNat : Int)) ∧ W.cell? ⟨b, j * 3 + 2, none⟩ = some (.int .u8 ((B2.getD D[j] 0).toNat : Int)) := by
  obtain ⟨p', c', e, h2⟩ := h
  injection e with e1 e2 e3
  subst e1
  exact h2.resolve_left hD
theorem DfVal.lt {W : World} {p : Option Addr} {n c : Nat} {B B2 : List UInt8} {D : List Nat} (h : DfVal W (.slice p n c) B B2 D) : D ≠ [] → ∀ b, p = some ⟨b, 0, none⟩ → b < W.heap.size := by
  intro hD b e
  obtain ⟨b', e2, h2⟩ := df_row h hD
  rw [e] at e2
  injection e2 with e2
  injection e2 with e2
  subst e2
  have := lt_of_cell (h2 0 (List.length_pos_iff.2 hD)).1
  exact this

set_option maxRecDepth 100000 in
set_option maxHeartbeats 16000000 in
theorem chg_e1 (w : World) (P : List Int) (p : Option Addr) (pc : Nat) (B : List UInt8) (q : Option Addr) (qc : Nat) (hS : SpIn 0 w.heap.size w P p B q qc) (P' : List Int) (p' : Option Addr) (pc' : Nat) (B' : List UInt8) (q' : Option Addr) (qc' : Nat) (hS' : SpIn 0 w.heap.size w P' p' B' q' qc') {D : List Nat} {E : Int} (hE : (E != 0) = true) (H1 : CDiff P B P' B' D E) : Calls Try.prog 12 #[spV p P.length pc q B.length qc, spV p' P'.length pc' q' B'.length qc'] w fun e w' => e = .returned (.bool true) ∧ Below w.heap.size w w' := by
  go_enter Try.func12, Try.ntmps12
  go_upto_region 1 with fail
  refine chg_r1 msane_any ?_
  intro _ W1 g1
  have h2 : SpBx 0 W1 (w.heap.size) P B := SpBx.up g1 ⟨p, pc, q, qc, Bx.mk2 (by go_simp) (by go_simp) (by go_simp) (by go_simp), (hS.up (by repeat (first | (with_reducible exact Gr.refl _) | with_reducible refine Gr.alloc ?_ _ | with_reducible refine Gr.more ?_ _ _ | with_reducible refine Gr.setCell ?_ (by dsimp only; (try simp only [World.size_more, World.size_alloc, World.size_setCell, World.size_drew, Array.size_append]); omega) _ | with_reducible refine Gr.drew ?_))).mono (by (try simp only [World.size_more, World.size_alloc, World.size_setCell, World.size_drew, Array.size_append]); omega) (by (try simp only [World.size_more, World.size_alloc, World.size_setCell, World.size_drew, Array.size_append]); omega)⟩
  have h3 : SpBx 0 W1 (w.heap.size + 1) P' B' := SpBx.up g1 ⟨p', pc', q', qc', Bx.mk2 (by go_simp) (by go_simp) (by go_simp) (by go_simp), (hS'.up (by repeat (first | (with_reducible exact Gr.refl _) | with_reducible refine Gr.alloc ?_ _ | with_reducible refine Gr.more ?_ _ _ | with_reducible refine Gr.setCell ?_ (by dsimp only; (try simp only [World.size_more, World.size_alloc, World.size_setCell, World.size_drew, Array.size_append]); omega) _ | with_reducible refine Gr.drew ?_))).mono (by (try simp only [World.size_more, World.size_alloc, World.size_setCell, World.size_drew, Array.size_append]); omega) (by (try simp only [World.size_more, World.size_alloc, World.size_setCell, World.size_drew, Array.size_append]); omega)⟩
  have hG : Gr w.heap.size w W1 := Gr.trans (by repeat (first | (with_reducible exact Gr.refl _) | with_reducible refine Gr.alloc ?_ _ | with_reducible refine Gr.more ?_ _ _ | with_reducible refine Gr.setCell ?_ (by dsimp only; (try simp only [World.size_more, World.size_alloc, World.size_setCell, World.size_drew, Array.size_append]); omega) _ | with_reducible refine Gr.drew ?_)) g1
  clear g1
  go_upto_region 2 with fail
  refine chg_r2 h2 h3 H1 ?_
  intro _ _ _ _ _ _ y6  W2 g2 nq6
  replace h2 := SpBx.up g2 h2
  replace h3 := SpBx.up g2 h3
  have h6 := nq6
  clear nq6
  replace hG := Gr.trans hG g2
  clear g2
  go_wp2_with fail
  refine bodyPost_ret (v := .bool true) (by simp [results, Try.results12, go_sem]) rfl ⟨rfl, Gr.below (by repeat (first | (with_reducible exact hG) | with_reducible refine Gr.alloc ?_ _ | with_reducible refine Gr.more ?_ _ _ | with_reducible refine Gr.setCell ?_ (by dsimp only; (try simp only [World.size_more, World.size_alloc, World.size_setCell, World.size_drew, Array.size_append]); omega) _ | with_reducible refine Gr.drew ?_))⟩

set_option maxRecDepth 100000 in
set_option maxHeartbeats 16000000 in
theorem chg_big (w : World) (P : List Int) (p : Option Addr) (pc : Nat) (B : List UInt8) (q : Option Addr) (qc : Nat) (hS : SpIn 0 w.heap.size w P p B q qc) (p' : Option Addr) (pc' : Nat) (B' : List UInt8) (q' : Option Addr) (qc' : Nat) (hS' : SpIn 0 w.heap.size w P p' B' q' qc') {D : List Nat} {r : Bool} (H1 : CDiff P B P B' D 0) (H2 : CDiff P B' P B D 0) (H3 : CDiff P B P B [] 0) (HS : CSame P B P B' r) (hr : ((D.length : Int) == 0) = r) (hDl : D.length ≤ 4096) (hbig : 200 < D.length) : Calls Try.prog 12 #[spV p P.length pc q B.length qc, spV p' P.length pc' q' B'.length qc'] w fun e w' => e = .returned (.bool true) ∧ Below w.heap.size w w' := by
  go_enter Try.func12, Try.ntmps12
  go_upto_region 1 with fail
  refine chg_r1 msane_any ?_
  intro _ W1 g1
  have h2 : SpBx 0 W1 (w.heap.size) P B := SpBx.up g1 ⟨p, pc, q, qc, Bx.mk2 (by go_simp) (by go_simp) (by go_simp) (by go_simp), (hS.up (by repeat (first | (with_reducible exact Gr.refl _) | with_reducible refine Gr.alloc ?_ _ | with_reducible refine Gr.more ?_ _ _ | with_reducible refine Gr.setCell ?_ (by dsimp only; (try simp only [World.size_more, World.size_alloc, World.size_setCell, World.size_drew, Array.size_append]); omega) _ | with_reducible refine Gr.drew ?_))).mono (by (try simp only [World.size_more, World.size_alloc, World.size_setCell, World.size_drew, Array.size_append]); omega) (by (try simp only [World.size_more, World.size_alloc, World.size_setCell, World.size_drew, Array.size_append]); omega)⟩
  have h3 : SpBx 0 W1 (w.heap.size + 1) P B' := SpBx.up g1 ⟨p', pc', q', qc', Bx.mk2 (by go_simp) (by go_simp) (by go_simp) (by go_simp), (hS'.up (by repeat (first | (with_reducible exact Gr.refl _) | with_reducible refine Gr.alloc ?_ _ | with_reducible refine Gr.more ?_ _ _ | with_reducible refine Gr.setCell ?_ (by dsimp only; (try simp only [World.size_more, World.size_alloc, World.size_setCell, World.size_drew, Array.size_append]); omega) _ | with_reducible refine Gr.drew ?_))).mono (by (try simp only [World.size_more, World.size_alloc, World.size_setCell, World.size_drew, Array.size_append]); omega) (by (try simp only [World.size_more, World.size_alloc, World.size_setCell, World.size_drew, Array.size_append]); omega)⟩
  have hG : Gr w.heap.size w W1 := Gr.trans (by repeat (first | (with_reducible exact Gr.refl _) | with_reducible refine Gr.alloc ?_ _ | with_reducible refine Gr.more ?_ _ _ | with_reducible refine Gr.setCell ?_ (by dsimp only; (try simp only [World.size_more, World.size_alloc, World.size_setCell, World.size_drew, Array.size_append]); omega) _ | with_reducible refine Gr.drew ?_)) g1
  clear g1
  go_upto_region 2 with fail
  refine chg_r2 h2 h3 H1 ?_
  intro _ _ _ _ _ _ y6  W2 g2 nq6
  replace h2 := SpBx.up g2 h2
  replace h3 := SpBx.up g2 h3
  have h6 := nq6
  clear nq6
  replace hG := Gr.trans hG g2
  clear g2
  go_upto_region 5 with fail
  refine chg_r5 h2 h3 H2 ?_
  intro _ _ _ _ _ _ y8  W3 g3 nq8
  replace h2 := SpBx.up g3 h2
  replace h3 := SpBx.up g3 h3
  replace h6 := DfVal.up g3 h6
  have h8 := nq8
  clear nq8
  replace hG := Gr.trans hG g3
  clear g3
  go_upto_region 6 with fail
  refine chg_r6 h2 H3 ?_
  intro _ _ _ _ _ _ y10  W4 g4 nq10
  replace h2 := SpBx.up g4 h2
  replace h3 := SpBx.up g4 h3
  replace h6 := DfVal.up g4 h6
  replace h8 := DfVal.up g4 h8
  have h10 := nq10
  clear nq10
  replace hG := Gr.trans hG g4
  clear g4
  go_upto_region 7 with fail
  refine chg_r7 h2 h3 h6 h8 h10 HS hr ?_
  intro _ _ _ _ _ _ _ _ _ _ _ _ _ _ _ _ _ _ _ _ _ _ _ _ _ _  W5 g5
  replace h2 := SpBx.up g5 h2
  replace h3 := SpBx.up g5 h3
  replace h6 := DfVal.up g5 h6
  replace h8 := DfVal.up g5 h8
  replace h10 := DfVal.up g5 h10
  replace hG := Gr.trans hG g5
  clear g5
  clear h10
  have o3 := h3.lt
  obtain ⟨p6, c6, rfl, hD6⟩ := h6
  obtain ⟨p8, c8, rfl, hD8⟩ := h8
  have h6 : DfVal W5 (.slice p6 D.length c6) B B' D := ⟨p6, c6, rfl, hD6⟩
  have h8 : DfVal W5 (.slice p8 D.length c8) B' B D := ⟨p8, c8, rfl, hD8⟩
  clear hD6 hD8
  have ho6 := DfVal.lt h6
  have ho8 := DfVal.lt h8
  go_upto_region 9 with fail
  refine chg_r9 h2 ?_
  intro _ b12 W6 g6 ge12 n12
  replace h2 := SpBx.up g6 h2
  replace h3 := SpBx.up g6 h3
  replace h6 := DfVal.up g6 h6
  replace h8 := DfVal.up g6 h8
  have h12 := n12
  clear n12
  replace hG := Gr.trans hG g6
  clear g6
  have hlt6 : D ≠ [] → ∀ b, p6 = some ⟨b, 0, none⟩ → b < b12 := fun hn b e => by have := ho6 hn b e; omega
  have hlt8 : D ≠ [] → ∀ b, p8 = some ⟨b, 0, none⟩ → b < b12 := fun hn b e => by have := ho8 hn b e; omega
  have o12a : w.heap.size + 1 < b12 := by omega
  clear ho6 ho8 ge12 o3
  go_wp2_with fail
  go_loopw [13] (fun i wr => ∃ k : Nat, k ≤ D.length ∧ i = .int .i64 (k : Int) ∧ SpBx 0 wr (w.heap.size) P B ∧ SpBx 0 wr (w.heap.size + 1) P B' ∧ DfVal wr (.slice p6 D.length c6) B B' D ∧ DfVal wr (.slice p8 D.length c8) B' B D ∧ SpBxA wr b12 P (apD B' (D.take k) B) ∧ Gr w.heap.size w wr) (fun i _ => D.length - (intOf i).toNat)
  case atStart => exact ⟨0, Nat.zero_le _, rfl, h2, h3, h6, h8, h12, hG⟩
  case round =>
  clear h2 h3 h6 h8 h12 hG
  obtain ⟨k, hk, rfl, h2, h3, h6, h8, h12, hG⟩ := hrel
  have hb1 : ¬ (D.length : Int) ≤ 200 := by omega
  have hb2 : (200 : Int) < (D.length : Int) := by omega
  have hb3 : 200 < D.length := hbig
  by_cases hki : (k : Int) < (D.length : Int)
  · go_wp2_with fail
    refine bodyPost_ret (v := .bool true) (by simp [results, Try.results12, go_sem]) rfl ⟨rfl, Gr.below (by repeat (first | (with_reducible exact hG) | with_reducible refine Gr.alloc ?_ _ | with_reducible refine Gr.more ?_ _ _ | with_reducible refine Gr.setCell ?_ (by dsimp only; (try simp only [World.size_more, World.size_alloc, World.size_setCell, World.size_drew, Array.size_append]); omega) _ | with_reducible refine Gr.drew ?_))⟩
  · go_wp2_with fail
    refine bodyPost_ret (v := .bool true) (by simp [results, Try.results12, go_sem]) rfl ⟨rfl, Gr.below (by repeat (first | (with_reducible exact hG) | with_reducible refine Gr.alloc ?_ _ | with_reducible refine Gr.more ?_ _ _ | with_reducible refine Gr.setCell ?_ (by dsimp only; (try simp only [World.size_more, World.size_alloc, World.size_setCell, World.size_drew, Array.size_append]); omega) _ | with_reducible refine Gr.drew ?_))⟩

set_option maxRecDepth 100000 in
set_option maxHeartbeats 16000000 in
theorem chg_small (w : World) (P : List Int) (p : Option Addr) (pc : Nat) (B : List UInt8) (q : Option Addr) (qc : Nat) (hS : SpIn 0 w.heap.size w P p B q qc) (p' : Option Addr) (pc' : Nat) (B' : List UInt8) (q' : Option Addr) (qc' : Nat) (hS' : SpIn 0 w.heap.size w P p' B' q' qc') {D : List Nat} {r : Bool} (H1 : CDiff P B P B' D 0) (H2 : CDiff P B' P B D 0) (H3 : CDiff P B P B [] 0) (HS : CSame P B P B' r) (hr : ((D.length : Int) == 0) = r) (hDl : D.length ≤ 4096) (hsm : D.length ≤ 200) (HO : Hid (∀ k (h : k < D.length), ((((B.getD D[k] 0).toNat : Int)) == (((B'.getD D[k] 0).toNat : Int))) = false)) (HSO : Hid (∀ j (h : j + 1 < D.length), ((D[j] : Nat) : Int) < ((D[j + 1] : Nat) : Int))) (HPK : Hid (∀ k (h : k < D.length), CPoke P (apD B' (D.take k) B) ((D[k] : Nat) : Int) [B'.getD D[k] 0] P ((apD B' (D.take k) B).set D[k] (B'.getD D[k] 0)) 0 0 0)) (HAL : Hid (apD B' D B = B')) (HS2 : CSame P B' P B' true) : Calls Try.prog 12 #[spV p P.length pc q B.length qc, spV p' P.length pc' q' B'.length qc'] w fun e w' => e = .returned (.bool true) ∧ Below w.heap.size w w' := by
  go_enter Try.func12, Try.ntmps12
  go_upto_region 1 with fail
  refine chg_r1 msane_any ?_
  intro _ W1 g1
  have h2 : SpBx 0 W1 (w.heap.size) P B := SpBx.up g1 ⟨p, pc, q, qc, Bx.mk2 (by go_simp) (by go_simp) (by go_simp) (by go_simp), (hS.up (by repeat (first | (with_reducible exact Gr.refl _) | with_reducible refine Gr.alloc ?_ _ | with_reducible refine Gr.more ?_ _ _ | with_reducible refine Gr.setCell ?_ (by dsimp only; (try simp only [World.size_more, World.size_alloc, World.size_setCell, World.size_drew, Array.size_append]); omega) _ | with_reducible refine Gr.drew ?_))).mono (by (try simp only [World.size_more, World.size_alloc, World.size_setCell, World.size_drew, Array.size_append]); omega) (by (try simp only [World.size_more, World.size_alloc, World.size_setCell, World.size_drew, Array.size_append]); omega)⟩
  have h3 : SpBx 0 W1 (w.heap.size + 1) P B' := SpBx.up g1 ⟨p', pc', q', qc', Bx.mk2 (by go_simp) (by go_simp) (by go_simp) (by go_simp), (hS'.up (by repeat (first | (with_reducible exact Gr.refl _) | with_reducible refine Gr.alloc ?_ _ | with_reducible refine Gr.more ?_ _ _ | with_reducible refine Gr.setCell ?_ (by dsimp only; (try simp only [World.size_more, World.size_alloc, World.size_setCell, World.size_drew, Array.size_append]); omega) _ | with_reducible refine Gr.drew ?_))).mono (by (try simp only [World.size_more, World.size_alloc, World.size_setCell, World.size_drew, Array.size_append]); omega) (by (try simp only [World.size_more, World.size_alloc, World.size_setCell, World.size_drew, Array.size_append]); omega)⟩
  have hG : Gr w.heap.size w W1 := Gr.trans (by repeat (first | (with_reducible exact Gr.refl _) | with_reducible refine Gr.alloc ?_ _ | with_reducible refine Gr.more ?_ _ _ | with_reducible refine Gr.setCell ?_ (by dsimp only; (try simp only [World.size_more, World.size_alloc, World.size_setCell, World.size_drew, Array.size_append]); omega) _ | with_reducible refine Gr.drew ?_)) g1
  clear g1
  go_upto_region 2 with fail
  refine chg_r2 h2 h3 H1 ?_
  intro _ _ _ _ _ _ y6  W2 g2 nq6
  replace h2 := SpBx.up g2 h2
  replace h3 := SpBx.up g2 h3
  have h6 := nq6
  clear nq6
  replace hG := Gr.trans hG g2
  clear g2
  go_upto_region 5 with fail
  refine chg_r5 h2 h3 H2 ?_
  intro _ _ _ _ _ _ y8  W3 g3 nq8
  replace h2 := SpBx.up g3 h2
  replace h3 := SpBx.up g3 h3
  replace h6 := DfVal.up g3 h6
  have h8 := nq8
  clear nq8
  replace hG := Gr.trans hG g3
  clear g3
  go_upto_region 6 with fail
  refine chg_r6 h2 H3 ?_
  intro _ _ _ _ _ _ y10  W4 g4 nq10
  replace h2 := SpBx.up g4 h2
  replace h3 := SpBx.up g4 h3
  replace h6 := DfVal.up g4 h6
  replace h8 := DfVal.up g4 h8
  have h10 := nq10
  clear nq10
  replace hG := Gr.trans hG g4
  clear g4
  go_upto_region 7 with fail
  refine chg_r7 h2 h3 h6 h8 h10 HS hr ?_
  intro _ _ _ _ _ _ _ _ _ _ _ _ _ _ _ _ _ _ _ _ _ _ _ _ _ _  W5 g5
  replace h2 := SpBx.up g5 h2
  replace h3 := SpBx.up g5 h3
  replace h6 := DfVal.up g5 h6
  replace h8 := DfVal.up g5 h8
  replace h10 := DfVal.up g5 h10
  replace hG := Gr.trans hG g5
  clear g5
  clear h10
  have o3 := h3.lt
  obtain ⟨p6, c6, rfl, hD6⟩ := h6
  obtain ⟨p8, c8, rfl, hD8⟩ := h8
  have h6 : DfVal W5 (.slice p6 D.length c6) B B' D := ⟨p6, c6, rfl, hD6⟩
  have h8 : DfVal W5 (.slice p8 D.length c8) B' B D := ⟨p8, c8, rfl, hD8⟩
  clear hD6 hD8
  have ho6 := DfVal.lt h6
  have ho8 := DfVal.lt h8
  go_upto_region 9 with fail
  refine chg_r9 h2 ?_
  intro _ b12 W6 g6 ge12 n12
  replace h2 := SpBx.up g6 h2
  replace h3 := SpBx.up g6 h3
  replace h6 := DfVal.up g6 h6
  replace h8 := DfVal.up g6 h8
  have h12 := n12
  clear n12
  replace hG := Gr.trans hG g6
  clear g6
  have hlt6 : D ≠ [] → ∀ b, p6 = some ⟨b, 0, none⟩ → b < b12 := fun hn b e => by have := ho6 hn b e; omega
  have hlt8 : D ≠ [] → ∀ b, p8 = some ⟨b, 0, none⟩ → b < b12 := fun hn b e => by have := ho8 hn b e; omega
  have o12a : w.heap.size + 1 < b12 := by omega
  clear ho6 ho8 ge12 o3
  go_wp2_with fail
  go_loopw [13] (fun i wr => ∃ k : Nat, k ≤ D.length ∧ i = .int .i64 (k : Int) ∧ SpBx 0 wr (w.heap.size) P B ∧ SpBx 0 wr (w.heap.size + 1) P B' ∧ DfVal wr (.slice p6 D.length c6) B B' D ∧ DfVal wr (.slice p8 D.length c8) B' B D ∧ SpBxA wr b12 P (apD B' (D.take k) B) ∧ Gr w.heap.size w wr) (fun i _ => D.length - (intOf i).toNat)
  case atStart => exact ⟨0, Nat.zero_le _, rfl, h2, h3, h6, h8, h12, hG⟩
  case round =>
  clear h2 h3 h6 h8 h12 hG
  obtain ⟨k, hk, rfl, h2, h3, h6, h8, h12, hG⟩ := hrel
  have hb1 : (D.length : Int) ≤ 200 := by omega
  have hb2 : ¬ (200 : Int) < (D.length : Int) := by omega
  by_cases hlt : k < D.length
  · have hki : (k : Int) < (D.length : Int) := by omega
    have hk0 : (0 : Int) ≤ (k : Int) := by omega
    have hw1 : wrap64 ((k : Int) + 1) = (k : Int) + 1 := by unfold wrap64; omega
    have hne : D ≠ [] := fun e => by rw [e] at hlt; simp at hlt
    obtain ⟨b6, hb6, hc6⟩ := df_row h6 hne
    obtain ⟨b8, hb8, hc8⟩ := df_row h8 hne
    subst hb6 hb8
    have d6 := hc6 k hlt
    have d8 := hc8 k hlt
    have ho := HO.out k hlt
    have HX := HPK.out k hlt
    go_upto_region 13 with fail
    by_cases hkz : k = 0
    · have hkz1 : ¬ 0 < k := by omega
      have hkz2 : decide (0 < k) = false := decide_eq_false hkz1
      clear hkz
      refine chg_r13z d6.1 d6.2.1 d6.2.2 d8.1 d8.2.1 d8.2.2 hki hk0 ho hkz1 hkz2 ?_
      intro _ _ _ _ _ _ _ _ _ _ _ _ _ _ _ _ _ _ _ _ _ _ _ _ _ _ _ _ _ _ _ _ _ _ _ _ _ _ _ _ _ _ _ _ _ _ _ _ _ _ _ W31 g31
      replace h2 := SpBx.up g31 h2
      replace h3 := SpBx.up g31 h3
      replace h6 := DfVal.up g31 h6
      replace h8 := DfVal.up g31 h8
      replace h12 := SpBxA.up g31 h12
      replace hG := Gr.trans hG g31
      have d60 := grC g31 d6.1
      have d62 := grC g31 d6.2.2
      clear g31 d6 d8 hc6 hc8
      have o12 := SpBxA.lt h12
      go_upto_region 15 with fail
      refine chg_r15 h12 d60 d62 hki hk0 HX ?_
      intro _ _ _ _ _ _ _ _ _ _ _ _ _ _ _ _ _ b14 b15 W32 g32 ge14 n14 ge15 n15
      replace h2 := SpBx.up g32 h2
      replace h3 := SpBx.up g32 h3
      replace h6 := DfVal.up g32 h6
      replace h8 := DfVal.up g32 h8
      replace h12 := SpBxA.up g32 h12
      have h14 := n14
      clear n14
      have h15 := n15
      clear n15
      replace hG := Gr.trans hG g32
      clear g32
      have c15_0 := h15.get 0 _ rfl
      have c15_1 := h15.get 1 _ rfl
      clear d60 d62
      go_upto_region 18 with fail
      clear c15_0 c15_1
      go_upto_region 18 with fail
      refine chg_r18 h14 h12 o12 ?_
      intro _  W33 g33 n12
      replace h2 := h2.caught g33 (by omega) (by omega)
      replace h3 := h3.caught g33 (by omega) (by omega)
      replace h6 := h6.caught g33 (fun hn b e => Nat.ne_of_lt (hlt6 hn b e))
      replace h8 := h8.caught g33 (fun hn b e => Nat.ne_of_lt (hlt8 hn b e))
      replace h12 := n12
      clear n12
      clear h14
      clear h15
      replace hG := Gr.caught hG g33 (by omega)
      clear g33
      rw [← apD_step B' B D k hlt] at h12
      go_wp2_with fail
      go_roundw
      case rel => exact ⟨k + 1, hlt, by first | rfl | go_num, h2, h3, h6, h8, h12, hG⟩
      case measure =>
        first | rw [hw1] | skip
        show D.length - (((k : Nat) : Int) + 1).toNat < D.length - ((k : Nat) : Int).toNat
        omega
    · obtain ⟨j, rfl⟩ : ∃ j, k = j + 1 := ⟨k - 1, by omega⟩
      have hsub : wrap64 (((j + 1 : Nat) : Int) - 1) = (j : Int) := by unfold wrap64; omega
      have e0 := (hc6 j (by omega)).1
      have hj0 : (0 : Int) ≤ (j : Int) := by omega
      have hj1 : (j : Int) < (D.length : Int) := by omega
      have hso : ¬ ((D[j + 1] : Nat) : Int) ≤ ((D[j] : Nat) : Int) := by have := HSO.out j hlt; omega
      have hso2 := decide_eq_false hso
      have hkn : 0 < j + 1 := by omega
      clear hkz
      refine chg_r13s d6.1 d6.2.1 d6.2.2 d8.1 d8.2.1 d8.2.2 e0 hki hk0 hj0 hj1 hsub ((wrapI64 _).trans hsub) ho hso hso2 hkn ?_
      intro _ _ _ _ _ _ _ _ _ _ _ _ _ _ _ _ _ _ _ _ _ _ _ _ _ _ _ _ _ _ _ _ _ _ _ _ _ _ _ _ _ _ _ _ _ _ _ _ _ _ _ W31 g31
      replace h2 := SpBx.up g31 h2
      replace h3 := SpBx.up g31 h3
      replace h6 := DfVal.up g31 h6
      replace h8 := DfVal.up g31 h8
      replace h12 := SpBxA.up g31 h12
      replace hG := Gr.trans hG g31
      have d60 := grC g31 d6.1
      have d62 := grC g31 d6.2.2
      clear e0 hj0 hj1 hso hso2 hsub g31 d6 d8 hc6 hc8
      have o12 := SpBxA.lt h12
      go_upto_region 15 with fail
      refine chg_r15 h12 d60 d62 hki hk0 HX ?_
      intro _ _ _ _ _ _ _ _ _ _ _ _ _ _ _ _ _ b14 b15 W32 g32 ge14 n14 ge15 n15
      replace h2 := SpBx.up g32 h2
      replace h3 := SpBx.up g32 h3
      replace h6 := DfVal.up g32 h6
      replace h8 := DfVal.up g32 h8
      replace h12 := SpBxA.up g32 h12
      have h14 := n14
      clear n14
      have h15 := n15
      clear n15
      replace hG := Gr.trans hG g32
      clear g32
      have c15_0 := h15.get 0 _ rfl
      have c15_1 := h15.get 1 _ rfl
      clear d60 d62
      go_upto_region 18 with fail
      clear c15_0 c15_1
      go_upto_region 18 with fail
      refine chg_r18 h14 h12 o12 ?_
      intro _  W33 g33 n12
      replace h2 := h2.caught g33 (by omega) (by omega)
      replace h3 := h3.caught g33 (by omega) (by omega)
      replace h6 := h6.caught g33 (fun hn b e => Nat.ne_of_lt (hlt6 hn b e))
      replace h8 := h8.caught g33 (fun hn b e => Nat.ne_of_lt (hlt8 hn b e))
      replace h12 := n12
      clear n12
      clear h14
      clear h15
      replace hG := Gr.caught hG g33 (by omega)
      clear g33
      rw [← apD_step B' B D (j + 1) hlt] at h12
      go_wp2_with fail
      go_roundw
      case rel => exact ⟨(j + 1) + 1, hlt, by first | rfl | go_num, h2, h3, h6, h8, h12, hG⟩
      case measure =>
        first | rw [hw1] | skip
        show D.length - ((((j + 1) : Nat) : Int) + 1).toNat < D.length - (((j + 1) : Nat) : Int).toNat
        omega
  · obtain rfl : k = D.length := by omega
    have hki : ¬ (D.length : Int) < (D.length : Int) := by omega
    rw [List.take_length, HAL.out] at h12
    clear hlt hk
    obtain ⟨p12, pc12, q12, qc12, x12, s12⟩ := h12
    have c12_0 := x12.get 0 _ rfl
    have c12_1 := x12.get 1 _ rfl
    obtain ⟨p3, pc3, q3, qc3, x3, s3⟩ := h3
    have c3_0 := x3.get 0 _ rfl
    have c3_1 := x3.get 1 _ rfl
    have l3 := x3.lt
    have l12 := x12.lt
    go_wp2_with (go_at_call 24; (refine (HS2 _ _ _ _ _ _ _ _ _ (s12.up (Gr.below (by repeat (first | (with_reducible exact Gr.refl _) | with_reducible refine Gr.alloc ?_ _ | with_reducible refine Gr.more ?_ _ _ | with_reducible refine Gr.setCell ?_ (by dsimp only; (try simp only [World.size_more, World.size_alloc, World.size_setCell, World.size_drew, Array.size_append]); omega) _ | with_reducible refine Gr.drew ?_)))) (s3.at.up (Gr.below (by repeat (first | (with_reducible exact Gr.refl _) | with_reducible refine Gr.alloc ?_ _ | with_reducible refine Gr.more ?_ _ _ | with_reducible refine Gr.setCell ?_ (by dsimp only; (try simp only [World.size_more, World.size_alloc, World.size_setCell, World.size_drew, Array.size_append]); omega) _ | with_reducible refine Gr.drew ?_))))).mono ?_); rintro e w1 ⟨rfl, hb⟩; obtain ⟨os, n, rfl⟩ := Below.moreE hb; clear hb)
    refine bodyPost_ret (v := .bool true) (by simp [results, Try.results12, go_sem]) rfl ⟨rfl, Gr.below (by repeat (first | (with_reducible exact hG) | with_reducible refine Gr.alloc ?_ _ | with_reducible refine Gr.more ?_ _ _ | with_reducible refine Gr.setCell ?_ (by dsimp only; (try simp only [World.size_more, World.size_alloc, World.size_setCell, World.size_drew, Array.size_append]); omega) _ | with_reducible refine Gr.drew ?_))⟩

end Go.Proofs.Ytbfakdbhmpjmlaa
