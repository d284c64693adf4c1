/-
  The law MemStored: its walks (made by genmb.py).
-/
import Derived.Test.YtbfakdbhmpjmlaaMa
namespace Go.Proofs.Ytbfakdbhmpjmlaa
open Go.RowKit

set_option maxRecDepth 100000 in
set_option maxHeartbeats 16000000 in
theorem stored_e1 (w : World) (P : List Int) (p : Option Addr) (pc : Nat) (B : List UInt8) (q : Option Addr) (qc : Nat) (hS : SpIn 0 w.heap.size w P p B q qc) (a z : Int) (g : Bool) (v b t : Int) (h : Bool) (y : Int) {P' : List Int} {B' : List UInt8} {K A E : Int} (H1 : CStore P B a z g v P' B' K A E) (hE : (E != 0) = true) : Calls Try.prog 7 #[spV p P.length pc q B.length qc, .agg #[.int .i64 a, .int .i64 z, .bool g, .int .i64 v], .agg #[.int .i64 b, .int .i64 t, .bool h, .int .i64 y]] w fun e w' => e = .returned (.bool true) ∧ Below w.heap.size w w' := by
  go_enter Try.func7, Try.ntmps7
  go_upto_region 1 with fail
  refine stored_r1 msane_any ?_
  intro _ W1 g1
  have h3 : SpBx 0 W1 (w.heap.size) P B := SpBx.up g1 ⟨p, pc, q, qc, Bx.mk2 (by go_simp) (by go_simp) (by go_simp) (by go_simp), (hS.up (by repeat (first | (with_reducible exact Gr.refl _) | with_reducible refine Gr.alloc ?_ _ | with_reducible refine Gr.more ?_ _ _ | with_reducible refine Gr.setCell ?_ (by dsimp only; (try simp only [World.size_more, World.size_alloc, World.size_setCell, World.size_drew, Array.size_append]); omega) _ | with_reducible refine Gr.drew ?_))).mono (by (try simp only [World.size_more, World.size_alloc, World.size_setCell, World.size_drew, Array.size_append]); omega) (by (try simp only [World.size_more, World.size_alloc, World.size_setCell, World.size_drew, Array.size_append]); omega)⟩
  have h4 : Bx W1 (w.heap.size + 1) [.int .i64 a, .int .i64 z, .bool g, .int .i64 v] := Bx.up g1 (Bx.mk4 (by go_simp) (by go_simp) (by go_simp) (by go_simp) (by go_simp) (by go_simp) (by go_simp) (by go_simp))
  have h5 : Bx W1 (w.heap.size + 1 + 1) [.int .i64 b, .int .i64 t, .bool h, .int .i64 y] := Bx.up g1 (Bx.mk4 (by go_simp) (by go_simp) (by go_simp) (by go_simp) (by go_simp) (by go_simp) (by go_simp) (by go_simp))
  have hG : Gr w.heap.size w W1 := Gr.trans (by repeat (first | (with_reducible exact Gr.refl _) | with_reducible refine Gr.alloc ?_ _ | with_reducible refine Gr.more ?_ _ _ | with_reducible refine Gr.setCell ?_ (by dsimp only; (try simp only [World.size_more, World.size_alloc, World.size_setCell, World.size_drew, Array.size_append]); omega) _ | with_reducible refine Gr.drew ?_)) g1
  clear g1
  go_upto_region 2 with fail
  refine stored_r2 h3 h4 H1 ?_
  intro _ _ _ _ _ _ _ _ _ _ _ _ b8 b9 W2 g2 ge8 n8 ge9 lt9 n9
  replace h3 := SpBx.up g2 h3
  replace h4 := Bx.up g2 h4
  replace h5 := Bx.up g2 h5
  have h8 := n8
  clear n8
  have h9 := n9
  clear n9
  replace hG := Gr.trans hG g2
  clear g2
  have c9_0 := h9.get 0 _ rfl
  have c9_1 := h9.get 1 _ rfl
  go_wp2_with fail
  refine bodyPost_ret (v := .bool true) (by simp [results, Try.results7, go_sem]) rfl ⟨rfl, Gr.below (by repeat (first | (with_reducible exact hG) | with_reducible refine Gr.alloc ?_ _ | with_reducible refine Gr.more ?_ _ _ | with_reducible refine Gr.setCell ?_ (by dsimp only; (try simp only [World.size_more, World.size_alloc, World.size_setCell, World.size_drew, Array.size_append]); omega) _ | with_reducible refine Gr.drew ?_))⟩

set_option maxRecDepth 100000 in
set_option maxHeartbeats 16000000 in
theorem stored_e2 (w : World) (P : List Int) (p : Option Addr) (pc : Nat) (B : List UInt8) (q : Option Addr) (qc : Nat) (hS : SpIn 0 w.heap.size w P p B q qc) (a z : Int) (g : Bool) (v b t : Int) (h : Bool) (y : Int) {P' : List Int} {B' : List UInt8} {K A : Int} (H1 : CStore P B a z g v P' B' K A 0) (hK : (K != 0) = true) : Calls Try.prog 7 #[spV p P.length pc q B.length qc, .agg #[.int .i64 a, .int .i64 z, .bool g, .int .i64 v], .agg #[.int .i64 b, .int .i64 t, .bool h, .int .i64 y]] w fun e w' => e = .returned (.bool true) ∧ Below w.heap.size w w' := by
  go_enter Try.func7, Try.ntmps7
  go_upto_region 1 with fail
  refine stored_r1 msane_any ?_
  intro _ W1 g1
  have h3 : SpBx 0 W1 (w.heap.size) P B := SpBx.up g1 ⟨p, pc, q, qc, Bx.mk2 (by go_simp) (by go_simp) (by go_simp) (by go_simp), (hS.up (by repeat (first | (with_reducible exact Gr.refl _) | with_reducible refine Gr.alloc ?_ _ | with_reducible refine Gr.more ?_ _ _ | with_reducible refine Gr.setCell ?_ (by dsimp only; (try simp only [World.size_more, World.size_alloc, World.size_setCell, World.size_drew, Array.size_append]); omega) _ | with_reducible refine Gr.drew ?_))).mono (by (try simp only [World.size_more, World.size_alloc, World.size_setCell, World.size_drew, Array.size_append]); omega) (by (try simp only [World.size_more, World.size_alloc, World.size_setCell, World.size_drew, Array.size_append]); omega)⟩
  have h4 : Bx W1 (w.heap.size + 1) [.int .i64 a, .int .i64 z, .bool g, .int .i64 v] := Bx.up g1 (Bx.mk4 (by go_simp) (by go_simp) (by go_simp) (by go_simp) (by go_simp) (by go_simp) (by go_simp) (by go_simp))
  have h5 : Bx W1 (w.heap.size + 1 + 1) [.int .i64 b, .int .i64 t, .bool h, .int .i64 y] := Bx.up g1 (Bx.mk4 (by go_simp) (by go_simp) (by go_simp) (by go_simp) (by go_simp) (by go_simp) (by go_simp) (by go_simp))
  have hG : Gr w.heap.size w W1 := Gr.trans (by repeat (first | (with_reducible exact Gr.refl _) | with_reducible refine Gr.alloc ?_ _ | with_reducible refine Gr.more ?_ _ _ | with_reducible refine Gr.setCell ?_ (by dsimp only; (try simp only [World.size_more, World.size_alloc, World.size_setCell, World.size_drew, Array.size_append]); omega) _ | with_reducible refine Gr.drew ?_)) g1
  clear g1
  go_upto_region 2 with fail
  refine stored_r2 h3 h4 H1 ?_
  intro _ _ _ _ _ _ _ _ _ _ _ _ b8 b9 W2 g2 ge8 n8 ge9 lt9 n9
  replace h3 := SpBx.up g2 h3
  replace h4 := Bx.up g2 h4
  replace h5 := Bx.up g2 h5
  have h8 := n8
  clear n8
  have h9 := n9
  clear n9
  replace hG := Gr.trans hG g2
  clear g2
  have c9_0 := h9.get 0 _ rfl
  have c9_1 := h9.get 1 _ rfl
  go_wp2_with fail
  refine bodyPost_ret (v := .bool true) (by simp [results, Try.results7, go_sem]) rfl ⟨rfl, Gr.below (by repeat (first | (with_reducible exact hG) | with_reducible refine Gr.alloc ?_ _ | with_reducible refine Gr.more ?_ _ _ | with_reducible refine Gr.setCell ?_ (by dsimp only; (try simp only [World.size_more, World.size_alloc, World.size_setCell, World.size_drew, Array.size_append]); omega) _ | with_reducible refine Gr.drew ?_))⟩

set_option maxRecDepth 100000 in
set_option maxHeartbeats 16000000 in
theorem stored_na (w : World) (P : List Int) (p : Option Addr) (pc : Nat) (B : List UInt8) (q : Option Addr) (qc : Nat) (hS : SpIn 0 w.heap.size w P p B q qc) (a z : Int) (g : Bool) (v b t : Int) (h : Bool) (y : Int) {P' : List Int} {B' X : List UInt8} {D : List Nat} {V : Int} (H1 : CStore P B a z g v P' B' 0 0 0) (HW : ∀ w, Calls Try.prog 42 #[tyV z g, .int .i64 v] w fun e w' => e = .returned (.tuple #[.int .i64 V, .int .i64 0]) ∧ Below w.heap.size w w') (HL : CLoad P' B' a z g V 0 0 0) (HP : CPeekB P' B' a z X 0 0 0) (HF : ∀ w gb c, BS w gb X → Calls Try.prog 43 #[tyV z g, .slice (some ⟨gb, 0, none⟩) X.length c] w fun e w' => e = .returned (.tuple #[.int .i64 V, .int .i64 0]) ∧ Below w.heap.size w w') (HD : CDiff P B P' B' D 0) (hR : ∀ k (h : k < D.length), ¬ ((D[k] : Nat) : Int) < a ∧ ¬ wrap64 (a + z) ≤ ((D[k] : Nat) : Int)) (hDl : D.length ≤ 4096) (HA : ∀ w, Calls Try.prog 44 #[.agg #[.int .i64 a, .int .i64 z, .bool g, .int .i64 v], .agg #[.int .i64 b, .int .i64 t, .bool h, .int .i64 y]] w fun e w' => e = .returned (.bool false) ∧ Below w.heap.size w w') : Calls Try.prog 7 #[spV p P.length pc q B.length qc, .agg #[.int .i64 a, .int .i64 z, .bool g, .int .i64 v], .agg #[.int .i64 b, .int .i64 t, .bool h, .int .i64 y]] w fun e w' => e = .returned (.bool true) ∧ Below w.heap.size w w' := by
  go_enter Try.func7, Try.ntmps7
  go_upto_region 1 with fail
  refine stored_r1 msane_any ?_
  intro _ W1 g1
  have h3 : SpBx 0 W1 (w.heap.size) P B := SpBx.up g1 ⟨p, pc, q, qc, Bx.mk2 (by go_simp) (by go_simp) (by go_simp) (by go_simp), (hS.up (by repeat (first | (with_reducible exact Gr.refl _) | with_reducible refine Gr.alloc ?_ _ | with_reducible refine Gr.more ?_ _ _ | with_reducible refine Gr.setCell ?_ (by dsimp only; (try simp only [World.size_more, World.size_alloc, World.size_setCell, World.size_drew, Array.size_append]); omega) _ | with_reducible refine Gr.drew ?_))).mono (by (try simp only [World.size_more, World.size_alloc, World.size_setCell, World.size_drew, Array.size_append]); omega) (by (try simp only [World.size_more, World.size_alloc, World.size_setCell, World.size_drew, Array.size_append]); omega)⟩
  have h4 : Bx W1 (w.heap.size + 1) [.int .i64 a, .int .i64 z, .bool g, .int .i64 v] := Bx.up g1 (Bx.mk4 (by go_simp) (by go_simp) (by go_simp) (by go_simp) (by go_simp) (by go_simp) (by go_simp) (by go_simp))
  have h5 : Bx W1 (w.heap.size + 1 + 1) [.int .i64 b, .int .i64 t, .bool h, .int .i64 y] := Bx.up g1 (Bx.mk4 (by go_simp) (by go_simp) (by go_simp) (by go_simp) (by go_simp) (by go_simp) (by go_simp) (by go_simp))
  have hG : Gr w.heap.size w W1 := Gr.trans (by repeat (first | (with_reducible exact Gr.refl _) | with_reducible refine Gr.alloc ?_ _ | with_reducible refine Gr.more ?_ _ _ | with_reducible refine Gr.setCell ?_ (by dsimp only; (try simp only [World.size_more, World.size_alloc, World.size_setCell, World.size_drew, Array.size_append]); omega) _ | with_reducible refine Gr.drew ?_)) g1
  clear g1
  go_upto_region 2 with fail
  refine stored_r2 h3 h4 H1 ?_
  intro _ _ _ _ _ _ _ _ _ _ _ _ b8 b9 W2 g2 ge8 n8 ge9 lt9 n9
  replace h3 := SpBx.up g2 h3
  replace h4 := Bx.up g2 h4
  replace h5 := Bx.up g2 h5
  have h8 := n8
  clear n8
  have h9 := n9
  clear n9
  replace hG := Gr.trans hG g2
  clear g2
  have c9_0 := h9.get 0 _ rfl
  have c9_1 := h9.get 1 _ rfl
  go_upto_region 5 with fail
  clear c9_0 c9_1
  go_upto_region 5 with fail
  refine stored_r5 h4 HW ?_
  intro _ _ _ _ _ _ _ _  W3 g3
  replace h3 := SpBx.up g3 h3
  replace h4 := Bx.up g3 h4
  replace h5 := Bx.up g3 h5
  replace h8 := SpBx.up g3 h8
  replace h9 := Bx.up g3 h9
  replace hG := Gr.trans hG g3
  clear g3
  go_upto_region 6 with fail
  refine stored_r6 h8 h4 HL ?_
  intro _ _ _ _ _ _ _ _ _ _ b14 W4 g4 ge14 n14
  replace h3 := SpBx.up g4 h3
  replace h4 := Bx.up g4 h4
  replace h5 := Bx.up g4 h5
  replace h8 := SpBx.up g4 h8
  replace h9 := Bx.up g4 h9
  have h14 := n14
  clear n14
  replace hG := Gr.trans hG g4
  clear g4
  go_upto_region 7 with fail
  refine stored_r7 h8 h4 HP ?_
  intro _ _ _ _ _ _ _ _ _ _ _ y16 b17 W5 g5 ge17 n17 nq16
  replace h3 := SpBx.up g5 h3
  replace h4 := Bx.up g5 h4
  replace h5 := Bx.up g5 h5
  replace h8 := SpBx.up g5 h8
  replace h9 := Bx.up g5 h9
  replace h14 := Bx.up g5 h14
  have h17 := n17
  clear n17
  have h16 := nq16
  clear nq16
  replace hG := Gr.trans hG g5
  clear g5
  go_upto_region 8 with fail
  refine stored_r8 h4 h16 HF ?_
  intro _ _ _ _ _ _ _  W6 g6
  replace h3 := SpBx.up g6 h3
  replace h4 := Bx.up g6 h4
  replace h5 := Bx.up g6 h5
  replace h8 := SpBx.up g6 h8
  replace h9 := Bx.up g6 h9
  replace h14 := Bx.up g6 h14
  replace h17 := Bx.up g6 h17
  clear h16
  replace hG := Gr.trans hG g6
  clear g6
  have c14_0 := h14.get 0 _ rfl
  have c14_1 := h14.get 1 _ rfl
  have c17_0 := h17.get 0 _ rfl
  have c17_1 := h17.get 1 _ rfl
  go_upto_region 11 with fail
  clear c14_0 c14_1
  clear c17_0 c17_1
  go_upto_region 11 with fail
  refine stored_r11 h3 h8 HD ?_
  intro _ _ _ _ _ _ y21  W7 g7 nq21
  replace h3 := SpBx.up g7 h3
  replace h4 := Bx.up g7 h4
  replace h5 := Bx.up g7 h5
  replace h8 := SpBx.up g7 h8
  replace h9 := Bx.up g7 h9
  replace h14 := Bx.up g7 h14
  replace h17 := Bx.up g7 h17
  have h21 := nq21
  clear nq21
  replace hG := Gr.trans hG g7
  clear g7
  obtain ⟨lo8, hlo8⟩ : ∃ lo8, SpBx lo8 W7 b8 P' B' := ⟨_, h8⟩
  obtain ⟨p21, c21, rfl, hD21⟩ := h21
  have h21 : DfVal W7 (.slice p21 D.length c21) B B' D := ⟨p21, c21, rfl, hD21⟩
  clear hD21 h8 h9 h14 h17 ge8 ge9 lt9 ge14 ge17
  go_wp2_with fail
  go_loopw [23] (fun i wr => ∃ k : Nat, k ≤ D.length ∧ i = .int .i64 (k : Int) ∧ SpBx 0 wr (w.heap.size) P B ∧ Bx wr (w.heap.size + 1) [.int .i64 a, .int .i64 z, .bool g, .int .i64 v] ∧ Bx wr (w.heap.size + 1 + 1) [.int .i64 b, .int .i64 t, .bool h, .int .i64 y] ∧ SpBx lo8 wr b8 P' B' ∧ DfVal wr (.slice p21 D.length c21) B B' D ∧ Gr w.heap.size w wr) (fun i _ => D.length - (intOf i).toNat)
  case atStart => exact ⟨0, Nat.zero_le _, rfl, h3, h4, h5, hlo8, h21, hG⟩
  case round =>
  clear h3 h4 h5 hlo8 h21 hG
  obtain ⟨k, hk, rfl, h3, h4, h5, h8, h21, hG⟩ := hrel
  by_cases hlt : k < D.length
  · obtain ⟨p2, c2, e2, hD⟩ := h21
    injection e2 with e3 e4 e5
    subst e3 e5
    rcases hD with hD | ⟨bd, rfl, hD⟩
    · subst hD; simp at hlt
    have hki : (k : Int) < (D.length : Int) := by omega
    have hk0 : (0 : Int) ≤ (k : Int) := by omega
    have hw1 : wrap64 ((k : Int) + 1) = (k : Int) + 1 := by unfold wrap64; omega
    obtain ⟨hlow, hhigh⟩ := hR k hlt
    have hc0 := (hD k hlt).1
    have h21 : DfVal wr (.slice (some ⟨bd, 0, none⟩) D.length c21) B B' D := ⟨_, _, rfl, .inr ⟨bd, rfl, hD⟩⟩
    clear hD
    have c4_0 := h4.get 0 _ rfl
    have c4_1 := h4.get 1 _ rfl
    generalize (D[k] : Int) = d at hlow hhigh hc0
    go_upto_region 17 with fail
    refine stored_r17 h4 hc0 hki hk0 (by omega) (wrapI64 _) (by omega) ?_
    intro _ _ _ _ _ _ _ _ _ _ _ _ _ _ _ _ _ _ _ _ _ W21 g21
    replace h3 := SpBx.up g21 h3
    replace h4 := Bx.up g21 h4
    replace h5 := Bx.up g21 h5
    replace h8 := SpBx.up g21 h8
    replace h21 := DfVal.up g21 h21
    replace hG := Gr.trans hG g21
    clear g21 hc0 hlow hhigh c4_0 c4_1
    go_wp2_with fail
    go_roundw
    case rel => exact ⟨k + 1, hlt, by go_num, h3, h4, h5, h8, h21, hG⟩
    case measure => simp [intOf]; omega
  · obtain rfl : k = D.length := by omega
    have hki : ¬ (D.length : Int) < (D.length : Int) := by omega
    clear hR hlt hk
    go_upto_region 19 with fail
    refine stored_r19 h4 h5 HA ?_
    intro _ _ _  W31 g31
    replace h3 := SpBx.up g31 h3
    replace h4 := Bx.up g31 h4
    replace h5 := Bx.up g31 h5
    replace h8 := SpBx.up g31 h8
    replace hG := Gr.trans hG g31
    clear g31
    go_wp2_with fail
    refine bodyPost_ret (v := .bool true) (by simp [results, Try.results7, go_sem]) rfl ⟨rfl, Gr.below (by repeat (first | (with_reducible exact hG) | with_reducible refine Gr.alloc ?_ _ | with_reducible refine Gr.more ?_ _ _ | with_reducible refine Gr.setCell ?_ (by dsimp only; (try simp only [World.size_more, World.size_alloc, World.size_setCell, World.size_drew, Array.size_append]); omega) _ | with_reducible refine Gr.drew ?_))⟩

set_option maxRecDepth 100000 in
set_option maxHeartbeats 16000000 in
theorem stored_ap (w : World) (P : List Int) (p : Option Addr) (pc : Nat) (B : List UInt8) (q : Option Addr) (qc : Nat) (hS : SpIn 0 w.heap.size w P p B q qc) (a z : Int) (g : Bool) (v b t : Int) (h : Bool) (y : Int) {P' : List Int} {B' X : List UInt8} {D : List Nat} {V V1 K A E1 : Int} (H1 : CStore P B a z g v P' B' 0 0 0) (HW : ∀ w, Calls Try.prog 42 #[tyV z g, .int .i64 v] w fun e w' => e = .returned (.tuple #[.int .i64 V, .int .i64 0]) ∧ Below w.heap.size w w') (HL : CLoad P' B' a z g V 0 0 0) (HP : CPeekB P' B' a z X 0 0 0) (HF : ∀ w gb c, BS w gb X → Calls Try.prog 43 #[tyV z g, .slice (some ⟨gb, 0, none⟩) X.length c] w fun e w' => e = .returned (.tuple #[.int .i64 V, .int .i64 0]) ∧ Below w.heap.size w w') (HD : CDiff P B P' B' D 0) (hR : ∀ k (h : k < D.length), ¬ ((D[k] : Nat) : Int) < a ∧ ¬ wrap64 (a + z) ≤ ((D[k] : Nat) : Int)) (hDl : D.length ≤ 4096) (HA : ∀ w, Calls Try.prog 44 #[.agg #[.int .i64 a, .int .i64 z, .bool g, .int .i64 v], .agg #[.int .i64 b, .int .i64 t, .bool h, .int .i64 y]] w fun e w' => e = .returned (.bool true) ∧ Below w.heap.size w w') (L1 : CLoad P B b t h V1 K A E1) (L2 : CLoad P' B' b t h V1 K A E1) : Calls Try.prog 7 #[spV p P.length pc q B.length qc, .agg #[.int .i64 a, .int .i64 z, .bool g, .int .i64 v], .agg #[.int .i64 b, .int .i64 t, .bool h, .int .i64 y]] w fun e w' => e = .returned (.bool true) ∧ Below w.heap.size w w' := by
  go_enter Try.func7, Try.ntmps7
  go_upto_region 1 with fail
  refine stored_r1 msane_any ?_
  intro _ W1 g1
  have h3 : SpBx 0 W1 (w.heap.size) P B := SpBx.up g1 ⟨p, pc, q, qc, Bx.mk2 (by go_simp) (by go_simp) (by go_simp) (by go_simp), (hS.up (by repeat (first | (with_reducible exact Gr.refl _) | with_reducible refine Gr.alloc ?_ _ | with_reducible refine Gr.more ?_ _ _ | with_reducible refine Gr.setCell ?_ (by dsimp only; (try simp only [World.size_more, World.size_alloc, World.size_setCell, World.size_drew, Array.size_append]); omega) _ | with_reducible refine Gr.drew ?_))).mono (by (try simp only [World.size_more, World.size_alloc, World.size_setCell, World.size_drew, Array.size_append]); omega) (by (try simp only [World.size_more, World.size_alloc, World.size_setCell, World.size_drew, Array.size_append]); omega)⟩
  have h4 : Bx W1 (w.heap.size + 1) [.int .i64 a, .int .i64 z, .bool g, .int .i64 v] := Bx.up g1 (Bx.mk4 (by go_simp) (by go_simp) (by go_simp) (by go_simp) (by go_simp) (by go_simp) (by go_simp) (by go_simp))
  have h5 : Bx W1 (w.heap.size + 1 + 1) [.int .i64 b, .int .i64 t, .bool h, .int .i64 y] := Bx.up g1 (Bx.mk4 (by go_simp) (by go_simp) (by go_simp) (by go_simp) (by go_simp) (by go_simp) (by go_simp) (by go_simp))
  have hG : Gr w.heap.size w W1 := Gr.trans (by repeat (first | (with_reducible exact Gr.refl _) | with_reducible refine Gr.alloc ?_ _ | with_reducible refine Gr.more ?_ _ _ | with_reducible refine Gr.setCell ?_ (by dsimp only; (try simp only [World.size_more, World.size_alloc, World.size_setCell, World.size_drew, Array.size_append]); omega) _ | with_reducible refine Gr.drew ?_)) g1
  clear g1
  go_upto_region 2 with fail
  refine stored_r2 h3 h4 H1 ?_
  intro _ _ _ _ _ _ _ _ _ _ _ _ b8 b9 W2 g2 ge8 n8 ge9 lt9 n9
  replace h3 := SpBx.up g2 h3
  replace h4 := Bx.up g2 h4
  replace h5 := Bx.up g2 h5
  have h8 := n8
  clear n8
  have h9 := n9
  clear n9
  replace hG := Gr.trans hG g2
  clear g2
  have c9_0 := h9.get 0 _ rfl
  have c9_1 := h9.get 1 _ rfl
  go_upto_region 5 with fail
  clear c9_0 c9_1
  go_upto_region 5 with fail
  refine stored_r5 h4 HW ?_
  intro _ _ _ _ _ _ _ _  W3 g3
  replace h3 := SpBx.up g3 h3
  replace h4 := Bx.up g3 h4
  replace h5 := Bx.up g3 h5
  replace h8 := SpBx.up g3 h8
  replace h9 := Bx.up g3 h9
  replace hG := Gr.trans hG g3
  clear g3
  go_upto_region 6 with fail
  refine stored_r6 h8 h4 HL ?_
  intro _ _ _ _ _ _ _ _ _ _ b14 W4 g4 ge14 n14
  replace h3 := SpBx.up g4 h3
  replace h4 := Bx.up g4 h4
  replace h5 := Bx.up g4 h5
  replace h8 := SpBx.up g4 h8
  replace h9 := Bx.up g4 h9
  have h14 := n14
  clear n14
  replace hG := Gr.trans hG g4
  clear g4
  go_upto_region 7 with fail
  refine stored_r7 h8 h4 HP ?_
  intro _ _ _ _ _ _ _ _ _ _ _ y16 b17 W5 g5 ge17 n17 nq16
  replace h3 := SpBx.up g5 h3
  replace h4 := Bx.up g5 h4
  replace h5 := Bx.up g5 h5
  replace h8 := SpBx.up g5 h8
  replace h9 := Bx.up g5 h9
  replace h14 := Bx.up g5 h14
  have h17 := n17
  clear n17
  have h16 := nq16
  clear nq16
  replace hG := Gr.trans hG g5
  clear g5
  go_upto_region 8 with fail
  refine stored_r8 h4 h16 HF ?_
  intro _ _ _ _ _ _ _  W6 g6
  replace h3 := SpBx.up g6 h3
  replace h4 := Bx.up g6 h4
  replace h5 := Bx.up g6 h5
  replace h8 := SpBx.up g6 h8
  replace h9 := Bx.up g6 h9
  replace h14 := Bx.up g6 h14
  replace h17 := Bx.up g6 h17
  clear h16
  replace hG := Gr.trans hG g6
  clear g6
  have c14_0 := h14.get 0 _ rfl
  have c14_1 := h14.get 1 _ rfl
  have c17_0 := h17.get 0 _ rfl
  have c17_1 := h17.get 1 _ rfl
  go_upto_region 11 with fail
  clear c14_0 c14_1
  clear c17_0 c17_1
  go_upto_region 11 with fail
  refine stored_r11 h3 h8 HD ?_
  intro _ _ _ _ _ _ y21  W7 g7 nq21
  replace h3 := SpBx.up g7 h3
  replace h4 := Bx.up g7 h4
  replace h5 := Bx.up g7 h5
  replace h8 := SpBx.up g7 h8
  replace h9 := Bx.up g7 h9
  replace h14 := Bx.up g7 h14
  replace h17 := Bx.up g7 h17
  have h21 := nq21
  clear nq21
  replace hG := Gr.trans hG g7
  clear g7
  obtain ⟨lo8, hlo8⟩ : ∃ lo8, SpBx lo8 W7 b8 P' B' := ⟨_, h8⟩
  obtain ⟨p21, c21, rfl, hD21⟩ := h21
  have h21 : DfVal W7 (.slice p21 D.length c21) B B' D := ⟨p21, c21, rfl, hD21⟩
  clear hD21 h8 h9 h14 h17 ge8 ge9 lt9 ge14 ge17
  go_wp2_with fail
  go_loopw [23] (fun i wr => ∃ k : Nat, k ≤ D.length ∧ i = .int .i64 (k : Int) ∧ SpBx 0 wr (w.heap.size) P B ∧ Bx wr (w.heap.size + 1) [.int .i64 a, .int .i64 z, .bool g, .int .i64 v] ∧ Bx wr (w.heap.size + 1 + 1) [.int .i64 b, .int .i64 t, .bool h, .int .i64 y] ∧ SpBx lo8 wr b8 P' B' ∧ DfVal wr (.slice p21 D.length c21) B B' D ∧ Gr w.heap.size w wr) (fun i _ => D.length - (intOf i).toNat)
  case atStart => exact ⟨0, Nat.zero_le _, rfl, h3, h4, h5, hlo8, h21, hG⟩
  case round =>
  clear h3 h4 h5 hlo8 h21 hG
  obtain ⟨k, hk, rfl, h3, h4, h5, h8, h21, hG⟩ := hrel
  by_cases hlt : k < D.length
  · obtain ⟨p2, c2, e2, hD⟩ := h21
    injection e2 with e3 e4 e5
    subst e3 e5
    rcases hD with hD | ⟨bd, rfl, hD⟩
    · subst hD; simp at hlt
    have hki : (k : Int) < (D.length : Int) := by omega
    have hk0 : (0 : Int) ≤ (k : Int) := by omega
    have hw1 : wrap64 ((k : Int) + 1) = (k : Int) + 1 := by unfold wrap64; omega
    obtain ⟨hlow, hhigh⟩ := hR k hlt
    have hc0 := (hD k hlt).1
    have h21 : DfVal wr (.slice (some ⟨bd, 0, none⟩) D.length c21) B B' D := ⟨_, _, rfl, .inr ⟨bd, rfl, hD⟩⟩
    clear hD
    have c4_0 := h4.get 0 _ rfl
    have c4_1 := h4.get 1 _ rfl
    generalize (D[k] : Int) = d at hlow hhigh hc0
    go_upto_region 17 with fail
    refine stored_r17 h4 hc0 hki hk0 (by omega) (wrapI64 _) (by omega) ?_
    intro _ _ _ _ _ _ _ _ _ _ _ _ _ _ _ _ _ _ _ _ _ W21 g21
    replace h3 := SpBx.up g21 h3
    replace h4 := Bx.up g21 h4
    replace h5 := Bx.up g21 h5
    replace h8 := SpBx.up g21 h8
    replace h21 := DfVal.up g21 h21
    replace hG := Gr.trans hG g21
    clear g21 hc0 hlow hhigh c4_0 c4_1
    go_wp2_with fail
    go_roundw
    case rel => exact ⟨k + 1, hlt, by go_num, h3, h4, h5, h8, h21, hG⟩
    case measure => simp [intOf]; omega
  · obtain rfl : k = D.length := by omega
    have hki : ¬ (D.length : Int) < (D.length : Int) := by omega
    clear hR hlt hk
    go_upto_region 19 with fail
    refine stored_r19 h4 h5 HA ?_
    intro _ _ _  W31 g31
    replace h3 := SpBx.up g31 h3
    replace h4 := Bx.up g31 h4
    replace h5 := Bx.up g31 h5
    replace h8 := SpBx.up g31 h8
    replace hG := Gr.trans hG g31
    clear g31
    go_upto_region 21 with fail
    refine stored_r21 h3 h5 L1 ?_
    intro _ _ _ _ _ _ _ _ _ _ b25 W32 g32 ge25 n25
    replace h3 := SpBx.up g32 h3
    replace h4 := Bx.up g32 h4
    replace h5 := Bx.up g32 h5
    replace h8 := SpBx.up g32 h8
    have h25 := n25
    clear n25
    replace hG := Gr.trans hG g32
    clear g32
    go_upto_region 22 with fail
    refine stored_r22 h8 h5 L2 ?_
    intro _ _ _ _ _ _ _ _ _ _ b28 W33 g33 ge28 n28
    replace h3 := SpBx.up g33 h3
    replace h4 := Bx.up g33 h4
    replace h5 := Bx.up g33 h5
    replace h8 := SpBx.up g33 h8
    replace h25 := Bx.up g33 h25
    have h28 := n28
    clear n28
    replace hG := Gr.trans hG g33
    clear g33
    have c25_0 := h25.get 0 _ rfl
    have c25_1 := h25.get 1 _ rfl
    have c28_0 := h28.get 0 _ rfl
    have c28_1 := h28.get 1 _ rfl
    go_wp2_with fail
    refine bodyPost_ret (v := .bool true) (by simp [results, Try.results7, go_sem]) rfl ⟨rfl, Gr.below (by repeat (first | (with_reducible exact hG) | with_reducible refine Gr.alloc ?_ _ | with_reducible refine Gr.more ?_ _ _ | with_reducible refine Gr.setCell ?_ (by dsimp only; (try simp only [World.size_more, World.size_alloc, World.size_setCell, World.size_drew, Array.size_append]); omega) _ | with_reducible refine Gr.drew ?_))⟩

end Go.Proofs.Ytbfakdbhmpjmlaa
