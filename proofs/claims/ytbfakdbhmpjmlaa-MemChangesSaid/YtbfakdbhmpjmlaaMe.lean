/-
  The law MemCode: its walk (made by genmd.py).
-/
import Derived.Test.YtbfakdbhmpjmlaaMg
import Derived.Deep.CutBlock
namespace Go.Proofs.Ytbfakdbhmpjmlaa
open Go.RowKit

set_option maxRecDepth 100000 in
set_option maxHeartbeats 16000000 in
theorem code_e1 (w : World) (P : List Int) (p : Option Addr) (pc : Nat) (B : List UInt8) (q : Option Addr) (qc : Nat) (hS : SpIn 0 w.heap.size w P p B q qc) (a n m b z : Int) (g : Bool) (v : Int) (HC : CCheck P B 30) : Calls Try.prog 11 #[spV p P.length pc q B.length qc, .agg #[.int .i64 a, .int .i64 n, .int .i64 m], .agg #[.int .i64 b, .int .i64 z, .bool g, .int .i64 v]] w fun e w' => e = .returned (.bool true) ∧ Below w.heap.size w w' := by
  go_enter Try.func11, Try.ntmps11
  go_upto_region 1 with fail
  refine code_r1 msane_any ?_
  intro _ W1 g1
  have h3 : SpBx 0 W1 (w.heap.size) P B := SpBx.up g1 ⟨p, pc, q, qc, Bx.mk2 (by go_simp) (by go_simp) (by go_simp) (by go_simp), (hS.up (by repeat (first | (with_reducible exact Gr.refl _) | with_reducible refine Gr.alloc ?_ _ | with_reducible refine Gr.more ?_ _ _ | with_reducible refine Gr.setCell ?_ (by dsimp only; (try simp only [World.size_more, World.size_alloc, World.size_setCell, World.size_drew, Array.size_append]); omega) _ | with_reducible refine Gr.drew ?_))).mono (by (try simp only [World.size_more, World.size_alloc, World.size_setCell, World.size_drew, Array.size_append]); omega) (by (try simp only [World.size_more, World.size_alloc, World.size_setCell, World.size_drew, Array.size_append]); omega)⟩
  have h4 : Bx W1 (w.heap.size + 1) [.int .i64 a, .int .i64 n, .int .i64 m] := Bx.up g1 (Bx.mk3 (by go_simp) (by go_simp) (by go_simp) (by go_simp) (by go_simp) (by go_simp))
  have h5 : Bx W1 (w.heap.size + 1 + 1) [.int .i64 b, .int .i64 z, .bool g, .int .i64 v] := Bx.up g1 (Bx.mk4 (by go_simp) (by go_simp) (by go_simp) (by go_simp) (by go_simp) (by go_simp) (by go_simp) (by go_simp))
  have hG : Gr w.heap.size w W1 := Gr.trans (by repeat (first | (with_reducible exact Gr.refl _) | with_reducible refine Gr.alloc ?_ _ | with_reducible refine Gr.more ?_ _ _ | with_reducible refine Gr.setCell ?_ (by dsimp only; (try simp only [World.size_more, World.size_alloc, World.size_setCell, World.size_drew, Array.size_append]); omega) _ | with_reducible refine Gr.drew ?_)) g1
  clear g1
  obtain ⟨p3, pc3, q3, qc3, x3, s3⟩ := h3
  have c3_0 := x3.get 0 _ rfl
  have c3_1 := x3.get 1 _ rfl
  have l3 := x3.lt
  go_wp2_with (go_at_call 21; (refine (HC _ _ _ _ _ (s3.at.up (Gr.below (by repeat (first | (with_reducible exact Gr.refl _) | with_reducible refine Gr.alloc ?_ _ | with_reducible refine Gr.more ?_ _ _ | with_reducible refine Gr.setCell ?_ (by dsimp only; (try simp only [World.size_more, World.size_alloc, World.size_setCell, World.size_drew, Array.size_append]); omega) _ | with_reducible refine Gr.drew ?_))))).mono ?_); rintro e w1 ⟨rfl, hb⟩; obtain ⟨os, n, rfl⟩ := Below.moreE hb; clear hb)
  refine bodyPost_ret (v := .bool true) (by simp [results, Try.results11, go_sem]) rfl ⟨rfl, Gr.below (by repeat (first | (with_reducible exact hG) | with_reducible refine Gr.alloc ?_ _ | with_reducible refine Gr.more ?_ _ _ | with_reducible refine Gr.setCell ?_ (by dsimp only; (try simp only [World.size_more, World.size_alloc, World.size_setCell, World.size_drew, Array.size_append]); omega) _ | with_reducible refine Gr.drew ?_))⟩

theorem SpBxA.lt {W : World} {b : Nat} {P : List Int} {B : List UInt8} (h : SpBxA W b P B) : b < W.heap.size := by
  obtain ⟨p, pc, q, qc, h1, h2⟩ := h
  exact h1.lt
/-- What Fetch, and the questions about what it returns, answer. -/
def FetchR (P : List Int) (B : List UInt8) (a n : Int) (X : List UInt8) (E : Int) : Prop :=
  (E == 0) = false ∨ (E = 0 ∧ CPeek P B a (X.length : Int) X 0 0 0 ∧ CAcc P B a (X.length : Int) 4 0 0 0 ∧ ¬ n < (X.length : Int) ∧ (¬ (X.length : Int) < n ∨ (X.length : Int) < n ∧ ∃ K A, CAcc P B (wrap64 (a + (X.length : Int))) 1 4 K A 0 ∧ (K == 0) = false))
/-- A space that may be taken over. -/
def NextR (P : List Int) (B : List UInt8) (ok : Bool) (P1 : List Int) (B1 : List UInt8) (P2 : List Int) (B2 : List UInt8) : Prop := (ok = true ∧ P2 = P1 ∧ B2 = B1) ∨ (ok = false ∧ P2 = P ∧ B2 = B)

set_option maxRecDepth 100000 in
set_option maxHeartbeats 16000000 in
theorem code_main (w : World) (P : List Int) (p : Option Addr) (pc : Nat) (B : List UInt8) (q : Option Addr) (qc : Nat) (hS : SpIn 0 w.heap.size w P p B q qc) (a n m b z : Int) (g : Bool) (v : Int) (HC : CCheck P B 0) {X : List UInt8} {E : Int} (HF : CFetch P B a n X E) (HFR : FetchR P B a n X E) {P1 P2 P3 P4 P5 P6 : List Int} {B1 B2 B3 B4 B5 B6 : List UInt8} {E1 K3 A3 E3 E5 : Int} (H1 : CProt P B n m P1 B1 E1) (R1 : NextR P B (E1 == 0) P1 B1 P2 B2) (H3 : CStore P2 B2 b z g v P3 B3 K3 A3 E3) {ok3 : Bool} (HOK : Hid (ok3 = (E3 == 0 && K3 == 0))) (R3 : NextR P2 B2 ok3 P3 B3 P4 B4) (H5 : CSeal P4 B4 m P5 B5 E5) (R5 : NextR P4 B4 (E5 == 0) P5 B5 P6 B6) (HC6 : CCheck P6 B6 0) (hl6 : ((P6.length : Int) != (P.length : Int)) = false) (HL : Hid (P.length ≤ 32 ∧ B.length = 64 * P.length ∧ P6.length = P.length ∧ B6.length = B.length)) (HP : Hid (∀ k (h : k < P.length), P[k] = 0 ∨ P[k] = 1 ∨ P[k] = 3 ∨ P[k] = 4)) (HK : Hid (∀ k (h : k < P.length), P[k] = 4 → (∀ h6 : k < P6.length, P6[k] = 4) ∧ pgB B6 k = pgB B k)) : Calls Try.prog 11 #[spV p P.length pc q B.length qc, .agg #[.int .i64 a, .int .i64 n, .int .i64 m], .agg #[.int .i64 b, .int .i64 z, .bool g, .int .i64 v]] w fun e w' => e = .returned (.bool true) ∧ Below w.heap.size w w' := by
  go_enter Try.func11, Try.ntmps11
  go_upto_region 1 with fail
  refine code_r1 msane_any ?_
  intro _ W1 g1
  have h3 : SpBx 0 W1 (w.heap.size) P B := SpBx.up g1 ⟨p, pc, q, qc, Bx.mk2 (by go_simp) (by go_simp) (by go_simp) (by go_simp), (hS.up (by repeat (first | (with_reducible exact Gr.refl _) | with_reducible refine Gr.alloc ?_ _ | with_reducible refine Gr.more ?_ _ _ | with_reducible refine Gr.setCell ?_ (by dsimp only; (try simp only [World.size_more, World.size_alloc, World.size_setCell, World.size_drew, Array.size_append]); omega) _ | with_reducible refine Gr.drew ?_))).mono (by (try simp only [World.size_more, World.size_alloc, World.size_setCell, World.size_drew, Array.size_append]); omega) (by (try simp only [World.size_more, World.size_alloc, World.size_setCell, World.size_drew, Array.size_append]); omega)⟩
  have h4 : Bx W1 (w.heap.size + 1) [.int .i64 a, .int .i64 n, .int .i64 m] := Bx.up g1 (Bx.mk3 (by go_simp) (by go_simp) (by go_simp) (by go_simp) (by go_simp) (by go_simp))
  have h5 : Bx W1 (w.heap.size + 1 + 1) [.int .i64 b, .int .i64 z, .bool g, .int .i64 v] := Bx.up g1 (Bx.mk4 (by go_simp) (by go_simp) (by go_simp) (by go_simp) (by go_simp) (by go_simp) (by go_simp) (by go_simp))
  have hG : Gr w.heap.size w W1 := Gr.trans (by repeat (first | (with_reducible exact Gr.refl _) | with_reducible refine Gr.alloc ?_ _ | with_reducible refine Gr.more ?_ _ _ | with_reducible refine Gr.setCell ?_ (by dsimp only; (try simp only [World.size_more, World.size_alloc, World.size_setCell, World.size_drew, Array.size_append]); omega) _ | with_reducible refine Gr.drew ?_)) g1
  clear g1
  go_upto_region 2 with fail
  refine code_r2 h3 HC ?_
  intro _ _ _ _ _ _  W2 g2
  replace h3 := SpBx.up g2 h3
  replace h4 := Bx.up g2 h4
  replace h5 := Bx.up g2 h5
  replace hG := Gr.trans hG g2
  clear g2
  go_upto_region 4 with fail
  refine code_r4 h3 h4 HF ?_
  intro _ _ _ _ _ _ _ _ _ y8  W3 g3 nq8
  replace h3 := SpBx.up g3 h3
  replace h4 := Bx.up g3 h4
  replace h5 := Bx.up g3 h5
  have h8 := nq8
  clear nq8
  replace hG := Gr.trans hG g3
  clear g3
  go_upto_if 45 with fail
  go_cut [] (fun wx => SpBx 0 wx (w.heap.size) P B ∧ Bx wx (w.heap.size + 1) [.int .i64 a, .int .i64 n, .int .i64 m] ∧ Bx wx (w.heap.size + 1 + 1) [.int .i64 b, .int .i64 z, .bool g, .int .i64 v] ∧ Gr w.heap.size w wx)
  case first =>
    rcases HFR with hE | ⟨rfl, HP, HA, hle, hm⟩
    · go_wp2_with fail
      go_meet
      exact ⟨h3, h4, h5, hG⟩
    · skip
      go_upto_region 6 with fail
      refine code_r6 h3 h4 h8 HP ?_
      intro _ _ _ _ _ _ _ _ _ _ y10 b11 W11 g11 ge11 n11 nq10
      replace h3 := SpBx.up g11 h3
      replace h4 := Bx.up g11 h4
      replace h5 := Bx.up g11 h5
      replace h8 := SqVal.up g11 h8
      have h11 := n11
      clear n11
      have h10 := nq10
      clear nq10
      replace hG := Gr.trans hG g11
      clear g11
      go_upto_region 7 with fail
      refine code_r7 h3 h4 h8 HA ?_
      intro _ _ _ _ _ _ _ _ _ b13 W12 g12 ge13 n13
      replace h3 := SpBx.up g12 h3
      replace h4 := Bx.up g12 h4
      replace h5 := Bx.up g12 h5
      replace h8 := SqVal.up g12 h8
      replace h11 := Bx.up g12 h11
      replace h10 := SqVal.up g12 h10
      have h13 := n13
      clear n13
      replace hG := Gr.trans hG g12
      clear g12
      have c11_0 := h11.get 0 _ rfl
      have c11_1 := h11.get 1 _ rfl
      have c13_0 := h13.get 0 _ rfl
      have c13_1 := h13.get 1 _ rfl
      have c4_0 := h4.get 0 _ rfl
      have c4_1 := h4.get 1 _ rfl
      have c4_2 := h4.get 2 _ rfl
      obtain ⟨p8, pc8, rfl, s8⟩ := h8
      obtain ⟨p10, pc10, rfl, s10⟩ := h10
      have cv8 := conv_any X p8 pc8 _ s8.at
      have cv10 := conv_any X p10 pc10 _ s10.at
      rcases hm with hm | ⟨hm, K, A, HA2, hK⟩
      · go_wp2_with fail
        go_meet
        exact ⟨h3, h4, h5, hG⟩
      · go_upto_region 11 with fail
        clear cv8 cv10 c11_0 c11_1 c13_0 c13_1 c4_0 c4_1 c4_2
        have h8 : SqVal _ _ (.slice p8 X.length pc8) X := ⟨p8, pc8, rfl, s8⟩
        go_upto_region 11 with fail
        refine code_r11 h3 h4 h8 rfl HA2 ?_
        intro _ _ _ _ _ _ _ _ _ _ b15 W21 g21 ge15 n15
        replace h3 := SpBx.up g21 h3
        replace h4 := Bx.up g21 h4
        replace h5 := Bx.up g21 h5
        have h15 := n15
        clear n15
        replace hG := Gr.trans hG g21
        clear g21
        have c15_0 := h15.get 0 _ rfl
        have c15_1 := h15.get 1 _ rfl
        go_wp2_with fail
        go_meet
        exact ⟨h3, h4, h5, hG⟩
  case rest =>
  clear h3 h4 h5 h8 hG HF HFR HC
  obtain ⟨h3, h4, h5, hG⟩ := hcut
  have o5 := h5.lt
  go_upto_region 14 with fail
  refine code_r14 h3 ?_
  intro _ b17 W31 g31 ge17 n17
  replace h3 := SpBx.up g31 h3
  replace h4 := Bx.up g31 h4
  replace h5 := Bx.up g31 h5
  have h17 := n17
  clear n17
  replace hG := Gr.trans hG g31
  clear g31
  have o17a : w.heap.size + 1 + 1 < b17 := by omega
  clear ge17 o5
  have o17 := SpBxA.lt h17
  go_upto_region 15 with fail
  refine code_r15 h17 h4 H1 ?_
  intro _ _ _ _ _ _ _ _ _ b18 W32 g32 ge18 n18
  replace h3 := SpBx.up g32 h3
  replace h4 := Bx.up g32 h4
  replace h5 := Bx.up g32 h5
  replace h17 := SpBxA.up g32 h17
  have h18 := n18
  clear n18
  replace hG := Gr.trans hG g32
  clear g32
  have o17' : b17 < W32.heap.size := by have := h18.lt; omega
  go_upto_if 128 with fail
  go_cut [] (fun wx => SpBx 0 wx (w.heap.size) P B ∧ Bx wx (w.heap.size + 1) [.int .i64 a, .int .i64 n, .int .i64 m] ∧ Bx wx (w.heap.size + 1 + 1) [.int .i64 b, .int .i64 z, .bool g, .int .i64 v] ∧ Gr w.heap.size w wx ∧ SpBxA wx b17 P2 B2 ∧ b17 < wx.heap.size)
  case first =>
    rcases R1 with ⟨hok, rfl, rfl⟩ | ⟨hok, rfl, rfl⟩
    · go_upto_region 17 with fail
      go_upto_region 17 with fail
      refine code_r17 h18 h17 (by omega) ?_
      intro _  W83 g83 n17
      replace h3 := h3.caught g83 (by omega) (by omega)
      replace h4 := h4.caught g83 (by omega)
      replace h5 := h5.caught g83 (by omega)
      replace h17 := n17
      clear n17
      clear h18
      replace hG := Gr.caught hG g83 (by omega)
      clear g83
      have o17 := SpBxA.lt h17
      go_wp2_with fail
      go_meet
      exact ⟨h3, h4, h5, hG, h17, o17⟩
    · go_wp2_with fail
      go_meet
      exact ⟨h3, h4, h5, hG, h17, o17'⟩
  case rest =>
  clear h3 h4 h5 h17 hG o17 o17' h18 ge18 H1 R1
  obtain ⟨h3, h4, h5, hG, h17, o17⟩ := hcut
  clear o17
  have o17 := SpBxA.lt h17
  go_upto_region 18 with fail
  refine code_r18 h17 h5 H3 ?_
  intro _ _ _ _ _ _ _ _ _ _ _ _ b20 b21 W33 g33 ge20 n20 ge21 lt21 n21
  replace h3 := SpBx.up g33 h3
  replace h4 := Bx.up g33 h4
  replace h5 := Bx.up g33 h5
  replace h17 := SpBxA.up g33 h17
  have h20 := n20
  clear n20
  have h21 := n21
  clear n21
  replace hG := Gr.trans hG g33
  clear g33
  have o17' : b17 < W33.heap.size := by have := h20.lt; omega
  have c21_0 := h21.get 0 _ rfl
  have c21_1 := h21.get 1 _ rfl
  go_upto_region 19 with fail
  go_cut [148] (fun s148 wx => s148 = .bool ok3 ∧ wx = W33)
  case first =>
    by_cases h0 : (E3 == 0) = true
    · go_wp2_with fail
      go_meet
      exact ⟨by rw [HOK.out]; simp [h0], rfl⟩
    · have h0' : (E3 == 0) = false := by simpa using h0
      go_wp2_with fail
      go_meet
      exact ⟨by rw [HOK.out]; simp [h0'], rfl⟩
  case rest =>
  obtain ⟨rfl, rfl⟩ := hcut
  clear c21_0 c21_1
  go_upto_if 148 with fail
  go_cut [] (fun wx => SpBx 0 wx (w.heap.size) P B ∧ Bx wx (w.heap.size + 1) [.int .i64 a, .int .i64 n, .int .i64 m] ∧ Bx wx (w.heap.size + 1 + 1) [.int .i64 b, .int .i64 z, .bool g, .int .i64 v] ∧ Gr w.heap.size w wx ∧ SpBxA wx b17 P4 B4 ∧ b17 < wx.heap.size)
  case first =>
    rcases R3 with ⟨rfl, rfl, rfl⟩ | ⟨rfl, rfl, rfl⟩
    · go_upto_region 20 with fail
      go_upto_region 20 with fail
      refine code_r20 h20 h17 (by omega) ?_
      intro _  W84 g84 n17
      replace h3 := h3.caught g84 (by omega) (by omega)
      replace h4 := h4.caught g84 (by omega)
      replace h5 := h5.caught g84 (by omega)
      replace h17 := n17
      clear n17
      clear h20
      replace hG := Gr.caught hG g84 (by omega)
      clear g84
      have o17 := SpBxA.lt h17
      go_wp2_with fail
      go_meet
      exact ⟨h3, h4, h5, hG, h17, o17⟩
    · go_wp2_with fail
      go_meet
      exact ⟨h3, h4, h5, hG, h17, o17'⟩
  case rest =>
  clear h3 h4 h5 h17 hG o17 o17' h20 h21 ge20 ge21 lt21 H3 R3
  obtain ⟨h3, h4, h5, hG, h17, o17⟩ := hcut
  clear o17
  have o17 := SpBxA.lt h17
  go_upto_region 21 with fail
  refine code_r21 h17 h4 H5 ?_
  intro _ _ _ _ _ _ _ b23 W34 g34 ge23 n23
  replace h3 := SpBx.up g34 h3
  replace h4 := Bx.up g34 h4
  replace h5 := Bx.up g34 h5
  replace h17 := SpBxA.up g34 h17
  have h23 := n23
  clear n23
  replace hG := Gr.trans hG g34
  clear g34
  have o17' : b17 < W34.heap.size := by have := h23.lt; omega
  go_upto_if 158 with fail
  go_cut [] (fun wx => SpBx 0 wx (w.heap.size) P B ∧ Bx wx (w.heap.size + 1) [.int .i64 a, .int .i64 n, .int .i64 m] ∧ Bx wx (w.heap.size + 1 + 1) [.int .i64 b, .int .i64 z, .bool g, .int .i64 v] ∧ Gr w.heap.size w wx ∧ SpBxA wx b17 P6 B6 ∧ b17 < wx.heap.size)
  case first =>
    rcases R5 with ⟨hok, rfl, rfl⟩ | ⟨hok, rfl, rfl⟩
    · go_upto_region 23 with fail
      go_upto_region 23 with fail
      refine code_r23 h23 h17 (by omega) ?_
      intro _  W85 g85 n17
      replace h3 := h3.caught g85 (by omega) (by omega)
      replace h4 := h4.caught g85 (by omega)
      replace h5 := h5.caught g85 (by omega)
      replace h17 := n17
      clear n17
      clear h23
      replace hG := Gr.caught hG g85 (by omega)
      clear g85
      have o17 := SpBxA.lt h17
      go_wp2_with fail
      go_meet
      exact ⟨h3, h4, h5, hG, h17, o17⟩
    · go_wp2_with fail
      go_meet
      exact ⟨h3, h4, h5, hG, h17, o17'⟩
  case rest =>
  clear h3 h4 h5 h17 hG o17 o17' h23 ge23 H5 R5
  obtain ⟨h3, h4, h5, hG, h17, o17⟩ := hcut
  clear o17
  go_upto_region 24 with fail
  refine code_r24 h17 h3 HC6 hl6 ?_
  intro _ _ _ _ _ _ _ _ _ _ _  W35 g35
  replace h3 := SpBx.up g35 h3
  replace h4 := Bx.up g35 h4
  replace h5 := Bx.up g35 h5
  replace h17 := SpBxA.up g35 h17
  replace hG := Gr.trans hG g35
  clear g35
  clear h4 h5
  go_upto_block 0 with fail
  refine code_loop h3 h17 HL HP HK ?_
  intro _ _ _ _ _ _ _ _ _ _ _ _ _ _ _ _ _ _ _ _ _ _ _ _ _ _ _ _ _ _ _ _ _ _ _ _ _ _ _ _ _ _ _ _ W99 g99
  replace hG := Gr.trans hG g99
  clear g99 h3 h17
  go_wp2_with fail
  refine bodyPost_ret (v := .bool true) (by simp [results, Try.results11, go_sem]) rfl ⟨rfl, Gr.below (by repeat (first | (with_reducible exact hG) | with_reducible refine Gr.alloc ?_ _ | with_reducible refine Gr.more ?_ _ _ | with_reducible refine Gr.setCell ?_ (by dsimp only; (try simp only [World.size_more, World.size_alloc, World.size_setCell, World.size_drew, Array.size_append]); omega) _ | with_reducible refine Gr.drew ?_))⟩

end Go.Proofs.Ytbfakdbhmpjmlaa
