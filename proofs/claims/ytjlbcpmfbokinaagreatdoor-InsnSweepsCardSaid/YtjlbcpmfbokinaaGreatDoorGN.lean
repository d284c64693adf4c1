/-
  Layer 2, the reference: Decode (made by genhe.py).
  Layer 2, the reference: Decode (made by genhe.py).
-/
import Derived.Test.YtjlbcpmfbokinaaGreatDoorGL
set_option linter.unusedSimpArgs false
set_option linter.unusedVariables false
namespace Go.Proofs.YtjlbcpmfbokinaaGreatDoor
open Go.RowKit

set_option maxRecDepth 100000 in
set_option maxHeartbeats 8000000 in
theorem rdec_0_1 {f : Int} (b : List UInt8) (bp : Option Addr) (bc : Nat) (w : World) (hb : SeqAt w bp (bV b)) (hcap : b.length ≤ bc) (hl : 0 < b.length) (hk : knO (opD b) = true) (hs : shD b < 12) (hr : rgS (shD b) = 0) (hm : imS (shD b) = 1) (hf0 : f ≠ 0) (hf10 : f = 10)
    (hN : ∀ X : List UInt8, X.length = 1 → (∀ p (h : p < X.length), X[p].toNat < 128) → X = tail7 (shD b) b → ((X.getD 0 0).toNat : Int) = immV (shD b) (tail7 (shD b) b))
    (FO : ∀ W, Calls Tryz.prog 34 #[.int .i64 (opD b)] W fun e w' => e = .returned (.int .i64 f) ∧ W = w')
    (OP : ∀ W, Calls Tryz.prog 36 #[.int .i64 f] W fun e w' => e = .returned (.tuple #[.bool false, .bool false, .int .i64 1]) ∧ W = w') :
    Calls Tryz.prog 24 #[.slice bp b.length bc] w fun e w' => RDec b e ∧ Below w.heap.size w w' := by
  have hL : lenS (shD b) = 2 := by unfold lenS; rw [hr, hm]; rfl
  have HB : ∀ W, Below w.heap.size w W → SeqAt W bp (bV b) := fun W g => hb.up g
  have HB := Lib.hid HB
  have GI : ∀ (k : Nat) (c : UInt8), k < 1 → goB (shD b) (1 + k) c = decide (c.toNat < 128 ∧ (k = 9 → c.toNat = 0 ∨ c.toNat = 127)) := fun k c h => by
    have := gob_imm hs (k := k) (c := c) (by rw [hm]; exact h)
    rw [hr] at this
    exact this
  have GI := Lib.hid GI
  have R21 := Lib.hid (fun k (h1 : 1 ≤ k) (h2 : k < 2) => rdec_21 hl hk h1 (by rw [hL]; exact h2))
  have R20 := Lib.hid (fun k (h1 : 1 ≤ k) (h2 : k < 2) => rdec_20 hl hk h1 (by rw [hL]; exact h2))
  have R0 : Hid (∀ {i : Int}, Pre b 2 → i = immV (shD b) (tail7 (shD b) b) → RDec b (.returned (.agg #[.int .i64 (opD b), .int .i64 (rA (shD b) b), .int .i64 (rB (shD b) b), .int .i64 i, .int .i64 2, .int .i64 0]))) := Lib.hid (fun hp hi => rdec_0 hl hk (by rw [hL]; exact hp) hi (by rw [hL]; rfl))
  have HT : Hid (tail7 (shD b) b = (b.take 2).drop 1) := Lib.hid (by unfold tail7; rw [hL, hm])
  have HRA := Lib.hid (show rA (shD b) b = 0 by unfold rA; rw [if_neg (by omega), if_neg (by omega)])
  have HRB := Lib.hid (show rB (shD b) b = 0 by unfold rB; rw [if_neg (by omega)])
  have HN := Lib.hid hN
  obtain ⟨g0, o0, rfl, hc⟩ := seqAt_neK hb (by intro e; have := congrArg List.length e; rw [bV_len] at this; simp at this; rw [this] at hl; simp at hl)
  have c0 := hc 0 _ (bV_get b 0 hl)
  rw [Nat.add_zero] at c0
  have lc := lt_of_cell c0
  have hn : ((b.length : Int) == 0) = false := by rw [beq_eq_false_iff_ne]; omega
  have hn1 : (0 : Int) < (b.length : Int) := by omega
  have hcap' : (b.length : Int) ≤ (bc : Int) := by omega
  have hf0' : (f == 0) = false := beq_eq_false_iff_ne.2 hf0
  subst hf10
  have hop := opD_get hl
  have hkn := (knO_iff _).1 hk
  rw [hop] at FO hkn
  have hx : (b[0].toNat : Int) < 256 := by have := b[0].toNat_lt; omega
  have hx1 : ¬ (b[0].toNat : Int) < 128 := by omega
  have hx0 : (0 : Int) ≤ (b[0].toNat : Int) := by omega
  have hw : wrap64 ((b[0].toNat : Int) - 128) = (b[0].toNat : Int) - 128 := by unfold wrap64; omega
  rw [hop] at R0
  clear hN hk hs hr hm hL hf0 hb hop hkn
  generalize hx0v : (b[0].toNat : Int) = x at *
  clear hx0v
  have HPA := Lib.hid (Pre.one b)
  clear hc
  rw [HRA.out, HRB.out] at R0
  clear HRA HRB
  go_enter Tryz.func24, Tryz.ntmps24
  go_wp2_with first | (go_at_call 34; (refine (FO _).mono ?_); rintro e w1 ⟨rfl, rfl⟩) | (go_at_call 36; (refine (OP _).mono ?_); rintro e w1 ⟨rfl, rfl⟩)
  go_loopw [9] (fun i wr => ∃ k : Nat, k ≤ 1 ∧ i = .int .i64 (k : Int) ∧ Hid (Pre b (1 + k)) ∧ wr.cell? ⟨w.heap.size, 0, none⟩ = some (.int .i64 0) ∧ wr.cell? ⟨w.heap.size, 1, none⟩ = some (.int .i64 0) ∧ wr.cell? ⟨w.heap.size, 2, none⟩ = some (.int .i64 0) ∧ wr.cell? ⟨w.heap.size, 3, none⟩ = some (.int .i64 0) ∧ wr.cell? ⟨w.heap.size, 4, none⟩ = some (.int .i64 0) ∧ wr.cell? ⟨w.heap.size, 5, none⟩ = some (.int .i64 0) ∧ wr.frozen? ⟨w.heap.size, 0, none⟩ = false ∧ wr.frozen? ⟨w.heap.size, 1, none⟩ = false ∧ wr.frozen? ⟨w.heap.size, 2, none⟩ = false ∧ wr.frozen? ⟨w.heap.size, 3, none⟩ = false ∧ wr.frozen? ⟨w.heap.size, 4, none⟩ = false ∧ wr.frozen? ⟨w.heap.size, 5, none⟩ = false ∧ wr.cell? ⟨w.heap.size + 1, 0, none⟩ = some (.int .i64 (x - 128)) ∧ wr.cell? ⟨w.heap.size + 1, 1, none⟩ = some (.int .i64 0) ∧ wr.cell? ⟨w.heap.size + 1, 2, none⟩ = some (.int .i64 0) ∧ wr.cell? ⟨w.heap.size + 1, 3, none⟩ = some (.int .i64 0) ∧ wr.frozen? ⟨w.heap.size + 1, 3, none⟩ = false ∧ w.heap.size + 1 < wr.heap.size ∧ Gr w.heap.size w wr) (fun i _ => 1 - (intOf i).toNat)
  case atStart => exact ⟨0, Nat.zero_le _, rfl, HPA, by go_simp, by go_simp, by go_simp, by go_simp, by go_simp, by go_simp, by go_simp, by go_simp, by go_simp, by go_simp, by go_simp, by go_simp, by go_simp, by go_simp, by go_simp, by go_simp, by go_simp, by (try simp only [World.size_more, World.size_alloc, World.size_setCell, World.size_drew, Array.size_append]); omega, (by repeat (first | (with_reducible exact Gr.refl _) | with_reducible refine Gr.alloc ?_ _ | with_reducible refine Gr.more ?_ _ _ | with_reducible refine Gr.setCell ?_ (by dsimp only; (try simp only [World.size_more, World.size_alloc, World.size_setCell, World.size_drew, Array.size_append]); omega) _ | with_reducible refine Gr.drew ?_))⟩
  case round =>
    obtain ⟨k, hkm, rfl, hpre, d0, d1, d2, d3, d4, d5, e0, e1, e2, e3, e4, e5, x0, x1, x2, x3, fx3, zr, hG⟩ := hrel
    by_cases hlt : k < 1
    · have hlt' : (k : Int) < 1 := by omega
      obtain ⟨p, hp, hp1, hpL, HWP⟩ : ∃ p : Nat, 1 + k = p ∧ 1 ≤ p ∧ p < 2 ∧ Hid (wrap64 (1 + (k : Int)) = (p : Int)) := ⟨1 + k, rfl, by omega, by omega, Lib.hid ((wr_s (by omega) (by omega)).trans (by omega))⟩
      have HW1 : Hid (wrap64 ((k : Int) + 1) = (k : Int) + 1) := Lib.hid (wr_s (by omega) (by omega))
      have HK1 : Hid (1 + (k + 1) = p + 1) := Lib.hid (by omega)
      have HPP : Hid ((1 : Int) + (k : Int) = (p : Int)) := Lib.hid (by omega)
      rw [hp] at hpre
      by_cases hpb : p < b.length
      · have hpb' : (p : Int) < (b.length : Int) := by omega
        have hpb2 : ¬ (b.length : Int) ≤ (p : Int) := by omega
        have hp0 : (0 : Int) ≤ (p : Int) := by omega
        obtain ⟨g1, o1, hge, hc⟩ := seqAt_neK (HB.out wr hG.below) (by intro e; have := congrArg List.length e; rw [bV_len] at this; simp at this; rw [this] at hl; simp at hl)
        cases hge
        have ck := hc p _ (bV_get b p hpb)
        have lk := lt_of_cell ck
        have hgd : b.getD p 0 = b[p] := by simp [List.getD, hpb]
        have hB20 := R20.out p hp1 hpL hpre.out hpb
        have hOK := fun h => hpre.out.next hpb h
        have hgg : goB (shD b) p b[p] = decide ((b[p].toNat : Int) < 128 ∧ (k = 9 → (b[p].toNat : Int) = 0 ∨ (b[p].toNat : Int) = 127)) := by
          have hg3 := GI.out k b[p] hlt
          rw [hp] at hg3
          rw [hg3]
          exact gg_dec k b[p].toNat
        rw [hgd, hgg] at hB20 hOK
        have hz : (b[p].toNat : Int) < 256 := by have := b[p].toNat_lt; omega
        have hz0 : (0 : Int) ≤ (b[p].toNat : Int) := by omega
        have HB20 := Lib.hid hB20
        have HOK := Lib.hid hOK
        clear hc hgd hB20 hOK hgg hpre R21 R20 R0 HN HT GI HB
        generalize (b[p].toNat : Int) = z at *
        have h9' : ((k : Int) == 9) = false := by rw [beq_eq_false_iff_ne]; omega
        by_cases hz3 : 127 < z
        · have HF := Lib.hid (HB20.out (decide_eq_false (fun h => absurd h.1 (Int.not_lt.2 hz3))))
          clear HB20 HOK HK1
          have hwp := HPP.out
          go_wp2_with fail
          clear hwp
          refine bodyPost_ret (v := .agg #[.int .i64 0, .int .i64 0, .int .i64 0, .int .i64 0, .int .i64 0, .int .i64 20]) (by simp [results, go_sem, *]) rfl ?_
          exact ⟨HF.out, Gr.below (by repeat (first | (with_reducible exact hG) | with_reducible refine Gr.alloc ?_ _ | with_reducible refine Gr.more ?_ _ _ | with_reducible refine Gr.setCell ?_ (by dsimp only; (try simp only [World.size_more, World.size_alloc, World.size_setCell, World.size_drew, Array.size_append]); omega) _ | with_reducible refine Gr.drew ?_))⟩
        · have HF : Hid (Pre b (1 + (k + 1))) := Lib.hid (by rw [HK1.out]; exact HOK.out (decide_eq_true (⟨Int.lt_of_le_of_lt (Int.not_lt.1 hz3) (by decide), fun h => absurd h (by omega)⟩)))
          clear HB20 HOK HK1
          have hwp := HPP.out
          go_upto_region 21 with fail
          clear hwp
          go_wp2_with fail
          go_roundw
          case rel =>
            exact ⟨k + 1, hlt, by first | rfl | (push_cast; rfl) | (rw [HW1.out]; push_cast; rfl), HF, by go_simp, by go_simp, by go_simp, by go_simp, by go_simp, by go_simp, by go_simp, by go_simp, by go_simp, by go_simp, by go_simp, by go_simp, by go_simp, by go_simp, by go_simp, by go_simp, by go_simp, by (try simp only [World.size_more, World.size_alloc, World.size_setCell, World.size_drew, Array.size_append]); omega, (by repeat (first | (with_reducible exact hG) | with_reducible refine Gr.alloc ?_ _ | with_reducible refine Gr.more ?_ _ _ | with_reducible refine Gr.setCell ?_ (by dsimp only; (try simp only [World.size_more, World.size_alloc, World.size_setCell, World.size_drew, Array.size_append]); omega) _ | with_reducible refine Gr.drew ?_))⟩
          case measure => first | (simp only [intOf, HW1.out]; omega) | (simp only [intOf]; omega)
      · have hpb2 : (b.length : Int) ≤ (p : Int) := by omega
        have HF := Lib.hid (R21.out p hp1 hpL hpre.out (by omega))
        clear R21 R20 R0 HN HT GI HB hpre HK1
        have hwp := HPP.out
        go_wp2_with fail
        clear hwp
        refine bodyPost_ret (v := .agg #[.int .i64 0, .int .i64 0, .int .i64 0, .int .i64 0, .int .i64 0, .int .i64 21]) (by simp [results, go_sem, *]) rfl ?_
        exact ⟨HF.out, Gr.below (by repeat (first | (with_reducible exact hG) | with_reducible refine Gr.alloc ?_ _ | with_reducible refine Gr.more ?_ _ _ | with_reducible refine Gr.setCell ?_ (by dsimp only; (try simp only [World.size_more, World.size_alloc, World.size_setCell, World.size_drew, Array.size_append]); omega) _ | with_reducible refine Gr.drew ?_))⟩
    · obtain rfl : k = 1 := by omega
      have hLb : 2 ≤ b.length := (hpre.out 1 (by decide) (by decide)).1
      have hLb' : (2 : Int) ≤ (b.length : Int) := by omega
      have hLc : (2 : Int) ≤ (bc : Int) := by omega
      have htl : ((b.take 2).drop 1).length = 1 := by rw [List.length_drop, List.length_take]; omega
      have hX7 : ∀ p (h : p < ((b.take 2).drop 1).length), ((b.take 2).drop 1)[p].toNat < 128 := fun p h => by
        rw [htl] at h
        have := (hpre.out (1 + p) (by omega) (by omega))
        have hg := goB_lt this.2
        simp only [List.getD, this.1, List.getElem?_eq_getElem, Option.getD_some] at hg
        rw [List.getElem_drop, List.getElem_take]
        exact hg
      have HV := Lib.hid (HN.out _ htl hX7 HT.out.symm)
      have NU : ∀ W, Below w.heap.size w W → Calls Tryz.prog 44 #[.slice (some ⟨g0, o0 + 1, none⟩) 1 (bc - 1)] W fun e w' => e = .returned (.int .i64 (nmV ((b.take 2).drop 1))) ∧ W = w' := fun W g => by
        have hsq : SeqAt W (some ⟨g0, o0 + 1, none⟩) (bV ((b.take 2).drop 1)) := by
          rcases HB.out W g with h | ⟨b', o', he, h⟩
          · left
            have : b = [] := by simpa [bV] using h
            rw [this]; simp [bV]
          · right
            cases he
            refine ⟨g0, o0 + 1, rfl, fun j v hj => ?_⟩
            have hjl : j < ((b.take 2).drop 1).length := by
              have := (List.getElem?_eq_some_iff.1 hj).1
              simpa [bV] using this
            rw [bV_get _ j hjl] at hj
            have := h (1 + j) v (by
              rw [htl] at hjl
              rw [bV_get _ _ (by omega), ← hj]
              rw [List.getElem_drop, List.getElem_take])
            rw [show o0 + 1 + j = o0 + (1 + j) by omega]
            exact this
        have := number_any _ _ (bc - 1) W hsq (by rw [htl]; decide) (by rw [htl]; decide) hX7
        rw [htl] at this
        exact this
      have hp1b : 1 < b.length := by omega
      obtain ⟨g1, o1, hge, hc⟩ := seqAt_neK (HB.out wr hG.below) (by intro e; have := congrArg List.length e; rw [bV_len] at this; simp at this; rw [this] at hl; simp at hl)
      cases hge
      have ck := hc 1 _ (bV_get b 1 hp1b)
      have lk := lt_of_cell ck
      have hgd : (((b.take 2).drop 1).getD 0 0) = b[1] := by simp [List.getD, hp1b]
      have h1L : (1 : Int) < (b.length : Int) := by omega
      rw [hgd] at HV
      have hz0 : (0 : Int) ≤ (b[1].toNat : Int) := by omega
      have hz1 : (b[1].toNat : Int) < 256 := by have := b[1].toNat_lt; omega
      have HF := Lib.hid (R0.out hpre.out HV.out)
      clear HV HN HT GI R21 R20 R0 HB hpre hX7 htl hc hgd
      generalize (b[1].toNat : Int) = iv at *
      generalize nmV ((b.take 2).drop 1) = nv at *
      go_wp2_with (go_at_call 44; (refine (NU _ (Gr.below (by repeat (first | (with_reducible exact hG) | with_reducible refine Gr.alloc ?_ _ | with_reducible refine Gr.more ?_ _ _ | with_reducible refine Gr.setCell ?_ (by dsimp only; (try simp only [World.size_more, World.size_alloc, World.size_setCell, World.size_drew, Array.size_append]); omega) _ | with_reducible refine Gr.drew ?_)))).mono ?_); rintro e w9 ⟨rfl, rfl⟩)
      refine bodyPost_ret (v := .agg #[.int .i64 (x - 128), .int .i64 0, .int .i64 0, .int .i64 iv, .int .i64 2, .int .i64 0]) (by simp [results, go_sem, *]) rfl ?_
      exact ⟨HF.out, Gr.below (by repeat (first | (with_reducible exact hG) | with_reducible refine Gr.alloc ?_ _ | with_reducible refine Gr.more ?_ _ _ | with_reducible refine Gr.setCell ?_ (by dsimp only; (try simp only [World.size_more, World.size_alloc, World.size_setCell, World.size_drew, Array.size_append]); omega) _ | with_reducible refine Gr.drew ?_))⟩
end Go.Proofs.YtjlbcpmfbokinaaGreatDoor

namespace Go.Proofs.YtjlbcpmfbokinaaGreatDoor
open Go.RowKit

set_option maxRecDepth 100000 in
set_option maxHeartbeats 8000000 in
theorem rdec_1_1 {f : Int} (b : List UInt8) (bp : Option Addr) (bc : Nat) (w : World) (hb : SeqAt w bp (bV b)) (hcap : b.length ≤ bc) (hl : 0 < b.length) (hk : knO (opD b) = true) (hs : shD b < 12) (hr : rgS (shD b) = 1) (hm : imS (shD b) = 1) (hf0 : f ≠ 0) (hf10 : f ≠ 10)
    (hN : ∀ X : List UInt8, X.length = 1 → (∀ p (h : p < X.length), X[p].toNat < 128) → X = tail7 (shD b) b → nmV X = immV (shD b) (tail7 (shD b) b))
    (FO : ∀ W, Calls Tryz.prog 34 #[.int .i64 (opD b)] W fun e w' => e = .returned (.int .i64 f) ∧ W = w')
    (OP : ∀ W, Calls Tryz.prog 36 #[.int .i64 f] W fun e w' => e = .returned (.tuple #[.bool true, .bool false, .int .i64 1]) ∧ W = w') :
    Calls Tryz.prog 24 #[.slice bp b.length bc] w fun e w' => RDec b e ∧ Below w.heap.size w w' := by
  have hL : lenS (shD b) = 3 := by unfold lenS; rw [hr, hm]; rfl
  have HB : ∀ W, Below w.heap.size w W → SeqAt W bp (bV b) := fun W g => hb.up g
  have HB := Lib.hid HB
  have GI : ∀ (k : Nat) (c : UInt8), k < 1 → goB (shD b) (2 + k) c = decide (c.toNat < 128 ∧ (k = 9 → c.toNat = 0 ∨ c.toNat = 127)) := fun k c h => by
    have := gob_imm hs (k := k) (c := c) (by rw [hm]; exact h)
    rw [hr] at this
    exact this
  have GI := Lib.hid GI
  have R21 := Lib.hid (fun k (h1 : 1 ≤ k) (h2 : k < 3) => rdec_21 hl hk h1 (by rw [hL]; exact h2))
  have R20 := Lib.hid (fun k (h1 : 1 ≤ k) (h2 : k < 3) => rdec_20 hl hk h1 (by rw [hL]; exact h2))
  have R0 : Hid (∀ {i : Int}, Pre b 3 → i = immV (shD b) (tail7 (shD b) b) → RDec b (.returned (.agg #[.int .i64 (opD b), .int .i64 (rA (shD b) b), .int .i64 (rB (shD b) b), .int .i64 i, .int .i64 3, .int .i64 0]))) := Lib.hid (fun hp hi => rdec_0 hl hk (by rw [hL]; exact hp) hi (by rw [hL]; rfl))
  have HT : Hid (tail7 (shD b) b = (b.take 3).drop 2) := Lib.hid (by unfold tail7; rw [hL, hm])
  have HRA := Lib.hid (show rA (shD b) b = ((b.getD 1 0).toNat : Int) by unfold rA; rw [if_pos hr])
  have HRB := Lib.hid (show rB (shD b) b = 0 by unfold rB; rw [if_neg (by omega)])
  have HN := Lib.hid hN
  obtain ⟨g0, o0, rfl, hc⟩ := seqAt_neK hb (by intro e; have := congrArg List.length e; rw [bV_len] at this; simp at this; rw [this] at hl; simp at hl)
  have c0 := hc 0 _ (bV_get b 0 hl)
  rw [Nat.add_zero] at c0
  have lc := lt_of_cell c0
  have hn : ((b.length : Int) == 0) = false := by rw [beq_eq_false_iff_ne]; omega
  have hn1 : (0 : Int) < (b.length : Int) := by omega
  have hcap' : (b.length : Int) ≤ (bc : Int) := by omega
  have hf0' : (f == 0) = false := beq_eq_false_iff_ne.2 hf0
  have hf10' : (f == 10) = false := beq_eq_false_iff_ne.2 hf10
  have hop := opD_get hl
  have hkn := (knO_iff _).1 hk
  rw [hop] at FO hkn
  have hx : (b[0].toNat : Int) < 256 := by have := b[0].toNat_lt; omega
  have hx1 : ¬ (b[0].toNat : Int) < 128 := by omega
  have hx0 : (0 : Int) ≤ (b[0].toNat : Int) := by omega
  have hw : wrap64 ((b[0].toNat : Int) - 128) = (b[0].toNat : Int) - 128 := by unfold wrap64; omega
  rw [hop] at R0
  have GR := Lib.hid (gob_r1 hr)
  clear hN hk hs hr hm hL hf0 hb hop hkn
  generalize hx0v : (b[0].toNat : Int) = x at *
  clear hx0v
  by_cases h1 : b.length < 2
  · have h1' : (b.length : Int) < 2 := by omega
    have HF := Lib.hid (R21.out 1 (by decide) (by decide) (Pre.one b) (by omega))
    clear R21 R20 R0 HT HRA HRB HN GI HB
    go_enter Tryz.func24, Tryz.ntmps24
    go_wp2_with first | (go_at_call 34; (refine (FO _).mono ?_); rintro e w1 ⟨rfl, rfl⟩) | (go_at_call 36; (refine (OP _).mono ?_); rintro e w1 ⟨rfl, rfl⟩)
    refine bodyPost_ret (v := .agg #[.int .i64 0, .int .i64 0, .int .i64 0, .int .i64 0, .int .i64 0, .int .i64 21]) (by simp [results, go_sem, *]) rfl ?_
    exact ⟨HF.out, Gr.below (by repeat (first | (with_reducible exact Gr.refl _) | with_reducible refine Gr.alloc ?_ _ | with_reducible refine Gr.more ?_ _ _ | with_reducible refine Gr.setCell ?_ (by dsimp only; (try simp only [World.size_more, World.size_alloc, World.size_setCell, World.size_drew, Array.size_append]); omega) _ | with_reducible refine Gr.drew ?_))⟩
  have hp1 : 1 < b.length := by omega
  have h1' : ¬ (b.length : Int) < 2 := by omega
  have h1'' : (1 : Int) < (b.length : Int) := by omega
  have c1 := hc 1 _ (bV_get b 1 hp1)
  have hgd : b.getD 1 0 = b[1] := by simp [List.getD, hp1]
  have HR1 := Lib.hid (R20.out 1 (by decide) (by decide) (Pre.one b) hp1)
  have HP1 := Lib.hid (fun h => (Pre.one b).next hp1 h)
  rw [hgd] at HR1 HP1 HRA
  have hg1 := GR.out b[1]
  have hy : (b[1].toNat : Int) < 256 := by have := b[1].toNat_lt; omega
  have hy0 : (0 : Int) ≤ (b[1].toNat : Int) := by omega
  have hdec : goB (shD b) 1 b[1] = decide ((b[1].toNat : Int) < 8) := by rw [hg1]; congr 1; simp only [eq_iff_iff]; omega
  rw [hdec] at HR1 HP1
  clear hg1 hdec hgd hc GR
  generalize (b[1].toNat : Int) = y at *
  by_cases h63 : 63 < y
  · have HF := Lib.hid (HR1.out (decide_eq_false (by omega)))
    clear R21 R20 R0 HT HRA HRB HN GI HB HR1 HP1
    go_enter Tryz.func24, Tryz.ntmps24
    go_wp2_with first | (go_at_call 34; (refine (FO _).mono ?_); rintro e w1 ⟨rfl, rfl⟩) | (go_at_call 36; (refine (OP _).mono ?_); rintro e w1 ⟨rfl, rfl⟩)
    refine bodyPost_ret (v := .agg #[.int .i64 0, .int .i64 0, .int .i64 0, .int .i64 0, .int .i64 0, .int .i64 20]) (by simp [results, go_sem, *]) rfl ?_
    exact ⟨HF.out, Gr.below (by repeat (first | (with_reducible exact Gr.refl _) | with_reducible refine Gr.alloc ?_ _ | with_reducible refine Gr.more ?_ _ _ | with_reducible refine Gr.setCell ?_ (by dsimp only; (try simp only [World.size_more, World.size_alloc, World.size_setCell, World.size_drew, Array.size_append]); omega) _ | with_reducible refine Gr.drew ?_))⟩
  by_cases h7 : 7 < y
  · have HF := Lib.hid (HR1.out (decide_eq_false (by omega)))
    clear R21 R20 R0 HT HRA HRB HN GI HB HR1 HP1
    go_enter Tryz.func24, Tryz.ntmps24
    go_wp2_with first | (go_at_call 34; (refine (FO _).mono ?_); rintro e w1 ⟨rfl, rfl⟩) | (go_at_call 36; (refine (OP _).mono ?_); rintro e w1 ⟨rfl, rfl⟩)
    refine bodyPost_ret (v := .agg #[.int .i64 0, .int .i64 0, .int .i64 0, .int .i64 0, .int .i64 0, .int .i64 20]) (by simp [results, go_sem, *]) rfl ?_
    exact ⟨HF.out, Gr.below (by repeat (first | (with_reducible exact Gr.refl _) | with_reducible refine Gr.alloc ?_ _ | with_reducible refine Gr.more ?_ _ _ | with_reducible refine Gr.setCell ?_ (by dsimp only; (try simp only [World.size_more, World.size_alloc, World.size_setCell, World.size_drew, Array.size_append]); omega) _ | with_reducible refine Gr.drew ?_))⟩
  have HPA := Lib.hid (HP1.out (decide_eq_true (by omega)))
  clear HP1 HR1
  rw [HRA.out, HRB.out] at R0
  clear HRA HRB
  go_enter Tryz.func24, Tryz.ntmps24
  go_wp2_with first | (go_at_call 34; (refine (FO _).mono ?_); rintro e w1 ⟨rfl, rfl⟩) | (go_at_call 36; (refine (OP _).mono ?_); rintro e w1 ⟨rfl, rfl⟩)
  go_loopw [9] (fun i wr => ∃ k : Nat, k ≤ 1 ∧ i = .int .i64 (k : Int) ∧ Hid (Pre b (2 + k)) ∧ wr.cell? ⟨w.heap.size, 0, none⟩ = some (.int .i64 0) ∧ wr.cell? ⟨w.heap.size, 1, none⟩ = some (.int .i64 0) ∧ wr.cell? ⟨w.heap.size, 2, none⟩ = some (.int .i64 0) ∧ wr.cell? ⟨w.heap.size, 3, none⟩ = some (.int .i64 0) ∧ wr.cell? ⟨w.heap.size, 4, none⟩ = some (.int .i64 0) ∧ wr.cell? ⟨w.heap.size, 5, none⟩ = some (.int .i64 0) ∧ wr.frozen? ⟨w.heap.size, 0, none⟩ = false ∧ wr.frozen? ⟨w.heap.size, 1, none⟩ = false ∧ wr.frozen? ⟨w.heap.size, 2, none⟩ = false ∧ wr.frozen? ⟨w.heap.size, 3, none⟩ = false ∧ wr.frozen? ⟨w.heap.size, 4, none⟩ = false ∧ wr.frozen? ⟨w.heap.size, 5, none⟩ = false ∧ wr.cell? ⟨w.heap.size + 1, 0, none⟩ = some (.int .i64 (x - 128)) ∧ wr.cell? ⟨w.heap.size + 1, 1, none⟩ = some (.int .i64 y) ∧ wr.cell? ⟨w.heap.size + 1, 2, none⟩ = some (.int .i64 0) ∧ wr.cell? ⟨w.heap.size + 1, 3, none⟩ = some (.int .i64 0) ∧ wr.frozen? ⟨w.heap.size + 1, 3, none⟩ = false ∧ w.heap.size + 1 < wr.heap.size ∧ Gr w.heap.size w wr) (fun i _ => 1 - (intOf i).toNat)
  case atStart => exact ⟨0, Nat.zero_le _, rfl, HPA, by go_simp, by go_simp, by go_simp, by go_simp, by go_simp, by go_simp, by go_simp, by go_simp, by go_simp, by go_simp, by go_simp, by go_simp, by go_simp, by go_simp, by go_simp, by go_simp, by go_simp, by (try simp only [World.size_more, World.size_alloc, World.size_setCell, World.size_drew, Array.size_append]); omega, (by repeat (first | (with_reducible exact Gr.refl _) | with_reducible refine Gr.alloc ?_ _ | with_reducible refine Gr.more ?_ _ _ | with_reducible refine Gr.setCell ?_ (by dsimp only; (try simp only [World.size_more, World.size_alloc, World.size_setCell, World.size_drew, Array.size_append]); omega) _ | with_reducible refine Gr.drew ?_))⟩
  case round =>
    obtain ⟨k, hkm, rfl, hpre, d0, d1, d2, d3, d4, d5, e0, e1, e2, e3, e4, e5, x0, x1, x2, x3, fx3, zr, hG⟩ := hrel
    by_cases hlt : k < 1
    · have hlt' : (k : Int) < 1 := by omega
      obtain ⟨p, hp, hp1, hpL, HWP⟩ : ∃ p : Nat, 2 + k = p ∧ 1 ≤ p ∧ p < 3 ∧ Hid (wrap64 (2 + (k : Int)) = (p : Int)) := ⟨2 + k, rfl, by omega, by omega, Lib.hid ((wr_s (by omega) (by omega)).trans (by omega))⟩
      have HW1 : Hid (wrap64 ((k : Int) + 1) = (k : Int) + 1) := Lib.hid (wr_s (by omega) (by omega))
      have HK1 : Hid (2 + (k + 1) = p + 1) := Lib.hid (by omega)
      have HPP : Hid ((2 : Int) + (k : Int) = (p : Int)) := Lib.hid (by omega)
      rw [hp] at hpre
      by_cases hpb : p < b.length
      · have hpb' : (p : Int) < (b.length : Int) := by omega
        have hpb2 : ¬ (b.length : Int) ≤ (p : Int) := by omega
        have hp0 : (0 : Int) ≤ (p : Int) := by omega
        obtain ⟨g1, o1, hge, hc⟩ := seqAt_neK (HB.out wr hG.below) (by intro e; have := congrArg List.length e; rw [bV_len] at this; simp at this; rw [this] at hl; simp at hl)
        cases hge
        have ck := hc p _ (bV_get b p hpb)
        have lk := lt_of_cell ck
        have hgd : b.getD p 0 = b[p] := by simp [List.getD, hpb]
        have hB20 := R20.out p hp1 hpL hpre.out hpb
        have hOK := fun h => hpre.out.next hpb h
        have hgg : goB (shD b) p b[p] = decide ((b[p].toNat : Int) < 128 ∧ (k = 9 → (b[p].toNat : Int) = 0 ∨ (b[p].toNat : Int) = 127)) := by
          have hg3 := GI.out k b[p] hlt
          rw [hp] at hg3
          rw [hg3]
          exact gg_dec k b[p].toNat
        rw [hgd, hgg] at hB20 hOK
        have hz : (b[p].toNat : Int) < 256 := by have := b[p].toNat_lt; omega
        have hz0 : (0 : Int) ≤ (b[p].toNat : Int) := by omega
        have HB20 := Lib.hid hB20
        have HOK := Lib.hid hOK
        clear hc hgd hB20 hOK hgg hpre R21 R20 R0 HN HT GI HB
        generalize (b[p].toNat : Int) = z at *
        have h9' : ((k : Int) == 9) = false := by rw [beq_eq_false_iff_ne]; omega
        by_cases hz3 : 127 < z
        · have HF := Lib.hid (HB20.out (decide_eq_false (fun h => absurd h.1 (Int.not_lt.2 hz3))))
          clear HB20 HOK HK1
          have hwp := HPP.out
          go_wp2_with fail
          clear hwp
          refine bodyPost_ret (v := .agg #[.int .i64 0, .int .i64 0, .int .i64 0, .int .i64 0, .int .i64 0, .int .i64 20]) (by simp [results, go_sem, *]) rfl ?_
          exact ⟨HF.out, Gr.below (by repeat (first | (with_reducible exact hG) | with_reducible refine Gr.alloc ?_ _ | with_reducible refine Gr.more ?_ _ _ | with_reducible refine Gr.setCell ?_ (by dsimp only; (try simp only [World.size_more, World.size_alloc, World.size_setCell, World.size_drew, Array.size_append]); omega) _ | with_reducible refine Gr.drew ?_))⟩
        · have HF : Hid (Pre b (2 + (k + 1))) := Lib.hid (by rw [HK1.out]; exact HOK.out (decide_eq_true (⟨Int.lt_of_le_of_lt (Int.not_lt.1 hz3) (by decide), fun h => absurd h (by omega)⟩)))
          clear HB20 HOK HK1
          have hwp := HPP.out
          go_upto_region 21 with fail
          clear hwp
          go_wp2_with fail
          go_roundw
          case rel =>
            exact ⟨k + 1, hlt, by first | rfl | (push_cast; rfl) | (rw [HW1.out]; push_cast; rfl), HF, by go_simp, by go_simp, by go_simp, by go_simp, by go_simp, by go_simp, by go_simp, by go_simp, by go_simp, by go_simp, by go_simp, by go_simp, by go_simp, by go_simp, by go_simp, by go_simp, by go_simp, by (try simp only [World.size_more, World.size_alloc, World.size_setCell, World.size_drew, Array.size_append]); omega, (by repeat (first | (with_reducible exact hG) | with_reducible refine Gr.alloc ?_ _ | with_reducible refine Gr.more ?_ _ _ | with_reducible refine Gr.setCell ?_ (by dsimp only; (try simp only [World.size_more, World.size_alloc, World.size_setCell, World.size_drew, Array.size_append]); omega) _ | with_reducible refine Gr.drew ?_))⟩
          case measure => first | (simp only [intOf, HW1.out]; omega) | (simp only [intOf]; omega)
      · have hpb2 : (b.length : Int) ≤ (p : Int) := by omega
        have HF := Lib.hid (R21.out p hp1 hpL hpre.out (by omega))
        clear R21 R20 R0 HN HT GI HB hpre HK1
        have hwp := HPP.out
        go_wp2_with fail
        clear hwp
        refine bodyPost_ret (v := .agg #[.int .i64 0, .int .i64 0, .int .i64 0, .int .i64 0, .int .i64 0, .int .i64 21]) (by simp [results, go_sem, *]) rfl ?_
        exact ⟨HF.out, Gr.below (by repeat (first | (with_reducible exact hG) | with_reducible refine Gr.alloc ?_ _ | with_reducible refine Gr.more ?_ _ _ | with_reducible refine Gr.setCell ?_ (by dsimp only; (try simp only [World.size_more, World.size_alloc, World.size_setCell, World.size_drew, Array.size_append]); omega) _ | with_reducible refine Gr.drew ?_))⟩
    · obtain rfl : k = 1 := by omega
      have hLb : 3 ≤ b.length := (hpre.out 2 (by decide) (by decide)).1
      have hLb' : (3 : Int) ≤ (b.length : Int) := by omega
      have hLc : (3 : Int) ≤ (bc : Int) := by omega
      have htl : ((b.take 3).drop 2).length = 1 := by rw [List.length_drop, List.length_take]; omega
      have hX7 : ∀ p (h : p < ((b.take 3).drop 2).length), ((b.take 3).drop 2)[p].toNat < 128 := fun p h => by
        rw [htl] at h
        have := (hpre.out (2 + p) (by omega) (by omega))
        have hg := goB_lt this.2
        simp only [List.getD, this.1, List.getElem?_eq_getElem, Option.getD_some] at hg
        rw [List.getElem_drop, List.getElem_take]
        exact hg
      have HV := Lib.hid (HN.out _ htl hX7 HT.out.symm)
      have NU : ∀ W, Below w.heap.size w W → Calls Tryz.prog 44 #[.slice (some ⟨g0, o0 + 2, none⟩) 1 (bc - 2)] W fun e w' => e = .returned (.int .i64 (nmV ((b.take 3).drop 2))) ∧ W = w' := fun W g => by
        have hsq : SeqAt W (some ⟨g0, o0 + 2, none⟩) (bV ((b.take 3).drop 2)) := by
          rcases HB.out W g with h | ⟨b', o', he, h⟩
          · left
            have : b = [] := by simpa [bV] using h
            rw [this]; simp [bV]
          · right
            cases he
            refine ⟨g0, o0 + 2, rfl, fun j v hj => ?_⟩
            have hjl : j < ((b.take 3).drop 2).length := by
              have := (List.getElem?_eq_some_iff.1 hj).1
              simpa [bV] using this
            rw [bV_get _ j hjl] at hj
            have := h (2 + j) v (by
              rw [htl] at hjl
              rw [bV_get _ _ (by omega), ← hj]
              rw [List.getElem_drop, List.getElem_take])
            rw [show o0 + 2 + j = o0 + (2 + j) by omega]
            exact this
        have := number_any _ _ (bc - 2) W hsq (by rw [htl]; decide) (by rw [htl]; decide) hX7
        rw [htl] at this
        exact this
      have HF := Lib.hid (R0.out hpre.out HV.out)
      clear HV HN HT GI R21 R20 R0 HB hpre hX7 htl
      generalize nmV ((b.take 3).drop 2) = iv at *
      go_wp2_with (go_at_call 44; (refine (NU _ (Gr.below (by repeat (first | (with_reducible exact hG) | with_reducible refine Gr.alloc ?_ _ | with_reducible refine Gr.more ?_ _ _ | with_reducible refine Gr.setCell ?_ (by dsimp only; (try simp only [World.size_more, World.size_alloc, World.size_setCell, World.size_drew, Array.size_append]); omega) _ | with_reducible refine Gr.drew ?_)))).mono ?_); rintro e w9 ⟨rfl, rfl⟩)
      refine bodyPost_ret (v := .agg #[.int .i64 (x - 128), .int .i64 y, .int .i64 0, .int .i64 iv, .int .i64 3, .int .i64 0]) (by simp [results, go_sem, *]) rfl ?_
      exact ⟨HF.out, Gr.below (by repeat (first | (with_reducible exact hG) | with_reducible refine Gr.alloc ?_ _ | with_reducible refine Gr.more ?_ _ _ | with_reducible refine Gr.setCell ?_ (by dsimp only; (try simp only [World.size_more, World.size_alloc, World.size_setCell, World.size_drew, Array.size_append]); omega) _ | with_reducible refine Gr.drew ?_))⟩
end Go.Proofs.YtjlbcpmfbokinaaGreatDoor
