/-
  Layer 2, the reference: Decode (made by genhe.py).
  Layer 2, the reference: Decode (made by genhe.py).
  Layer 2, the reference: Decode (made by genhe.py).
-/
import Derived.Test.YtjlbcpmfbokinaaGreatDoorGL
set_option linter.unusedSimpArgs false
set_option linter.unusedVariables false
namespace Go.Proofs.YtjlbcpmfbokinaaGreatDoor
open Go.RowKit

set_option maxRecDepth 100000 in
set_option maxHeartbeats 8000000 in
theorem rdec_0_0 {f : Int} (b : List UInt8) (bp : Option Addr) (bc : Nat) (w : World) (hb : SeqAt w bp (bV b)) (hcap : b.length ≤ bc) (hl : 0 < b.length) (hk : knO (opD b) = true) (hs : shD b < 12) (hr : rgS (shD b) = 0) (hm : imS (shD b) = 0) (hf0 : f ≠ 0) (hf10 : f ≠ 10)
    (hN : ∀ X : List UInt8, X.length = 0 → (∀ p (h : p < X.length), X[p].toNat < 128) → X = tail7 (shD b) b → 0 = immV (shD b) (tail7 (shD b) b))
    (FO : ∀ W, Calls Tryz.prog 34 #[.int .i64 (opD b)] W fun e w' => e = .returned (.int .i64 f) ∧ W = w')
    (OP : ∀ W, Calls Tryz.prog 36 #[.int .i64 f] W fun e w' => e = .returned (.tuple #[.bool false, .bool false, .int .i64 0]) ∧ W = w') :
    Calls Tryz.prog 24 #[.slice bp b.length bc] w fun e w' => RDec b e ∧ Below w.heap.size w w' := by
  have hL : lenS (shD b) = 1 := by unfold lenS; rw [hr, hm]; rfl
  have HB : ∀ W, Below w.heap.size w W → SeqAt W bp (bV b) := fun W g => hb.up g
  have HB := Lib.hid HB
  have GI : ∀ (k : Nat) (c : UInt8), k < 0 → goB (shD b) (1 + k) c = decide (c.toNat < 128 ∧ (k = 9 → c.toNat = 0 ∨ c.toNat = 127)) := fun k c h => by
    have := gob_imm hs (k := k) (c := c) (by rw [hm]; exact h)
    rw [hr] at this
    exact this
  have GI := Lib.hid GI
  have R21 := Lib.hid (fun k (h1 : 1 ≤ k) (h2 : k < 1) => rdec_21 hl hk h1 (by rw [hL]; exact h2))
  have R20 := Lib.hid (fun k (h1 : 1 ≤ k) (h2 : k < 1) => rdec_20 hl hk h1 (by rw [hL]; exact h2))
  have R0 : Hid (∀ {i : Int}, Pre b 1 → i = immV (shD b) (tail7 (shD b) b) → RDec b (.returned (.agg #[.int .i64 (opD b), .int .i64 (rA (shD b) b), .int .i64 (rB (shD b) b), .int .i64 i, .int .i64 1, .int .i64 0]))) := Lib.hid (fun hp hi => rdec_0 hl hk (by rw [hL]; exact hp) hi (by rw [hL]; rfl))
  have HT : Hid (tail7 (shD b) b = (b.take 1).drop 1) := Lib.hid (by unfold tail7; rw [hL, hm])
  have HRA := Lib.hid (show rA (shD b) b = 0 by unfold rA; rw [if_neg (by omega), if_neg (by omega)])
  have HRB := Lib.hid (show rB (shD b) b = 0 by unfold rB; rw [if_neg (by omega)])
  have HN := Lib.hid hN
  obtain ⟨g0, o0, rfl, hc⟩ := seqAt_neK hb (by intro e; have := congrArg List.length e; rw [bV_len] at this; simp at this; rw [this] at hl; simp at hl)
  have c0 := hc 0 _ (bV_get b 0 hl)
  rw [Nat.add_zero] at c0
  have lc := lt_of_cell c0
  have hn : ((b.length : Int) == 0) = false := by rw [beq_eq_false_iff_ne]; omega
  have hn1 : (0 : Int) < (b.length : Int) := by omega
  have hcap' : (b.length : Int) ≤ (bc : Int) := by omega
  have hf0' : (f == 0) = false := beq_eq_false_iff_ne.2 hf0
  have hf10' : (f == 10) = false := beq_eq_false_iff_ne.2 hf10
  have hop := opD_get hl
  have hkn := (knO_iff _).1 hk
  rw [hop] at FO hkn
  have hx : (b[0].toNat : Int) < 256 := by have := b[0].toNat_lt; omega
  have hx1 : ¬ (b[0].toNat : Int) < 128 := by omega
  have hx0 : (0 : Int) ≤ (b[0].toNat : Int) := by omega
  have hw : wrap64 ((b[0].toNat : Int) - 128) = (b[0].toNat : Int) - 128 := by unfold wrap64; omega
  rw [hop] at R0
  clear hN hk hs hr hm hL hf0 hb hop hkn
  generalize hx0v : (b[0].toNat : Int) = x at *
  clear hx0v
  have HPA := Lib.hid (Pre.one b)
  clear hc
  rw [HRA.out, HRB.out] at R0
  clear HRA HRB
  go_enter Tryz.func24, Tryz.ntmps24
  go_wp2_with first | (go_at_call 34; (refine (FO _).mono ?_); rintro e w1 ⟨rfl, rfl⟩) | (go_at_call 36; (refine (OP _).mono ?_); rintro e w1 ⟨rfl, rfl⟩)
  go_loopw [9] (fun i wr => ∃ k : Nat, k ≤ 0 ∧ i = .int .i64 (k : Int) ∧ Hid (Pre b (1 + k)) ∧ wr.cell? ⟨w.heap.size, 0, none⟩ = some (.int .i64 0) ∧ wr.cell? ⟨w.heap.size, 1, none⟩ = some (.int .i64 0) ∧ wr.cell? ⟨w.heap.size, 2, none⟩ = some (.int .i64 0) ∧ wr.cell? ⟨w.heap.size, 3, none⟩ = some (.int .i64 0) ∧ wr.cell? ⟨w.heap.size, 4, none⟩ = some (.int .i64 0) ∧ wr.cell? ⟨w.heap.size, 5, none⟩ = some (.int .i64 0) ∧ wr.frozen? ⟨w.heap.size, 0, none⟩ = false ∧ wr.frozen? ⟨w.heap.size, 1, none⟩ = false ∧ wr.frozen? ⟨w.heap.size, 2, none⟩ = false ∧ wr.frozen? ⟨w.heap.size, 3, none⟩ = false ∧ wr.frozen? ⟨w.heap.size, 4, none⟩ = false ∧ wr.frozen? ⟨w.heap.size, 5, none⟩ = false ∧ wr.cell? ⟨w.heap.size + 1, 0, none⟩ = some (.int .i64 (x - 128)) ∧ wr.cell? ⟨w.heap.size + 1, 1, none⟩ = some (.int .i64 0) ∧ wr.cell? ⟨w.heap.size + 1, 2, none⟩ = some (.int .i64 0) ∧ wr.cell? ⟨w.heap.size + 1, 3, none⟩ = some (.int .i64 0) ∧ wr.frozen? ⟨w.heap.size + 1, 3, none⟩ = false ∧ w.heap.size + 1 < wr.heap.size ∧ Gr w.heap.size w wr) (fun i _ => 0 - (intOf i).toNat)
  case atStart => exact ⟨0, Nat.zero_le _, rfl, HPA, by go_simp, by go_simp, by go_simp, by go_simp, by go_simp, by go_simp, by go_simp, by go_simp, by go_simp, by go_simp, by go_simp, by go_simp, by go_simp, by go_simp, by go_simp, by go_simp, by go_simp, by (try simp only [World.size_more, World.size_alloc, World.size_setCell, World.size_drew, Array.size_append]); omega, (by repeat (first | (with_reducible exact Gr.refl _) | with_reducible refine Gr.alloc ?_ _ | with_reducible refine Gr.more ?_ _ _ | with_reducible refine Gr.setCell ?_ (by dsimp only; (try simp only [World.size_more, World.size_alloc, World.size_setCell, World.size_drew, Array.size_append]); omega) _ | with_reducible refine Gr.drew ?_))⟩
  case round =>
    obtain ⟨k, hkm, rfl, hpre, d0, d1, d2, d3, d4, d5, e0, e1, e2, e3, e4, e5, x0, x1, x2, x3, fx3, zr, hG⟩ := hrel
    obtain rfl : k = 0 := by omega
    have HF : Hid _ := Lib.hid (R0.out (i := 0) hpre.out (HN.out [] rfl (fun p h => absurd h (Nat.not_lt_zero p)) (by rw [HT.out]; simp [List.drop_take])))
    clear R0 R21 R20 HN HT GI HB hpre
    go_wp2_with fail
    refine bodyPost_ret (v := .agg #[.int .i64 (x - 128), .int .i64 0, .int .i64 0, .int .i64 0, .int .i64 1, .int .i64 0]) (by simp [results, go_sem, *]) rfl ?_
    exact ⟨HF.out, Gr.below (by repeat (first | (with_reducible exact hG) | with_reducible refine Gr.alloc ?_ _ | with_reducible refine Gr.more ?_ _ _ | with_reducible refine Gr.setCell ?_ (by dsimp only; (try simp only [World.size_more, World.size_alloc, World.size_setCell, World.size_drew, Array.size_append]); omega) _ | with_reducible refine Gr.drew ?_))⟩
end Go.Proofs.YtjlbcpmfbokinaaGreatDoor

namespace Go.Proofs.YtjlbcpmfbokinaaGreatDoor
open Go.RowKit

set_option maxRecDepth 100000 in
set_option maxHeartbeats 8000000 in
theorem rdec_1_0 {f : Int} (b : List UInt8) (bp : Option Addr) (bc : Nat) (w : World) (hb : SeqAt w bp (bV b)) (hcap : b.length ≤ bc) (hl : 0 < b.length) (hk : knO (opD b) = true) (hs : shD b < 12) (hr : rgS (shD b) = 1) (hm : imS (shD b) = 0) (hf0 : f ≠ 0) (hf10 : f ≠ 10)
    (hN : ∀ X : List UInt8, X.length = 0 → (∀ p (h : p < X.length), X[p].toNat < 128) → X = tail7 (shD b) b → 0 = immV (shD b) (tail7 (shD b) b))
    (FO : ∀ W, Calls Tryz.prog 34 #[.int .i64 (opD b)] W fun e w' => e = .returned (.int .i64 f) ∧ W = w')
    (OP : ∀ W, Calls Tryz.prog 36 #[.int .i64 f] W fun e w' => e = .returned (.tuple #[.bool true, .bool false, .int .i64 0]) ∧ W = w') :
    Calls Tryz.prog 24 #[.slice bp b.length bc] w fun e w' => RDec b e ∧ Below w.heap.size w w' := by
  have hL : lenS (shD b) = 2 := by unfold lenS; rw [hr, hm]; rfl
  have HB : ∀ W, Below w.heap.size w W → SeqAt W bp (bV b) := fun W g => hb.up g
  have HB := Lib.hid HB
  have GI : ∀ (k : Nat) (c : UInt8), k < 0 → goB (shD b) (2 + k) c = decide (c.toNat < 128 ∧ (k = 9 → c.toNat = 0 ∨ c.toNat = 127)) := fun k c h => by
    have := gob_imm hs (k := k) (c := c) (by rw [hm]; exact h)
    rw [hr] at this
    exact this
  have GI := Lib.hid GI
  have R21 := Lib.hid (fun k (h1 : 1 ≤ k) (h2 : k < 2) => rdec_21 hl hk h1 (by rw [hL]; exact h2))
  have R20 := Lib.hid (fun k (h1 : 1 ≤ k) (h2 : k < 2) => rdec_20 hl hk h1 (by rw [hL]; exact h2))
  have R0 : Hid (∀ {i : Int}, Pre b 2 → i = immV (shD b) (tail7 (shD b) b) → RDec b (.returned (.agg #[.int .i64 (opD b), .int .i64 (rA (shD b) b), .int .i64 (rB (shD b) b), .int .i64 i, .int .i64 2, .int .i64 0]))) := Lib.hid (fun hp hi => rdec_0 hl hk (by rw [hL]; exact hp) hi (by rw [hL]; rfl))
  have HT : Hid (tail7 (shD b) b = (b.take 2).drop 2) := Lib.hid (by unfold tail7; rw [hL, hm])
  have HRA := Lib.hid (show rA (shD b) b = ((b.getD 1 0).toNat : Int) by unfold rA; rw [if_pos hr])
  have HRB := Lib.hid (show rB (shD b) b = 0 by unfold rB; rw [if_neg (by omega)])
  have HN := Lib.hid hN
  obtain ⟨g0, o0, rfl, hc⟩ := seqAt_neK hb (by intro e; have := congrArg List.length e; rw [bV_len] at this; simp at this; rw [this] at hl; simp at hl)
  have c0 := hc 0 _ (bV_get b 0 hl)
  rw [Nat.add_zero] at c0
  have lc := lt_of_cell c0
  have hn : ((b.length : Int) == 0) = false := by rw [beq_eq_false_iff_ne]; omega
  have hn1 : (0 : Int) < (b.length : Int) := by omega
  have hcap' : (b.length : Int) ≤ (bc : Int) := by omega
  have hf0' : (f == 0) = false := beq_eq_false_iff_ne.2 hf0
  have hf10' : (f == 10) = false := beq_eq_false_iff_ne.2 hf10
  have hop := opD_get hl
  have hkn := (knO_iff _).1 hk
  rw [hop] at FO hkn
  have hx : (b[0].toNat : Int) < 256 := by have := b[0].toNat_lt; omega
  have hx1 : ¬ (b[0].toNat : Int) < 128 := by omega
  have hx0 : (0 : Int) ≤ (b[0].toNat : Int) := by omega
  have hw : wrap64 ((b[0].toNat : Int) - 128) = (b[0].toNat : Int) - 128 := by unfold wrap64; omega
  rw [hop] at R0
  have GR := Lib.hid (gob_r1 hr)
  clear hN hk hs hr hm hL hf0 hb hop hkn
  generalize hx0v : (b[0].toNat : Int) = x at *
  clear hx0v
  by_cases h1 : b.length < 2
  · have h1' : (b.length : Int) < 2 := by omega
    have HF := Lib.hid (R21.out 1 (by decide) (by decide) (Pre.one b) (by omega))
    clear R21 R20 R0 HT HRA HRB HN GI HB
    go_enter Tryz.func24, Tryz.ntmps24
    go_wp2_with first | (go_at_call 34; (refine (FO _).mono ?_); rintro e w1 ⟨rfl, rfl⟩) | (go_at_call 36; (refine (OP _).mono ?_); rintro e w1 ⟨rfl, rfl⟩)
    refine bodyPost_ret (v := .agg #[.int .i64 0, .int .i64 0, .int .i64 0, .int .i64 0, .int .i64 0, .int .i64 21]) (by simp [results, go_sem, *]) rfl ?_
    exact ⟨HF.out, Gr.below (by repeat (first | (with_reducible exact Gr.refl _) | with_reducible refine Gr.alloc ?_ _ | with_reducible refine Gr.more ?_ _ _ | with_reducible refine Gr.setCell ?_ (by dsimp only; (try simp only [World.size_more, World.size_alloc, World.size_setCell, World.size_drew, Array.size_append]); omega) _ | with_reducible refine Gr.drew ?_))⟩
  have hp1 : 1 < b.length := by omega
  have h1' : ¬ (b.length : Int) < 2 := by omega
  have h1'' : (1 : Int) < (b.length : Int) := by omega
  have c1 := hc 1 _ (bV_get b 1 hp1)
  have hgd : b.getD 1 0 = b[1] := by simp [List.getD, hp1]
  have HR1 := Lib.hid (R20.out 1 (by decide) (by decide) (Pre.one b) hp1)
  have HP1 := Lib.hid (fun h => (Pre.one b).next hp1 h)
  rw [hgd] at HR1 HP1 HRA
  have hg1 := GR.out b[1]
  have hy : (b[1].toNat : Int) < 256 := by have := b[1].toNat_lt; omega
  have hy0 : (0 : Int) ≤ (b[1].toNat : Int) := by omega
  have hdec : goB (shD b) 1 b[1] = decide ((b[1].toNat : Int) < 8) := by rw [hg1]; congr 1; simp only [eq_iff_iff]; omega
  rw [hdec] at HR1 HP1
  clear hg1 hdec hgd hc GR
  generalize (b[1].toNat : Int) = y at *
  by_cases h63 : 63 < y
  · have HF := Lib.hid (HR1.out (decide_eq_false (by omega)))
    clear R21 R20 R0 HT HRA HRB HN GI HB HR1 HP1
    go_enter Tryz.func24, Tryz.ntmps24
    go_wp2_with first | (go_at_call 34; (refine (FO _).mono ?_); rintro e w1 ⟨rfl, rfl⟩) | (go_at_call 36; (refine (OP _).mono ?_); rintro e w1 ⟨rfl, rfl⟩)
    refine bodyPost_ret (v := .agg #[.int .i64 0, .int .i64 0, .int .i64 0, .int .i64 0, .int .i64 0, .int .i64 20]) (by simp [results, go_sem, *]) rfl ?_
    exact ⟨HF.out, Gr.below (by repeat (first | (with_reducible exact Gr.refl _) | with_reducible refine Gr.alloc ?_ _ | with_reducible refine Gr.more ?_ _ _ | with_reducible refine Gr.setCell ?_ (by dsimp only; (try simp only [World.size_more, World.size_alloc, World.size_setCell, World.size_drew, Array.size_append]); omega) _ | with_reducible refine Gr.drew ?_))⟩
  by_cases h7 : 7 < y
  · have HF := Lib.hid (HR1.out (decide_eq_false (by omega)))
    clear R21 R20 R0 HT HRA HRB HN GI HB HR1 HP1
    go_enter Tryz.func24, Tryz.ntmps24
    go_wp2_with first | (go_at_call 34; (refine (FO _).mono ?_); rintro e w1 ⟨rfl, rfl⟩) | (go_at_call 36; (refine (OP _).mono ?_); rintro e w1 ⟨rfl, rfl⟩)
    refine bodyPost_ret (v := .agg #[.int .i64 0, .int .i64 0, .int .i64 0, .int .i64 0, .int .i64 0, .int .i64 20]) (by simp [results, go_sem, *]) rfl ?_
    exact ⟨HF.out, Gr.below (by repeat (first | (with_reducible exact Gr.refl _) | with_reducible refine Gr.alloc ?_ _ | with_reducible refine Gr.more ?_ _ _ | with_reducible refine Gr.setCell ?_ (by dsimp only; (try simp only [World.size_more, World.size_alloc, World.size_setCell, World.size_drew, Array.size_append]); omega) _ | with_reducible refine Gr.drew ?_))⟩
  have HPA := Lib.hid (HP1.out (decide_eq_true (by omega)))
  clear HP1 HR1
  rw [HRA.out, HRB.out] at R0
  clear HRA HRB
  go_enter Tryz.func24, Tryz.ntmps24
  go_wp2_with first | (go_at_call 34; (refine (FO _).mono ?_); rintro e w1 ⟨rfl, rfl⟩) | (go_at_call 36; (refine (OP _).mono ?_); rintro e w1 ⟨rfl, rfl⟩)
  go_loopw [9] (fun i wr => ∃ k : Nat, k ≤ 0 ∧ i = .int .i64 (k : Int) ∧ Hid (Pre b (2 + k)) ∧ wr.cell? ⟨w.heap.size, 0, none⟩ = some (.int .i64 0) ∧ wr.cell? ⟨w.heap.size, 1, none⟩ = some (.int .i64 0) ∧ wr.cell? ⟨w.heap.size, 2, none⟩ = some (.int .i64 0) ∧ wr.cell? ⟨w.heap.size, 3, none⟩ = some (.int .i64 0) ∧ wr.cell? ⟨w.heap.size, 4, none⟩ = some (.int .i64 0) ∧ wr.cell? ⟨w.heap.size, 5, none⟩ = some (.int .i64 0) ∧ wr.frozen? ⟨w.heap.size, 0, none⟩ = false ∧ wr.frozen? ⟨w.heap.size, 1, none⟩ = false ∧ wr.frozen? ⟨w.heap.size, 2, none⟩ = false ∧ wr.frozen? ⟨w.heap.size, 3, none⟩ = false ∧ wr.frozen? ⟨w.heap.size, 4, none⟩ = false ∧ wr.frozen? ⟨w.heap.size, 5, none⟩ = false ∧ wr.cell? ⟨w.heap.size + 1, 0, none⟩ = some (.int .i64 (x - 128)) ∧ wr.cell? ⟨w.heap.size + 1, 1, none⟩ = some (.int .i64 y) ∧ wr.cell? ⟨w.heap.size + 1, 2, none⟩ = some (.int .i64 0) ∧ wr.cell? ⟨w.heap.size + 1, 3, none⟩ = some (.int .i64 0) ∧ wr.frozen? ⟨w.heap.size + 1, 3, none⟩ = false ∧ w.heap.size + 1 < wr.heap.size ∧ Gr w.heap.size w wr) (fun i _ => 0 - (intOf i).toNat)
  case atStart => exact ⟨0, Nat.zero_le _, rfl, HPA, by go_simp, by go_simp, by go_simp, by go_simp, by go_simp, by go_simp, by go_simp, by go_simp, by go_simp, by go_simp, by go_simp, by go_simp, by go_simp, by go_simp, by go_simp, by go_simp, by go_simp, by (try simp only [World.size_more, World.size_alloc, World.size_setCell, World.size_drew, Array.size_append]); omega, (by repeat (first | (with_reducible exact Gr.refl _) | with_reducible refine Gr.alloc ?_ _ | with_reducible refine Gr.more ?_ _ _ | with_reducible refine Gr.setCell ?_ (by dsimp only; (try simp only [World.size_more, World.size_alloc, World.size_setCell, World.size_drew, Array.size_append]); omega) _ | with_reducible refine Gr.drew ?_))⟩
  case round =>
    obtain ⟨k, hkm, rfl, hpre, d0, d1, d2, d3, d4, d5, e0, e1, e2, e3, e4, e5, x0, x1, x2, x3, fx3, zr, hG⟩ := hrel
    obtain rfl : k = 0 := by omega
    have HF : Hid _ := Lib.hid (R0.out (i := 0) hpre.out (HN.out [] rfl (fun p h => absurd h (Nat.not_lt_zero p)) (by rw [HT.out]; simp [List.drop_take])))
    clear R0 R21 R20 HN HT GI HB hpre
    go_wp2_with fail
    refine bodyPost_ret (v := .agg #[.int .i64 (x - 128), .int .i64 y, .int .i64 0, .int .i64 0, .int .i64 2, .int .i64 0]) (by simp [results, go_sem, *]) rfl ?_
    exact ⟨HF.out, Gr.below (by repeat (first | (with_reducible exact hG) | with_reducible refine Gr.alloc ?_ _ | with_reducible refine Gr.more ?_ _ _ | with_reducible refine Gr.setCell ?_ (by dsimp only; (try simp only [World.size_more, World.size_alloc, World.size_setCell, World.size_drew, Array.size_append]); omega) _ | with_reducible refine Gr.drew ?_))⟩
end Go.Proofs.YtjlbcpmfbokinaaGreatDoor

namespace Go.Proofs.YtjlbcpmfbokinaaGreatDoor
open Go.RowKit

set_option maxRecDepth 100000 in
set_option maxHeartbeats 8000000 in
theorem rdec_2_0 {f : Int} (b : List UInt8) (bp : Option Addr) (bc : Nat) (w : World) (hb : SeqAt w bp (bV b)) (hcap : b.length ≤ bc) (hl : 0 < b.length) (hk : knO (opD b) = true) (hs : shD b < 12) (hr : rgS (shD b) = 2) (hm : imS (shD b) = 0) (hf0 : f ≠ 0) (hf10 : f ≠ 10)
    (hN : ∀ X : List UInt8, X.length = 0 → (∀ p (h : p < X.length), X[p].toNat < 128) → X = tail7 (shD b) b → 0 = immV (shD b) (tail7 (shD b) b))
    (FO : ∀ W, Calls Tryz.prog 34 #[.int .i64 (opD b)] W fun e w' => e = .returned (.int .i64 f) ∧ W = w')
    (OP : ∀ W, Calls Tryz.prog 36 #[.int .i64 f] W fun e w' => e = .returned (.tuple #[.bool true, .bool true, .int .i64 0]) ∧ W = w') :
    Calls Tryz.prog 24 #[.slice bp b.length bc] w fun e w' => RDec b e ∧ Below w.heap.size w w' := by
  have hL : lenS (shD b) = 2 := by unfold lenS; rw [hr, hm]; rfl
  have HB : ∀ W, Below w.heap.size w W → SeqAt W bp (bV b) := fun W g => hb.up g
  have HB := Lib.hid HB
  have GI : ∀ (k : Nat) (c : UInt8), k < 0 → goB (shD b) (2 + k) c = decide (c.toNat < 128 ∧ (k = 9 → c.toNat = 0 ∨ c.toNat = 127)) := fun k c h => by
    have := gob_imm hs (k := k) (c := c) (by rw [hm]; exact h)
    rw [hr] at this
    exact this
  have GI := Lib.hid GI
  have R21 := Lib.hid (fun k (h1 : 1 ≤ k) (h2 : k < 2) => rdec_21 hl hk h1 (by rw [hL]; exact h2))
  have R20 := Lib.hid (fun k (h1 : 1 ≤ k) (h2 : k < 2) => rdec_20 hl hk h1 (by rw [hL]; exact h2))
  have R0 : Hid (∀ {i : Int}, Pre b 2 → i = immV (shD b) (tail7 (shD b) b) → RDec b (.returned (.agg #[.int .i64 (opD b), .int .i64 (rA (shD b) b), .int .i64 (rB (shD b) b), .int .i64 i, .int .i64 2, .int .i64 0]))) := Lib.hid (fun hp hi => rdec_0 hl hk (by rw [hL]; exact hp) hi (by rw [hL]; rfl))
  have HT : Hid (tail7 (shD b) b = (b.take 2).drop 2) := Lib.hid (by unfold tail7; rw [hL, hm])
  have HRA := Lib.hid (show rA (shD b) b = ((b.getD 1 0).toNat : Int) / 8 by unfold rA; rw [if_neg (by omega), if_pos hr]; push_cast; rfl)
  have HRB := Lib.hid (show rB (shD b) b = ((b.getD 1 0).toNat : Int) % 8 by unfold rB; rw [if_pos hr]; push_cast; rfl)
  have HN := Lib.hid hN
  obtain ⟨g0, o0, rfl, hc⟩ := seqAt_neK hb (by intro e; have := congrArg List.length e; rw [bV_len] at this; simp at this; rw [this] at hl; simp at hl)
  have c0 := hc 0 _ (bV_get b 0 hl)
  rw [Nat.add_zero] at c0
  have lc := lt_of_cell c0
  have hn : ((b.length : Int) == 0) = false := by rw [beq_eq_false_iff_ne]; omega
  have hn1 : (0 : Int) < (b.length : Int) := by omega
  have hcap' : (b.length : Int) ≤ (bc : Int) := by omega
  have hf0' : (f == 0) = false := beq_eq_false_iff_ne.2 hf0
  have hf10' : (f == 10) = false := beq_eq_false_iff_ne.2 hf10
  have hop := opD_get hl
  have hkn := (knO_iff _).1 hk
  rw [hop] at FO hkn
  have hx : (b[0].toNat : Int) < 256 := by have := b[0].toNat_lt; omega
  have hx1 : ¬ (b[0].toNat : Int) < 128 := by omega
  have hx0 : (0 : Int) ≤ (b[0].toNat : Int) := by omega
  have hw : wrap64 ((b[0].toNat : Int) - 128) = (b[0].toNat : Int) - 128 := by unfold wrap64; omega
  rw [hop] at R0
  have GR := Lib.hid (gob_r2 hr)
  clear hN hk hs hr hm hL hf0 hb hop hkn
  generalize hx0v : (b[0].toNat : Int) = x at *
  clear hx0v
  by_cases h1 : b.length < 2
  · have h1' : (b.length : Int) < 2 := by omega
    have HF := Lib.hid (R21.out 1 (by decide) (by decide) (Pre.one b) (by omega))
    clear R21 R20 R0 HT HRA HRB HN GI HB
    go_enter Tryz.func24, Tryz.ntmps24
    go_wp2_with first | (go_at_call 34; (refine (FO _).mono ?_); rintro e w1 ⟨rfl, rfl⟩) | (go_at_call 36; (refine (OP _).mono ?_); rintro e w1 ⟨rfl, rfl⟩)
    refine bodyPost_ret (v := .agg #[.int .i64 0, .int .i64 0, .int .i64 0, .int .i64 0, .int .i64 0, .int .i64 21]) (by simp [results, go_sem, *]) rfl ?_
    exact ⟨HF.out, Gr.below (by repeat (first | (with_reducible exact Gr.refl _) | with_reducible refine Gr.alloc ?_ _ | with_reducible refine Gr.more ?_ _ _ | with_reducible refine Gr.setCell ?_ (by dsimp only; (try simp only [World.size_more, World.size_alloc, World.size_setCell, World.size_drew, Array.size_append]); omega) _ | with_reducible refine Gr.drew ?_))⟩
  have hp1 : 1 < b.length := by omega
  have h1' : ¬ (b.length : Int) < 2 := by omega
  have h1'' : (1 : Int) < (b.length : Int) := by omega
  have c1 := hc 1 _ (bV_get b 1 hp1)
  have hgd : b.getD 1 0 = b[1] := by simp [List.getD, hp1]
  have HR1 := Lib.hid (R20.out 1 (by decide) (by decide) (Pre.one b) hp1)
  have HP1 := Lib.hid (fun h => (Pre.one b).next hp1 h)
  rw [hgd] at HR1 HP1 HRA HRB
  have hg1 := GR.out b[1]
  have hy : (b[1].toNat : Int) < 256 := by have := b[1].toNat_lt; omega
  have hy0 : (0 : Int) ≤ (b[1].toNat : Int) := by omega
  have hdec : goB (shD b) 1 b[1] = decide ((b[1].toNat : Int) < 64) := by rw [hg1]; congr 1; simp only [eq_iff_iff]; omega
  rw [hdec] at HR1 HP1
  clear hg1 hdec hgd hc GR
  generalize (b[1].toNat : Int) = y at *
  by_cases h63 : 63 < y
  · have HF := Lib.hid (HR1.out (decide_eq_false (by omega)))
    clear R21 R20 R0 HT HRA HRB HN GI HB HR1 HP1
    go_enter Tryz.func24, Tryz.ntmps24
    go_wp2_with first | (go_at_call 34; (refine (FO _).mono ?_); rintro e w1 ⟨rfl, rfl⟩) | (go_at_call 36; (refine (OP _).mono ?_); rintro e w1 ⟨rfl, rfl⟩)
    refine bodyPost_ret (v := .agg #[.int .i64 0, .int .i64 0, .int .i64 0, .int .i64 0, .int .i64 0, .int .i64 20]) (by simp [results, go_sem, *]) rfl ?_
    exact ⟨HF.out, Gr.below (by repeat (first | (with_reducible exact Gr.refl _) | with_reducible refine Gr.alloc ?_ _ | with_reducible refine Gr.more ?_ _ _ | with_reducible refine Gr.setCell ?_ (by dsimp only; (try simp only [World.size_more, World.size_alloc, World.size_setCell, World.size_drew, Array.size_append]); omega) _ | with_reducible refine Gr.drew ?_))⟩
  have HPA := Lib.hid (HP1.out (decide_eq_true (by omega)))
  clear HP1 HR1
  rw [HRA.out, HRB.out] at R0
  clear HRA HRB
  have hq : wrap64 (y / 8) = y / 8 := by unfold wrap64; omega
  go_enter Tryz.func24, Tryz.ntmps24
  go_wp2_with first | (go_at_call 34; (refine (FO _).mono ?_); rintro e w1 ⟨rfl, rfl⟩) | (go_at_call 36; (refine (OP _).mono ?_); rintro e w1 ⟨rfl, rfl⟩)
  go_loopw [9] (fun i wr => ∃ k : Nat, k ≤ 0 ∧ i = .int .i64 (k : Int) ∧ Hid (Pre b (2 + k)) ∧ wr.cell? ⟨w.heap.size, 0, none⟩ = some (.int .i64 0) ∧ wr.cell? ⟨w.heap.size, 1, none⟩ = some (.int .i64 0) ∧ wr.cell? ⟨w.heap.size, 2, none⟩ = some (.int .i64 0) ∧ wr.cell? ⟨w.heap.size, 3, none⟩ = some (.int .i64 0) ∧ wr.cell? ⟨w.heap.size, 4, none⟩ = some (.int .i64 0) ∧ wr.cell? ⟨w.heap.size, 5, none⟩ = some (.int .i64 0) ∧ wr.frozen? ⟨w.heap.size, 0, none⟩ = false ∧ wr.frozen? ⟨w.heap.size, 1, none⟩ = false ∧ wr.frozen? ⟨w.heap.size, 2, none⟩ = false ∧ wr.frozen? ⟨w.heap.size, 3, none⟩ = false ∧ wr.frozen? ⟨w.heap.size, 4, none⟩ = false ∧ wr.frozen? ⟨w.heap.size, 5, none⟩ = false ∧ wr.cell? ⟨w.heap.size + 1, 0, none⟩ = some (.int .i64 (x - 128)) ∧ wr.cell? ⟨w.heap.size + 1, 1, none⟩ = some (.int .i64 (y / 8)) ∧ wr.cell? ⟨w.heap.size + 1, 2, none⟩ = some (.int .i64 (y % 8)) ∧ wr.cell? ⟨w.heap.size + 1, 3, none⟩ = some (.int .i64 0) ∧ wr.frozen? ⟨w.heap.size + 1, 3, none⟩ = false ∧ w.heap.size + 1 < wr.heap.size ∧ Gr w.heap.size w wr) (fun i _ => 0 - (intOf i).toNat)
  case atStart => exact ⟨0, Nat.zero_le _, rfl, HPA, by go_simp, by go_simp, by go_simp, by go_simp, by go_simp, by go_simp, by go_simp, by go_simp, by go_simp, by go_simp, by go_simp, by go_simp, by go_simp, by go_simp, by go_simp, by go_simp, by go_simp, by (try simp only [World.size_more, World.size_alloc, World.size_setCell, World.size_drew, Array.size_append]); omega, (by repeat (first | (with_reducible exact Gr.refl _) | with_reducible refine Gr.alloc ?_ _ | with_reducible refine Gr.more ?_ _ _ | with_reducible refine Gr.setCell ?_ (by dsimp only; (try simp only [World.size_more, World.size_alloc, World.size_setCell, World.size_drew, Array.size_append]); omega) _ | with_reducible refine Gr.drew ?_))⟩
  case round =>
    obtain ⟨k, hkm, rfl, hpre, d0, d1, d2, d3, d4, d5, e0, e1, e2, e3, e4, e5, x0, x1, x2, x3, fx3, zr, hG⟩ := hrel
    obtain rfl : k = 0 := by omega
    have HF : Hid _ := Lib.hid (R0.out (i := 0) hpre.out (HN.out [] rfl (fun p h => absurd h (Nat.not_lt_zero p)) (by rw [HT.out]; simp [List.drop_take])))
    clear R0 R21 R20 HN HT GI HB hpre
    go_wp2_with fail
    refine bodyPost_ret (v := .agg #[.int .i64 (x - 128), .int .i64 (y / 8), .int .i64 (y % 8), .int .i64 0, .int .i64 2, .int .i64 0]) (by simp [results, go_sem, *]) rfl ?_
    exact ⟨HF.out, Gr.below (by repeat (first | (with_reducible exact hG) | with_reducible refine Gr.alloc ?_ _ | with_reducible refine Gr.more ?_ _ _ | with_reducible refine Gr.setCell ?_ (by dsimp only; (try simp only [World.size_more, World.size_alloc, World.size_setCell, World.size_drew, Array.size_append]); omega) _ | with_reducible refine Gr.drew ?_))⟩
end Go.Proofs.YtjlbcpmfbokinaaGreatDoor
