/-
  Layer 2, contracts: Decode (made by genij.py).
-/
import Derived.Test.YtjlbcpmfbokinaaGreatDoorGB
import Derived.StillTailTactics
set_option linter.unusedSimpArgs false
set_option linter.unusedVariables false
namespace Go.Proofs.YtjlbcpmfbokinaaGreatDoor
open Go.RowKit

/-- What Decode answers. -/
def DecR (b : List UInt8) (e : Ending) : Prop := e = .returned (.tuple #[inV (oD b) (aD b) (bD b) (iD b), .int .i64 (nD b : Int), .int .i64 (eD b)])
theorem decR_no {b : List UInt8} {E : Int} (h : eD b = E) (hE : E ≠ 0) : DecR b (.returned (.tuple #[inV 0 0 0 0, .int .i64 0, .int .i64 E])) := by
  unfold DecR oD aD bD iD nD
  rw [h, if_neg hE, if_neg hE, if_neg hE, if_neg hE, if_neg hE]
  rfl
set_option maxHeartbeats 1000000 in
theorem decode_nil (bp : Option Addr) (bc : Nat) (w : World) : Calls Tryz.prog 23 #[.slice bp 0 bc] w fun e w' => DecR [] e ∧ Below w.heap.size w w' := by
  go_enter Tryz.func23, Tryz.ntmps23
  go_wp2_with fail
  refine bodyPost_ret (v := .tuple #[inV 0 0 0 0, .int .i64 0, .int .i64 21]) (by simp [results, go_sem, *]) rfl ?_
  exact ⟨decR_no (by rfl) (by decide), (Gr.below (by repeat (first | (with_reducible exact Gr.refl _) | with_reducible refine Gr.alloc ?_ _ | with_reducible refine Gr.more ?_ _ _ | with_reducible refine Gr.setCell ?_ (by dsimp only; omega) _ | with_reducible refine Gr.drew ?_)))⟩
theorem opD_get {b : List UInt8} (h : 0 < b.length) : opD b = (b[0].toNat : Int) - 128 := by
  unfold opD; simp [List.getD, h]
set_option maxHeartbeats 2000000 in
theorem decode_unknown (b : List UInt8) (bp : Option Addr) (bc : Nat) (w : World) (hT : TB w) (hb : SeqAt w bp (bV b)) (hl : 0 < b.length) (hk : knO (opD b) = false) : Calls Tryz.prog 23 #[.slice bp b.length bc] w fun e w' => DecR b e ∧ Below w.heap.size w w' := by
  have BY : ∀ W, Below w.heap.size w W → Calls Tryz.prog 40 #[.int .i64 (opD b)] W fun e w' => e = .returned (.tuple #[rowZ, .bool false]) ∧ Below W.heap.size W w' := fun W g => byOp_no hk W (hT.up g)
  have hE : eD b = 20 := by unfold eD; rw [if_neg (by omega), if_pos hk]
  obtain ⟨g, o, rfl, hc⟩ := seqAt_neK hb (by intro e; have := congrArg List.length e; rw [bV_len] at this; simp at this; rw [this] at hl; simp at hl)
  have c0 := hc 0 _ (bV_get b 0 hl)
  rw [Nat.add_zero] at c0
  have lc := lt_of_cell c0
  have hn : ((b.length : Int) == 0) = false := by rw [beq_eq_false_iff_ne]; omega
  have hn1 : (0 : Int) < (b.length : Int) := by omega
  rw [opD_get hl] at BY
  have hx : (b[0].toNat : Int) < 256 := by have := b[0].toNat_lt; omega
  have hx0 : (0 : Int) ≤ (b[0].toNat : Int) := by omega
  have hw : wrap64 ((b[0].toNat : Int) - 128) = (b[0].toNat : Int) - 128 := by unfold wrap64; omega
  have HE := Lib.hid hE
  clear hT hb hc hk hE
  generalize (b[0].toNat : Int) = x at *
  go_enter Tryz.func23, Tryz.ntmps23
  go_wp2_with (go_at_call 40; (refine (BY _ (Gr.below (by repeat (first | (with_reducible exact Gr.refl _) | with_reducible refine Gr.alloc ?_ _ | with_reducible refine Gr.more ?_ _ _ | with_reducible refine Gr.setCell ?_ (by dsimp only; omega) _ | with_reducible refine Gr.drew ?_)))).mono ?_); rintro e w1 ⟨rfl, hb⟩; obtain ⟨os, n', rfl⟩ := Below.moreE hb; clear hb)
  refine bodyPost_ret (v := .tuple #[inV 0 0 0 0, .int .i64 0, .int .i64 20]) (by simp [results, go_sem, *]) rfl ?_
  exact ⟨decR_no HE.out (by decide), (Gr.below (by repeat (first | (with_reducible exact Gr.refl _) | with_reducible refine Gr.alloc ?_ _ | with_reducible refine Gr.more ?_ _ _ | with_reducible refine Gr.setCell ?_ (by dsimp only; omega) _ | with_reducible refine Gr.drew ?_)))⟩

theorem stD_is {s : Nat} {b : List UInt8} {k : Nat} (h1 : 1 ≤ k) (hk : k ≤ lenS s) (hok : ∀ j, 1 ≤ j → j < k → j < b.length ∧ goB s j (b.getD j 0) = true) (hs : k < lenS s → b.length ≤ k ∨ goB s k (b.getD k 0) = false) : stD s b = k := by
  unfold stD
  rw [cnt_eq (m := k - 1) (by omega) (fun j hj => ?_) (fun hj => ?_)]
  · omega
  · have := hok (j + 1) (by omega) (by omega)
    unfold okD
    rw [decide_eq_true this.1, this.2]; rfl
  · unfold okD
    rw [show k - 1 + 1 = k by omega]
    rcases hs (by omega) with h | h
    · rw [decide_eq_false (by omega)]; rfl
    · rw [h, Bool.and_false]
set_option maxRecDepth 100000 in
set_option maxHeartbeats 8000000 in
theorem decode_known (b : List UInt8) (bp : Option Addr) (bc : Nat) (w : World) (hT : TB w) (hb : SeqAt w bp (bV b)) (hcap : b.length ≤ bc) (hl : 0 < b.length) (hk : knO (opD b) = true) : Calls Tryz.prog 23 #[.slice bp b.length bc] w fun e w' => DecR b e ∧ Below w.heap.size w w' := by
  obtain ⟨hs, ho⟩ := rowO_sh hk
  have BY : ∀ W, Below w.heap.size w W → Calls Tryz.prog 40 #[.int .i64 (opD b)] W fun e w' => e = .returned (.tuple #[rowOV (opD b), .bool true]) ∧ Below W.heap.size W w' := fun W g => byOp_yes hk W (hT.up g)
  have hS : shD b = (rowO (opD b)).sh := rfl
  have hE : eD b = if stD (shD b) b = lenS (shD b) then 0 else if b.length ≤ stD (shD b) b then 21 else 20 := by
    unfold eD; rw [if_neg (by omega), if_neg (by rw [hk]; simp)]
  unfold rowOV at BY
  rw [ho] at BY
  have HSD := Lib.hid hS
  rw [hS] at hE
  have HT : ∀ W, Below w.heap.size w W → TB W := fun W g => hT.up g
  have HT := Lib.hid HT
  have HB : ∀ W, Below w.heap.size w W → SeqAt W bp (bV b) := fun W g => hb.up g
  have HB := Lib.hid HB
  generalize hsv : (rowO (opD b)).sh = s at *
  generalize (rowO (opD b)).rd = rd at *
  generalize (rowO (opD b)).wr = wt at *
  generalize mnO (opD b) = mn at *
  have HE := Lib.hid hE
  obtain ⟨g0, o0, rfl, hc⟩ := seqAt_neK hb (by intro e; have := congrArg List.length e; rw [bV_len] at this; simp at this; rw [this] at hl; simp at hl)
  have c0 := hc 0 _ (bV_get b 0 hl)
  rw [Nat.add_zero] at c0
  have lc := lt_of_cell c0
  have hn : ((b.length : Int) == 0) = false := by rw [beq_eq_false_iff_ne]; omega
  have hn1 : (0 : Int) < (b.length : Int) := by omega
  rw [opD_get hl] at BY
  have hx : (b[0].toNat : Int) < 256 := by have := b[0].toNat_lt; omega
  have hx0 : (0 : Int) ≤ (b[0].toNat : Int) := by omega
  have hw : wrap64 ((b[0].toNat : Int) - 128) = (b[0].toNat : Int) - 128 := by unfold wrap64; omega
  have hop : opD b = (b[0].toNat : Int) - 128 := opD_get hl
  have HOP := Lib.hid hop
  have LL : ∀ W, Below w.heap.size w W → Calls Tryz.prog 32 #[.int .i64 (s : Int)] W fun e w' => e = .returned (.int .i64 (lenS s : Int)) ∧ W = w' := fun W g => length_any s hs W (HT.out W g)
  have hil : ∀ s : Fin 12, imS s.1 ≤ 10 := by decide
  have hi10 : imS s ≤ 10 := hil ⟨s, hs⟩
  have hL12 : 1 ≤ lenS s ∧ lenS s ≤ 12 := by unfold lenS; split <;> omega
  obtain ⟨hL1, hL2⟩ := hL12
  have hL1' : (1 : Int) ≤ (lenS s : Int) := by omega
  have hL2' : (lenS s : Int) ≤ 12 := by omega
  have hs1 : (s : Int) < 12 := by omega
  have hs0 : (0 : Int) ≤ (s : Int) := by omega
  have HH := Lib.hid (And.intro hs hsv)
  generalize hLg : lenS s = L at *
  have HLg := Lib.hid hLg
  clear hLg hi10 hil
  have hcap' : (b.length : Int) ≤ (bc : Int) := by omega
  clear hT hb hc hk hE hS hs ho hsv hop
  generalize hxv : (b[0].toNat : Int) = x at *
  obtain ⟨op, hopv⟩ : ∃ op, x - 128 = op := ⟨_, rfl⟩
  rw [hopv] at BY hw HOP
  clear hxv
  go_enter Tryz.func23, Tryz.ntmps23
  go_upto_region 7 with (first | (go_at_call 40; (refine (BY _ (Gr.below (by repeat (first | (with_reducible exact Gr.refl _) | with_reducible refine Gr.alloc ?_ _ | with_reducible refine Gr.more ?_ _ _ | with_reducible refine Gr.setCell ?_ (by dsimp only; omega) _ | with_reducible refine Gr.drew ?_)))).mono ?_); rintro e w1 ⟨rfl, hb⟩; have hb2 : Below w.heap.size w w1 := Below.trans (Gr.below (by repeat (first | (with_reducible exact Gr.refl _) | with_reducible refine Gr.alloc ?_ _ | with_reducible refine Gr.more ?_ _ _ | with_reducible refine Gr.setCell ?_ (by dsimp only; omega) _ | with_reducible refine Gr.drew ?_))) (hb.mono (by simp)); have z1 : w.heap.size < w1.heap.size := (by have := hb.size; simp at this; omega); have r0 : w1.cell? ⟨w.heap.size, 0, none⟩ = some (.int .i64 0) := (by rw [hb.cell (by simp)]; go_simp); have f0 : w1.frozen? ⟨w.heap.size, 0, none⟩ = false := (by rw [hb.frozen (by simp)]; go_simp); have r1 : w1.cell? ⟨w.heap.size, 1, none⟩ = some (.int .i64 0) := (by rw [hb.cell (by simp)]; go_simp); have f1 : w1.frozen? ⟨w.heap.size, 1, none⟩ = false := (by rw [hb.frozen (by simp)]; go_simp); have r2 : w1.cell? ⟨w.heap.size, 2, none⟩ = some (.int .i64 0) := (by rw [hb.cell (by simp)]; go_simp); have f2 : w1.frozen? ⟨w.heap.size, 2, none⟩ = false := (by rw [hb.frozen (by simp)]; go_simp); have r3 : w1.cell? ⟨w.heap.size, 3, none⟩ = some (.int .i64 0) := (by rw [hb.cell (by simp)]; go_simp); have f3 : w1.frozen? ⟨w.heap.size, 3, none⟩ = false := (by rw [hb.frozen (by simp)]; go_simp); clear hb) | (go_at_call 32; (refine (LL _ (hb2.alloc (Nat.le_of_lt z1) _)).mono ?_); rintro e w2 ⟨rfl, rfl⟩))
  go_wp2_with fail
  go_loopw [8] (fun i wr => ∃ k : Nat, 1 ≤ k ∧ k ≤ L ∧ i = .int .i64 (k : Int) ∧ Hid (∀ j, 1 ≤ j → j < k → j < b.length ∧ goB s j (b.getD j 0) = true) ∧ wr.cell? ⟨w.heap.size, 0, none⟩ = some (.int .i64 0) ∧ wr.cell? ⟨w.heap.size, 1, none⟩ = some (.int .i64 0) ∧ wr.cell? ⟨w.heap.size, 2, none⟩ = some (.int .i64 0) ∧ wr.cell? ⟨w.heap.size, 3, none⟩ = some (.int .i64 0) ∧ wr.frozen? ⟨w.heap.size, 0, none⟩ = false ∧ wr.frozen? ⟨w.heap.size, 1, none⟩ = false ∧ wr.frozen? ⟨w.heap.size, 2, none⟩ = false ∧ wr.frozen? ⟨w.heap.size, 3, none⟩ = false ∧ wr.cell? ⟨w1.heap.size, 0, none⟩ = some (.int .i64 op) ∧ wr.cell? ⟨w1.heap.size, 1, none⟩ = some (.string mn) ∧ wr.cell? ⟨w1.heap.size, 2, none⟩ = some (.int .i64 (s : Int)) ∧ wr.cell? ⟨w1.heap.size, 3, none⟩ = some (.int .i64 rd) ∧ wr.cell? ⟨w1.heap.size, 4, none⟩ = some (.int .i64 wt) ∧ w1.heap.size < wr.heap.size ∧ Gr w.heap.size w wr) (fun i _ => L - (intOf i).toNat)
  case atStart => exact ⟨1, Nat.le_refl _, hL1, rfl, Lib.hid (fun j h1 h2 => by omega), by go_simp, by go_simp, by go_simp, by go_simp, by go_simp, by go_simp, by go_simp, by go_simp, by go_simp, by go_simp, by go_simp, by go_simp, by go_simp, by simp, Gr.alloc ⟨hb2, Nat.le_of_lt z1⟩ _⟩
  case round =>
    clear r0 f0 r1 f1 r2 f2 r3 f3 hb2 c0 BY LL hw hopv
    obtain ⟨k, hk1, hkL, rfl, hok, r0, r1, r2, r3, f0, f1, f2, f3, t0, t1, t2, t3, t4, zr, hG⟩ := hrel
    by_cases hlt : k < L
    · have hlt' : (k : Int) < (L : Int) := by omega
      have hk0 : (0 : Int) ≤ (k : Int) := by omega
      by_cases hkb : k < b.length
      · have hke : ((k : Int) == (b.length : Int)) = false := by rw [beq_eq_false_iff_ne]; omega
        have hkb' : (k : Int) < (b.length : Int) := by omega
        obtain ⟨g1, o1, hge, hc⟩ := seqAt_neK (HB.out wr hG.below) (by intro e; have := congrArg List.length e; rw [bV_len] at this; simp at this; rw [this] at hl; simp at hl)
        cases hge
        have ck := hc k _ (bV_get b k hkb)
        have lk := lt_of_cell ck
        have hgd : b.getD k 0 = b[k] := by simp [List.getD, hkb]
        have GO : ∀ W, Gr wr.heap.size wr W → Calls Tryz.prog 41 #[.int .i64 (s : Int), .int .i64 (k : Int), .int .u8 (b[k].toNat : Int)] W fun e w' => e = .returned (.bool (goB s k (b.getD k 0))) ∧ Below W.heap.size W w' := fun W g => by
          rw [hgd]
          exact goesOn_any s HH.out.1 k hk1 (by omega) b[k] W (HT.out W (hG.below.trans (g.below.mono hG.size)))
        clear hc hgd
        cases hgo : goB s k (b.getD k 0)
        · rw [hgo] at GO
          have hst := stD_is hk1 (by rw [HLg.out]; exact hkL) hok.out (fun _ => .inr hgo)
          have HF : Hid (eD b = 20) := Lib.hid (by rw [HE.out, hst, if_neg (by omega), if_neg (by omega)])
          clear hgo hst hok
          generalize (b[k].toNat : Int) = y at *
          go_upto_region 12 with fail
          go_region_held3 (fun W' => W'.cell? ⟨w1.heap.size, 2, none⟩ = some (.int .i64 (s : Int)) ∧ W'.cell? ⟨g0, o0 + k, none⟩ = some (.int .u8 y)) (exact ⟨by go_simp, by go_simp⟩) ((go_at_call 41; (refine (GO _ (by repeat (first | (with_reducible exact Gr.refl _) | with_reducible refine Gr.alloc ?_ _ | with_reducible refine Gr.more ?_ _ _ | with_reducible refine Gr.setCell ?_ (by dsimp only; (try simp only [World.size_more, World.size_alloc, World.size_setCell, World.size_drew, Array.size_append]); omega) _ | with_reducible refine Gr.drew ?_))).mono ?_); rintro e w9 ⟨rfl, hb⟩; obtain ⟨os, n', rfl⟩ := Below.moreE hb; clear hb))
          all_goals (
            go_wp2_with fail
            refine bodyPost_ret (v := .tuple #[inV 0 0 0 0, .int .i64 0, .int .i64 20]) (by simp [results, go_sem, *]) rfl ?_
            exact ⟨decR_no HF.out (by decide), Gr.below (by repeat (first | (with_reducible exact hG) | with_reducible refine Gr.alloc ?_ _ | with_reducible refine Gr.more ?_ _ _ | with_reducible refine Gr.setCell ?_ (by dsimp only; (try simp only [World.size_more, World.size_alloc, World.size_setCell, World.size_drew, Array.size_append]); omega) _ | with_reducible refine Gr.drew ?_))⟩)
        · rw [hgo] at GO
          have hst : Hid (∀ j, 1 ≤ j → j < k + 1 → j < b.length ∧ goB s j (b.getD j 0) = true) := Lib.hid (fun j h1 h2 => by
            by_cases e : j = k
            · subst e; exact ⟨hkb, hgo⟩
            · exact hok.out j h1 (by omega))
          clear hgo hok
          generalize (b[k].toNat : Int) = y at *
          have HW1 : Hid (wrap64 ((k : Int) + 1) = ((k + 1 : Nat) : Int)) := Lib.hid (by unfold wrap64; omega)
          go_upto_region 12 with fail
          go_region_held3 (fun W' => W'.cell? ⟨w1.heap.size, 2, none⟩ = some (.int .i64 (s : Int)) ∧ W'.cell? ⟨g0, o0 + k, none⟩ = some (.int .u8 y)) (exact ⟨by go_simp, by go_simp⟩) ((go_at_call 41; (refine (GO _ (by repeat (first | (with_reducible exact Gr.refl _) | with_reducible refine Gr.alloc ?_ _ | with_reducible refine Gr.more ?_ _ _ | with_reducible refine Gr.setCell ?_ (by dsimp only; (try simp only [World.size_more, World.size_alloc, World.size_setCell, World.size_drew, Array.size_append]); omega) _ | with_reducible refine Gr.drew ?_))).mono ?_); rintro e w9 ⟨rfl, hb⟩; obtain ⟨os, n', rfl⟩ := Below.moreE hb; clear hb))
          all_goals (
            go_wp2_with fail
            clear GO lk ck hke hkb' hx hx0 hcap hcap' hL1 hL2 hL1' hL2' hs0 hs1 hn hn1 HE HSD HT HB HOP HH HLg lc
            go_roundw
            case rel => exact ⟨k + 1, Nat.succ_le_succ (Nat.zero_le k), hlt, by first | (rw [HW1.out]; done) | (push_cast; rfl), hst, by go_simp, by go_simp, by go_simp, by go_simp, by go_simp, by go_simp, by go_simp, by go_simp, by go_simp, by go_simp, by go_simp, by go_simp, by go_simp, by rw [World.size_more]; exact Nat.lt_of_lt_of_le zr (Nat.le_add_right _ _), Gr.more hG _ _⟩
            case measure => first | (simp only [intOf, HW1.out]; omega) | (simp only [intOf]; omega))
      · have hke : ((k : Int) == (b.length : Int)) = true := by
          rw [beq_iff_eq]
          by_cases h1 : k = 1
          · omega
          · have := (hok.out (k - 1) (by omega) (by omega)).1; omega
        have hst := stD_is hk1 (by rw [HLg.out]; exact hkL) hok.out (fun _ => .inl (by omega))
        have HF : Hid (eD b = 21) := Lib.hid (by rw [HE.out, hst, if_neg (by omega), if_pos (by omega)])
        clear hst hok
        go_wp2_with fail
        refine bodyPost_ret (v := .tuple #[inV 0 0 0 0, .int .i64 0, .int .i64 21]) (by simp [results, go_sem, *]) rfl ?_
        exact ⟨decR_no HF.out (by decide), Gr.below (by repeat (first | (with_reducible exact hG) | with_reducible refine Gr.alloc ?_ _ | with_reducible refine Gr.more ?_ _ _ | with_reducible refine Gr.setCell ?_ (by dsimp only; (try simp only [World.size_more, World.size_alloc, World.size_setCell, World.size_drew, Array.size_append]); omega) _ | with_reducible refine Gr.drew ?_))⟩
    · obtain rfl : L = k := by omega
      have hge : ¬ (L : Int) < (L : Int) := by omega
      have hst := stD_is hk1 (by rw [HLg.out]; exact Nat.le_refl _) hok.out (fun h => by rw [HLg.out] at h; omega)
      have hE0 : eD b = 0 := by rw [HE.out, hst, if_pos rfl]
      have hLb : L ≤ b.length := by
        by_cases h1 : L = 1
        · omega
        · have := (hok.out (L - 1) (by omega) (by omega)).1; omega
      have hLb' : (L : Int) ≤ (b.length : Int) := by omega
      have h2L : rgS s ≠ 0 → 2 ≤ L := fun h => by rw [← HLg.out]; unfold lenS; rw [if_neg h]; omega
      have hLc : (L : Int) ≤ (bc : Int) := by omega
      have hL0 : (0 : Int) ≤ (L : Int) := by omega
      have RI : ∀ W, Below w.heap.size w W → Calls Tryz.prog 42 #[.int .i64 (s : Int), .slice (some ⟨g0, o0, none⟩) b.length bc] W fun e w' => e = .returned (.tuple #[.int .i64 (rA s b), .int .i64 (rB s b)]) ∧ Below W.heap.size W w' := fun W g => registersIn_any s HH.out.1 b _ bc W (HT.out W g) (HB.out W g) (fun h => by have := h2L h; omega)
      have htl : (b.take (L)).length = L := by simp; omega
      have hiL : imS s ≤ L := by rw [← HLg.out]; unfold lenS; split <;> omega
      have II : ∀ W, Below w.heap.size w W → Calls Tryz.prog 43 #[.int .i64 (s : Int), .slice (some ⟨g0, o0, none⟩) (L) bc] W fun e w' => e = .returned (.int .i64 (immV s (tail7 s b))) ∧ W = w' := fun W g => by
        have hsq : SeqAt W (some ⟨g0, o0, none⟩) (bV (b.take (L))) := by
          rcases HB.out W g with h | ⟨b', o', he, h⟩
          · left
            have : b = [] := by simpa [bV] using h
            rw [this]; simp [bV]
          · right
            refine ⟨b', o', he, fun j v hj => ?_⟩
            refine h j v ?_
            have hjl : j < (b.take (L)).length := by
              have := (List.getElem?_eq_some_iff.1 hj).1
              simpa [bV] using this
            rw [bV_get _ j hjl] at hj
            rw [bV_get _ j (by rw [htl] at hjl; omega), ← hj]
            simp
        have := immediateIn_any s HH.out.1 (b.take (L)) (some ⟨g0, o0, none⟩) bc W (HT.out W g) hsq (by rw [htl]; exact hiL) (by rw [htl]; exact hL2) (fun p hp hpi => by
          rw [htl] at hp hpi
          have hgt : 1 ≤ p := by
            rcases Nat.lt_or_ge p 1 with h | h
            · have : imS s < L := by rw [← HLg.out]; unfold lenS; split <;> omega
              omega
            · exact h
          have := (hok.out p hgt hp).2
          have h2 : p < b.length := by omega
          simp only [List.getD, h2, List.getElem?_eq_getElem, Option.getD_some] at this
          simp only [List.getElem_take]
          exact goB_lt this)
        rw [htl] at this
        unfold tail7
        rw [HLg.out]
        exact this
      have HF : Hid (DecR b (.returned (.tuple #[inV op (rA s b) (rB s b) (immV s (tail7 s b)), .int .i64 (L : Int), .int .i64 0]))) := by
        refine Lib.hid ?_
        unfold DecR oD aD bD iD nD
        rw [hE0, if_pos rfl, if_pos rfl, if_pos rfl, if_pos rfl, if_pos rfl, HSD.out, HOP.out, HLg.out]
      clear hst hok hE0 htl hiL h2L
      generalize rA s b = ra at *
      generalize rB s b = rb at *
      generalize immV s (tail7 s b) = iv at *
      go_upto_region 15 with (go_at_call 42; (refine (RI _ (Gr.below (by repeat (first | (with_reducible exact hG) | with_reducible refine Gr.alloc ?_ _ | with_reducible refine Gr.more ?_ _ _ | with_reducible refine Gr.setCell ?_ (by dsimp only; (try simp only [World.size_more, World.size_alloc, World.size_setCell, World.size_drew, Array.size_append]); omega) _ | with_reducible refine Gr.drew ?_)))).mono ?_); rintro e w9 ⟨rfl, hb⟩; obtain ⟨os, n', rfl⟩ := Below.moreE hb; clear hb)
      refine wp_gen (R := fun W9 => W9.cell? ⟨w.heap.size, 0, none⟩ = some (.int .i64 0) ∧ W9.cell? ⟨w.heap.size, 1, none⟩ = some (.int .i64 0) ∧ W9.cell? ⟨w.heap.size, 2, none⟩ = some (.int .i64 0) ∧ W9.cell? ⟨w.heap.size, 3, none⟩ = some (.int .i64 0) ∧ W9.frozen? ⟨w.heap.size, 0, none⟩ = false ∧ W9.frozen? ⟨w.heap.size, 1, none⟩ = false ∧ W9.frozen? ⟨w.heap.size, 2, none⟩ = false ∧ W9.frozen? ⟨w.heap.size, 3, none⟩ = false ∧ W9.cell? ⟨w1.heap.size, 0, none⟩ = some (.int .i64 op) ∧ W9.cell? ⟨w1.heap.size, 2, none⟩ = some (.int .i64 (s : Int)) ∧ w1.heap.size < W9.heap.size ∧ Gr w.heap.size w W9) ⟨by go_simp, by go_simp, by go_simp, by go_simp, by go_simp, by go_simp, by go_simp, by go_simp, by go_simp, by go_simp, by (try simp only [World.size_more, World.size_alloc, World.size_setCell, World.size_drew, Array.size_append]); omega, (by repeat (first | (with_reducible exact hG) | with_reducible refine Gr.alloc ?_ _ | with_reducible refine Gr.more ?_ _ _ | with_reducible refine Gr.setCell ?_ (by dsimp only; (try simp only [World.size_more, World.size_alloc, World.size_setCell, World.size_drew, Array.size_append]); omega) _ | with_reducible refine Gr.drew ?_))⟩ ?_
      clear r0 r1 r2 r3 f0 f1 f2 f3 t0 t1 t2 t3 t4 zr hG HE HSD HT HB HOP HH HLg hk1 hkL hlt hx hx0 hL1 hL2 hL1' hL2' hge hn hn1 RI hLb hLb' hcap hcap' lc
      rintro W9 ⟨r0, r1, r2, r3, f0, f1, f2, f3, t0, t2, zr, hG⟩
      go_region_held3 (fun W' => W'.cell? ⟨w1.heap.size, 0, none⟩ = some (.int .i64 op) ∧ W'.cell? ⟨w1.heap.size, 2, none⟩ = some (.int .i64 (s : Int))) (exact ⟨by go_simp, by go_simp⟩) ((go_at_call 43; (refine (II _ (Gr.below (by repeat (first | (with_reducible exact hG) | with_reducible refine Gr.alloc ?_ _ | with_reducible refine Gr.more ?_ _ _ | with_reducible refine Gr.setCell ?_ (by dsimp only; (try simp only [World.size_more, World.size_alloc, World.size_setCell, World.size_drew, Array.size_append]); omega) _ | with_reducible refine Gr.drew ?_)))).mono ?_); rintro e w9 ⟨rfl, rfl⟩))
      all_goals (
        go_wp2_with fail
        refine bodyPost_ret (v := .tuple #[inV op ra rb iv, .int .i64 (L : Int), .int .i64 0]) (by simp [results, go_sem, *]) rfl ?_
        exact ⟨HF.out, Gr.below (by repeat (first | (with_reducible exact hG) | with_reducible refine Gr.drew ?_ | with_reducible refine Gr.setCell ?_ (by dsimp only; omega) _))⟩)
theorem decode_any (b : List UInt8) (bp : Option Addr) (bc : Nat) (w : World) (hT : TB w) (hb : SeqAt w bp (bV b)) (hcap : b.length ≤ bc) : Calls Tryz.prog 23 #[.slice bp b.length bc] w fun e w' => DecR b e ∧ Below w.heap.size w w' := by
  by_cases hl : 0 < b.length
  · cases hk : knO (opD b)
    · exact decode_unknown b bp bc w hT hb hl hk
    · exact decode_known b bp bc w hT hb hcap hl hk
  · have hn : b = [] := List.eq_nil_of_length_eq_zero (by omega)
    subst hn
    exact decode_nil bp bc w
end Go.Proofs.YtjlbcpmfbokinaaGreatDoor
