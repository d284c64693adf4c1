/-
  The reference of layer 3: Diff's list.
-/
import Derived.Test.YtbfakdbhmpjmlaaKc
namespace Go.Proofs.Ytbfakdbhmpjmlaa
open Go.RowKit

theorem own_drew3 {w : World} {base : Nat} {e : TypeId} {v : Value} {n : Nat} {xs : List Value} (h : w.ownsRow base e 3 v n xs) : w.drew.ownsRow base e 3 v n xs := h

set_option maxRecDepth 100000 in
set_option maxHeartbeats 4000000 in
theorem rdiff_ok (P : List Int) (p : Option Addr) (pc : Nat) (B : List UInt8) (q : Option Addr) (qc : Nat) (p2 : Option Addr) (pc2 : Nat) (B2 : List UInt8) (q2 : Option Addr) (qc2 : Nat) (w : World) (h1 : SeqAt w p (iV P)) (h2 : SeqAt w p2 (iV P)) (hq1 : SeqAt w q (bV B)) (hq2 : SeqAt w q2 (bV B2)) (hs1 : spB P B.length = true) (hs2 : spB P B2.length = true) :
    Calls Try.prog 40 #[spV p P.length pc q B.length qc, spV p2 P.length pc2 q2 B2.length qc2] w fun e w' => ∃ v, e = .returned (.agg #[v, .int .i64 0]) ∧ w'.ownsRow w.heap.size 89 3 v (dfs B B2 B.length).length (dfC B B2 B.length) ∧ Below w.heap.size w w' := by
  have C1 : ∀ W, Below w.heap.size w W → Calls Try.prog 22 #[spV p P.length pc q B.length qc] W fun e w' => e = .returned (.int .i64 (spE P B.length)) ∧ Below W.heap.size W w' := fun W h => rcheck3_any P p pc q B.length qc W (h1.up h)
  have C2 : ∀ W, Below w.heap.size w W → Calls Try.prog 22 #[spV p2 P.length pc2 q2 B2.length qc2] W fun e w' => e = .returned (.int .i64 (spE P B2.length)) ∧ Below W.heap.size W w' := fun W h => rcheck3_any P p2 pc2 q2 B2.length qc2 W (h2.up h)
  have l1 := (spB_len hs1)
  have l2 := (spB_len hs2)
  have E1 : ∀ W, Below w.heap.size w W → Calls Try.prog 52 #[spV p P.length pc q B.length qc, spV p2 P.length pc2 q2 B2.length qc2] W fun e w' => e = .returned (.bool (P == P)) ∧ Below W.heap.size W w' := fun W h => rsameperm_any P p pc q B.length qc P p2 pc2 q2 B2.length qc2 W (h1.up h) (h2.up h) (by omega)
  rw [spE_ok hs1] at C1
  rw [spE_ok hs2] at C2
  rw [beq_self_eq_true] at E1
  obtain ⟨i0, hi, hz0, hz1, hz2⟩ := info_parts A_infoC
  have hBi : (B.length : Int) ≤ 2048 := by omega
  have HBB : Hid (B2.length = B.length) := Lib.hid (by omega)
  have HQ1 := Lib.hid hq1
  have HQ2 := Lib.hid hq2
  clear l1 l2 hs1 hs2 h1 h2 hq1 hq2
  go_enter Try.func40, Try.ntmps40
  go_wp2_with first | (go_at_call 22; (with_reducible refine (C1 _ ?hpp).mono ?_; case hpp => exact (Gr.below (by repeat (first | (with_reducible exact Gr.refl _) | with_reducible refine Gr.alloc ?_ _ | with_reducible refine Gr.more ?_ _ _ | with_reducible refine Gr.setCell ?_ (by dsimp only; omega) _ | with_reducible refine Gr.drew ?_)))); rintro e w1 ⟨rfl, hb⟩; obtain ⟨os, n, rfl⟩ := Below.moreE hb; clear hb) | (go_at_call 22; (with_reducible refine (C2 _ ?hpp).mono ?_; case hpp => exact (Gr.below (by repeat (first | (with_reducible exact Gr.refl _) | with_reducible refine Gr.alloc ?_ _ | with_reducible refine Gr.more ?_ _ _ | with_reducible refine Gr.setCell ?_ (by dsimp only; omega) _ | with_reducible refine Gr.drew ?_)))); rintro e w1 ⟨rfl, hb⟩; obtain ⟨os, n, rfl⟩ := Below.moreE hb; clear hb) | (go_at_call 52; (refine (E1 _ (Gr.below (by repeat (first | (with_reducible exact Gr.refl _) | with_reducible refine Gr.alloc ?_ _ | with_reducible refine Gr.more ?_ _ _ | with_reducible refine Gr.setCell ?_ (by dsimp only; omega) _ | with_reducible refine Gr.drew ?_)))).mono ?_); rintro e w1 ⟨rfl, hb⟩; obtain ⟨os, n, rfl⟩ := Below.moreE hb; clear hb)
  go_loopw [5, 6] (fun l i wr => ∃ (v : Value) (k : Nat), v = l ∧ k ≤ B.length ∧ i = .int .i64 (k : Int) ∧ wr.cell? ⟨w.heap.size, 0, none⟩ = some (.slice p P.length pc) ∧ wr.cell? ⟨w.heap.size, 1, none⟩ = some (.slice q B.length qc) ∧ wr.cell? ⟨w.heap.size + 1, 0, none⟩ = some (.slice p2 P.length pc2) ∧ wr.cell? ⟨w.heap.size + 1, 1, none⟩ = some (.slice q2 B2.length qc2) ∧ wr.cell? ⟨w.heap.size + 1 + 1, 0, none⟩ = some (.slice none 0 0) ∧ wr.cell? ⟨w.heap.size + 1 + 1, 1, none⟩ = some (.int .i64 0) ∧ wr.frozen? ⟨w.heap.size + 1 + 1, 0, none⟩ = false ∧ wr.frozen? ⟨w.heap.size + 1 + 1, 1, none⟩ = false ∧ wr.ownsRow (w.heap.size + 3) 89 3 v (dfs B B2 k).length (dfC B B2 k) ∧ w.heap.size + 3 ≤ wr.heap.size ∧ Below w.heap.size w wr) (fun _ i _ => B.length - (intOf i).toNat)
  case atStart => exact ⟨_, 0, rfl, Nat.zero_le _, rfl, by go_simp, by go_simp, by go_simp, by go_simp, by go_simp, by go_simp, by go_simp, by go_simp, World.ownsRow_nil _ _ _ _, by simp <;> omega, (Gr.below (by repeat (first | (with_reducible exact Gr.refl _) | with_reducible refine Gr.alloc ?_ _ | with_reducible refine Gr.more ?_ _ _ | with_reducible refine Gr.setCell ?_ (by dsimp only; omega) _ | with_reducible refine Gr.drew ?_)))⟩
  case round =>
    obtain ⟨v, k, rfl, hk, rfl, a0, a1, c0, c1, r0, r1, f0, f1, hown, hz, hB⟩ := hrel
    by_cases hlt : k < B.length
    · have hlt' : (k : Int) < (B.length : Int) := by omega
      have hk0 : (0 : Int) ≤ (k : Int) := by omega
      have hk2 : k < B2.length := by have := HBB.out; omega
      have hlt2 : (k : Int) < (B2.length : Int) := by omega
      obtain ⟨b, o, rfl, hcx⟩ := HQ1.out.get (by rw [bV_len]; omega)
      obtain ⟨c, o2, rfl, hcy⟩ := HQ2.out.get (by rw [bV_len]; omega)
      have cx := hcx k _ (bV_get B k hlt)
      have cy := hcy k _ (bV_get B2 k hk2)
      replace cx := cell_up hB (lt_of_cell cx) cx
      replace cy := cell_up hB (lt_of_cell cy) cy
      have g1 : B.getD k 0 = B[k] := by simp [List.getD, hlt]
      have g2 : B2.getD k 0 = B2[k] := by simp [List.getD, hk2]
      clear hcx hcy
      by_cases he : B[k] = B2[k]
      · have he' : (((B[k].toNat : Int)) != (B2[k].toNat : Int)) = false := by rw [he]; simp
        have hown2 : wr.ownsRow (w.heap.size + 3) 89 3 v (dfs B B2 (k + 1)).length (dfC B B2 (k + 1)) := by
          unfold dfC; rw [dfs_eq (by rw [g1, g2, he])]; exact hown
        clear he g1 g2 hown
        have HO := Lib.hid hown2
        clear hown2
        go_upto_region 9 with fail
        try dsimp only
        go_quiet (fail)
        have gD := grDrewN (Gr.refl wr) nq
        replace hB := hB.trans (gD.below.mono (by omega))
        replace a0 := grC gD a0
        replace a1 := grC gD a1
        replace c0 := grC gD c0
        replace c1 := grC gD c1
        replace f0 := (gD.below.frozen (lt_of_cell r0)).trans f0
        replace f1 := (gD.below.frozen (lt_of_cell r1)).trans f1
        replace r0 := grC gD r0
        replace r1 := grC gD r1
        have hown3 := own_below HO.out gD.below
        have hz3 := gD.below.size
        clear gD HO cx cy
        go_wp2_with fail
        exact ⟨⟨_, k + 1, rfl, hlt, by go_num, a0, a1, c0, c1, r0, r1, f0, f1, hown3, by omega, hB⟩, by show B.length - ((k : Int) + 1).toNat < B.length - (k : Int).toNat; omega⟩
      · have he' : (((B[k].toNat : Int)) != (B2[k].toNat : Int)) = true := by
          rw [bne_iff_ne]; intro e; exact he (UInt8.toNat_inj.1 (by omega))
        have hln := dfs_len B B2 k
        have HE : Hid ((dfs B B2 (k + 1)).length = (dfs B B2 k).length + 1 ∧ dfC B B2 (k + 1) = dfC B B2 k ++ [.int .i64 (k : Int), .int .u8 (B[k].toNat : Int), .int .u8 (B2[k].toNat : Int)]) := by
          have := dfs_ne (B := B) (B2 := B2) (k := k) (by rw [g1, g2]; exact he)
          refine Lib.hid ⟨by rw [this]; simp, ?_⟩
          unfold dfC; rw [this]; simp only [List.flatMap_append, List.flatMap_cons, List.flatMap_nil, List.append_nil, chC, g1, g2]
        clear he g1 g2
        generalize (B[k].toNat : Int) = x at *
        generalize (B2[k].toNat : Int) = y at *
        go_upto_region 9 with fail
        try dsimp only
        go_quiet (fail)
        have gD := grDrewN (Gr.refl wr) nq
        replace hB := hB.trans (gD.below.mono (by omega))
        replace a0 := grC gD a0
        replace a1 := grC gD a1
        replace c0 := grC gD c0
        replace c1 := grC gD c1
        replace f0 := (gD.below.frozen (lt_of_cell r0)).trans f0
        replace f1 := (gD.below.frozen (lt_of_cell r1)).trans f1
        replace r0 := grC gD r0
        replace r1 := grC gD r1
        replace cx := grC gD cx
        replace cy := grC gD cy
        replace hown := own_below hown gD.below
        have hz3 := gD.below.size
        replace hz : w.heap.size + 3 ≤ (wr.drewN nq).heap.size := by omega
        clear gD hz3
        generalize wr.drewN nq = W9 at *
        go_upto_region 10 with fail
        try dsimp only
        go_region_law ((refine step_append_lies _ (by rfl) _ _ 78 (by rfl) (w.heap.size + 3) 89 i0 _ 3 16 Try.underlying78 hi hz0 hz1 hz2 (by rfl) (by decide) v (dfs B B2 k).length (dfC B B2 k) (by rfl) ((own_drew3 hown).alloc _) ⟨W9.heap.size, 0, none⟩ 1 1 [.int .i64 (k : Int), .int .u8 x, .int .u8 y] (by rfl) (by rfl) (World.news_of_block (World.alloc_heap_new (w := W9.drew) _)) (by intro u hu; simp at hu; rcases hu with rfl | rfl | rfl <;> rfl) (by decide) (by unfold maxLen; omega) (by omega) (by simp; omega) _ rfl ?_; intro g cap w5 hown5 hgrow hat hlt5))
        all_goals (
          have hge : ∀ j, v.ownBlock = some j → w.heap.size + 3 ≤ j := fun j hj => (hown.lt j hj).1
          have hne0 : some w.heap.size ≠ v.ownBlock := fun e => by have := hge _ e.symm; omega
          have hne1 : some (w.heap.size + 1) ≠ v.ownBlock := fun e => by have := hge _ e.symm; omega
          have hne2 : some (w.heap.size + 1 + 1) ≠ v.ownBlock := fun e => by have := hge _ e.symm; omega
          have k0 := al_grown (w := W9.drew) a0 hgrow hne0
          have k1 := al_grown (w := W9.drew) a1 hgrow hne0
          have k2 := al_grown (w := W9.drew) c0 hgrow hne1
          have k3 := al_grown (w := W9.drew) c1 hgrow hne1
          obtain ⟨k4, k6⟩ := pd_grown (up1 (w := W9) r0 _) (fr1 (w := W9) r0 f0 _) hgrow hne2
          obtain ⟨k5, k7⟩ := pd_grown (up1 (w := W9) r1 _) (fr1 (w := W9) r1 f1 _) hgrow hne2
          have hown6 : w5.ownsRow (w.heap.size + 3) 89 3 (.slice (some ⟨g, 0, none⟩) ((dfs B B2 k).length + 1) cap) (dfs B B2 (k + 1)).length (dfC B B2 (k + 1)) := by
            rw [HE.out.1, HE.out.2]; exact hown5
          have hB5 : Below w.heap.size w w5 := (hB.drew.alloc hB.size _).grown hgrow (by simp; omega) (fun j hj => by have := hge j hj; omega)
          have hz5 : w.heap.size + 3 ≤ w5.heap.size := by have := hgrow.size; simp at this; omega
          clear hown hown5 hgrow hge hne0 hne1 hne2 a0 a1 c0 c1 r0 r1 f0 f1
          go_wp2_with fail
          exact ⟨⟨_, k + 1, rfl, hlt, by push_cast; rfl, k0, k1, k2, k3, k4, k5, k6, k7, hown6, hz5, hB5⟩, by show B.length - ((k : Int) + 1).toNat < B.length - (k : Int).toNat; omega⟩)
    · have hge : k = B.length := by omega
      subst hge
      obtain ⟨q5, c5, rfl⟩ := own_sl hown
      go_wp2_with fail
      refine bodyPost_ret (v := .agg #[.slice q5 (dfs B B2 B.length).length c5, .int .i64 0]) (by simp [results, go_sem, *]) rfl ?_
      exact ⟨_, rfl, own_lowN (base := w.heap.size + 3) (by omega) (own_setN (own_setN hown (by omega) _ _) (by omega) _ _), (hB.setCell (by dsimp only; omega) _).setCell (by dsimp only; omega) _⟩
end Go.Proofs.Ytbfakdbhmpjmlaa
