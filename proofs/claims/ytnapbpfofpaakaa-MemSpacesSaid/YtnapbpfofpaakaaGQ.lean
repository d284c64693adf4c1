/-
  mem.Same for spaces of any size; the reference of layer 3: Seal, Protect (made by genkq.py).
  append(row, make([]T, m)...), the row the call's own: a law of no program.
  The reference of layer 3: New (made by genks.py).
  The law MemSpaces (made by genkt.py).
  The law MemSpaces: its walk, and the law (made by genkt.py).
-/
import Derived.Test.YtnapbpfofpaakaaGN
import Derived.Lib.AppendZeros
namespace Go.Proofs.Ytnapbpfofpaakaa
open Go.RowKit

set_option maxHeartbeats 1000000 in
theorem equalI_wide (X Y : List Int) (p q : Option Addr) (pc qc : Nat) (w : World) (hX : SeqAt w p (iV X)) (hY : SeqAt w q (iV Y)) (hx : (X.length : Int) ≤ 9223372036854775807) :
    Calls Try.prog 53 #[.slice p X.length pc, .slice q Y.length qc] w fun e w' => e = .returned (.bool (X == Y)) ∧ Below w.heap.size w w' := by
  by_cases hl : X.length = Y.length
  · have hl' : ((X.length : Int) != (Y.length : Int)) = false := by rw [bne_eq_false_iff_eq]; omega
    have HX := Lib.hid hX
    have HY := Lib.hid hY
    have HL := Lib.hid hl
    clear hX hY hl
    go_enter Try.func53, Try.ntmps53
    go_wp2
    go_loopw [13] (fun i wr => ∃ k : Nat, k ≤ X.length ∧ i = .int .i64 (k : Int) ∧ Hid (∀ j, j < k → X[j]? = Y[j]?) ∧ Below w.heap.size w wr) (fun i _ => X.length - (intOf i).toNat)
    case atStart => exact ⟨0, Nat.zero_le _, rfl, Lib.hid (fun j hj => by omega), Below.refl _ _⟩
    case round =>
      obtain ⟨k, hk, rfl, hsame, hB⟩ := hrel
      by_cases hlt : k < X.length
      · have hlt' : (k : Int) < (X.length : Int) := by omega
        have hky : k < Y.length := by have := HL.out; omega
        have hlty : (k : Int) < (Y.length : Int) := by omega
        obtain ⟨b, o, rfl, hcx⟩ := HX.out.get (by rw [iV_len]; omega)
        obtain ⟨c, o2, rfl, hcy⟩ := HY.out.get (by rw [iV_len]; omega)
        have cx := hcx k _ (iV_get X k hlt)
        have cy := hcy k _ (iV_get Y k hky)
        replace cx := cell_up hB (lt_of_cell cx) cx
        replace cy := cell_up hB (lt_of_cell cy) cy
        clear hcx hcy
        by_cases he : X[k] = Y[k]
        · have he' : (X[k] != Y[k]) = false := by rw [bne_eq_false_iff_eq]; exact he
          have hst : Hid (∀ j, j < k + 1 → X[j]? = Y[j]?) := Lib.hid (fun j hj => by
            by_cases e : j = k
            · subst e; rw [List.getElem?_eq_getElem hlt, List.getElem?_eq_getElem hky, he]
            · exact hsame.out j (by omega))
          clear he hsame
          go_wp2_with fail
          go_region_held3 (fun w' => w'.cell? ⟨b, o + k, none⟩ = some (.int .i64 X[k]) ∧ w'.cell? ⟨c, o2 + k, none⟩ = some (.int .i64 Y[k])) (exact ⟨by go_simp, by go_simp⟩) (fail)
          go_wp2_with fail
          exact ⟨⟨k + 1, by omega, by push_cast; rfl, hst, hB.drew⟩, by show X.length - ((k : Int) + 1).toNat < X.length - (k : Int).toNat; omega⟩
        · have he' : (X[k] != Y[k]) = true := bne_iff_ne.2 he
          have hr : Hid ((X == Y) = false) := Lib.hid (by
            rw [beq_eq_false_iff_ne]
            rintro rfl
            exact he rfl)
          clear he hsame
          go_wp2_with fail
          go_region_held3 (fun w' => w'.cell? ⟨b, o + k, none⟩ = some (.int .i64 X[k]) ∧ w'.cell? ⟨c, o2 + k, none⟩ = some (.int .i64 Y[k])) (exact ⟨by go_simp, by go_simp⟩) (fail)
          go_wp2_with fail
          go_ret
          exact ⟨retB hr.out.symm, hB.drew⟩
      · have hge : ¬ (k : Int) < (X.length : Int) := by omega
        have hr : Hid ((X == Y) = true) := Lib.hid (by
          rw [beq_iff_eq]
          apply List.ext_getElem?
          intro j
          by_cases hj : j < k
          · exact hsame.out j hj
          · rw [List.getElem?_eq_none (by omega), List.getElem?_eq_none (by have := HL.out; omega)])
        clear hsame
        go_wp2_with fail
        go_ret
        exact ⟨retB hr.out.symm, hB⟩
  · have hl' : ((X.length : Int) != (Y.length : Int)) = true := by rw [bne_iff_ne]; omega
    have hr : Hid ((X == Y) = false) := Lib.hid (by
      rw [beq_eq_false_iff_ne]
      rintro rfl
      exact hl rfl)
    clear hl hX hY
    go_enter Try.func53, Try.ntmps53
    go_wp2
    go_ret
    exact ⟨retB hr.out.symm, Below.refl _ _⟩
set_option maxHeartbeats 2000000 in
theorem same_wide (P : List Int) (p : Option Addr) (pc : Nat) (B : List UInt8) (q : Option Addr) (qc : Nat) (P2 : List Int) (p2 : Option Addr) (pc2 : Nat) (B2 : List UInt8) (q2 : Option Addr) (qc2 : Nat) (w : World)
    (h1 : SeqAt w p (iV P)) (h2 : SeqAt w q (bV B)) (h3 : SeqAt w p2 (iV P2)) (h4 : SeqAt w q2 (bV B2)) (l1 : (P.length : Int) ≤ 9223372036854775807) :
    Calls Try.prog 24 #[spV p P.length pc q B.length qc, spV p2 P2.length pc2 q2 B2.length qc2] w fun e w' => e = .returned (.bool (P == P2 && B == B2)) ∧ Below w.heap.size w w' := by
  have E1 : ∀ W, Below w.heap.size w W → Calls Try.prog 53 #[.slice p P.length pc, .slice p2 P2.length pc2] W fun e w' => e = .returned (.bool (P == P2)) ∧ Below W.heap.size W w' := fun W h => equalI_wide P P2 p p2 pc pc2 W (h1.up h) (h3.up h) l1
  have E2 : ∀ W, Below w.heap.size w W → Calls Try.prog 54 #[.slice q B.length qc, .slice q2 B2.length qc2] W fun e w' => e = .returned (.bool (B == B2)) ∧ Below W.heap.size W w' := fun W h => equalB_any B B2 q q2 qc qc2 W (h2.up h) (h4.up h)
  clear h1 h2 h3 h4 l1
  generalize (B == B2) = y at *
  cases hx : (P == P2)
  · rw [hx] at E1
    clear hx
    go_enter Try.func24, Try.ntmps24
    go_wp2_with (go_at_call 53; (refine (E1 _ (Gr.below (by repeat (first | (with_reducible exact Gr.refl _) | with_reducible refine Gr.alloc ?_ _ | with_reducible refine Gr.more ?_ _ _ | with_reducible refine Gr.setCell ?_ (by dsimp only; omega) _ | with_reducible refine Gr.drew ?_)))).mono ?_); rintro e w1 ⟨rfl, hb⟩; obtain ⟨os, n, rfl⟩ := Below.moreE hb; clear hb)
    go_ret
    exact ⟨by simp, (Gr.below (by repeat (first | (with_reducible exact Gr.refl _) | with_reducible refine Gr.alloc ?_ _ | with_reducible refine Gr.more ?_ _ _ | with_reducible refine Gr.setCell ?_ (by dsimp only; omega) _ | with_reducible refine Gr.drew ?_)))⟩
  · rw [hx] at E1
    clear hx
    go_enter Try.func24, Try.ntmps24
    go_wp2_with first | (go_at_call 53; (refine (E1 _ (Gr.below (by repeat (first | (with_reducible exact Gr.refl _) | with_reducible refine Gr.alloc ?_ _ | with_reducible refine Gr.more ?_ _ _ | with_reducible refine Gr.setCell ?_ (by dsimp only; omega) _ | with_reducible refine Gr.drew ?_)))).mono ?_); rintro e w1 ⟨rfl, hb⟩; obtain ⟨os, n, rfl⟩ := Below.moreE hb; clear hb) | (go_at_call 54; (refine (E2 _ (Gr.below (by repeat (first | (with_reducible exact Gr.refl _) | with_reducible refine Gr.alloc ?_ _ | with_reducible refine Gr.more ?_ _ _ | with_reducible refine Gr.setCell ?_ (by dsimp only; omega) _ | with_reducible refine Gr.drew ?_)))).mono ?_); rintro e w1 ⟨rfl, hb⟩; obtain ⟨os, n, rfl⟩ := Below.moreE hb; clear hb)
    go_ret
    exact ⟨by simp, (Gr.below (by repeat (first | (with_reducible exact Gr.refl _) | with_reducible refine Gr.alloc ?_ _ | with_reducible refine Gr.more ?_ _ _ | with_reducible refine Gr.setCell ?_ (by dsimp only; omega) _ | with_reducible refine Gr.drew ?_)))⟩
set_option maxRecDepth 100000 in
set_option maxHeartbeats 2000000 in
theorem rSeal_ok {P : List Int} {B : List UInt8} (hs : spB P B.length = true) {n : Int} {k : Nat} (hn : n = k) (hk : k < P.length) : RSeal P B n (P.set k 4) B 0 := by
  intro w p pc q qc h
  subst hn
  have C1 : ∀ W, Below w.heap.size w W → Calls Try.prog 22 #[spV p P.length pc q B.length qc] W fun e w' => e = .returned (.int .i64 (spE P B.length)) ∧ Below W.heap.size W w' := fun W g => rcheck3_any P p pc q B.length qc W (h.perm.up g)
  have CC : ∀ W, Below w.heap.size w W → Calls Try.prog 51 #[spV p P.length pc q B.length qc] W fun e w' => ∃ g sc tq tc, e = .returned (spV (some ⟨g, 0, none⟩) P.length sc tq B.length tc) ∧ w'.ownsRow W.heap.size 3 1 (.slice (some ⟨g, 0, none⟩) P.length sc) P.length (iV P) ∧ w'.ownsRow W.heap.size 5 1 (.slice tq B.length tc) B.length (bV B) ∧ Hid (∀ b o, tq = some ⟨b, o, none⟩ → b ≠ g) ∧ w'.cell? ⟨g, k, none⟩ = some (.int .i64 P[k]) ∧ w'.frozen? ⟨g, k, none⟩ = false ∧ W.heap.size ≤ g ∧ g < w'.heap.size ∧ Below W.heap.size W w' := fun W g2 => by
    have hsl := spB_len hs
    refine (rcopy_ok P p pc B q qc W (h.perm.up g2) (h.byte.up g2) (by omega) (by omega)).mono ?_
    rintro e w' ⟨sq, sc, tq, tc, h1, h2, h3, h4, h5⟩
    obtain ⟨g, cap, cur, hv, hbg, hgb, hcap⟩ := h2.2.resolve_left (fun h => by omega)
    injection hv with hsq _ hsc
    subst hsq; subst hsc
    have hcc := h2.cells (g := g) rfl k _ (iV_get P k hk)
    rw [Addr.add_lit, Nat.zero_add] at hcc
    exact ⟨g, _, tq, tc, h1, h2, h3, Lib.hid (fun b o e e2 => h4 g rfl (by subst e; rw [e2]; rfl)), hcc, by simp [World.frozen?, hgb], hbg, (h2.lt g rfl).2, h5⟩
  rw [spE_ok hs] at C1
  have hl := (spB_len hs).1
  have hki : (0 : Int) ≤ (k : Int) := by omega
  have hki2 : (k : Int) < (P.length : Int) := by omega
  have hl32 : (P.length : Int) ≤ 32 := by omega
  unfold SpAns
  rw [List.length_set]
  clear h hs
  go_enter Try.func20, Try.ntmps20
  go_wp2_with first | (go_at_call 22; (refine (C1 _ (Gr.below (by repeat (first | (with_reducible exact Gr.refl _) | with_reducible refine Gr.alloc ?_ _ | with_reducible refine Gr.more ?_ _ _ | with_reducible refine Gr.setCell ?_ (by dsimp only; omega) _ | with_reducible refine Gr.drew ?_)))).mono ?_); rintro e w1 ⟨rfl, hb⟩; obtain ⟨os, n', rfl⟩ := Below.moreE hb; clear hb) | (go_at_call 51; (refine (CC _ (Gr.below (by repeat (first | (with_reducible exact Gr.refl _) | with_reducible refine Gr.alloc ?_ _ | with_reducible refine Gr.more ?_ _ _ | with_reducible refine Gr.setCell ?_ (by dsimp only; omega) _ | with_reducible refine Gr.drew ?_)))).mono ?_); rintro e w1 ⟨g, sc, tq, tc, rfl, ho1, ho2, HN, ck, fk, gl1, gl2, hb⟩; have hb2 : Below w.heap.size w w1 := Below.trans (Gr.below (by repeat (first | (with_reducible exact Gr.refl _) | with_reducible refine Gr.alloc ?_ _ | with_reducible refine Gr.more ?_ _ _ | with_reducible refine Gr.setCell ?_ (by dsimp only; omega) _ | with_reducible refine Gr.drew ?_))) (hb.mono (by (try simp only [World.size_more, World.size_alloc, World.size_setCell, World.size_drew, Array.size_append]); omega)); have r0 : w1.cell? ⟨w.heap.size + 1, 0, none⟩ = some (.slice none 0 0) := (by rw [hb.cell (by (try simp only [World.size_more, World.size_alloc, World.size_setCell, World.size_drew, Array.size_append]); omega)]; go_simp); have f0 : w1.frozen? ⟨w.heap.size + 1, 0, none⟩ = false := (by rw [hb.frozen (by (try simp only [World.size_more, World.size_alloc, World.size_setCell, World.size_drew, Array.size_append]); omega)]; go_simp); have r1 : w1.cell? ⟨w.heap.size + 1, 1, none⟩ = some (.slice none 0 0) := (by rw [hb.cell (by (try simp only [World.size_more, World.size_alloc, World.size_setCell, World.size_drew, Array.size_append]); omega)]; go_simp); have f1 : w1.frozen? ⟨w.heap.size + 1, 1, none⟩ = false := (by rw [hb.frozen (by (try simp only [World.size_more, World.size_alloc, World.size_setCell, World.size_drew, Array.size_append]); omega)]; go_simp); have r2 : w1.cell? ⟨w.heap.size + 1, 2, none⟩ = some (.int .i64 0) := (by rw [hb.cell (by (try simp only [World.size_more, World.size_alloc, World.size_setCell, World.size_drew, Array.size_append]); omega)]; go_simp); have f2 : w1.frozen? ⟨w.heap.size + 1, 2, none⟩ = false := (by rw [hb.frozen (by (try simp only [World.size_more, World.size_alloc, World.size_setCell, World.size_drew, Array.size_append]); omega)]; go_simp); have r3 : w1.cell? ⟨w.heap.size + 1, 3, none⟩ = some (.int .i64 0) := (by rw [hb.cell (by (try simp only [World.size_more, World.size_alloc, World.size_setCell, World.size_drew, Array.size_append]); omega)]; go_simp); have f3 : w1.frozen? ⟨w.heap.size + 1, 3, none⟩ = false := (by rw [hb.frozen (by (try simp only [World.size_more, World.size_alloc, World.size_setCell, World.size_drew, Array.size_append]); omega)]; go_simp); have r4 : w1.cell? ⟨w.heap.size + 1, 4, none⟩ = some (.int .i64 0) := (by rw [hb.cell (by (try simp only [World.size_more, World.size_alloc, World.size_setCell, World.size_drew, Array.size_append]); omega)]; go_simp); have f4 : w1.frozen? ⟨w.heap.size + 1, 4, none⟩ = false := (by rw [hb.frozen (by (try simp only [World.size_more, World.size_alloc, World.size_setCell, World.size_drew, Array.size_append]); omega)]; go_simp); have hz := hb.size; simp only [World.size_more, World.size_alloc] at hz gl1; have HO1 := Lib.hid ho1; have HO2 := Lib.hid ho2; clear hb ho1 ho2)
  refine bodyPost_ret (v := .agg #[.slice (some ⟨g, 0, none⟩) P.length sc, .slice tq B.length tc, .int .i64 0, .int .i64 0, .int .i64 0]) (by simp [results, go_sem, *]) rfl ?_
  have o1 := own_lowN (base' := w.heap.size + 2) (by (try simp only [World.size_more, World.size_alloc, World.size_setCell, World.size_drew, Array.size_append]); omega) HO1.out
  have o2 := own_lowN (base' := w.heap.size + 2) (by (try simp only [World.size_more, World.size_alloc, World.size_setCell, World.size_drew, Array.size_append]); omega) HO2.out
  have b2 := SeqFar.own o2
  refine ⟨some ⟨g, 0, none⟩, sc, tq, tc, rfl, ⟨?_, ?_, fun b o e => ?_, b2.2.1⟩, ?_⟩
  · refine SeqFar.lower (B := w.heap.size + 2) ?_ (by omega)
    repeat (first | (with_reducible exact row_set o1 hk) | (with_reducible refine SeqFar.alloc ?_ _) | (with_reducible refine SeqFar.set ?_ (by dsimp only; (try simp only [World.size_more, World.size_alloc, World.size_setCell, World.size_drew, Array.size_append]); omega) _))
  · refine SeqFar.lower (B := w.heap.size + 2) ?_ (by omega)
    repeat (first | (with_reducible exact b2.1) | (with_reducible refine SeqFar.set ?_ (by dsimp only; (try simp only [World.size_more, World.size_alloc, World.size_setCell, World.size_drew, Array.size_append]); omega) _) | (with_reducible refine SeqFar.setNe ?_ (fun b o e => HN.out b o e) _) | (with_reducible refine SeqFar.alloc ?_ _))
  · injection e with e; injection e with e1; subst e1
    (try simp only [World.size_more, World.size_alloc, World.size_setCell, World.size_drew, Array.size_append])
    omega
  · repeat (first | (with_reducible exact hb2) | (with_reducible refine Below.setCell ?_ (by dsimp only; (try simp only [World.size_more, World.size_alloc, World.size_setCell, World.size_drew, Array.size_append]); omega) _) | (with_reducible refine Below.alloc ?_ (by (try simp only [World.size_more, World.size_alloc, World.size_setCell, World.size_drew, Array.size_append]); omega) _))

set_option maxRecDepth 100000 in
set_option maxHeartbeats 2000000 in
theorem rProt_code {P : List Int} {B : List UInt8} (hs : spB P B.length = true) (k : Nat) (perm : Int) (hk : k < P.length) (h4 : P[k] = 4) : RProt P B k perm [] [] 31 := by
  intro w p pc q qc h
  have C1 : ∀ W, Below w.heap.size w W → Calls Try.prog 22 #[spV p P.length pc q B.length qc] W fun e w' => e = .returned (.int .i64 (spE P B.length)) ∧ Below W.heap.size W w' := fun W g => rcheck3_any P p pc q B.length qc W (h.perm.up g)
  rw [spE_ok hs] at C1
  have h4' : (P[k] == 4) = true := by simp [h4]
  clear h4
  have hki : (0 : Int) ≤ (k : Int) := by omega
  have hki2 : (k : Int) < (P.length : Int) := by omega
  have hl32 : (P.length : Int) ≤ 32 := by have := (spB_len hs).1; omega
  obtain ⟨b0, o0, rfl, e0⟩ := seqAt_neK h.perm (by intro e; have := congrArg List.length e; rw [iV_len] at this; simp at this; rw [this] at hk; simp at hk)
  have d0 := e0 k _ (iV_get P k hk)
  have lb0 := lt_of_cell d0
  clear e0
  clear h hs
  go_enter Try.func19, Try.ntmps19
  generalize P[k] = x at *
  go_wp2_with (go_at_call 22; (refine (C1 _ (Gr.below (by repeat (first | (with_reducible exact Gr.refl _) | with_reducible refine Gr.alloc ?_ _ | with_reducible refine Gr.more ?_ _ _ | with_reducible refine Gr.setCell ?_ (by dsimp only; omega) _ | with_reducible refine Gr.drew ?_)))).mono ?_); rintro e w1 ⟨rfl, hb⟩; obtain ⟨os, n', rfl⟩ := Below.moreE hb; clear hb)
  refine bodyPost_ret (v := .agg #[.slice none 0 0, .slice none 0 0, .int .i64 0, .int .i64 0, .int .i64 31]) (by simp [results, go_sem, *]) rfl ?_
  exact spaNone (Gr.below (by repeat (first | (with_reducible exact Gr.refl _) | with_reducible refine Gr.alloc ?_ _ | with_reducible refine Gr.more ?_ _ _ | with_reducible refine Gr.setCell ?_ (by dsimp only; omega) _ | with_reducible refine Gr.drew ?_)))

set_option maxRecDepth 100000 in
set_option maxHeartbeats 2000000 in
theorem rProt_not {P : List Int} {B : List UInt8} (hs : spB P B.length = true) (k : Nat) (perm : Int) (hk : k < P.length) (h4 : P[k] ≠ 4) (hp : permB perm = false) : RProt P B k perm [] [] 31 := by
  intro w p pc q qc h
  have C1 : ∀ W, Below w.heap.size w W → Calls Try.prog 22 #[spV p P.length pc q B.length qc] W fun e w' => e = .returned (.int .i64 (spE P B.length)) ∧ Below W.heap.size W w' := fun W g => rcheck3_any P p pc q B.length qc W (h.perm.up g)
  rw [spE_ok hs] at C1
  have D1 := fun W => rpermitted_any perm W
  rw [hp] at D1
  have h4' : (P[k] == 4) = false := beq_eq_false_iff_ne.2 h4
  clear h4 hp
  have hki : (0 : Int) ≤ (k : Int) := by omega
  have hki2 : (k : Int) < (P.length : Int) := by omega
  have hl32 : (P.length : Int) ≤ 32 := by have := (spB_len hs).1; omega
  obtain ⟨b0, o0, rfl, e0⟩ := seqAt_neK h.perm (by intro e; have := congrArg List.length e; rw [iV_len] at this; simp at this; rw [this] at hk; simp at hk)
  have d0 := e0 k _ (iV_get P k hk)
  have lb0 := lt_of_cell d0
  clear e0
  clear h hs
  go_enter Try.func19, Try.ntmps19
  generalize P[k] = x at *
  go_wp2_with first | (go_at_call 22; (refine (C1 _ (Gr.below (by repeat (first | (with_reducible exact Gr.refl _) | with_reducible refine Gr.alloc ?_ _ | with_reducible refine Gr.more ?_ _ _ | with_reducible refine Gr.setCell ?_ (by dsimp only; omega) _ | with_reducible refine Gr.drew ?_)))).mono ?_); rintro e w1 ⟨rfl, hb⟩; obtain ⟨os, n', rfl⟩ := Below.moreE hb; clear hb) | (go_at_call 50; (refine (D1 _).mono ?_); rintro e w1 ⟨rfl, rfl⟩)
  refine bodyPost_ret (v := .agg #[.slice none 0 0, .slice none 0 0, .int .i64 0, .int .i64 0, .int .i64 31]) (by simp [results, go_sem, *]) rfl ?_
  exact spaNone (Gr.below (by repeat (first | (with_reducible exact Gr.refl _) | with_reducible refine Gr.alloc ?_ _ | with_reducible refine Gr.more ?_ _ _ | with_reducible refine Gr.setCell ?_ (by dsimp only; omega) _ | with_reducible refine Gr.drew ?_)))

set_option maxRecDepth 100000 in
set_option maxHeartbeats 2000000 in
theorem rProt_four {P : List Int} {B : List UInt8} (hs : spB P B.length = true) (k : Nat) (hk : k < P.length) (h4 : P[k] ≠ 4) : RProt P B k 4 [] [] 31 := by
  intro w p pc q qc h
  have C1 : ∀ W, Below w.heap.size w W → Calls Try.prog 22 #[spV p P.length pc q B.length qc] W fun e w' => e = .returned (.int .i64 (spE P B.length)) ∧ Below W.heap.size W w' := fun W g => rcheck3_any P p pc q B.length qc W (h.perm.up g)
  rw [spE_ok hs] at C1
  have D1 := fun W => rpermitted_any 4 W
  rw [show permB 4 = true from rfl] at D1
  have h4' : (P[k] == 4) = false := beq_eq_false_iff_ne.2 h4
  clear h4
  have hki : (0 : Int) ≤ (k : Int) := by omega
  have hki2 : (k : Int) < (P.length : Int) := by omega
  have hl32 : (P.length : Int) ≤ 32 := by have := (spB_len hs).1; omega
  obtain ⟨b0, o0, rfl, e0⟩ := seqAt_neK h.perm (by intro e; have := congrArg List.length e; rw [iV_len] at this; simp at this; rw [this] at hk; simp at hk)
  have d0 := e0 k _ (iV_get P k hk)
  have lb0 := lt_of_cell d0
  clear e0
  clear h hs
  go_enter Try.func19, Try.ntmps19
  generalize P[k] = x at *
  go_wp2_with first | (go_at_call 22; (refine (C1 _ (Gr.below (by repeat (first | (with_reducible exact Gr.refl _) | with_reducible refine Gr.alloc ?_ _ | with_reducible refine Gr.more ?_ _ _ | with_reducible refine Gr.setCell ?_ (by dsimp only; omega) _ | with_reducible refine Gr.drew ?_)))).mono ?_); rintro e w1 ⟨rfl, hb⟩; obtain ⟨os, n', rfl⟩ := Below.moreE hb; clear hb) | (go_at_call 50; (refine (D1 _).mono ?_); rintro e w1 ⟨rfl, rfl⟩)
  refine bodyPost_ret (v := .agg #[.slice none 0 0, .slice none 0 0, .int .i64 0, .int .i64 0, .int .i64 31]) (by simp [results, go_sem, *]) rfl ?_
  exact spaNone (Gr.below (by repeat (first | (with_reducible exact Gr.refl _) | with_reducible refine Gr.alloc ?_ _ | with_reducible refine Gr.more ?_ _ _ | with_reducible refine Gr.setCell ?_ (by dsimp only; omega) _ | with_reducible refine Gr.drew ?_)))

set_option maxRecDepth 100000 in
set_option maxHeartbeats 2000000 in
theorem rProt_ok {P : List Int} {B : List UInt8} (hs : spB P B.length = true) {n : Int} {k : Nat} (hn : n = k) {perm : Int} (hk : k < P.length) (h4 : P[k] ≠ 4) (hd : permB perm = true) (hd4 : (perm == 4) = false) : RProt P B n perm (P.set k perm) B 0 := by
  intro w p pc q qc h
  subst hn
  have C1 : ∀ W, Below w.heap.size w W → Calls Try.prog 22 #[spV p P.length pc q B.length qc] W fun e w' => e = .returned (.int .i64 (spE P B.length)) ∧ Below W.heap.size W w' := fun W g => rcheck3_any P p pc q B.length qc W (h.perm.up g)
  have CC : ∀ W, Below w.heap.size w W → Calls Try.prog 51 #[spV p P.length pc q B.length qc] W fun e w' => ∃ g sc tq tc, e = .returned (spV (some ⟨g, 0, none⟩) P.length sc tq B.length tc) ∧ w'.ownsRow W.heap.size 3 1 (.slice (some ⟨g, 0, none⟩) P.length sc) P.length (iV P) ∧ w'.ownsRow W.heap.size 5 1 (.slice tq B.length tc) B.length (bV B) ∧ Hid (∀ b o, tq = some ⟨b, o, none⟩ → b ≠ g) ∧ w'.cell? ⟨g, k, none⟩ = some (.int .i64 P[k]) ∧ w'.frozen? ⟨g, k, none⟩ = false ∧ W.heap.size ≤ g ∧ g < w'.heap.size ∧ Below W.heap.size W w' := fun W g2 => by
    have hsl := spB_len hs
    refine (rcopy_ok P p pc B q qc W (h.perm.up g2) (h.byte.up g2) (by omega) (by omega)).mono ?_
    rintro e w' ⟨sq, sc, tq, tc, h1, h2, h3, h4, h5⟩
    obtain ⟨g, cap, cur, hv, hbg, hgb, hcap⟩ := h2.2.resolve_left (fun h => by omega)
    injection hv with hsq _ hsc
    subst hsq; subst hsc
    have hcc := h2.cells (g := g) rfl k _ (iV_get P k hk)
    rw [Addr.add_lit, Nat.zero_add] at hcc
    exact ⟨g, _, tq, tc, h1, h2, h3, Lib.hid (fun b o e e2 => h4 g rfl (by subst e; rw [e2]; rfl)), hcc, by simp [World.frozen?, hgb], hbg, (h2.lt g rfl).2, h5⟩
  have D1 := fun W => rpermitted_any perm W
  rw [hd] at D1
  have h4' : (P[k] == 4) = false := beq_eq_false_iff_ne.2 h4
  rw [spE_ok hs] at C1
  have hki : (0 : Int) ≤ (k : Int) := by omega
  have hki2 : (k : Int) < (P.length : Int) := by omega
  have hl32 : (P.length : Int) ≤ 32 := by have := (spB_len hs).1; omega
  obtain ⟨b0, o0, hp0, e0⟩ := seqAt_neK h.perm (by intro e; have := congrArg List.length e; rw [iV_len] at this; simp at this; rw [this] at hk; simp at hk)
  have d0 := e0 k _ (iV_get P k hk)
  have lb0 := lt_of_cell d0
  subst hp0
  clear e0
  unfold SpAns
  rw [List.length_set]
  clear h hs h4 hd
  go_enter Try.func19, Try.ntmps19
  go_wp2_with first | (go_at_call 22; (refine (C1 _ (Gr.below (by repeat (first | (with_reducible exact Gr.refl _) | with_reducible refine Gr.alloc ?_ _ | with_reducible refine Gr.more ?_ _ _ | with_reducible refine Gr.setCell ?_ (by dsimp only; omega) _ | with_reducible refine Gr.drew ?_)))).mono ?_); rintro e w1 ⟨rfl, hb⟩; obtain ⟨os, n', rfl⟩ := Below.moreE hb; clear hb) | (go_at_call 50; (refine (D1 _).mono ?_); rintro e w1 ⟨rfl, rfl⟩) | (go_at_call 51; (refine (CC _ (Gr.below (by repeat (first | (with_reducible exact Gr.refl _) | with_reducible refine Gr.alloc ?_ _ | with_reducible refine Gr.more ?_ _ _ | with_reducible refine Gr.setCell ?_ (by dsimp only; omega) _ | with_reducible refine Gr.drew ?_)))).mono ?_); rintro e w1 ⟨g, sc, tq, tc, rfl, ho1, ho2, HN, ck, fk, gl1, gl2, hb⟩; have hb2 : Below w.heap.size w w1 := Below.trans (Gr.below (by repeat (first | (with_reducible exact Gr.refl _) | with_reducible refine Gr.alloc ?_ _ | with_reducible refine Gr.more ?_ _ _ | with_reducible refine Gr.setCell ?_ (by dsimp only; omega) _ | with_reducible refine Gr.drew ?_))) (hb.mono (by (try simp only [World.size_more, World.size_alloc, World.size_setCell, World.size_drew, Array.size_append]); omega)); have r0 : w1.cell? ⟨w.heap.size + 1, 0, none⟩ = some (.slice none 0 0) := (by rw [hb.cell (by (try simp only [World.size_more, World.size_alloc, World.size_setCell, World.size_drew, Array.size_append]); omega)]; go_simp); have f0 : w1.frozen? ⟨w.heap.size + 1, 0, none⟩ = false := (by rw [hb.frozen (by (try simp only [World.size_more, World.size_alloc, World.size_setCell, World.size_drew, Array.size_append]); omega)]; go_simp); have r1 : w1.cell? ⟨w.heap.size + 1, 1, none⟩ = some (.slice none 0 0) := (by rw [hb.cell (by (try simp only [World.size_more, World.size_alloc, World.size_setCell, World.size_drew, Array.size_append]); omega)]; go_simp); have f1 : w1.frozen? ⟨w.heap.size + 1, 1, none⟩ = false := (by rw [hb.frozen (by (try simp only [World.size_more, World.size_alloc, World.size_setCell, World.size_drew, Array.size_append]); omega)]; go_simp); have r2 : w1.cell? ⟨w.heap.size + 1, 2, none⟩ = some (.int .i64 0) := (by rw [hb.cell (by (try simp only [World.size_more, World.size_alloc, World.size_setCell, World.size_drew, Array.size_append]); omega)]; go_simp); have f2 : w1.frozen? ⟨w.heap.size + 1, 2, none⟩ = false := (by rw [hb.frozen (by (try simp only [World.size_more, World.size_alloc, World.size_setCell, World.size_drew, Array.size_append]); omega)]; go_simp); have r3 : w1.cell? ⟨w.heap.size + 1, 3, none⟩ = some (.int .i64 0) := (by rw [hb.cell (by (try simp only [World.size_more, World.size_alloc, World.size_setCell, World.size_drew, Array.size_append]); omega)]; go_simp); have f3 : w1.frozen? ⟨w.heap.size + 1, 3, none⟩ = false := (by rw [hb.frozen (by (try simp only [World.size_more, World.size_alloc, World.size_setCell, World.size_drew, Array.size_append]); omega)]; go_simp); have r4 : w1.cell? ⟨w.heap.size + 1, 4, none⟩ = some (.int .i64 0) := (by rw [hb.cell (by (try simp only [World.size_more, World.size_alloc, World.size_setCell, World.size_drew, Array.size_append]); omega)]; go_simp); have f4 : w1.frozen? ⟨w.heap.size + 1, 4, none⟩ = false := (by rw [hb.frozen (by (try simp only [World.size_more, World.size_alloc, World.size_setCell, World.size_drew, Array.size_append]); omega)]; go_simp); have hz := hb.size; simp only [World.size_more, World.size_alloc] at hz gl1; have HO1 := Lib.hid ho1; have HO2 := Lib.hid ho2; clear hb ho1 ho2)
  refine bodyPost_ret (v := .agg #[.slice (some ⟨g, 0, none⟩) P.length sc, .slice tq B.length tc, .int .i64 0, .int .i64 0, .int .i64 0]) (by simp [results, go_sem, *]) rfl ?_
  have o1 := own_lowN (base' := w.heap.size + 2) (by (try simp only [World.size_more, World.size_alloc, World.size_setCell, World.size_drew, Array.size_append]); omega) HO1.out
  have o2 := own_lowN (base' := w.heap.size + 2) (by (try simp only [World.size_more, World.size_alloc, World.size_setCell, World.size_drew, Array.size_append]); omega) HO2.out
  have b2 := SeqFar.own o2
  refine ⟨some ⟨g, 0, none⟩, sc, tq, tc, rfl, ⟨?_, ?_, fun b o e => ?_, b2.2.1⟩, ?_⟩
  · refine SeqFar.lower (B := w.heap.size + 2) ?_ (by omega)
    repeat (first | (with_reducible exact row_set o1 hk) | (with_reducible refine SeqFar.alloc ?_ _) | (with_reducible refine SeqFar.set ?_ (by dsimp only; (try simp only [World.size_more, World.size_alloc, World.size_setCell, World.size_drew, Array.size_append]); omega) _))
  · refine SeqFar.lower (B := w.heap.size + 2) ?_ (by omega)
    repeat (first | (with_reducible exact b2.1) | (with_reducible refine SeqFar.set ?_ (by dsimp only; (try simp only [World.size_more, World.size_alloc, World.size_setCell, World.size_drew, Array.size_append]); omega) _) | (with_reducible refine SeqFar.setNe ?_ (fun b o e => HN.out b o e) _) | (with_reducible refine SeqFar.alloc ?_ _))
  · injection e with e; injection e with e1; subst e1
    (try simp only [World.size_more, World.size_alloc, World.size_setCell, World.size_drew, Array.size_append])
    omega
  · repeat (first | (with_reducible exact hb2) | (with_reducible refine Below.setCell ?_ (by dsimp only; (try simp only [World.size_more, World.size_alloc, World.size_setCell, World.size_drew, Array.size_append]); omega) _) | (with_reducible refine Below.alloc ?_ (by (try simp only [World.size_more, World.size_alloc, World.size_setCell, World.size_drew, Array.size_append]); omega) _))
end Go.Proofs.Ytnapbpfofpaakaa

namespace Go.Proofs.Ytnapbpfofpaakaa
open Go.RowKit

theorem zeroCells_one (z : Value) (m : Nat) : Builtin.zeroCells #[z] m = (List.replicate m z).toArray := by
  apply Array.ext
  · simp [Builtin.zeroCells]
  · intro i h1 h2
    simp [Builtin.zeroCells, Nat.mod_one]

theorem run_append_own_zeros {P : Program} (w : World) (base : Nat) (t tn ty e : TypeId) (i : TypeInfo) (z : Value) (bytes : Nat) (kn : IntKind) (ht : P.underlying t = some (.slice e)) (htn : P.underlying tn = some (.int kn)) (hi : P.info? e = some i) (hz : i.zero = some z)
    (hsize : i.size = 1) (hby : i.bytes = bytes) (hzs : z.cells = #[z]) (h1z : z.oneCell' = true)
    (v : Value) (n : Nat) (xs : List Value) (hown : w.ownsRow base e 1 v n xs) (m : Nat) (h0 : 0 < m)
    (h63 : n + m ≤ maxLen) (hbytes : (n + m) * bytes ≤ 140737488355328) (hbase : base ≤ w.heap.size) :
    ∃ v' w', (Builtin.append_ #[t, tn] ty #[v, .int .i64 (m : Int)]).run P w = .ok v' w' ∧ w'.ownsRow base e 1 v' (n + m) (xs ++ List.replicate m z) ∧ w.grownBy w' v.ownBlock := by
  have hsmall : n + m ≤ 9223372036854775807 := by simp only [maxLen] at h63; omega
  have hbm : m * bytes ≤ 140737488355328 := Nat.le_trans (Nat.mul_le_mul_right _ (by omega)) hbytes
  have hw : IntKind.i64.wrap (m : Int) = m := by rw [IntKind.wrap_i64]; omega
  have hneg : ¬ ((m : Int) < 0) := by omega
  have hm0 : m ≠ 0 := by omega
  have h48i : ¬ (281474976710656 < (m : Int) * (i.bytes : Int)) := by
    rw [← Int.natCast_mul, hby]
    omega
  have hl1 : xs.length = n := by simpa using hown.1
  have hlen : (xs ++ List.replicate m z).length = (n + m) * 1 := by rw [List.length_append, hl1, List.length_replicate, Nat.mul_one]
  have grown : ∀ (old : Nat), old < n + m → ∀ (row : Option Nat),
      (w.drew.alloc (.cells (xs.toArray ++ Builtin.zeroCells z.cells m ++ Builtin.zeroCells z.cells (grownCap w (n + m) old e - (n + m))) e)).ownsRow base e 1
        (.slice (some ⟨w.heap.size, 0, none⟩) (n + m) (grownCap w (n + m) old e)) (n + m) (xs ++ List.replicate m z) ∧
      w.grownBy (w.drew.alloc (.cells (xs.toArray ++ Builtin.zeroCells z.cells m ++ Builtin.zeroCells z.cells (grownCap w (n + m) old e - (n + m))) e)) row := by
    intro old ho row
    have hge := grownCap_ge w (n + m) old e
    have hcm : grownCap w (n + m) old e ≤ maxLen := grownCap_le_maxLen w (n + m) old e h63
    refine ⟨⟨hlen, .inr ⟨w.heap.size, _, _, rfl, hbase, heap_alloc_new w.drew _, hge, hcm, ?_, ?_⟩⟩, ⟨rfl, rfl, rfl, by simp, fun k hk hne => (World.grownBy_alloc w.drew _ row).block k hk hne⟩⟩
    · rw [hzs]
      simp only [Array.size_append, List.size_toArray, size_zeroCells, hl1]
      simp
      omega
    · rw [hzs, zeroCells_one, zeroCells_one]
      simp only [Array.toList_append, List.append_assoc]
      rw [← List.append_assoc, ← hlen]
      exact List.take_left
  rcases hown.2 with ⟨rfl, rfl⟩ | ⟨g, cap, cur, rfl, hbg, hg, hnc, hcm, hcs, htake⟩
  · have hx : xs = [] := List.eq_nil_of_length_eq_zero hl1
    subst hx
    have hr := Lib.run_append_nil_zeros (P := P) w t tn ty e i z .i64 kn ht htn hi hz m h0 (by rw [hsize]; decide) (by omega) (by rw [hby]; omega)
    have hgr := grown 0 (by omega) (Value.ownBlock (.slice none 0 0))
    simp only [Nat.zero_add, List.nil_append, Array.empty_append] at hgr ⊢
    exact ⟨_, _, hr, by simpa using hgr.1, by simpa using hgr.2⟩
  · by_cases hroom : n + m ≤ cap
    · have hfit : n + (List.replicate m z).length ≤ cur.size := by rw [hcs, List.length_replicate]; omega
      have hst := run_storeCells_at P g n e (List.replicate m z) 0 cur w hg (by simpa using hfit) (fun u hu => by rw [List.eq_of_mem_replicate hu]; exact h1z)
      simp only [Nat.add_zero] at hst
      have hr : (Builtin.append_ #[t, tn] ty #[.slice (some ⟨g, 0, none⟩) n cap, .int .i64 (m : Int)]).run P w = .ok (.slice (some ⟨g, 0, none⟩) (n + m) cap) (w.setRow g (cur.toList.take n ++ List.replicate m z ++ cur.toList.drop (n + (List.replicate m z).length)).toArray) := by
        simp [Builtin.append_, run_underlying ht, run_underlying htn, sizeOf, typeInfo, zeroValue, hi, hz, asInt, asIntOf, hw, hneg, h48i, hm0, hsize, hroom, hzs, zeroCells_one, Addr.add_lit] at hst ⊢
        rw [hst]
        rfl
      refine ⟨_, _, hr, ⟨hlen, .inr ⟨g, cap, _, rfl, hbg, setRow_heap w g cur _ e _ hg, hroom, hcm, ?_, ?_⟩⟩, ⟨rfl, rfl, rfl, by simp, fun k _ hk => setRow_other w g k _ (fun e => hk (by simp [Value.ownBlock, e]))⟩⟩
      · simp only [List.size_toArray, List.length_append, List.length_take, List.length_drop, Array.length_toList, List.length_replicate]
        omega
      · rw [Nat.mul_one] at htake
        rw [htake, ← hlen]
        exact List.take_left
    · have holds : ∀ j u, xs[j]? = some u → w.cell? ((⟨g, 0, none⟩ : Addr).add j) = some u := hown.cells (g := g) rfl
      have hfo := run_firstCells_some (P := P) w.drew i.size n ⟨g, 0, none⟩ n cap xs (by rw [hsize, Nat.mul_one]; exact hl1) (by simpa using holds)
      have h63' : ¬ (9223372036854775807 < ((n : Int) + (m : Int))) := by omega
      have h48' : ¬ (281474976710656 < Builtin.nextslicecap (n + m) cap * i.bytes) := by
        have := growslice_fits (old := cap) (need := n + m) (bytes := i.bytes) (by omega) (by rw [hby]; exact hbytes)
        omega
      have hr : (Builtin.append_ #[t, tn] ty #[.slice (some ⟨g, 0, none⟩) n cap, .int .i64 (m : Int)]).run P w = .ok (.slice (some ⟨w.heap.size, 0, none⟩) (n + m) (grownCap w (n + m) cap e)) (w.drew.alloc (.cells (xs.toArray ++ Builtin.zeroCells z.cells m ++ Builtin.zeroCells z.cells (grownCap w (n + m) cap e - (n + m))) e)) := by
        rw [hsize] at hfo
        simp [Builtin.append_, run_underlying ht, run_underlying htn, sizeOf, typeInfo, zeroValue, hi, hz, asInt, asIntOf, hw, hneg, h48i, hm0, hsize, hroom, h63', h48', Question.forced, hfo, newRow, grownCap, Array.append_assoc]
      have hgr := grown cap (by omega) (Value.ownBlock (.slice (some ⟨g, 0, none⟩) n cap))
      exact ⟨_, _, hr, hgr.1, hgr.2⟩

theorem append_own_zeros {P : Program} {w : World} {ops : Array Oper} {rest : List Oper} {o : Oper} {a : Act} {Q : Exit → Act → World → Prop} (hgd : o.guard = none) (s x : Operand) (t tn : TypeId)
    (ho : o.op = .call { callee := .builtin .append, args := #[s, x], argTypes := #[t, tn] })
    (base : Nat) (e : TypeId) (i : TypeInfo) (z : Value) (bytes : Nat) (kn : IntKind) (ht : P.underlying t = some (.slice e)) (htn : P.underlying tn = some (.int kn)) (hi : P.info? e = some i) (hz : i.zero = some z)
    (hsize : i.size = 1) (hby : i.bytes = bytes) (hzs : z.cells = #[z]) (h1z : z.oneCell' = true)
    (v : Value) (n : Nat) (xs : List Value) (hs : a.eval s = v) (hown : w.ownsRow base e 1 v n xs) (m : Nat) (hx : a.eval x = .int .i64 (m : Int)) (h0 : 0 < m)
    (h63 : n + m ≤ maxLen) (hbytes : (n + m) * bytes ≤ 140737488355328) (hbase : base ≤ w.heap.size)
    (h : ∀ v' w', w'.ownsRow base e 1 v' (n + m) (xs ++ List.replicate m z) → w.grownBy w' v.ownBlock → wpList P ops Q rest (a.put o.dst v') w') : wpList P ops Q (o :: rest) a w := by
  obtain ⟨v', w', hr, h2, h3⟩ := run_append_own_zeros w base t tn o.type e i z bytes kn ht htn hi hz hsize hby hzs h1z v n xs hown m h0 h63 hbytes hbase
  exact wpList_plain hgd fun _ hK => Lib.wp_append_run w s x t tn ho v _ hs hx v' w' hr (hK _ _ (h v' w' h2 h3))
end Go.Proofs.Ytnapbpfofpaakaa

namespace Go.Proofs.Ytnapbpfofpaakaa
open Go.RowKit

theorem own_apart {w : World} {b1 b2 : Nat} {e1 e2 : TypeId} {v1 v2 : Value} {n1 n2 : Nat} {xs1 xs2 : List Value} (h1 : w.ownsRow b1 e1 1 v1 n1 xs1) (h2 : w.ownsRow b2 e2 1 v2 n2 xs2) (he : e1 ≠ e2) : ∀ g, v1.ownBlock = some g → v2.ownBlock ≠ some g := by
  intro g k1 k2
  rcases h1.2 with ⟨rfl, _⟩ | ⟨g1, _, cur1, rfl, _, c1, _⟩
  · simp [Value.ownBlock] at k1
  · rcases h2.2 with ⟨rfl, _⟩ | ⟨g2, _, cur2, rfl, _, c2, _⟩
    · simp [Value.ownBlock] at k2
    · simp [Value.ownBlock] at k1 k2
      subst k1 k2
      rw [c1] at c2
      simp at c2
      exact he c2.2
def RNew (n : Int) (P' : List Int) (B' : List UInt8) (E : Int) : Prop := ∀ w, Calls Try.prog 18 #[.int .i64 n] w (SpAns w P' B' 0 0 E)
set_option maxHeartbeats 1000000 in
theorem rNew_lo {n : Int} (hn : n < 0) : RNew n [] [] 1 := by
  intro w
  go_enter Try.func18, Try.ntmps18
  go_wp2_with fail
  refine bodyPost_ret (v := .agg #[.slice none 0 0, .slice none 0 0, .int .i64 0, .int .i64 0, .int .i64 1]) (by simp [results, go_sem, *]) rfl ?_
  exact spaNone (Gr.below (by repeat (first | (with_reducible exact Gr.refl _) | with_reducible refine Gr.alloc ?_ _ | with_reducible refine Gr.more ?_ _ _ | with_reducible refine Gr.setCell ?_ (by dsimp only; omega) _ | with_reducible refine Gr.drew ?_)))
set_option maxHeartbeats 1000000 in
theorem rNew_hi {n : Int} (h0 : ¬ n < 0) (hn : 32 < n) : RNew n [] [] 1 := by
  intro w
  go_enter Try.func18, Try.ntmps18
  go_wp2_with fail
  refine bodyPost_ret (v := .agg #[.slice none 0 0, .slice none 0 0, .int .i64 0, .int .i64 0, .int .i64 1]) (by simp [results, go_sem, *]) rfl ?_
  exact spaNone (Gr.below (by repeat (first | (with_reducible exact Gr.refl _) | with_reducible refine Gr.alloc ?_ _ | with_reducible refine Gr.more ?_ _ _ | with_reducible refine Gr.setCell ?_ (by dsimp only; omega) _ | with_reducible refine Gr.drew ?_)))

set_option maxRecDepth 100000 in
set_option maxHeartbeats 4000000 in
theorem rNew_ok {n : Int} {k0 : Nat} (hk0 : n = k0) (hn : k0 ≤ 32) : RNew n (List.replicate k0 0) (List.replicate (64 * k0) 0) 0 := by
  intro w
  subst hk0
  obtain ⟨i0, hi, hz0, hz1, hz2⟩ := info_parts A_infoI
  obtain ⟨i1, gi, gz0, gz1, gz2⟩ := info_parts A_infoU8
  have hn2 : (k0 : Int) ≤ 32 := by omega
  unfold SpAns
  rw [List.length_replicate, List.length_replicate]
  go_enter Try.func18, Try.ntmps18
  go_wp2_with fail
  go_loopw [4] (fun i wr => ∃ (k : Nat) (v1 v2 : Value), k ≤ k0 ∧ i = .int .i64 (k : Int) ∧ wr.cell? ⟨w.heap.size + 1, 0, none⟩ = some v1 ∧ wr.cell? ⟨w.heap.size + 1, 1, none⟩ = some v2 ∧ wr.frozen? ⟨w.heap.size + 1, 0, none⟩ = false ∧ wr.frozen? ⟨w.heap.size + 1, 1, none⟩ = false ∧ wr.cell? ⟨w.heap.size, 0, none⟩ = some (.slice none 0 0) ∧ wr.cell? ⟨w.heap.size, 1, none⟩ = some (.slice none 0 0) ∧ wr.cell? ⟨w.heap.size, 2, none⟩ = some (.int .i64 0) ∧ wr.cell? ⟨w.heap.size, 3, none⟩ = some (.int .i64 0) ∧ wr.cell? ⟨w.heap.size, 4, none⟩ = some (.int .i64 0) ∧ wr.frozen? ⟨w.heap.size, 0, none⟩ = false ∧ wr.frozen? ⟨w.heap.size, 1, none⟩ = false ∧ wr.frozen? ⟨w.heap.size, 2, none⟩ = false ∧ wr.frozen? ⟨w.heap.size, 3, none⟩ = false ∧ wr.frozen? ⟨w.heap.size, 4, none⟩ = false ∧ wr.ownsRow (w.heap.size + 2) 3 1 v1 k (iV (List.replicate k 0)) ∧ wr.ownsRow (w.heap.size + 2) 5 1 v2 (64 * k) (bV (List.replicate (64 * k) 0)) ∧ w.heap.size + 2 ≤ wr.heap.size ∧ Below w.heap.size w wr) (fun i _ => k0 - (intOf i).toNat)
  case atStart => exact ⟨0, .slice none 0 0, .slice none 0 0, Nat.zero_le _, rfl, by go_simp, by go_simp, by go_simp, by go_simp, by go_simp, by go_simp, by go_simp, by go_simp, by go_simp, by go_simp, by go_simp, by go_simp, by go_simp, by go_simp, World.ownsRow_nil _ _ _ _, World.ownsRow_nil _ _ _ _, by simp, (Gr.below (by repeat (first | (with_reducible exact Gr.refl _) | with_reducible refine Gr.alloc ?_ _ | with_reducible refine Gr.more ?_ _ _ | with_reducible refine Gr.setCell ?_ (by dsimp only; omega) _ | with_reducible refine Gr.drew ?_)))⟩
  case round =>
    obtain ⟨k, v1, v2, hk, rfl, c0, c1, fc0, fc1, r0, r1, r2, r3, r4, f0, f1, f2, f3, f4, o1, o2, hz, hB⟩ := hrel
    by_cases hlt : k < k0
    · have hlt' : (k : Int) < (k0 : Int) := by omega
      have hk0' : (0 : Int) ≤ (k : Int) := by omega
      have hw1 : wrap64 ((k : Int) + 1) = (k : Int) + 1 := by unfold wrap64; omega
      obtain ⟨q1, d1, rfl⟩ := own_sl o1
      obtain ⟨q2, d2, rfl⟩ := own_sl o2
      go_wp2_with (at_builtin; refine wpList_append_own _ rfl _ _ 22 rfl (w.heap.size + 2) 3 i0 (.int .i64 0) 1 8 Try.underlying22 hi hz0 hz1 hz2 rfl (by decide) (.slice q1 k d1) k (iV (List.replicate k 0)) rfl (own_al o1 _) ⟨wr.heap.size, 0, none⟩ 1 1 [.int .i64 0] rfl ?qc1 ?qc2 ?qc3 ?qc4 ?qc5 ?qc6 ?_)
      case qc1 => rfl
      case qc2 => exact World.news_of_block (World.alloc_heap_new _ _)
      case qc3 => intro u hu; simp at hu; subst hu; rfl
      case qc4 => unfold maxLen; omega
      case qc5 => omega
      case qc6 => simp; omega
      intro v1' w5 hown5 hgrow hnil
      have hge : ∀ j, (Value.slice q1 k d1).ownBlock = some j → w.heap.size + 2 ≤ j := fun j hj => (o1.lt j hj).1
      have hn0 : ∀ b, b < w.heap.size + 2 → some b ≠ (Value.slice q1 k d1).ownBlock := fun b hb e => by have := hge _ e.symm; omega
      have o2' : w5.ownsRow (w.heap.size + 2) 5 1 (.slice q2 (64 * k) d2) (64 * k) (bV (List.replicate (64 * k) 0)) := own_grown hgrow (own_al o2 _) (fun g hg e => own_apart o1 o2 (by decide) g e.symm hg)
      have e1 : iV (List.replicate (k + 1) (0 : Int)) = iV (List.replicate k 0) ++ [.int .i64 0] := by simp [iV, List.replicate_succ']
      have o1' : w5.ownsRow (w.heap.size + 2) 3 1 v1' (k + 1) (iV (List.replicate (k + 1) 0)) := by rw [e1]; exact hown5
      have B5 : Below w.heap.size w w5 := (hB.alloc hB.size _).grown hgrow (by simp; omega) (fun j hj => by have := hge j hj; omega)
      have z5 : w.heap.size + 2 ≤ w5.heap.size := by have := hgrow.size; simp at this; omega
      have c0' : w5.cell? ⟨w.heap.size + 1, 0, none⟩ = some (.slice q1 k d1) := grown_cell hgrow (by go_simp) (hn0 _ (by omega))
      have c1' : w5.cell? ⟨w.heap.size + 1, 1, none⟩ = some (.slice q2 (64 * k) d2) := grown_cell hgrow (by go_simp) (hn0 _ (by omega))
      have fc0' : w5.frozen? ⟨w.heap.size + 1, 0, none⟩ = false := grown_fz hgrow (by simp; omega) (by go_simp) (hn0 _ (by omega))
      have fc1' : w5.frozen? ⟨w.heap.size + 1, 1, none⟩ = false := grown_fz hgrow (by simp; omega) (by go_simp) (hn0 _ (by omega))
      have r0' : w5.cell? ⟨w.heap.size, 0, none⟩ = some (.slice none 0 0) := grown_cell hgrow (by go_simp) (hn0 _ (by omega))
      have r1' : w5.cell? ⟨w.heap.size, 1, none⟩ = some (.slice none 0 0) := grown_cell hgrow (by go_simp) (hn0 _ (by omega))
      have r2' : w5.cell? ⟨w.heap.size, 2, none⟩ = some (.int .i64 0) := grown_cell hgrow (by go_simp) (hn0 _ (by omega))
      have r3' : w5.cell? ⟨w.heap.size, 3, none⟩ = some (.int .i64 0) := grown_cell hgrow (by go_simp) (hn0 _ (by omega))
      have r4' : w5.cell? ⟨w.heap.size, 4, none⟩ = some (.int .i64 0) := grown_cell hgrow (by go_simp) (hn0 _ (by omega))
      have f0' : w5.frozen? ⟨w.heap.size, 0, none⟩ = false := grown_fz hgrow (by simp; omega) (by go_simp) (hn0 _ (by omega))
      have f1' : w5.frozen? ⟨w.heap.size, 1, none⟩ = false := grown_fz hgrow (by simp; omega) (by go_simp) (hn0 _ (by omega))
      have f2' : w5.frozen? ⟨w.heap.size, 2, none⟩ = false := grown_fz hgrow (by simp; omega) (by go_simp) (hn0 _ (by omega))
      have f3' : w5.frozen? ⟨w.heap.size, 3, none⟩ = false := grown_fz hgrow (by simp; omega) (by go_simp) (hn0 _ (by omega))
      have f4' : w5.frozen? ⟨w.heap.size, 4, none⟩ = false := grown_fz hgrow (by simp; omega) (by go_simp) (hn0 _ (by omega))
      clear c0 c1 fc0 fc1 r0 r1 r2 r3 r4 f0 f1 f2 f3 f4 o1 o2 hown5 hgrow hnil hge hn0 hB e1
      obtain ⟨q3, d3, rfl⟩ := own_sl o1'
      go_wp2_with (at_builtin; refine append_own_zeros rfl _ _ 23 3 rfl (w.heap.size + 2) 5 i1 (.int .u8 0) 1 .i64 Try.underlying23 Try.underlying3 gi gz0 gz1 gz2 rfl rfl (.slice q2 (64 * k) d2) (64 * k) (bV (List.replicate (64 * k) 0)) rfl (own_setN o2' (by omega) _ _) 64 rfl (by decide) ?qd1 ?qd2 ?qd3 ?_)
      case qd1 => unfold maxLen; omega
      case qd2 => omega
      case qd3 => simp; omega
      intro v2' w6 hown6 hgrow
      have hge : ∀ j, (Value.slice q2 (64 * k) d2).ownBlock = some j → w.heap.size + 2 ≤ j := fun j hj => (o2'.lt j hj).1
      have hn0 : ∀ b, b < w.heap.size + 2 → some b ≠ (Value.slice q2 (64 * k) d2).ownBlock := fun b hb e => by have := hge _ e.symm; omega
      have o1'' : w6.ownsRow (w.heap.size + 2) 3 1 (.slice q3 (k + 1) d3) (k + 1) (iV (List.replicate (k + 1) 0)) := own_grown hgrow (own_setN o1' (by omega) _ _) (fun g hg e => own_apart o1' o2' (by decide) g hg e.symm)
      have e2 : bV (List.replicate (64 * (k + 1)) (0 : UInt8)) = bV (List.replicate (64 * k) 0) ++ List.replicate 64 (.int .u8 0) := by
        rw [show 64 * (k + 1) = 64 * k + 64 by omega, ← List.replicate_append_replicate]
        simp [bV]
      have o2'' : w6.ownsRow (w.heap.size + 2) 5 1 v2' (64 * (k + 1)) (bV (List.replicate (64 * (k + 1)) 0)) := by
        rw [e2, show 64 * (k + 1) = 64 * k + 64 by omega]; exact hown6
      have B6 : Below w.heap.size w w6 := (B5.setCell (by dsimp only; omega) _).grown hgrow (by simp; omega) (fun j hj => by have := hge j hj; omega)
      have z6 : w.heap.size + 2 ≤ w6.heap.size := by have := hgrow.size; simp at this; omega
      have c0'' : w6.cell? ⟨w.heap.size + 1, 0, none⟩ = some (.slice q3 (k + 1) d3) := grown_cell hgrow (by go_simp) (hn0 _ (by omega))
      have c1'' : w6.cell? ⟨w.heap.size + 1, 1, none⟩ = some (.slice q2 (64 * k) d2) := grown_cell hgrow (by go_simp) (hn0 _ (by omega))
      have fc0'' : w6.frozen? ⟨w.heap.size + 1, 0, none⟩ = false := grown_fz hgrow (by simp; omega) (by go_simp) (hn0 _ (by omega))
      have fc1'' : w6.frozen? ⟨w.heap.size + 1, 1, none⟩ = false := grown_fz hgrow (by simp; omega) (by go_simp) (hn0 _ (by omega))
      have r0'' : w6.cell? ⟨w.heap.size, 0, none⟩ = some (.slice none 0 0) := grown_cell hgrow (by go_simp) (hn0 _ (by omega))
      have r1'' : w6.cell? ⟨w.heap.size, 1, none⟩ = some (.slice none 0 0) := grown_cell hgrow (by go_simp) (hn0 _ (by omega))
      have r2'' : w6.cell? ⟨w.heap.size, 2, none⟩ = some (.int .i64 0) := grown_cell hgrow (by go_simp) (hn0 _ (by omega))
      have r3'' : w6.cell? ⟨w.heap.size, 3, none⟩ = some (.int .i64 0) := grown_cell hgrow (by go_simp) (hn0 _ (by omega))
      have r4'' : w6.cell? ⟨w.heap.size, 4, none⟩ = some (.int .i64 0) := grown_cell hgrow (by go_simp) (hn0 _ (by omega))
      have f0'' : w6.frozen? ⟨w.heap.size, 0, none⟩ = false := grown_fz hgrow (by simp; omega) (by go_simp) (hn0 _ (by omega))
      have f1'' : w6.frozen? ⟨w.heap.size, 1, none⟩ = false := grown_fz hgrow (by simp; omega) (by go_simp) (hn0 _ (by omega))
      have f2'' : w6.frozen? ⟨w.heap.size, 2, none⟩ = false := grown_fz hgrow (by simp; omega) (by go_simp) (hn0 _ (by omega))
      have f3'' : w6.frozen? ⟨w.heap.size, 3, none⟩ = false := grown_fz hgrow (by simp; omega) (by go_simp) (hn0 _ (by omega))
      have f4'' : w6.frozen? ⟨w.heap.size, 4, none⟩ = false := grown_fz hgrow (by simp; omega) (by go_simp) (hn0 _ (by omega))
      clear c0' c1' fc0' fc1' r0' r1' r2' r3' r4' f0' f1' f2' f3' f4' o1' o2' hown6 hgrow hge hn0 B5 e2
      obtain ⟨q4, d4, rfl⟩ := own_sl o2''
      go_wp2_with fail
      exact ⟨⟨k + 1, _, .slice q4 (64 * (k + 1)) d4, hlt, by push_cast; rfl, by go_simp, by go_simp, by go_simp, by go_simp, by go_simp, by go_simp, by go_simp, by go_simp, by go_simp, by go_simp, by go_simp, by go_simp, by go_simp, by go_simp, own_setN o1'' (by omega) _ _, own_setN o2'' (by omega) _ _, by simpa using z6, B6.setCell (by dsimp only; omega) _⟩, by show k0 - ((k : Int) + 1).toNat < k0 - (k : Int).toNat; omega⟩
    · obtain rfl : k = k0 := by omega
      have hge : ¬ (k : Int) < (k : Int) := by omega
      obtain ⟨q1, d1, rfl⟩ := own_sl o1
      obtain ⟨q2, d2, rfl⟩ := own_sl o2
      go_wp2_with fail
      refine bodyPost_ret (v := .agg #[.slice q1 k d1, .slice q2 (64 * k) d2, .int .i64 0, .int .i64 0, .int .i64 0]) (by simp [results, go_sem, *]) rfl ?_
      have p1 := SeqFar.own o1
      have p2 := SeqFar.own o2
      refine ⟨q1, d1, q2, d2, rfl, ⟨?_, ?_, fun b o e => ?_, by simpa using p2.2.1⟩, ?_⟩
      · refine SeqFar.lower (B := w.heap.size + 2) ?_ (by omega)
        repeat (first | (with_reducible exact p1.1) | (with_reducible refine SeqFar.set ?_ (by dsimp only; omega) _))
      · refine SeqFar.lower (B := w.heap.size + 2) ?_ (by omega)
        repeat (first | (with_reducible exact p2.1) | (with_reducible refine SeqFar.set ?_ (by dsimp only; omega) _))
      · have := p1.2.2 b o e
        simpa using this
      · repeat (first | (with_reducible exact hB) | (with_reducible refine Below.setCell ?_ (by dsimp only; omega) _))
end Go.Proofs.Ytnapbpfofpaakaa

namespace Go.Proofs.Ytnapbpfofpaakaa
open Go.RowKit

def SqBx (W : World) (b : Nat) (P : List Int) (B : List UInt8) : Prop := ∃ p pc q qc, Bx W b [.slice p P.length pc, .slice q B.length qc] ∧ SpAt W P p B q qc
def AnBx (W : World) (b : Nat) (P : List Int) (B : List UInt8) (E : Int) : Prop := ∃ p pc q qc, Bx W b [.slice p P.length pc, .slice q B.length qc, .int .i64 0, .int .i64 0, .int .i64 E] ∧ SpAt W P p B q qc
theorem Bx.mk5 {W : World} {b : Nat} {u v x y z : Value} (h0 : W.cell? ⟨b, 0, none⟩ = some u) (h1 : W.cell? ⟨b, 1, none⟩ = some v) (h2 : W.cell? ⟨b, 2, none⟩ = some x) (h3 : W.cell? ⟨b, 3, none⟩ = some y) (h4 : W.cell? ⟨b, 4, none⟩ = some z)
    (f0 : W.frozen? ⟨b, 0, none⟩ = false) (f1 : W.frozen? ⟨b, 1, none⟩ = false) (f2 : W.frozen? ⟨b, 2, none⟩ = false) (f3 : W.frozen? ⟨b, 3, none⟩ = false) (f4 : W.frozen? ⟨b, 4, none⟩ = false) : Bx W b [u, v, x, y, z] :=
  ⟨fun j t hj => by match j with
    | 0 => simpa using h0.trans hj
    | 1 => simpa using h1.trans hj
    | 2 => simpa using h2.trans hj
    | 3 => simpa using h3.trans hj
    | 4 => simpa using h4.trans hj
    | _ + 5 => simp at hj, fun j x hj => by match j with
    | 0 => exact f0
    | 1 => exact f1
    | 2 => exact f2
    | 3 => exact f3
    | 4 => exact f4
    | _ + 5 => simp at hj, lt_of_cell h0⟩

/-- Region 8 of law3.MemSpaces. -/
noncomputable def spaces_r8_code : Code := ((Try.f3.body).bind (Code.findR 8)).getD .skip
set_option maxRecDepth 100000 in
set_option maxHeartbeats 8000000 in
theorem spaces_r8 {Q : Exit → Act → World → Prop} {u0 u1 u2 u5 u6 u17 u18 u19 u20 u21 u22 u23 u24 u25 u26 u27 u28 u29 u30 u31 u32 u33 u34 u35 u36 u37 u38 u39 u40 u41 u42 u43 u44 u45 u46 u47 u48 u49 u50 u51 u52 u53 u54 u55 u56 u57 u58 u59 u60 u61 u62 u63 u64 u65 u66 u67 u68 u69 u70 u71 u72 u73 u74 u75 u76 u77 u78 u79 u80 u81 u82 u83 u84 u85 u86 u87 u88 u89 u90 u91 u92 u93 u94 u95 u96 u97 u98 u99 u100 u101 u102 u103 u104 u105 u106 u107 u108 u109 u110 : Value} {W : World} {b3 b4 b8 b10 b12 b14 b15 b16 : Nat} {P : List Int} {B : List UInt8} {P2 : List Int} {B2 : List UInt8} {Pa : List Int} {Ba : List UInt8} {Pb : List Int} {Bb : List UInt8} {Pc : List Int} {Bc : List UInt8} {E1 E2 E3 : Int} (h3 : SqBx W b3 P B) (h4 : SqBx W b4 P2 B2) (h8 : SqBx W b8 Pa Ba) (h10 : SqBx W b10 Pb Bb) (h12 : SqBx W b12 Pc Bc) (h14 : AnBx W b14 Pa Ba E1) (h15 : AnBx W b15 Pb Bb E2) (h16 : AnBx W b16 Pc Bc E3) (lP : (P.length : Int) ≤ 9223372036854775807) (la : (Pa.length : Int) ≤ 4096) (lb : (Pb.length : Int) ≤ 4096) (lc : (Pc.length : Int) ≤ 4096) (hQ : ∀ (z53 z54 z55 z56 z57 z58 z59 z60 z61 z62 z63 z64 z65 z66 z67 z68 z69 z70 z71 z72 z73 z74 z75 z76 z77 z78 z79 z80 z81 z82 z83 z84 z85 z86 z87 z88 z89 z90 z91 z92 z93 z94 z95 z96 z97 z98 z99 z100 z101 z102 z103 z104 z105 z106 z107 z108 z109 z110 : Value) (W' : World), Gr W.heap.size W W' → Q .normal ⟨#[u0, u1, u2, .pointer (some ⟨b3, 0, none⟩), .pointer (some ⟨b4, 0, none⟩), u5, .bool true, .bool true, .pointer (some ⟨b8, 0, none⟩), .int .i64 E1, .pointer (some ⟨b10, 0, none⟩), .int .i64 E2, .pointer (some ⟨b12, 0, none⟩), .int .i64 E3, .pointer (some ⟨b14, 0, none⟩), .pointer (some ⟨b15, 0, none⟩), .pointer (some ⟨b16, 0, none⟩), u17, u18, u19, u20, u21, u22, u23, u24, u25, u26, u27, u28, u29, u30, u31, u32, u33, u34, u35, u36, u37, u38, u39, u40, u41, u42, u43, u44, u45, u46, u47, u48, u49, u50, u51, u52, z53, z54, z55, z56, z57, z58, z59, z60, z61, z62, z63, z64, z65, z66, z67, z68, z69, z70, z71, z72, z73, z74, z75, z76, z77, z78, z79, z80, z81, z82, z83, z84, z85, z86, z87, z88, z89, z90, z91, z92, z93, z94, z95, z96, z97, z98, z99, z100, z101, z102, z103, z104, z105, z106, z107, z108, z109, z110], []⟩ W') : Code.wp Try.prog spaces_r8_code Q ⟨#[u0, u1, u2, .pointer (some ⟨b3, 0, none⟩), .pointer (some ⟨b4, 0, none⟩), u5, u6, .bool true, .pointer (some ⟨b8, 0, none⟩), .int .i64 E1, .pointer (some ⟨b10, 0, none⟩), .int .i64 E2, .pointer (some ⟨b12, 0, none⟩), .int .i64 E3, .pointer (some ⟨b14, 0, none⟩), .pointer (some ⟨b15, 0, none⟩), .pointer (some ⟨b16, 0, none⟩), u17, u18, u19, u20, u21, u22, u23, u24, u25, u26, u27, u28, u29, u30, u31, u32, u33, u34, u35, u36, u37, u38, u39, u40, u41, u42, u43, u44, u45, u46, u47, u48, u49, u50, u51, u52, u53, u54, u55, u56, u57, u58, u59, u60, u61, u62, u63, u64, u65, u66, u67, u68, u69, u70, u71, u72, u73, u74, u75, u76, u77, u78, u79, u80, u81, u82, u83, u84, u85, u86, u87, u88, u89, u90, u91, u92, u93, u94, u95, u96, u97, u98, u99, u100, u101, u102, u103, u104, u105, u106, u107, u108, u109, u110], []⟩ W := by
  obtain ⟨p3, pc3, q3, qc3, x3, s3⟩ := h3
  have c3_0 := x3.get 0 _ rfl
  have c3_1 := x3.get 1 _ rfl
  have l3 := x3.lt
  obtain ⟨p4, pc4, q4, qc4, x4, s4⟩ := h4
  have c4_0 := x4.get 0 _ rfl
  have c4_1 := x4.get 1 _ rfl
  have l4 := x4.lt
  obtain ⟨p8, pc8, q8, qc8, x8, s8⟩ := h8
  have c8_0 := x8.get 0 _ rfl
  have c8_1 := x8.get 1 _ rfl
  have l8 := x8.lt
  obtain ⟨p10, pc10, q10, qc10, x10, s10⟩ := h10
  have c10_0 := x10.get 0 _ rfl
  have c10_1 := x10.get 1 _ rfl
  have l10 := x10.lt
  obtain ⟨p12, pc12, q12, qc12, x12, s12⟩ := h12
  have c12_0 := x12.get 0 _ rfl
  have c12_1 := x12.get 1 _ rfl
  have l12 := x12.lt
  obtain ⟨p14, pc14, q14, qc14, x14, s14⟩ := h14
  have c14_0 := x14.get 0 _ rfl
  have c14_1 := x14.get 1 _ rfl
  have c14_4 := x14.get 4 _ rfl
  have l14 := x14.lt
  obtain ⟨p15, pc15, q15, qc15, x15, s15⟩ := h15
  have c15_0 := x15.get 0 _ rfl
  have c15_1 := x15.get 1 _ rfl
  have c15_4 := x15.get 4 _ rfl
  have l15 := x15.lt
  obtain ⟨p16, pc16, q16, qc16, x16, s16⟩ := h16
  have c16_0 := x16.get 0 _ rfl
  have c16_1 := x16.get 1 _ rfl
  have c16_4 := x16.get 4 _ rfl
  have l16 := x16.lt
  have MC : ∀ W', Below W.heap.size W W' → Calls Try.prog 21 #[spV p3 P.length pc3 q3 B.length qc3] W' fun e w' => e = .returned (.int .i64 (spE P B.length)) ∧ Below W'.heap.size W' w' := fun W' g => mcheck_any P p3 pc3 q3 B.length qc3 W' (s3.perm.up g)
  have RC : ∀ W', Below W.heap.size W W' → Calls Try.prog 22 #[spV p3 P.length pc3 q3 B.length qc3] W' fun e w' => e = .returned (.int .i64 (spE P B.length)) ∧ Below W'.heap.size W' w' := fun W' g => rcheck3_any P p3 pc3 q3 B.length qc3 W' (s3.perm.up g)
  have MS : ∀ W', Below W.heap.size W W' → Calls Try.prog 24 #[spV p3 P.length pc3 q3 B.length qc3, spV p4 P2.length pc4 q4 B2.length qc4] W' fun e w' => e = .returned (.bool (P == P2 && B == B2)) ∧ Below W'.heap.size W' w' := fun W' g => same_wide P p3 pc3 B q3 qc3 P2 p4 pc4 B2 q4 qc4 W' (s3.perm.up g) (s3.byte.up g) (s4.perm.up g) (s4.byte.up g) lP
  have RS : ∀ W', Below W.heap.size W W' → Calls Try.prog 23 #[spV p3 P.length pc3 q3 B.length qc3, spV p4 P2.length pc4 q4 B2.length qc4] W' fun e w' => e = .returned (.bool (P == P2 && B == B2)) ∧ Below W'.heap.size W' w' := fun W' g => rsame_any P p3 pc3 B q3 qc3 P2 p4 pc4 B2 q4 qc4 W' (s3.perm.up g) (s3.byte.up g) (s4.perm.up g) (s4.byte.up g) lP
  have M3 : ∀ W', Below W.heap.size W W' → Calls Try.prog 24 #[spV p3 P.length pc3 q3 B.length qc3, spV p3 P.length pc3 q3 B.length qc3] W' fun e w' => e = .returned (.bool true) ∧ Below W'.heap.size W' w' := fun W' g => by
    have := same_wide P p3 pc3 B q3 qc3 P p3 pc3 B q3 qc3 W' (s3.perm.up g) (s3.byte.up g) (s3.perm.up g) (s3.byte.up g) lP
    simpa using this
  have Sa : ∀ W', Below W.heap.size W W' → Calls Try.prog 23 #[spV p8 Pa.length pc8 q8 Ba.length qc8, spV p14 Pa.length pc14 q14 Ba.length qc14] W' fun e w' => e = .returned (.bool true) ∧ Below W'.heap.size W' w' := fun W' g => by
    have := rsame_any Pa p8 pc8 Ba q8 qc8 Pa p14 pc14 Ba q14 qc14 W' (s8.perm.up g) (s8.byte.up g) (s14.perm.up g) (s14.byte.up g) (by omega)
    simpa using this
  have Sb : ∀ W', Below W.heap.size W W' → Calls Try.prog 23 #[spV p10 Pb.length pc10 q10 Bb.length qc10, spV p15 Pb.length pc15 q15 Bb.length qc15] W' fun e w' => e = .returned (.bool true) ∧ Below W'.heap.size W' w' := fun W' g => by
    have := rsame_any Pb p10 pc10 Bb q10 qc10 Pb p15 pc15 Bb q15 qc15 W' (s10.perm.up g) (s10.byte.up g) (s15.perm.up g) (s15.byte.up g) (by omega)
    simpa using this
  have Sc : ∀ W', Below W.heap.size W W' → Calls Try.prog 23 #[spV p12 Pc.length pc12 q12 Bc.length qc12, spV p16 Pc.length pc16 q16 Bc.length qc16] W' fun e w' => e = .returned (.bool true) ∧ Below W'.heap.size W' w' := fun W' g => by
    have := rsame_any Pc p12 pc12 Bc q12 qc12 Pc p16 pc16 Bc q16 qc16 W' (s12.perm.up g) (s12.byte.up g) (s16.perm.up g) (s16.byte.up g) (by omega)
    simpa using this
  clear s3 s4 s8 s10 s12 s14 s15 s16 x3 x4 x8 x10 x12 x14 x15 x16 lP la lb lc
  generalize (P == P2 && B == B2) = r at *
  generalize spE P B.length = E0 at *
  conv => arg 2; whnf
  first | skip; go_region_held3 (fun W' => W'.cell? ⟨b14, 4, none⟩ = some (.int .i64 E1) ∧ W'.cell? ⟨b15, 4, none⟩ = some (.int .i64 E2) ∧ W'.cell? ⟨b16, 4, none⟩ = some (.int .i64 E3) ∧ W'.cell? ⟨b3, 0, none⟩ = some (.slice p3 (List.length P) pc3) ∧ W'.cell? ⟨b3, 1, none⟩ = some (.slice q3 (List.length B) qc3) ∧ W'.cell? ⟨b4, 0, none⟩ = some (.slice p4 (List.length P2) pc4) ∧ W'.cell? ⟨b4, 1, none⟩ = some (.slice q4 (List.length B2) qc4) ∧ W'.cell? ⟨b8, 0, none⟩ = some (.slice p8 (List.length Pa) pc8) ∧ W'.cell? ⟨b8, 1, none⟩ = some (.slice q8 (List.length Ba) qc8) ∧ W'.cell? ⟨b10, 0, none⟩ = some (.slice p10 (List.length Pb) pc10) ∧ W'.cell? ⟨b10, 1, none⟩ = some (.slice q10 (List.length Bb) qc10) ∧ W'.cell? ⟨b12, 0, none⟩ = some (.slice p12 (List.length Pc) pc12) ∧ W'.cell? ⟨b12, 1, none⟩ = some (.slice q12 (List.length Bc) qc12) ∧ W'.cell? ⟨b14, 0, none⟩ = some (.slice p14 (List.length Pa) pc14) ∧ W'.cell? ⟨b14, 1, none⟩ = some (.slice q14 (List.length Ba) qc14) ∧ W'.cell? ⟨b15, 0, none⟩ = some (.slice p15 (List.length Pb) pc15) ∧ W'.cell? ⟨b15, 1, none⟩ = some (.slice q15 (List.length Bb) qc15) ∧ W'.cell? ⟨b16, 0, none⟩ = some (.slice p16 (List.length Pc) pc16) ∧ W'.cell? ⟨b16, 1, none⟩ = some (.slice q16 (List.length Bc) qc16) ∧ W.heap.size ≤ W'.heap.size) (exact ⟨by go_simp, by go_simp, by go_simp, by go_simp, by go_simp, by go_simp, by go_simp, by go_simp, by go_simp, by go_simp, by go_simp, by go_simp, by go_simp, by go_simp, by go_simp, by go_simp, by go_simp, by go_simp, by go_simp, by first | omega | (simp; done) | (simp; omega)⟩) (first | (go_at_call 21; (with_reducible refine (MC _ ?hxx).mono ?_); (case hxx => exact (Gr.below (by repeat (first | (with_reducible exact Gr.refl _) | with_reducible refine Gr.alloc ?_ _ | with_reducible refine Gr.more ?_ _ _ | with_reducible refine Gr.setCell ?_ (by dsimp only; (try simp only [World.size_more, World.size_alloc, World.size_setCell, World.size_drew, Array.size_append]); omega) _ | with_reducible refine Gr.drew ?_)))); rintro e w1 ⟨rfl, hb⟩; obtain ⟨os, n', rfl⟩ := Below.moreE hb; clear hb) | (go_at_call 22; (with_reducible refine (RC _ ?hxx).mono ?_); (case hxx => exact (Gr.below (by repeat (first | (with_reducible exact Gr.refl _) | with_reducible refine Gr.alloc ?_ _ | with_reducible refine Gr.more ?_ _ _ | with_reducible refine Gr.setCell ?_ (by dsimp only; (try simp only [World.size_more, World.size_alloc, World.size_setCell, World.size_drew, Array.size_append]); omega) _ | with_reducible refine Gr.drew ?_)))); rintro e w1 ⟨rfl, hb⟩; obtain ⟨os, n', rfl⟩ := Below.moreE hb; clear hb) | (go_at_call 23; (with_reducible refine (Sa _ ?hxx).mono ?_); (case hxx => exact (Gr.below (by repeat (first | (with_reducible exact Gr.refl _) | with_reducible refine Gr.alloc ?_ _ | with_reducible refine Gr.more ?_ _ _ | with_reducible refine Gr.setCell ?_ (by dsimp only; (try simp only [World.size_more, World.size_alloc, World.size_setCell, World.size_drew, Array.size_append]); omega) _ | with_reducible refine Gr.drew ?_)))); rintro e w1 ⟨rfl, hb⟩; obtain ⟨os, n', rfl⟩ := Below.moreE hb; clear hb) | (go_at_call 23; (with_reducible refine (Sb _ ?hxx).mono ?_); (case hxx => exact (Gr.below (by repeat (first | (with_reducible exact Gr.refl _) | with_reducible refine Gr.alloc ?_ _ | with_reducible refine Gr.more ?_ _ _ | with_reducible refine Gr.setCell ?_ (by dsimp only; (try simp only [World.size_more, World.size_alloc, World.size_setCell, World.size_drew, Array.size_append]); omega) _ | with_reducible refine Gr.drew ?_)))); rintro e w1 ⟨rfl, hb⟩; obtain ⟨os, n', rfl⟩ := Below.moreE hb; clear hb) | (go_at_call 23; (with_reducible refine (Sc _ ?hxx).mono ?_); (case hxx => exact (Gr.below (by repeat (first | (with_reducible exact Gr.refl _) | with_reducible refine Gr.alloc ?_ _ | with_reducible refine Gr.more ?_ _ _ | with_reducible refine Gr.setCell ?_ (by dsimp only; (try simp only [World.size_more, World.size_alloc, World.size_setCell, World.size_drew, Array.size_append]); omega) _ | with_reducible refine Gr.drew ?_)))); rintro e w1 ⟨rfl, hb⟩; obtain ⟨os, n', rfl⟩ := Below.moreE hb; clear hb) | (go_at_call 23; (with_reducible refine (RS _ ?hxx).mono ?_); (case hxx => exact (Gr.below (by repeat (first | (with_reducible exact Gr.refl _) | with_reducible refine Gr.alloc ?_ _ | with_reducible refine Gr.more ?_ _ _ | with_reducible refine Gr.setCell ?_ (by dsimp only; (try simp only [World.size_more, World.size_alloc, World.size_setCell, World.size_drew, Array.size_append]); omega) _ | with_reducible refine Gr.drew ?_)))); rintro e w1 ⟨rfl, hb⟩; obtain ⟨os, n', rfl⟩ := Below.moreE hb; clear hb) | (go_at_call 24; (with_reducible refine (MS _ ?hxx).mono ?_); (case hxx => exact (Gr.below (by repeat (first | (with_reducible exact Gr.refl _) | with_reducible refine Gr.alloc ?_ _ | with_reducible refine Gr.more ?_ _ _ | with_reducible refine Gr.setCell ?_ (by dsimp only; (try simp only [World.size_more, World.size_alloc, World.size_setCell, World.size_drew, Array.size_append]); omega) _ | with_reducible refine Gr.drew ?_)))); rintro e w1 ⟨rfl, hb⟩; obtain ⟨os, n', rfl⟩ := Below.moreE hb; clear hb) | (go_at_call 24; (with_reducible refine (M3 _ ?hxx).mono ?_); (case hxx => exact (Gr.below (by repeat (first | (with_reducible exact Gr.refl _) | with_reducible refine Gr.alloc ?_ _ | with_reducible refine Gr.more ?_ _ _ | with_reducible refine Gr.setCell ?_ (by dsimp only; (try simp only [World.size_more, World.size_alloc, World.size_setCell, World.size_drew, Array.size_append]); omega) _ | with_reducible refine Gr.drew ?_)))); rintro e w1 ⟨rfl, hb⟩; obtain ⟨os, n', rfl⟩ := Below.moreE hb; clear hb)) | fail
  all_goals exact hQ _ _ _ _ _ _ _ _ _ _ _ _ _ _ _ _ _ _ _ _ _ _ _ _ _ _ _ _ _ _ _ _ _ _ _ _ _ _ _ _ _ _ _ _ _ _ _ _ _ _ _ _ _ _ _ _ _ _ _ (by repeat (first | (with_reducible exact Gr.refl _) | with_reducible refine Gr.alloc ?_ _ | with_reducible refine Gr.more ?_ _ _ | with_reducible refine Gr.setCell ?_ (by dsimp only; (try simp only [World.size_more, World.size_alloc, World.size_setCell, World.size_drew, Array.size_append]); omega) _ | with_reducible refine Gr.drew ?_)) 

end Go.Proofs.Ytnapbpfofpaakaa

namespace Go.Proofs.Ytnapbpfofpaakaa
open Go.RowKit

set_option maxRecDepth 100000 in
set_option maxHeartbeats 8000000 in
theorem spaces_core (w : World) (P : List Int) (p : Option Addr) (pc : Nat) (B : List UInt8) (q : Option Addr) (qc : Nat) (hS : SpAt w P p B q qc) (P2 : List Int) (p2 : Option Addr) (pc2 : Nat) (B2 : List UInt8) (q2 : Option Addr) (qc2 : Nat) (hS2 : SpAt w P2 p2 B2 q2 qc2) (lP : (P.length : Int) ≤ 9223372036854775807) (i j : Int)
    {Pa : List Int} {Ba : List UInt8} {E1 : Int} {Pb : List Int} {Bb : List UInt8} {E2 : Int} {Pc : List Int} {Bc : List UInt8} {E3 : Int} (la : (Pa.length : Int) ≤ 4096) (lb : (Pb.length : Int) ≤ 4096) (lc : (Pc.length : Int) ≤ 4096)
    (M1 : CNew i Pa Ba E1) (M2 : CProt P B i j Pb Bb E2) (M3 : CSeal P B i Pc Bc E3) (R1 : RNew i Pa Ba E1) (R2 : RProt P B i j Pb Bb E2) (R3 : RSeal P B i Pc Bc E3) :
    Calls Try.prog 3 #[spV p P.length pc q B.length qc, spV p2 P2.length pc2 q2 B2.length qc2, .agg #[.int .i64 i, .int .i64 j]] w fun e w' => e = .returned (.bool true) ∧ Below w.heap.size w w' := by
  have HM1 := M1
  have HR1 := R1
  have HM2 := fun W (h : Below w.heap.size w W) => M2 W p pc q qc (hS.up h)
  have HM3 := fun W (h : Below w.heap.size w W) => M3 W p pc q qc (hS.up h)
  have HR2 := fun W (h : Below w.heap.size w W) => R2 W p pc q qc (hS.up h)
  have HR3 := fun W (h : Below w.heap.size w W) => R3 W p pc q qc (hS.up h)
  unfold RNew SpAns at HR1
  unfold SpAns at HR2 HR3
  clear M1 M2 M3 R1 R2 R3
  go_enter Try.func3, Try.ntmps3
  go_upto_region 8 with (first | (go_at_call 14; (refine (msane_any _).mono ?_); rintro e w1 ⟨rfl, hb⟩; obtain ⟨os, n', rfl⟩ := Below.moreE hb; clear hb) | (go_at_call 15; (refine (HM1 _).mono ?_); rintro e w1 ⟨_, rfl, ⟨vap, vapc, vaq, vaqc, rfl, var⟩, hb⟩; have va := SpIn.at var; clear var; obtain ⟨os, n', rfl⟩ := Below.moreE hb; clear hb; (try simp only [World.more_more, World.more_drew, Array.append_assoc] at va)) | (go_at_call 16; (refine (HM2 _ (Gr.below (by repeat (first | (with_reducible exact Gr.refl _) | with_reducible refine Gr.alloc ?_ _ | with_reducible refine Gr.more ?_ _ _ | with_reducible refine Gr.setCell ?_ (by dsimp only; omega) _ | with_reducible refine Gr.drew ?_)))).mono ?_); rintro e w1 ⟨_, rfl, ⟨vbp, vbpc, vbq, vbqc, rfl, vbr⟩, hb⟩; have vb := SpIn.at vbr; clear vbr; replace va := SpAt.up va (Gr.below (Gr.trans (by repeat (first | (with_reducible exact Gr.refl _) | with_reducible refine Gr.alloc ?_ _ | with_reducible refine Gr.more ?_ _ _ | with_reducible refine Gr.setCell ?_ (by dsimp only; (try simp only [World.size_more, World.size_alloc, World.size_setCell, World.size_drew, Array.size_append]); omega) _ | with_reducible refine Gr.drew ?_)) (Gr.of hb))); obtain ⟨os, n', rfl⟩ := Below.moreE hb; clear hb; (try simp only [World.more_more, World.more_drew, Array.append_assoc] at va); (try simp only [World.more_more, World.more_drew, Array.append_assoc] at vb)) | (go_at_call 17; (refine (HM3 _ (Gr.below (by repeat (first | (with_reducible exact Gr.refl _) | with_reducible refine Gr.alloc ?_ _ | with_reducible refine Gr.more ?_ _ _ | with_reducible refine Gr.setCell ?_ (by dsimp only; omega) _ | with_reducible refine Gr.drew ?_)))).mono ?_); rintro e w1 ⟨_, rfl, ⟨vcp, vcpc, vcq, vcqc, rfl, vcr⟩, hb⟩; have vc := SpIn.at vcr; clear vcr; replace va := SpAt.up va (Gr.below (Gr.trans (by repeat (first | (with_reducible exact Gr.refl _) | with_reducible refine Gr.alloc ?_ _ | with_reducible refine Gr.more ?_ _ _ | with_reducible refine Gr.setCell ?_ (by dsimp only; (try simp only [World.size_more, World.size_alloc, World.size_setCell, World.size_drew, Array.size_append]); omega) _ | with_reducible refine Gr.drew ?_)) (Gr.of hb))); replace vb := SpAt.up vb (Gr.below (Gr.trans (by repeat (first | (with_reducible exact Gr.refl _) | with_reducible refine Gr.alloc ?_ _ | with_reducible refine Gr.more ?_ _ _ | with_reducible refine Gr.setCell ?_ (by dsimp only; (try simp only [World.size_more, World.size_alloc, World.size_setCell, World.size_drew, Array.size_append]); omega) _ | with_reducible refine Gr.drew ?_)) (Gr.of hb))); obtain ⟨os, n', rfl⟩ := Below.moreE hb; clear hb; (try simp only [World.more_more, World.more_drew, Array.append_assoc] at va); (try simp only [World.more_more, World.more_drew, Array.append_assoc] at vb); (try simp only [World.more_more, World.more_drew, Array.append_assoc] at vc)) | (go_at_call 18; (refine (HR1 _).mono ?_); rintro e w1 ⟨vdp, vdpc, vdq, vdqc, rfl, vdr, hb⟩; have vd := SpIn.at (SpFar.in vdr); clear vdr; replace va := SpAt.up va (Gr.below (Gr.trans (by repeat (first | (with_reducible exact Gr.refl _) | with_reducible refine Gr.alloc ?_ _ | with_reducible refine Gr.more ?_ _ _ | with_reducible refine Gr.setCell ?_ (by dsimp only; (try simp only [World.size_more, World.size_alloc, World.size_setCell, World.size_drew, Array.size_append]); omega) _ | with_reducible refine Gr.drew ?_)) (Gr.of hb))); replace vb := SpAt.up vb (Gr.below (Gr.trans (by repeat (first | (with_reducible exact Gr.refl _) | with_reducible refine Gr.alloc ?_ _ | with_reducible refine Gr.more ?_ _ _ | with_reducible refine Gr.setCell ?_ (by dsimp only; (try simp only [World.size_more, World.size_alloc, World.size_setCell, World.size_drew, Array.size_append]); omega) _ | with_reducible refine Gr.drew ?_)) (Gr.of hb))); replace vc := SpAt.up vc (Gr.below (Gr.trans (by repeat (first | (with_reducible exact Gr.refl _) | with_reducible refine Gr.alloc ?_ _ | with_reducible refine Gr.more ?_ _ _ | with_reducible refine Gr.setCell ?_ (by dsimp only; (try simp only [World.size_more, World.size_alloc, World.size_setCell, World.size_drew, Array.size_append]); omega) _ | with_reducible refine Gr.drew ?_)) (Gr.of hb))); obtain ⟨os, n', rfl⟩ := Below.moreE hb; clear hb; (try simp only [World.more_more, World.more_drew, Array.append_assoc] at va); (try simp only [World.more_more, World.more_drew, Array.append_assoc] at vb); (try simp only [World.more_more, World.more_drew, Array.append_assoc] at vc); (try simp only [World.more_more, World.more_drew, Array.append_assoc] at vd)) | (go_at_call 19; (refine (HR2 _ (Gr.below (by repeat (first | (with_reducible exact Gr.refl _) | with_reducible refine Gr.alloc ?_ _ | with_reducible refine Gr.more ?_ _ _ | with_reducible refine Gr.setCell ?_ (by dsimp only; omega) _ | with_reducible refine Gr.drew ?_)))).mono ?_); rintro e w1 ⟨vep, vepc, veq, veqc, rfl, ver, hb⟩; have ve := SpIn.at (SpFar.in ver); clear ver; replace va := SpAt.up va (Gr.below (Gr.trans (by repeat (first | (with_reducible exact Gr.refl _) | with_reducible refine Gr.alloc ?_ _ | with_reducible refine Gr.more ?_ _ _ | with_reducible refine Gr.setCell ?_ (by dsimp only; (try simp only [World.size_more, World.size_alloc, World.size_setCell, World.size_drew, Array.size_append]); omega) _ | with_reducible refine Gr.drew ?_)) (Gr.of hb))); replace vb := SpAt.up vb (Gr.below (Gr.trans (by repeat (first | (with_reducible exact Gr.refl _) | with_reducible refine Gr.alloc ?_ _ | with_reducible refine Gr.more ?_ _ _ | with_reducible refine Gr.setCell ?_ (by dsimp only; (try simp only [World.size_more, World.size_alloc, World.size_setCell, World.size_drew, Array.size_append]); omega) _ | with_reducible refine Gr.drew ?_)) (Gr.of hb))); replace vc := SpAt.up vc (Gr.below (Gr.trans (by repeat (first | (with_reducible exact Gr.refl _) | with_reducible refine Gr.alloc ?_ _ | with_reducible refine Gr.more ?_ _ _ | with_reducible refine Gr.setCell ?_ (by dsimp only; (try simp only [World.size_more, World.size_alloc, World.size_setCell, World.size_drew, Array.size_append]); omega) _ | with_reducible refine Gr.drew ?_)) (Gr.of hb))); replace vd := SpAt.up vd (Gr.below (Gr.trans (by repeat (first | (with_reducible exact Gr.refl _) | with_reducible refine Gr.alloc ?_ _ | with_reducible refine Gr.more ?_ _ _ | with_reducible refine Gr.setCell ?_ (by dsimp only; (try simp only [World.size_more, World.size_alloc, World.size_setCell, World.size_drew, Array.size_append]); omega) _ | with_reducible refine Gr.drew ?_)) (Gr.of hb))); obtain ⟨os, n', rfl⟩ := Below.moreE hb; clear hb; (try simp only [World.more_more, World.more_drew, Array.append_assoc] at va); (try simp only [World.more_more, World.more_drew, Array.append_assoc] at vb); (try simp only [World.more_more, World.more_drew, Array.append_assoc] at vc); (try simp only [World.more_more, World.more_drew, Array.append_assoc] at vd); (try simp only [World.more_more, World.more_drew, Array.append_assoc] at ve)) | (go_at_call 20; (refine (HR3 _ (Gr.below (by repeat (first | (with_reducible exact Gr.refl _) | with_reducible refine Gr.alloc ?_ _ | with_reducible refine Gr.more ?_ _ _ | with_reducible refine Gr.setCell ?_ (by dsimp only; omega) _ | with_reducible refine Gr.drew ?_)))).mono ?_); rintro e w1 ⟨vfp, vfpc, vfq, vfqc, rfl, vfr, hb⟩; have vf := SpIn.at (SpFar.in vfr); clear vfr; replace va := SpAt.up va (Gr.below (Gr.trans (by repeat (first | (with_reducible exact Gr.refl _) | with_reducible refine Gr.alloc ?_ _ | with_reducible refine Gr.more ?_ _ _ | with_reducible refine Gr.setCell ?_ (by dsimp only; (try simp only [World.size_more, World.size_alloc, World.size_setCell, World.size_drew, Array.size_append]); omega) _ | with_reducible refine Gr.drew ?_)) (Gr.of hb))); replace vb := SpAt.up vb (Gr.below (Gr.trans (by repeat (first | (with_reducible exact Gr.refl _) | with_reducible refine Gr.alloc ?_ _ | with_reducible refine Gr.more ?_ _ _ | with_reducible refine Gr.setCell ?_ (by dsimp only; (try simp only [World.size_more, World.size_alloc, World.size_setCell, World.size_drew, Array.size_append]); omega) _ | with_reducible refine Gr.drew ?_)) (Gr.of hb))); replace vc := SpAt.up vc (Gr.below (Gr.trans (by repeat (first | (with_reducible exact Gr.refl _) | with_reducible refine Gr.alloc ?_ _ | with_reducible refine Gr.more ?_ _ _ | with_reducible refine Gr.setCell ?_ (by dsimp only; (try simp only [World.size_more, World.size_alloc, World.size_setCell, World.size_drew, Array.size_append]); omega) _ | with_reducible refine Gr.drew ?_)) (Gr.of hb))); replace vd := SpAt.up vd (Gr.below (Gr.trans (by repeat (first | (with_reducible exact Gr.refl _) | with_reducible refine Gr.alloc ?_ _ | with_reducible refine Gr.more ?_ _ _ | with_reducible refine Gr.setCell ?_ (by dsimp only; (try simp only [World.size_more, World.size_alloc, World.size_setCell, World.size_drew, Array.size_append]); omega) _ | with_reducible refine Gr.drew ?_)) (Gr.of hb))); replace ve := SpAt.up ve (Gr.below (Gr.trans (by repeat (first | (with_reducible exact Gr.refl _) | with_reducible refine Gr.alloc ?_ _ | with_reducible refine Gr.more ?_ _ _ | with_reducible refine Gr.setCell ?_ (by dsimp only; (try simp only [World.size_more, World.size_alloc, World.size_setCell, World.size_drew, Array.size_append]); omega) _ | with_reducible refine Gr.drew ?_)) (Gr.of hb))); obtain ⟨os, n', rfl⟩ := Below.moreE hb; clear hb; (try simp only [World.more_more, World.more_drew, Array.append_assoc] at va); (try simp only [World.more_more, World.more_drew, Array.append_assoc] at vb); (try simp only [World.more_more, World.more_drew, Array.append_assoc] at vc); (try simp only [World.more_more, World.more_drew, Array.append_assoc] at vd); (try simp only [World.more_more, World.more_drew, Array.append_assoc] at ve); (try simp only [World.more_more, World.more_drew, Array.append_assoc] at vf)))
  refine spaces_r8 ⟨p, pc, q, qc, Bx.mk2 (by go_simp) (by go_simp) (by go_simp) (by go_simp), (hS.up (Gr.below (by repeat (first | (with_reducible exact Gr.refl _) | with_reducible refine Gr.alloc ?_ _ | with_reducible refine Gr.more ?_ _ _ | with_reducible refine Gr.setCell ?_ (by dsimp only; (try simp only [World.size_more, World.size_alloc, World.size_setCell, World.size_drew, Array.size_append]); omega) _ | with_reducible refine Gr.drew ?_))))⟩ ⟨p2, pc2, q2, qc2, Bx.mk2 (by go_simp) (by go_simp) (by go_simp) (by go_simp), (hS2.up (Gr.below (by repeat (first | (with_reducible exact Gr.refl _) | with_reducible refine Gr.alloc ?_ _ | with_reducible refine Gr.more ?_ _ _ | with_reducible refine Gr.setCell ?_ (by dsimp only; (try simp only [World.size_more, World.size_alloc, World.size_setCell, World.size_drew, Array.size_append]); omega) _ | with_reducible refine Gr.drew ?_))))⟩ ⟨vap, vapc, vaq, vaqc, Bx.mk2 (by go_simp) (by go_simp) (by go_simp) (by go_simp), (va.up (Gr.below (by repeat (first | (with_reducible exact Gr.refl _) | with_reducible refine Gr.alloc ?_ _ | with_reducible refine Gr.more ?_ _ _ | with_reducible refine Gr.setCell ?_ (by dsimp only; (try simp only [World.size_more, World.size_alloc, World.size_setCell, World.size_drew, Array.size_append]); omega) _ | with_reducible refine Gr.drew ?_))))⟩ ⟨vbp, vbpc, vbq, vbqc, Bx.mk2 (by go_simp) (by go_simp) (by go_simp) (by go_simp), (vb.up (Gr.below (by repeat (first | (with_reducible exact Gr.refl _) | with_reducible refine Gr.alloc ?_ _ | with_reducible refine Gr.more ?_ _ _ | with_reducible refine Gr.setCell ?_ (by dsimp only; (try simp only [World.size_more, World.size_alloc, World.size_setCell, World.size_drew, Array.size_append]); omega) _ | with_reducible refine Gr.drew ?_))))⟩ ⟨vcp, vcpc, vcq, vcqc, Bx.mk2 (by go_simp) (by go_simp) (by go_simp) (by go_simp), (vc.up (Gr.below (by repeat (first | (with_reducible exact Gr.refl _) | with_reducible refine Gr.alloc ?_ _ | with_reducible refine Gr.more ?_ _ _ | with_reducible refine Gr.setCell ?_ (by dsimp only; (try simp only [World.size_more, World.size_alloc, World.size_setCell, World.size_drew, Array.size_append]); omega) _ | with_reducible refine Gr.drew ?_))))⟩ ⟨vdp, vdpc, vdq, vdqc, Bx.mk5 (by go_simp) (by go_simp) (by go_simp) (by go_simp) (by go_simp) (by go_simp) (by go_simp) (by go_simp) (by go_simp) (by go_simp), (vd.up (Gr.below (by repeat (first | (with_reducible exact Gr.refl _) | with_reducible refine Gr.alloc ?_ _ | with_reducible refine Gr.more ?_ _ _ | with_reducible refine Gr.setCell ?_ (by dsimp only; (try simp only [World.size_more, World.size_alloc, World.size_setCell, World.size_drew, Array.size_append]); omega) _ | with_reducible refine Gr.drew ?_))))⟩ ⟨vep, vepc, veq, veqc, Bx.mk5 (by go_simp) (by go_simp) (by go_simp) (by go_simp) (by go_simp) (by go_simp) (by go_simp) (by go_simp) (by go_simp) (by go_simp), (ve.up (Gr.below (by repeat (first | (with_reducible exact Gr.refl _) | with_reducible refine Gr.alloc ?_ _ | with_reducible refine Gr.more ?_ _ _ | with_reducible refine Gr.setCell ?_ (by dsimp only; (try simp only [World.size_more, World.size_alloc, World.size_setCell, World.size_drew, Array.size_append]); omega) _ | with_reducible refine Gr.drew ?_))))⟩ ⟨vfp, vfpc, vfq, vfqc, Bx.mk5 (by go_simp) (by go_simp) (by go_simp) (by go_simp) (by go_simp) (by go_simp) (by go_simp) (by go_simp) (by go_simp) (by go_simp), (vf.up (Gr.below (by repeat (first | (with_reducible exact Gr.refl _) | with_reducible refine Gr.alloc ?_ _ | with_reducible refine Gr.more ?_ _ _ | with_reducible refine Gr.setCell ?_ (by dsimp only; (try simp only [World.size_more, World.size_alloc, World.size_setCell, World.size_drew, Array.size_append]); omega) _ | with_reducible refine Gr.drew ?_))))⟩ lP la lb lc ?_
  intro _ _ _ _ _ _ _ _ _ _ _ _ _ _ _ _ _ _ _ _ _ _ _ _ _ _ _ _ _ _ _ _ _ _ _ _ _ _ _ _ _ _ _ _ _ _ _ _ _ _ _ _ _ _ _ _ _ _ W' g'
  go_wp2_with fail
  go_ret
  exact ⟨rfl, (Gr.trans (by repeat (first | (with_reducible exact Gr.refl _) | with_reducible refine Gr.alloc ?_ _ | with_reducible refine Gr.more ?_ _ _ | with_reducible refine Gr.setCell ?_ (by dsimp only; (try simp only [World.size_more, World.size_alloc, World.size_setCell, World.size_drew, Array.size_append]); omega) _ | with_reducible refine Gr.drew ?_)) g').below⟩

theorem new_both (i : Int) : ∃ P' B' E, (P'.length : Int) ≤ 4096 ∧ CNew i P' B' E ∧ RNew i P' B' E := by
  by_cases h0 : i < 0
  · exact ⟨_, _, _, by simp, cNew_bad (.inl h0), rNew_lo h0⟩
  by_cases h1 : 32 < i
  · exact ⟨_, _, _, by simp, cNew_bad (.inr h1), rNew_hi h0 h1⟩
  obtain ⟨k, hk⟩ := nat_of h0
  exact ⟨_, _, _, by simp; omega, cNew_ok hk (by omega), rNew_ok hk (by omega)⟩
theorem seal_both (P : List Int) (B : List UInt8) (i : Int) : ∃ P' B' E, (P'.length : Int) ≤ 4096 ∧ CSeal P B i P' B' E ∧ RSeal P B i P' B' E := by
  cases hs : spB P B.length
  · exact ⟨_, _, _, by simp, cSeal_bad hs i, rSeal_bad hs i⟩
  have hl := (spB_len hs).1
  by_cases h : i < 0 ∨ (P.length : Int) ≤ i
  · exact ⟨_, _, _, by simp, cSeal_page hs h, rSeal_page hs i h⟩
  obtain ⟨k, hk⟩ := nat_of (n := i) (by omega)
  exact ⟨_, _, _, by simp; omega, cSeal_ok hs hk (by omega), rSeal_ok hs hk (by omega)⟩
theorem dp_perm {x : Int} (h : dpB x = true) : permB x = true ∧ (x == 4) = false := by
  have h2 : x = 0 ∨ x = 1 ∨ x = 3 := by simpa [dpB, or_assoc] using h
  rcases h2 with rfl | rfl | rfl <;> decide
theorem dp_not {x : Int} (h : dpB x = false) : x = 4 ∨ permB x = false := by
  by_cases e : x = 4
  · exact .inl e
  · right
    simp [dpB] at h
    simp [permB, h, e]
theorem prot_both (P : List Int) (B : List UInt8) (i j : Int) : ∃ P' B' E, (P'.length : Int) ≤ 4096 ∧ CProt P B i j P' B' E ∧ RProt P B i j P' B' E := by
  cases hs : spB P B.length
  · exact ⟨_, _, _, by simp, cProt_bad hs i j, rProt_bad hs i j⟩
  have hl := (spB_len hs).1
  by_cases h : i < 0 ∨ (P.length : Int) ≤ i
  · exact ⟨_, _, _, by simp, cProt_page hs j h, rProt_page hs i j h⟩
  obtain ⟨k, hk⟩ := nat_of (n := i) (by omega)
  have hk2 : k < P.length := by omega
  by_cases h4 : P[k] = 4
  · subst hk
    exact ⟨_, _, _, by simp, cProt_perm hs rfl hk2 (.inl h4), rProt_code hs k j hk2 h4⟩
  cases hd : dpB j
  · rcases dp_not hd with e | e
    · subst hk e
      exact ⟨_, _, _, by simp, cProt_perm hs rfl hk2 (.inr hd), rProt_four hs k hk2 h4⟩
    · subst hk
      exact ⟨_, _, _, by simp, cProt_perm hs rfl hk2 (.inr hd), rProt_not hs k j hk2 h4 e⟩
  · exact ⟨_, _, _, by simp; omega, cProt_ok hs hk hk2 h4 hd, rProt_ok hs hk hk2 h4 (dp_perm hd).1 (dp_perm hd).2⟩
theorem law_spaces (w : World) (P : List Int) (p : Option Addr) (pc : Nat) (B : List UInt8) (q : Option Addr) (qc : Nat) (hS : SpIn 0 w.heap.size w P p B q qc) (hl : P.length ≤ maxLen) (P2 : List Int) (p2 : Option Addr) (pc2 : Nat) (B2 : List UInt8) (q2 : Option Addr) (qc2 : Nat) (hS2 : SpIn 0 w.heap.size w P2 p2 B2 q2 qc2) (i j : Int) (_ : I64 i) (_ : I64 j) :
    Calls Try.prog 3 #[spV p P.length pc q B.length qc, spV p2 P2.length pc2 q2 B2.length qc2, .agg #[.int .i64 i, .int .i64 j]] w fun e w' => e = .returned (.bool true) ∧ Below w.heap.size w w' := by
  obtain ⟨Pa, Ba, E1, la, M1, R1⟩ := new_both i
  obtain ⟨Pb, Bb, E2, lb, M2, R2⟩ := prot_both P B i j
  obtain ⟨Pc, Bc, E3, lc, M3, R3⟩ := seal_both P B i
  exact spaces_core w P p pc B q qc hS.at P2 p2 pc2 B2 q2 qc2 hS2.at (by unfold maxLen at hl; omega) i j la lb lc M1 M2 M3 R1 R2 R3
end Go.Proofs.Ytnapbpfofpaakaa
