/-
  The reference of layer 3: Diff where it refuses.
-/
import Derived.Test.YtbfakdbhmpjmlaaKb
namespace Go.Proofs.Ytbfakdbhmpjmlaa
open Go.RowKit

set_option maxHeartbeats 1000000 in
theorem rdiff_bad (P : List Int) (p : Option Addr) (pc : Nat) (q : Option Addr) (m qc : Nat) (P2 : List Int) (p2 : Option Addr) (pc2 : Nat) (q2 : Option Addr) (m2 qc2 : Nat) (w : World) (h1 : SeqAt w p (iV P)) (h2 : SeqAt w p2 (iV P2)) (hs : (spB P m && spB P2 m2) = false) :
    Calls Try.prog 40 #[spV p P.length pc q m qc, spV p2 P2.length pc2 q2 m2 qc2] w fun e w' => e = .returned (.agg #[.slice none 0 0, .int .i64 30]) ∧ Below w.heap.size w w' := by
  have C1 : ∀ W, Below w.heap.size w W → Calls Try.prog 22 #[spV p P.length pc q m qc] W fun e w' => e = .returned (.int .i64 (spE P m)) ∧ Below W.heap.size W w' := fun W h => rcheck3_any P p pc q m qc W (h1.up h)
  have C2 : ∀ W, Below w.heap.size w W → Calls Try.prog 22 #[spV p2 P2.length pc2 q2 m2 qc2] W fun e w' => e = .returned (.int .i64 (spE P2 m2)) ∧ Below W.heap.size W w' := fun W h => rcheck3_any P2 p2 pc2 q2 m2 qc2 W (h2.up h)
  cases hs1 : spB P m
  · rw [spE_bad hs1] at C1
    go_enter Try.func40, Try.ntmps40
    go_wp2_with (go_at_call 22; (with_reducible refine (C1 _ ?hpp).mono ?_; case hpp => exact (Gr.below (by repeat (first | (with_reducible exact Gr.refl _) | with_reducible refine Gr.alloc ?_ _ | with_reducible refine Gr.more ?_ _ _ | with_reducible refine Gr.setCell ?_ (by dsimp only; omega) _ | with_reducible refine Gr.drew ?_)))); rintro e w1 ⟨rfl, hb⟩; obtain ⟨os, n, rfl⟩ := Below.moreE hb; clear hb)
    refine bodyPost_ret (v := .agg #[.slice none 0 0, .int .i64 30]) (by simp [results, go_sem, *]) rfl ?_
    exact ⟨rfl, (Gr.below (by repeat (first | (with_reducible exact Gr.refl _) | with_reducible refine Gr.alloc ?_ _ | with_reducible refine Gr.more ?_ _ _ | with_reducible refine Gr.setCell ?_ (by dsimp only; omega) _ | with_reducible refine Gr.drew ?_)))⟩
  · rw [spE_ok hs1] at C1
    rw [hs1] at hs
    rw [spE_bad (by simpa using hs)] at C2
    go_enter Try.func40, Try.ntmps40
    go_wp2_with first | (go_at_call 22; (with_reducible refine (C1 _ ?hpp).mono ?_; case hpp => exact (Gr.below (by repeat (first | (with_reducible exact Gr.refl _) | with_reducible refine Gr.alloc ?_ _ | with_reducible refine Gr.more ?_ _ _ | with_reducible refine Gr.setCell ?_ (by dsimp only; omega) _ | with_reducible refine Gr.drew ?_)))); rintro e w1 ⟨rfl, hb⟩; obtain ⟨os, n, rfl⟩ := Below.moreE hb; clear hb) | (go_at_call 22; (with_reducible refine (C2 _ ?hpp).mono ?_; case hpp => exact (Gr.below (by repeat (first | (with_reducible exact Gr.refl _) | with_reducible refine Gr.alloc ?_ _ | with_reducible refine Gr.more ?_ _ _ | with_reducible refine Gr.setCell ?_ (by dsimp only; omega) _ | with_reducible refine Gr.drew ?_)))); rintro e w1 ⟨rfl, hb⟩; obtain ⟨os, n, rfl⟩ := Below.moreE hb; clear hb)
    refine bodyPost_ret (v := .agg #[.slice none 0 0, .int .i64 30]) (by simp [results, go_sem, *]) rfl ?_
    exact ⟨rfl, (Gr.below (by repeat (first | (with_reducible exact Gr.refl _) | with_reducible refine Gr.alloc ?_ _ | with_reducible refine Gr.more ?_ _ _ | with_reducible refine Gr.setCell ?_ (by dsimp only; omega) _ | with_reducible refine Gr.drew ?_)))⟩

set_option maxHeartbeats 1000000 in
theorem rdiff_arg (P : List Int) (p : Option Addr) (pc : Nat) (q : Option Addr) (m qc : Nat) (P2 : List Int) (p2 : Option Addr) (pc2 : Nat) (q2 : Option Addr) (m2 qc2 : Nat) (w : World) (h1 : SeqAt w p (iV P)) (h2 : SeqAt w p2 (iV P2)) (hs1 : spB P m = true) (hs2 : spB P2 m2 = true) (hne : (P == P2) = false) :
    Calls Try.prog 40 #[spV p P.length pc q m qc, spV p2 P2.length pc2 q2 m2 qc2] w fun e w' => e = .returned (.agg #[.slice none 0 0, .int .i64 1]) ∧ Below w.heap.size w w' := by
  have C1 : ∀ W, Below w.heap.size w W → Calls Try.prog 22 #[spV p P.length pc q m qc] W fun e w' => e = .returned (.int .i64 (spE P m)) ∧ Below W.heap.size W w' := fun W h => rcheck3_any P p pc q m qc W (h1.up h)
  have C2 : ∀ W, Below w.heap.size w W → Calls Try.prog 22 #[spV p2 P2.length pc2 q2 m2 qc2] W fun e w' => e = .returned (.int .i64 (spE P2 m2)) ∧ Below W.heap.size W w' := fun W h => rcheck3_any P2 p2 pc2 q2 m2 qc2 W (h2.up h)
  have l1 := (spB_len hs1).1
  have E1 : ∀ W, Below w.heap.size w W → Calls Try.prog 52 #[spV p P.length pc q m qc, spV p2 P2.length pc2 q2 m2 qc2] W fun e w' => e = .returned (.bool (P == P2)) ∧ Below W.heap.size W w' := fun W h => rsameperm_any P p pc q m qc P2 p2 pc2 q2 m2 qc2 W (h1.up h) (h2.up h) (by omega)
  rw [spE_ok hs1] at C1
  rw [spE_ok hs2] at C2
  rw [hne] at E1
  clear l1
  go_enter Try.func40, Try.ntmps40
  go_wp2_with first | (go_at_call 22; (with_reducible refine (C1 _ ?hpp).mono ?_; case hpp => exact (Gr.below (by repeat (first | (with_reducible exact Gr.refl _) | with_reducible refine Gr.alloc ?_ _ | with_reducible refine Gr.more ?_ _ _ | with_reducible refine Gr.setCell ?_ (by dsimp only; omega) _ | with_reducible refine Gr.drew ?_)))); rintro e w1 ⟨rfl, hb⟩; obtain ⟨os, n, rfl⟩ := Below.moreE hb; clear hb) | (go_at_call 22; (with_reducible refine (C2 _ ?hpp).mono ?_; case hpp => exact (Gr.below (by repeat (first | (with_reducible exact Gr.refl _) | with_reducible refine Gr.alloc ?_ _ | with_reducible refine Gr.more ?_ _ _ | with_reducible refine Gr.setCell ?_ (by dsimp only; omega) _ | with_reducible refine Gr.drew ?_)))); rintro e w1 ⟨rfl, hb⟩; obtain ⟨os, n, rfl⟩ := Below.moreE hb; clear hb) | (go_at_call 52; (refine (E1 _ (Gr.below (by repeat (first | (with_reducible exact Gr.refl _) | with_reducible refine Gr.alloc ?_ _ | with_reducible refine Gr.more ?_ _ _ | with_reducible refine Gr.setCell ?_ (by dsimp only; omega) _ | with_reducible refine Gr.drew ?_)))).mono ?_); rintro e w1 ⟨rfl, hb⟩; obtain ⟨os, n, rfl⟩ := Below.moreE hb; clear hb)
  refine bodyPost_ret (v := .agg #[.slice none 0 0, .int .i64 1]) (by simp [results, go_sem, *]) rfl ?_
  exact ⟨rfl, (Gr.below (by repeat (first | (with_reducible exact Gr.refl _) | with_reducible refine Gr.alloc ?_ _ | with_reducible refine Gr.more ?_ _ _ | with_reducible refine Gr.setCell ?_ (by dsimp only; omega) _ | with_reducible refine Gr.drew ?_)))⟩
end Go.Proofs.Ytbfakdbhmpjmlaa
