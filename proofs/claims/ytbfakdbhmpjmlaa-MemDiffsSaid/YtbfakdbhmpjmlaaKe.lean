/-
  The law MemDiffs.
-/
import Derived.Test.YtbfakdbhmpjmlaaKd
import Derived.Test.YtbfakdbhmpjmlaaGD
namespace Go.Proofs.Ytbfakdbhmpjmlaa
open Go.RowKit

theorem DfVal.upB {W W' : World} (hb : Below W.heap.size W W') {v : Value} {B B2 : List UInt8} {D : List Nat} (h : DfVal W v B B2 D) : DfVal W' v B B2 D := h.up ⟨hb, hb.size⟩

def RDiff (P : List Int) (B : List UInt8) (P2 : List Int) (B2 : List UInt8) (D : List Nat) (E : Int) : Prop := ∀ w p pc q qc p2 pc2 q2 qc2, SpAt w P p B q qc → SpAt w P2 p2 B2 q2 qc2 → Calls Try.prog 40 #[spV p P.length pc q B.length qc, spV p2 P2.length pc2 q2 B2.length qc2] w fun e w' => ∃ v, e = .returned (.agg #[v, .int .i64 E]) ∧ DfVal w' v B B2 D ∧ Below w.heap.size w w'
theorem rDiff_bad {P : List Int} {B : List UInt8} {P2 : List Int} {B2 : List UInt8} (hs : (spB P B.length && spB P2 B2.length) = false) : RDiff P B P2 B2 [] 30 := fun w p pc q qc p2 pc2 q2 qc2 h h2 =>
  (rdiff_bad P p pc q B.length qc P2 p2 pc2 q2 B2.length qc2 w h.perm h2.perm hs).mono fun _ _ ⟨h1, h2⟩ => ⟨_, h1, dfNone _ _ _, h2⟩
theorem rDiff_arg {P : List Int} {B : List UInt8} {P2 : List Int} {B2 : List UInt8} (hs : spB P B.length = true) (hs2 : spB P2 B2.length = true) (hne : P ≠ P2) : RDiff P B P2 B2 [] 1 := fun w p pc q qc p2 pc2 q2 qc2 h h2 =>
  (rdiff_arg P p pc q B.length qc P2 p2 pc2 q2 B2.length qc2 w h.perm h2.perm hs hs2 (beq_eq_false_iff_ne.2 hne)).mono fun _ _ ⟨h1, h2⟩ => ⟨_, h1, dfNone _ _ _, h2⟩
theorem rDiff_ok {P : List Int} {B B2 : List UInt8} (hs : spB P B.length = true) (hs2 : spB P B2.length = true) : RDiff P B P B2 (dfs B B2 B.length) 0 := fun w p pc q qc p2 pc2 q2 qc2 h h2 =>
  (rdiff_ok P p pc B q qc p2 pc2 B2 q2 qc2 w h.perm h2.perm h.byte h2.byte hs hs2).mono fun _ _ ⟨v, h1, h2, h3⟩ => ⟨v, h1, df_of_own h2, h3⟩

set_option maxHeartbeats 2000000 in
theorem diffs_core (w : World) (P : List Int) (p : Option Addr) (pc : Nat) (B : List UInt8) (q : Option Addr) (qc : Nat) (hS : SpAt w P p B q qc) (P' : List Int) (p' : Option Addr) (pc' : Nat) (B' : List UInt8) (q' : Option Addr) (qc' : Nat) (hS' : SpAt w P' p' B' q' qc') {D : List Nat} {E : Int} (M : CDiff P B P' B' D E) (R : RDiff P B P' B' D E) (hD : D.length ≤ 4096) :
    Calls Try.prog 6 #[spV p P.length pc q B.length qc, spV p' P'.length pc' q' B'.length qc'] w fun e w' => e = .returned (.bool true) ∧ Below w.heap.size w w' := by
  have HM := fun W (h : Below w.heap.size w W) => M W p pc q qc p' pc' q' qc' (hS.up h) (hS'.up h)
  have HR := fun W (h : Below w.heap.size w W) => R W p pc q qc p' pc' q' qc' (hS.up h) (hS'.up h)
  clear M R hS hS'
  have hEE : (E == E) = true := by simp
  go_enter Try.func6, Try.ntmps6
  go_wp2_with first | (go_at_call 14; (refine (msane_any _).mono ?_); rintro e w1 ⟨rfl, hb⟩; obtain ⟨os, n, rfl⟩ := Below.moreE hb; clear hb) | (go_at_call 39; (refine (HM _ (Gr.below (by repeat (first | (with_reducible exact Gr.refl _) | with_reducible refine Gr.alloc ?_ _ | with_reducible refine Gr.more ?_ _ _ | with_reducible refine Gr.setCell ?_ (by dsimp only; omega) _ | with_reducible refine Gr.drew ?_)))).mono ?_); rintro e w1 ⟨_, rfl, hv, hb⟩; obtain ⟨p1, c1, rfl, g1⟩ := hv; have hv : DfVal w1 (.slice p1 D.length c1) B B' D := ⟨p1, c1, rfl, g1⟩; clear g1; obtain ⟨om, nm, rfl⟩ := Below.moreE hb; clear hb; simp only [World.more_more] at hv) | (go_at_call 40; (refine (HR _ (Gr.below (by repeat (first | (with_reducible exact Gr.refl _) | with_reducible refine Gr.alloc ?_ _ | with_reducible refine Gr.more ?_ _ _ | with_reducible refine Gr.setCell ?_ (by dsimp only; omega) _ | with_reducible refine Gr.drew ?_)))).mono ?_); rintro e w1 ⟨_, rfl, hv2, hb⟩; replace hv := DfVal.upB hb hv; obtain ⟨p2, c2, rfl, g2⟩ := hv2; have hv2 : DfVal w1 (.slice p2 D.length c2) B B' D := ⟨p2, c2, rfl, g2⟩; clear g2; obtain ⟨ox, nx, rfl⟩ := Below.moreE hb; clear hb; simp only [World.more_more, Array.append_assoc] at hv hv2) | (go_at_call 41; (refine (rsamechanges_df B B' D _ _ _ (hv.up (by repeat (first | (with_reducible exact Gr.refl _) | with_reducible refine Gr.alloc ?_ _ | with_reducible refine Gr.more ?_ _ _ | with_reducible refine Gr.setCell ?_ (by dsimp only; (try simp only [World.size_more, World.size_alloc, World.size_setCell, World.size_drew, Array.size_append]); omega) _ | with_reducible refine Gr.drew ?_))) (hv2.up (by repeat (first | (with_reducible exact Gr.refl _) | with_reducible refine Gr.alloc ?_ _ | with_reducible refine Gr.more ?_ _ _ | with_reducible refine Gr.setCell ?_ (by dsimp only; (try simp only [World.size_more, World.size_alloc, World.size_setCell, World.size_drew, Array.size_append]); omega) _ | with_reducible refine Gr.drew ?_))) hD).mono ?_); rintro e w1 ⟨rfl, hb⟩; obtain ⟨oz, nz, rfl⟩ := Below.moreE hb; clear hb)
  go_ret
  exact ⟨rfl, (Gr.below (by repeat (first | (with_reducible exact Gr.refl _) | with_reducible refine Gr.alloc ?_ _ | with_reducible refine Gr.more ?_ _ _ | with_reducible refine Gr.setCell ?_ (by dsimp only; omega) _ | with_reducible refine Gr.drew ?_)))⟩

theorem law_diffs (w : World) (P : List Int) (p : Option Addr) (pc : Nat) (B : List UInt8) (q : Option Addr) (qc : Nat) (hS : SpIn 0 w.heap.size w P p B q qc) (P' : List Int) (p' : Option Addr) (pc' : Nat) (B' : List UInt8) (q' : Option Addr) (qc' : Nat) (hS' : SpIn 0 w.heap.size w P' p' B' q' qc') :
    Calls Try.prog 6 #[spV p P.length pc q B.length qc, spV p' P'.length pc' q' B'.length qc'] w fun e w' => e = .returned (.bool true) ∧ Below w.heap.size w w' := by
  cases hb : (spB P B.length && spB P' B'.length)
  · exact diffs_core w P p pc B q qc hS.at P' p' pc' B' q' qc' hS'.at (cDiff_bad hb) (rDiff_bad hb) (by simp)
  rw [Bool.and_eq_true] at hb
  obtain ⟨hs, hs'⟩ := hb
  by_cases hP : P = P'
  · subst hP
    have hl := spB_len hs
    have := dfs_len B B' B.length
    exact diffs_core w P p pc B q qc hS.at P p' pc' B' q' qc' hS'.at (cDiff_ok hs hs') (rDiff_ok hs hs') (by omega)
  · exact diffs_core w P p pc B q qc hS.at P' p' pc' B' q' qc' hS'.at (cDiff_arg hs hs' hP) (rDiff_arg hs hs' hP) (by simp)
end Go.Proofs.Ytbfakdbhmpjmlaa
