/-
  The law MemChanges.
-/
import Derived.Test.YtbfakdbhmpjmlaaNc
namespace Go.Proofs.Ytbfakdbhmpjmlaa
open Go.RowKit

theorem law_changes (w : World) (P : List Int) (p : Option Addr) (pc : Nat) (B : List UInt8) (q : Option Addr) (qc : Nat) (hS : SpIn 0 w.heap.size w P p B q qc) (P' : List Int) (p' : Option Addr) (pc' : Nat) (B' : List UInt8) (q' : Option Addr) (qc' : Nat) (hS' : SpIn 0 w.heap.size w P' p' B' q' qc') :
    Calls Try.prog 12 #[spV p P.length pc q B.length qc, spV p' P'.length pc' q' B'.length qc'] w fun e w' => e = .returned (.bool true) ∧ Below w.heap.size w w' := by
  cases hb : (spB P B.length && spB P' B'.length)
  · exact chg_e1 w P p pc B q qc hS P' p' pc' B' q' qc' hS' rfl (cDiff_bad hb)
  rw [Bool.and_eq_true] at hb
  obtain ⟨hs, hs'⟩ := hb
  by_cases hP : P = P'
  · subst hP
    have hl := spB_len hs
    have hl' := spB_len hs'
    have hBB : B.length = B'.length := by omega
    have H1 := cDiff_ok (B := B) (B2 := B') hs hs'
    have H2 := cDiff_ok (B := B') (B2 := B) hs' hs
    rw [dfs_comm, ← hBB] at H2
    have H3 := cDiff_ok (B := B) (B2 := B) hs hs
    rw [dfs_self] at H3
    have HS := cSame (P := P) B (P2 := P) B' (by omega) (by omega)
    have hn := dfs_nil_iff hBB
    have hr : (((dfs B B' B.length).length : Int) == 0) = (P == P && B == B') := by
      by_cases e : B = B'
      · have h0 := hn.2 e
        rw [h0, e]; simp
      · have h0 : (dfs B B' B.length).length ≠ 0 := fun h => e (hn.1 h)
        have h1 : (B == B') = false := beq_eq_false_iff_ne.2 e
        rw [h1, Bool.and_false, beq_eq_false_iff_ne]
        omega
    have hDl : (dfs B B' B.length).length ≤ 4096 := by have := dfs_len B B' B.length; omega
    by_cases h2 : 200 < (dfs B B' B.length).length
    · exact chg_big w P p pc B q qc hS p' pc' B' q' qc' hS' H1 H2 H3 HS hr hDl h2
    · refine chg_small w P p pc B q qc hS p' pc' B' q' qc' hS' H1 H2 H3 HS hr hDl (by omega) (Lib.hid fun k hk => ?_) (Lib.hid fun j hj => ?_) (Lib.hid fun k hk => ?_) (Lib.hid (apD_all hBB)) (cSame_self B' (by omega))
      · have hm := (dfs_mem.1 (List.getElem_mem hk)).2
        rw [beq_eq_false_iff_ne]
        intro e
        exact hm (UInt8.toNat_inj.1 (by omega))
      · have := (List.pairwise_iff_getElem.1 (dfs_sorted B B' B.length)) j (j + 1) (by omega) hj (by omega)
        omega
      · have hm := (dfs_mem.1 (List.getElem_mem hk)).1
        exact poke_one (by rw [apD_len]; exact hs) (by rw [apD_len]; exact hm) _
  · exact chg_e1 w P p pc B q qc hS P' p' pc' B' q' qc' hS' rfl (cDiff_arg hs hs' hP)
end Go.Proofs.Ytbfakdbhmpjmlaa
