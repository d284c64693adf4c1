/-
  The law MemChanges: its mathematics.
-/
import Derived.Test.YtbfakdbhmpjmlaaZy
import Derived.Test.YtbfakdbhmpjmlaaMd
namespace Go.Proofs.Ytbfakdbhmpjmlaa
open Go.RowKit

theorem dfs_comm (B B2 : List UInt8) (n : Nat) : dfs B2 B n = dfs B B2 n := by
  unfold dfs
  refine List.filter_congr (fun j _ => ?_)
  exact Bool.eq_iff_iff.2 (by simp only [bne_iff_ne]; exact ⟨Ne.symm, Ne.symm⟩)
theorem dfs_self (B : List UInt8) (n : Nat) : dfs B B n = [] := by
  unfold dfs
  rw [List.filter_eq_nil_iff]
  intro j _
  simp
/-- A list behind the first differences. -/
def apD (B2 : List UInt8) (D : List Nat) (B : List UInt8) : List UInt8 := D.foldl (fun X j => X.set j (B2.getD j 0)) B
theorem apD_len (B2 : List UInt8) : ∀ (D : List Nat) (B : List UInt8), (apD B2 D B).length = B.length
  | [], _ => rfl
  | j :: D, B => by
    show (apD B2 D (B.set j (B2.getD j 0))).length = _
    rw [apD_len B2 D, List.length_set]
theorem apD_step (B2 B : List UInt8) (D : List Nat) (k : Nat) (h : k < D.length) : apD B2 (D.take (k + 1)) B = (apD B2 (D.take k) B).set D[k] (B2.getD D[k] 0) := by
  rw [List.take_succ_eq_append_getElem h]
  unfold apD
  rw [List.foldl_append]
  rfl
theorem apD_getD (B2 : List UInt8) (i : Nat) : ∀ (D : List Nat) (B : List UInt8), (∀ j ∈ D, j < B.length) → (apD B2 D B).getD i 0 = if i ∈ D then B2.getD i 0 else B.getD i 0
  | [], B, _ => by simp [apD]
  | j :: D, B, h => by
    show (apD B2 D (B.set j (B2.getD j 0))).getD i 0 = _
    rw [apD_getD B2 i D _ (fun x hx => by rw [List.length_set]; exact h x (List.mem_cons_of_mem _ hx))]
    by_cases c : i ∈ D
    · rw [if_pos c, if_pos (List.mem_cons_of_mem _ c)]
    · rw [if_neg c]
      by_cases e : i = j
      · subst e
        rw [if_pos (List.mem_cons_self)]
        have := h i List.mem_cons_self
        simp [List.getD, this]
      · rw [if_neg (by simp [e, c])]
        simp only [List.getD]
        rw [List.getElem?_set_ne (by omega)]
theorem apD_all {B B2 : List UInt8} (hl : B.length = B2.length) : apD B2 (dfs B B2 B.length) B = B2 := by
  refine ext_getD (by rw [apD_len, hl]) (fun i hi => ?_)
  rw [apD_len] at hi
  rw [apD_getD B2 i _ _ (fun j hj => (dfs_mem.1 hj).1)]
  by_cases c : i ∈ dfs B B2 B.length
  · rw [if_pos c]
  · rw [if_neg c]
    by_cases e : B.getD i 0 = B2.getD i 0
    · exact e
    · exact absurd (dfs_mem.2 ⟨hi, e⟩) c
theorem dfs_nil_iff {B B2 : List UInt8} (hl : B.length = B2.length) : (dfs B B2 B.length).length = 0 ↔ B = B2 := by
  constructor
  · intro h
    have := apD_all hl
    rw [List.eq_nil_of_length_eq_zero h] at this
    exact this
  · rintro rfl
    rw [dfs_self]
    rfl
theorem dfs_sorted (B B2 : List UInt8) (n : Nat) : (dfs B B2 n).Pairwise (· < ·) := by
  unfold dfs
  exact List.Pairwise.filter _ (List.pairwise_lt_range)
theorem kind_0 {P : List Int} {x : Int} (h0 : 0 ≤ x) (h1 : x < 64 * P.length) : kindA P 0 x = 0 := by
  unfold kindA
  rw [if_neg (by omega), if_neg (by simp)]
/-- One byte is put into a space. -/
theorem poke_one {P : List Int} {X : List UInt8} (hs : spB P X.length = true) {j : Nat} (hj : j < X.length) (b : UInt8) : CPoke P X (j : Int) [b] P (X.set j b) 0 0 0 := by
  have hl := spB_len hs
  have e0 : adr (j : Int) 0 = j := by rw [adr_lit (by omega) (by omega)]; simp
  have h := cPoke_ok hs (j : Int) [b] (by simp) (by
    refine flt_zero_iff.2 (fun i hi => ?_)
    have : i = 0 := by simp at hi; omega
    subst this
    rw [e0]
    exact kind_0 (by omega) (by omega))
  have e : wrL X (j : Int) [b] 1 = X.set j b := by
    show (X.set (adr (j : Int) 0).toNat ([b].getD 0 0)) = _
    rw [e0]
    rfl
  rwa [show ([b] : List UInt8).length = 1 from rfl, e] at h
end Go.Proofs.Ytbfakdbhmpjmlaa
