/-
  The law MemStrings.
-/
import Derived.Test.YtbfakdbhmpjmlaaZw
namespace Go.Proofs.Ytbfakdbhmpjmlaa
open Go.RowKit

theorem kind_1_0 {P : List Int} {x : Int} (h : kindA P 1 x = 0) : kindA P 0 x = 0 := by
  have := kind_in h
  unfold kindA
  rw [if_neg (by omega), if_neg (by simp)]
theorem ext_pre {X Z : List UInt8} (h : X <+: Z) : ((⟨Z.toArray⟩ : ByteArray).extract 0 (⟨X.toArray⟩ : ByteArray).size).toList = (⟨X.toArray⟩ : ByteArray).toList := by
  congr 1
  obtain ⟨Y, rfl⟩ := h
  apply ByteArray.ext
  rw [ByteArray.data_extract]
  show ((X ++ Y).toArray).extract 0 X.toArray.size = X.toArray
  simp
theorem rdL_pre (B : List UInt8) (a : Int) (n : Nat) : rdL B a n <+: rdL B a (n + 1) := ⟨[rdA B a n], (rdL_snoc B a n).symm⟩

theorem law_strings (w : World) (P : List Int) (p : Option Addr) (pc : Nat) (B : List UInt8) (q : Option Addr) (qc : Nat) (hS : SpIn 0 w.heap.size w P p B q qc) (a n m : Int) (_ : I64 a) (_ : I64 n) (_ : I64 m) :
    Calls Try.prog 13 #[spV p P.length pc q B.length qc, .agg #[.int .i64 a, .int .i64 n, .int .i64 m]] w fun e w' => e = .returned (.bool true) ∧ Below w.heap.size w w' := by
  cases hs : spB P B.length
  · exact strs_e1 w P p pc B q qc hS a n m (cString_bad hs a n) rfl
  by_cases hn : n < 0 ∨ 64 < n
  · exact strs_e1 w P p pc B q qc hS a n m (cString_arg hs a n hn) rfl
  obtain ⟨N, rfl⟩ := nat_of (n := n) (by omega)
  have hN : N ≤ 64 := by omega
  by_cases hf' : sK P B a N ≠ 0
  · exact strs_e2 w P p pc B q qc hS a N m (cString_flt hs a rfl hN hf') (bne_iff_ne.2 hf')
  have hf : sK P B a N = 0 := Decidable.not_not.1 hf'
  have H1 : CStr P B a N ⟨(rdL B a (sG P B a N)).toArray⟩ 0 0 0 := cString_ok hs a rfl hN hf
  have hg : sG P B a N ≤ N := cnt_le _ _
  have hok : ∀ j, j < sG P B a N → kindA P 1 (adr a j) = 0 ∧ rdA B a j ≠ 0 := fun j hj => by
    have := cnt_ok _ N j hj
    simpa [okA] using this
  have hsz0 : (⟨(rdL B a (sG P B a N)).toArray⟩ : ByteArray).size = sG P B a N := by
    show (rdL B a (sG P B a N)).toArray.size = _
    simp [rdL_len]
  have hz : ∀ k (h : k < (⟨(rdL B a (sG P B a N)).toArray⟩ : ByteArray).size), ((((⟨(rdL B a (sG P B a N)).toArray⟩ : ByteArray)[k]'h).toNat : Int) == 0) = false := fun k h => by
    have hk : k < sG P B a N := by rw [hsz0] at h; exact h
    have e : ((⟨(rdL B a (sG P B a N)).toArray⟩ : ByteArray)[k]'h) = rdA B a k := by
      show ((rdL B a (sG P B a N)).toArray)[k]'_ = _
      simp [rdL]
    rw [e, beq_eq_false_iff_ne]
    intro hc
    refine (hok k hk).2 (UInt8.toNat_inj.1 ?_)
    simpa using hc
  have HP : CPeek P B a ((⟨(rdL B a (sG P B a N)).toArray⟩ : ByteArray).size : Int) (rdL B a (sG P B a N)) 0 0 0 := cPeek_ok hs a (k := sG P B a N) (by rw [hsz0]) (by omega) (flt_zero_iff.2 fun j hj => kind_1_0 (hok j hj).1)
  have l1 : ¬ (N : Int) < ((⟨(rdL B a (sG P B a N)).toArray⟩ : ByteArray).size : Int) := by rw [hsz0]; omega
  have l2 : ((⟨(rdL B a (sG P B a N)).toArray⟩ : ByteArray).size : Int) ≤ (N : Int) := by rw [hsz0]; omega
  have l3 : (0 : Int) ≤ ((⟨(rdL B a (sG P B a N)).toArray⟩ : ByteArray).size : Int) := by rw [hsz0]; omega
  have l4 : (⟨(rdL B a (sG P B a N)).toArray⟩ : ByteArray).size ≤ 64 := by rw [hsz0]; omega
  by_cases h64 : N = 64
  · subst h64
    exact strs_arg w P p pc B q qc hS a 64 m (u := ⟨#[]⟩) hz rfl H1 HP (cString_arg hs a _ (.inr (by unfold wrap64; omega))) l1 l2 l3 l4
  have hw : wrap64 ((N : Int) + 1) = ((N + 1 : Nat) : Int) := by unfold wrap64; omega
  have hs1 : sG P B a (N + 1) = if sG P B a N = N ∧ (okA P 1 a N && (rdA B a N != 0)) = true then N + 1 else sG P B a N := by
    conv => lhs; unfold sG cnt
    rfl
  by_cases hgN : sG P B a N = N
  · by_cases hokN : (okA P 1 a N && (rdA B a N != 0)) = true
    · -- one more byte
      rw [if_pos ⟨hgN, hokN⟩] at hs1
      have hk : sK P B a (N + 1) = 0 := by unfold sK; rw [if_pos hs1]
      have H3 : CStr P B a (wrap64 ((N : Int) + 1)) ⟨(rdL B a (N + 1)).toArray⟩ 0 0 0 := by
        rw [hw]
        have h := cString_ok hs a (n := ((N + 1 : Nat) : Int)) rfl (by omega) hk
        rw [hs1] at h
        exact h
      refine strs_more w P p pc B q qc hS a N m hz rfl H1 HP H3 l1 l2 l3 l4 ?_ ?_ ?_
      · rw [hsz0, hgN]
        show (N : Int) ≤ ((rdL B a (N + 1)).toArray.size : Int)
        simp [rdL_len]
        omega
      · rw [hgN]; exact ext_pre (rdL_pre B a N)
      · rw [hsz0, hgN]; simp
    · rw [if_neg (fun h => hokN h.2), hgN] at hs1
      have hk1 : sK P B a (N + 1) = kindA P 1 (adr a N) := by unfold sK; rw [hs1, if_neg (by omega)]
      by_cases hk : kindA P 1 (adr a N) = 0
      · have H3 : CStr P B a (wrap64 ((N : Int) + 1)) ⟨(rdL B a N).toArray⟩ 0 0 0 := by
          rw [hw]
          have h := cString_ok hs a (n := ((N + 1 : Nat) : Int)) rfl (by omega) (hk1.trans hk)
          rw [hs1] at h
          exact h
        refine strs_more w P p pc B q qc hS a N m hz rfl H1 HP H3 l1 l2 l3 l4 ?_ ?_ ?_
        · rw [hgN]; exact Int.le_refl _
        · rw [hgN]; exact ext_pre (List.prefix_refl _)
        · rw [hsz0, hgN]; simp
      · have hk' : sK P B a (N + 1) ≠ 0 := by rw [hk1]; exact hk
        have hA : sA P B a (N + 1) = adr a N := by unfold sA; rw [if_neg hk', hs1]
        have H3 : CStr P B a (wrap64 ((N : Int) + 1)) ⟨#[]⟩ (sK P B a (N + 1)) (adr a N) 0 := by
          rw [hw]
          have h := cString_flt hs a (n := ((N + 1 : Nat) : Int)) rfl (by omega) hk'
          rw [hA] at h
          exact h
        exact strs_flt w P p pc B q qc hS a N m hz rfl H1 HP H3 l1 l2 l3 l4 (bne_iff_ne.2 hk') rfl (by rw [hsz0, hgN]; simp)
  · rw [if_neg (fun h => hgN h.1)] at hs1
    have hk0 : kindA P 1 (adr a (sG P B a N)) = 0 := by
      unfold sK at hf
      rwa [if_neg hgN] at hf
    have hk1 : sK P B a (N + 1) = 0 := by unfold sK; rw [hs1, if_neg (by omega)]; exact hk0
    have H3 : CStr P B a (wrap64 ((N : Int) + 1)) ⟨(rdL B a (sG P B a N)).toArray⟩ 0 0 0 := by
      rw [hw]
      have h := cString_ok hs a (n := ((N + 1 : Nat) : Int)) rfl (by omega) hk1
      rw [hs1] at h
      exact h
    refine strs_same w P p pc B q qc hS a N m hz rfl H1 HP H3 l1 l2 l3 l4 (Int.le_refl _) (ext_pre (List.prefix_refl _)) ?_ rfl
    rw [hsz0, beq_eq_false_iff_ne]
    omega
end Go.Proofs.Ytbfakdbhmpjmlaa
