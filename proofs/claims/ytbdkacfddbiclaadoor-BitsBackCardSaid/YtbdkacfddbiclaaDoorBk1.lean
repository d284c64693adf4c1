/-
  Plain mathematics of layer 1: the text of what was read is what was read.
-/
import Derived.Test.YtbdkacfddbiclaaDoorLp
namespace Go.Proofs.YtbdkacfddbiclaaDoor
open Go.RowKit

theorem dv_lt {c : UInt8} (h : dvI ((c.toNat : Nat) : Int) < 10) : 48 ≤ c.toNat ∧ c.toNat ≤ 57 ∧ dvI ((c.toNat : Nat) : Int) = (c.toNat : Int) - 48 := by
  unfold dvI at h ⊢
  split at h
  · next h1 => rw [if_pos h1]; omega
  · split at h
    · next h1 => omega
    · omega
theorem dv_back {c : UInt8} (h : dvI ((c.toNat : Nat) : Int) < 10) : UInt8.ofNat (48 + (dvI ((c.toNat : Nat) : Int)).toNat) = c := by
  have k := dv_lt h
  rw [k.2.2]
  have e : 48 + ((c.toNat : Int) - 48).toNat = c.toNat := by omega
  rw [e]
  simp
theorem decD_valI (n : Nat) : ∀ D : List UInt8, D.length = n → D ≠ [] → allD 10 D = true → zeroFirst D = false → decD (valI 10 D).toNat = D := by
  induction n with
  | zero => intro D hl hn; exact absurd (List.length_eq_zero_iff.1 hl) hn
  | succ n ih =>
    intro D hl hn ha hz
    have hD := List.dropLast_concat_getLast hn
    generalize D.dropLast = E at hD
    generalize D.getLast hn = c at hD
    subst hD
    have hc : dvI ((c.toNat : Nat) : Int) < 10 := by
      unfold allD at ha
      rw [List.all_eq_true] at ha
      have := ha c (by simp)
      simpa using this
    have hE : allD 10 E = true := by
      unfold allD at ha ⊢
      rw [List.all_eq_true] at ha ⊢
      intro x hx
      exact ha x (by simp [hx])
    have b := dv_lt hc
    rw [valI_snoc]
    by_cases h0 : E = []
    · subst h0
      have e : (valI 10 ([] : List UInt8) * 10 + dvI ((c.toNat : Nat) : Int)).toNat = (dvI ((c.toNat : Nat) : Int)).toNat := by simp [valI]
      rw [e, decD_lt (by omega), dv_back hc]
      rfl
    · have hlE : E.length = n := by simpa using hl
      have hl1 : 0 < E.length := by
        cases E with
        | nil => exact absurd rfl h0
        | cons _ _ => simp
      have hh : E.head? ≠ some 48 := by
        intro e
        unfold zeroFirst at hz
        have h1 : (E ++ [c]).head? = some 48 := by
          cases E with
          | nil => exact absurd rfl h0
          | cons _ _ => simpa using e
        rw [h1] at hz
        have h2 : 1 < (E ++ [c]).length := by simp; omega
        rw [decide_eq_true h2] at hz
        exact absurd hz (by decide)
      have hzE : zeroFirst E = false := by
        unfold zeroFirst
        simp [hh]
      have i := ih E hlE h0 hE hzE
      have hv0 := valI_nn 10 (by omega) E
      have hv : valI 10 E ≠ 0 := by
        intro e
        rw [e] at i
        rw [← i] at hh
        exact hh (by rw [show (0 : Int).toNat = 0 from rfl, decD_lt (by omega)]; rfl)
      have e1 : (valI 10 E * 10 + dvI ((c.toNat : Nat) : Int)).toNat / 10 = (valI 10 E).toNat := by omega
      have e2 : (valI 10 E * 10 + dvI ((c.toNat : Nat) : Int)).toNat % 10 = (dvI ((c.toNat : Nat) : Int)).toNat := by omega
      rw [decD_ge (by omega), e1, e2, i, dv_back hc]

theorem rest_of_min {l : List UInt8} (h : minL l = true) : l = 45 :: restM l := by
  have h' := h
  unfold minL Lib.hasPrefix at h'
  unfold restM Lib.trimPrefix
  unfold minL at h
  rw [h]
  match l, h' with
  | a :: l', h' =>
    simp [List.isPrefixOf] at h'
    simp [h']
theorem rest_of_not {l : List UInt8} (h : minL l = false) : restM l = l := by
  unfold restM Lib.trimPrefix
  unfold minL at h
  rw [h]
  rfl

/-- The text of a decimal number that was read is the string. -/
theorem par_text {s : Int} (hv : validB s = true) (g : Bool) (l : List UInt8) (h : parOK s g l = true) (hx : hexL l = false) : textL g (wrapI s g (parN l)) = l := by
  unfold parOK at h
  rw [hx, if_neg (by simp)] at h
  simp only [Bool.and_eq_true] at h
  obtain ⟨⟨hd, h0⟩, hn⟩ := h
  unfold decOK puOK at hd
  simp only [Bool.and_eq_true, Bool.not_eq_true', decide_eq_true_eq] at hd
  obtain ⟨hz, ⟨he, ha⟩, hU⟩ := hd
  have hne : restM l ≠ [] := by intro e; rw [e] at he; simp at he
  have key := decD_valI _ (restM l) rfl hne ha hz
  have v0 := valI_nn 10 (by omega) (restM l)
  unfold parN
  rw [hx, if_neg (by simp)]
  have hU' : valI 10 (restM l) ≤ 18446744073709551615 := hU
  cases hm : minL l
  · rw [hm] at hn h0
    have er := rest_of_not hm
    rw [er] at key hn v0 hU' ⊢
    generalize valI 10 l = m at *
    have fin : wrapI s g (nmV false m) = nmV false m ∧ negB g (nmV false m) = false ∧ magI g (nmV false m) = m := by
      simp only [nmOK, nmV, u64_eq] at hn ⊢
      rcases (valid_iff s).1 hv with rfl | rfl | rfl | rfl <;> cases g <;> simp [rgH] at hn <;> simp [wrapI, negB, magI, u64_eq, wrap64] <;> omega
    rw [fin.1]
    unfold textL
    rw [fin.2.1, fin.2.2, key]
    rfl
  · rw [hm] at hn h0
    have er := rest_of_min hm
    generalize restM l = D at *
    generalize valI 10 D = m at *
    have hm0 : m ≠ 0 := by
      intro e
      rw [e] at h0
      simp at h0
    have hg : g = true := by
      cases g
      · simp [nmOK, rgL, u64_eq] at hn
        omega
      · rfl
    subst hg
    have fin : wrapI s true (nmV true m) = nmV true m ∧ negB true (nmV true m) = true ∧ magI true (nmV true m) = m := by
      simp only [nmOK, nmV, u64_eq] at hn ⊢
      rcases (valid_iff s).1 hv with rfl | rfl | rfl | rfl <;> simp [rgL] at hn <;> simp [wrapI, negB, magI, u64_eq, wrap64] <;> omega
    rw [fin.1]
    unfold textL
    rw [fin.2.1, fin.2.2, key]
    exact er.symm
end Go.Proofs.YtbdkacfddbiclaaDoor
