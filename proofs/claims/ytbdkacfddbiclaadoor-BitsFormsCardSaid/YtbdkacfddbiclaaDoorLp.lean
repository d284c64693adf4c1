/-
  Plain mathematics of layer 1: the text of a number, read again.
-/
import Derived.Test.YtbdkacfddbiclaaDoorTb
import Derived.Test.YtbdkacfddbiclaaDoorPf
import Derived.Test.YtbdkacfddbiclaaDoorLm
namespace Go.Proofs.YtbdkacfddbiclaaDoor
open Go.RowKit
--BEGIN
theorem dv_digit (d : Nat) (h : d < 10) : dvI (((UInt8.ofNat (48 + d)).toNat : Nat) : Int) = d := by
  have : (UInt8.ofNat (48 + d)).toNat = 48 + d := by simp; omega
  rw [this]
  unfold dvI
  rw [if_pos (by omega)]
  omega
theorem decD_lt {n : Nat} (h : n < 10) : decD n = [UInt8.ofNat (48 + n)] := by rw [decD, if_pos h]
theorem decD_ge {n : Nat} (h : ¬ n < 10) : decD n = decD (n / 10) ++ [UInt8.ofNat (48 + n % 10)] := by rw [decD, if_neg h]
theorem decD_val (n : Nat) : valI 10 (decD n) = n := by
  induction n using Nat.strongRecOn with
  | _ n ih =>
    by_cases h : n < 10
    · rw [decD_lt h]
      simp only [valI, List.foldl_cons, List.foldl_nil]
      rw [dv_digit n h]; omega
    · rw [decD_ge h, valI_snoc, ih (n / 10) (by omega), dv_digit _ (by omega)]
      omega
theorem decD_digits (n : Nat) : ∀ c ∈ decD n, 48 ≤ c.toNat ∧ c.toNat ≤ 57 := by
  induction n using Nat.strongRecOn with
  | _ n ih =>
    have one : ∀ d : Nat, d < 10 → 48 ≤ (UInt8.ofNat (48 + d)).toNat ∧ (UInt8.ofNat (48 + d)).toNat ≤ 57 := fun d hd => by
      have : (UInt8.ofNat (48 + d)).toNat = 48 + d := by simp; omega
      omega
    by_cases h : n < 10
    · rw [decD_lt h]
      intro c hc
      rw [List.mem_singleton] at hc
      subst hc
      exact one n h
    · rw [decD_ge h]
      intro c hc
      rcases List.mem_append.1 hc with hc | hc
      · exact ih (n / 10) (by omega) c hc
      · rw [List.mem_singleton] at hc
        subst hc
        exact one _ (by omega)
theorem decD_ne (n : Nat) : decD n ≠ [] := by
  by_cases h : n < 10
  · rw [decD_lt h]; simp
  · rw [decD_ge h]; simp
theorem decD_head (n : Nat) (h0 : n ≠ 0) : (decD n).head? ≠ some 48 := by
  induction n using Nat.strongRecOn with
  | _ n ih =>
    by_cases h : n < 10
    · rw [decD_lt h]
      intro e
      have e' : UInt8.ofNat (48 + n) = 48 := by simpa using e
      have := congrArg UInt8.toNat e'
      have t : (UInt8.ofNat (48 + n)).toNat = 48 + n := by simp; omega
      rw [t] at this
      simp at this
      omega
    · rw [decD_ge h]
      have := ih (n / 10) (by omega) (by omega)
      have hn := decD_ne (n / 10)
      cases hd : decD (n / 10) with
      | nil => exact absurd hd hn
      | cons c l => rw [hd] at this; simpa using this
theorem decD_zeroFirst (n : Nat) : zeroFirst (decD n) = false := by
  by_cases h : n = 0
  · subst h; rw [decD_lt (by omega)]; rfl
  · have := decD_head n h
    simp [zeroFirst, this]
theorem decD_allD (n : Nat) : allD 10 (decD n) = true := by
  unfold allD
  rw [List.all_eq_true]
  intro c hc
  have := decD_digits n c hc
  unfold dvI
  rw [if_pos (by omega)]
  simp
  omega
theorem decD_ok (n : Nat) (h : n ≤ 18446744073709551615) : decOK (decD n) = true := by
  unfold decOK puOK
  rw [decD_zeroFirst, decD_allD, decD_val]
  have : decide ((n : Int) ≤ U64M) = true := decide_eq_true (by show (n : Int) ≤ 18446744073709551615; omega)
  rw [this]
  have : (decD n).isEmpty = false := by
    cases hd : decD n with
    | nil => exact absurd hd (decD_ne n)
    | cons _ _ => rfl
  rw [this]; rfl
theorem decD_hex (n : Nat) : hexL (decD n) = false := by
  unfold hexL Lib.hasPrefix
  have hd := decD_digits n
  match decD n, hd with
  | [], _ => rfl
  | [a], _ => simp [List.isPrefixOf]
  | a :: b :: l, hd =>
    have hb := hd b (by simp)
    have : b ≠ 120 := by rintro rfl; simp at hb
    simp [List.isPrefixOf]
    intro _ e
    exact absurd e.symm this
theorem decD_min (n : Nat) : minL (decD n) = false := by
  unfold minL Lib.hasPrefix
  have hd := decD_digits n
  match decD n, hd with
  | [], _ => rfl
  | a :: l, hd =>
    have ha := hd a (by simp)
    have : a ≠ 45 := by rintro rfl; simp at ha
    simp [List.isPrefixOf]
    exact fun e => absurd e.symm this

theorem mag_eq (g : Bool) (x : Int) (h : I64 x) : magI g x = (if negB g x = true then -x else u64 x) ∧ 0 ≤ magI g x ∧ magI g x ≤ 18446744073709551615 := by
  obtain ⟨h1, h2⟩ := h
  unfold magI negB
  by_cases hx : x < 0
  · cases g
    · simp [u64_eq]; omega
    · simp [hx, u64_eq]; omega
  · cases g
    · simp [u64_eq]; omega
    · simp [hx, u64_eq]; omega
theorem text_hex (g : Bool) (x : Int) : hexL (textL g x) = false := by
  unfold textL
  cases negB g x
  · exact decD_hex _
  · simp [hexL, Lib.hasPrefix, List.isPrefixOf]
theorem text_min (g : Bool) (x : Int) : minL (textL g x) = negB g x := by
  unfold textL
  cases negB g x
  · exact decD_min _
  · simp [minL, Lib.hasPrefix, List.isPrefixOf]
theorem text_rest (g : Bool) (x : Int) : restM (textL g x) = decD (magI g x).toNat := by
  have h := text_min g x
  unfold restM Lib.trimPrefix
  unfold minL at h
  rw [h]
  unfold textL
  cases negB g x <;> simp

/-- A number's text is read where the number is one of the type. -/
theorem text_parOK (s : Int) (g g' : Bool) (x : Int) (h : I64 x) : parOK s g (textL g' x) = nmOK s g (negB g' x) (magI g' x) := by
  obtain ⟨e, m0, m1⟩ := mag_eq g' x h
  have hv : valI 10 (decD (magI g' x).toNat) = magI g' x := by rw [decD_val]; omega
  unfold parOK
  rw [text_hex, if_neg (by simp), text_rest, text_min, decD_ok _ (by omega), hv]
  cases hn : negB g' x
  · simp
  · have : magI g' x ≠ 0 := by
      rw [e, hn, if_pos rfl]
      simp [negB] at hn
      omega
    simp [this]
theorem text_parN (g' : Bool) (x : Int) (h : I64 x) : parN (textL g' x) = x := by
  obtain ⟨e, m0, m1⟩ := mag_eq g' x h
  have hv : valI 10 (decD (magI g' x).toNat) = magI g' x := by rw [decD_val]; omega
  unfold parN
  rw [text_hex, if_neg (by simp), text_rest, text_min, hv, e]
  obtain ⟨h1, h2⟩ := h
  unfold nmV
  cases hn : negB g' x
  · simp [u64_eq, wrap64]; omega
  · simp [u64_eq, wrap64]; omega

/-- A type that reads a number's text has the number, and writes it so. -/
theorem nm_same (s : Int) (g g' : Bool) (hv : validB s = true) (x : Int) (h : I64 x) (hn : nmOK s g (negB g' x) (magI g' x) = true) : wrapI s g x = x ∧ textL g x = textL g' x := by
  obtain ⟨e, m0, m1⟩ := mag_eq g' x h
  have h' := h
  obtain ⟨h1, h2⟩ := h
  rw [e] at hn
  have key : Rg s g x ∧ (negB g x = negB g' x) := by
    cases hb : negB g' x
    · rw [hb] at hn
      simp only [nmOK, u64_eq] at hn
      simp only [negB] at hb ⊢
      rcases (valid_iff s).1 hv with rfl | rfl | rfl | rfl <;> cases g <;> cases g' <;> simp [rgH] at hn hb ⊢ <;> simp [Rg] <;> omega
    · rw [hb] at hn
      simp only [nmOK, u64_eq] at hn
      simp [negB] at hb
      obtain ⟨rfl, hb⟩ := hb
      rcases (valid_iff s).1 hv with rfl | rfl | rfl | rfl <;> cases g <;> simp [rgL] at hn <;> simp [negB, Rg] <;> omega
  refine ⟨wrap_Rg s g x key.1, ?_⟩
  have em : magI g x = magI g' x := by rw [(mag_eq g x h').1, e, key.2]
  unfold textL
  rw [key.2, em]
/-- A type reads the text of each of its numbers. -/
theorem nm_own (s : Int) (g : Bool) (hv : validB s = true) (x : Int) (h : Rg s g x) : nmOK s g (negB g x) (magI g x) = true := by
  obtain ⟨e, m0, m1⟩ := mag_eq g x (Rg_I64 h)
  rw [e]
  cases hb : negB g x
  · simp only [nmOK, u64_eq]
    simp only [negB] at hb
    rcases (valid_iff s).1 hv with rfl | rfl | rfl | rfl <;> cases g <;> simp [Rg] at h hb <;> simp [rgH] <;> omega
  · simp only [nmOK, u64_eq]
    simp [negB] at hb
    obtain ⟨rfl, hb⟩ := hb
    rcases (valid_iff s).1 hv with rfl | rfl | rfl | rfl <;> simp [Rg] at h <;> simp [rgL] <;> omega
--END
end Go.Proofs.YtbdkacfddbiclaaDoor
