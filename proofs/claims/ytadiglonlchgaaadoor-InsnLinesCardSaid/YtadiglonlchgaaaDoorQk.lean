/-
  Layer 2: the printed line read back: texts as lists; digits.
-/
import Derived.Test.YtadiglonlchgaaaDoorQj
import Derived.Lib.ItoaNum
namespace Go.Proofs.YtadiglonlchgaaaDoor
open Go.RowKit Go.Shelf

/-- A text by its bytes. -/
def mkB (l : List UInt8) : ByteArray := ⟨l.toArray⟩
theorem mkB_data (l : List UInt8) : (mkB l).data.toList = l := by simp [mkB]
theorem mkB_of (s : ByteArray) : mkB s.data.toList = s := by cases s; simp [mkB]
theorem mkB_size (l : List UInt8) : (mkB l).size = l.length := by simp [mkB, ByteArray.size]
theorem mkB_app (l m : List UInt8) : mkB l ++ mkB m = mkB (l ++ m) := by
  rw [← mkB_of (mkB l ++ mkB m)]
  simp [mkB]
theorem mkB_ext (l : List UInt8) (n : Nat) : (mkB l).extract n (mkB l).size = mkB (l.drop n) := by
  rw [← mkB_of ((mkB l).extract n (mkB l).size)]
  rw [mkB_size]
  congr 1
  simp [mkB, List.take_of_length_le]
theorem mkB_take (l : List UInt8) (n : Nat) : (mkB l).extract 0 n = mkB (l.take n) := by
  rw [← mkB_of ((mkB l).extract 0 n)]
  congr 1
  simp [mkB]
theorem mkB_nil (l : List UInt8) : (mkB l).toList = [] ↔ l = [] := by
  have h := nil_size (mkB l)
  rw [mkB_size] at h
  cases l with
  | nil => simp at h; simp [h]
  | cons x l => simp at h; simp [h]
theorem hp_cons (x c : UInt8) (l : List UInt8) : hpB (mkB (x :: l)) ⟨#[c]⟩ = (c == x) := by
  unfold hpB Lib.hasPrefix
  rw [mkB_data]
  simp [List.isPrefixOf]
theorem hp_nil (c : UInt8) : hpB (mkB []) ⟨#[c]⟩ = false := by
  unfold hpB Lib.hasPrefix
  rw [mkB_data]
  simp [List.isPrefixOf]
theorem cp_cons (c : UInt8) (l : List UInt8) : cpB (mkB (c :: l)) ⟨#[c]⟩ = mkB l := by
  unfold cpB Lib.trimPrefix Lib.hasPrefix
  rw [mkB_data]
  simp [List.isPrefixOf, mkB]
theorem hp_cons2 (x y c d : UInt8) (l : List UInt8) : hpB (mkB (x :: y :: l)) ⟨#[c, d]⟩ = (c == x && d == y) := by
  unfold hpB Lib.hasPrefix
  rw [mkB_data]
  simp [List.isPrefixOf]
theorem cp_cons2 (c d : UInt8) (l : List UInt8) : cpB (mkB (c :: d :: l)) ⟨#[c, d]⟩ = mkB l := by
  unfold cpB Lib.trimPrefix Lib.hasPrefix
  rw [mkB_data]
  simp [List.isPrefixOf, mkB]
theorem cp_no {s p : ByteArray} (h : hpB s p = false) : cpB s p = s := by
  unfold hpB at h
  unfold cpB Lib.trimPrefix
  rw [h]
  simp
/-- A text that doesn't begin with a blank. -/
def NB (l : List UInt8) : Prop := ∀ x, l.head? = some x → x ≠ 32 ∧ x ≠ 9
theorem af_id {l : List UInt8} (h : NB l) : afB (mkB l) = mkB l := by
  unfold afB Lib.trimLeftS
  rw [mkB_data]
  cases l with
  | nil => rfl
  | cons x l =>
    have := h x rfl
    have e : ([32, 9] : List UInt8).contains x = false := by simp [this.1, this.2]
    rw [List.dropWhile_cons_of_neg (by rw [e]; decide)]
    rfl
theorem af_sp {l : List UInt8} (h : NB l) : afB (mkB (32 :: l)) = mkB l := by
  have := af_id h
  unfold afB Lib.trimLeftS at *
  rw [mkB_data] at *
  rw [List.dropWhile_cons_of_pos (by decide)]
  exact this
theorem NB.cons {x : UInt8} (l : List UInt8) (h : x ≠ 32 ∧ x ≠ 9) : NB (x :: l) := fun y hy => by cases hy; exact h
theorem NB.nil : NB [] := fun y hy => by cases hy

theorem chA_at (l : List UInt8) (k : Nat) : chA (mkB l) k = ((l.getD k 0).toNat : Int) := by unfold chA; rw [mkB_data]
/-- Digits. -/
def DG (x : UInt8) : Prop := 48 ≤ x.toNat ∧ x.toNat ≤ 57
instance (x : UInt8) : Decidable (DG x) := by unfold DG; infer_instance
theorem dgC_of {x : UInt8} (h : DG x) : dgC (x.toNat : Int) = true := by unfold dgC; unfold DG at h; exact decide_eq_true (by omega)
theorem dgC_not {x : UInt8} (h : ¬ DG x) : dgC (x.toNat : Int) = false := by unfold dgC; unfold DG at h; exact decide_eq_false (by omega)
/-- A text that doesn't begin with a digit. -/
def ND (l : List UInt8) : Prop := ∀ x, l.head? = some x → ¬ DG x
theorem dg_count {ds r : List UInt8} (h : ∀ x ∈ ds, DG x) (hr : ND r) : dgN (mkB (ds ++ r)) = ds.length := by
  unfold dgN
  refine cnt_eq (by rw [mkB_size, List.length_append]; omega) (fun j hj => ?_) (fun hj => ?_)
  · rw [chA_at, List.getD_eq_getElem?_getD, List.getElem?_append_left hj, List.getElem?_eq_getElem hj]
    exact dgC_of (h _ (List.getElem_mem hj))
  · rw [mkB_size, List.length_append] at hj
    rw [chA_at, List.getD_eq_getElem?_getD, List.getElem?_append_right (Nat.le_refl _), Nat.sub_self]
    cases r with
    | nil => simp at hj
    | cons x r => exact dgC_not (hr x rfl)
theorem dec_digit : ∀ (u : Nat), ∀ x ∈ Lib.decDigits u, DG x := by
  intro u
  induction u using Nat.strongRecOn with
  | _ u ih =>
    intro x hx
    have hd : ∀ d, d < 10 → DG (UInt8.ofNat (48 + d)) := by
      intro d hd
      unfold DG
      rw [UInt8.toNat_ofNat']
      omega
    rw [Lib.decDigits] at hx
    split at hx
    · rw [List.mem_singleton] at hx; rw [hx]; exact hd _ (by omega)
    · rcases List.mem_append.1 hx with hx | hx
      · exact ih (u / 10) (by omega) x hx
      · rw [List.mem_singleton] at hx; rw [hx]; exact hd _ (by omega)
theorem dec_len : ∀ (k u : Nat), u < 10 ^ k → 1 ≤ k → (Lib.decDigits u).length ≤ k := by
  intro k
  induction k with
  | zero => intro u _ h; omega
  | succ k ih =>
    intro u h _
    rw [Lib.decDigits]
    split
    · simp
    · rename_i hu
      rw [List.length_append]
      have hk : 1 ≤ k := by
        cases k with
        | zero => simp at h; omega
        | succ k => omega
      have := ih (u / 10) (by rw [Nat.pow_succ] at h; omega) hk
      simpa using this
theorem dec_pos (u : Nat) : 1 ≤ (Lib.decDigits u).length := by
  rw [Lib.decDigits]
  split
  · simp
  · rw [List.length_append]; simp
theorem dv_step (l : List UInt8) (k : Nat) : dvV (mkB l) (k + 1) = 10 * dvV (mkB l) k + (((l.getD k 0).toNat : Int) - 48) := by
  rw [dvV, chA_at]
theorem dec_val : ∀ (u : Nat) (r : List UInt8), dvV (mkB (Lib.decDigits u ++ r)) (Lib.decDigits u).length = u := by
  intro u
  induction u using Nat.strongRecOn with
  | _ u ih =>
    intro r
    have hd : ∀ d, d < 10 → (UInt8.ofNat (48 + d)).toNat = 48 + d := by
      intro d hd
      rw [UInt8.toNat_ofNat']
      omega
    by_cases h : u < 10
    · rw [Lib.decDigits, dif_pos h]
      show dvV (mkB ([UInt8.ofNat (48 + u)] ++ r)) (0 + 1) = u
      rw [dv_step]
      simp only [List.singleton_append, List.getD_cons_zero, dvV]
      rw [hd u h]
      omega
    · rw [Lib.decDigits, dif_neg h, List.append_assoc, List.length_append]
      have := ih (u / 10) (by omega) ([UInt8.ofNat (48 + u % 10)] ++ r)
      show dvV (mkB (Lib.decDigits (u / 10) ++ ([UInt8.ofNat (48 + u % 10)] ++ r))) ((Lib.decDigits (u / 10)).length + 1) = u
      rw [dv_step, this, List.getD_eq_getElem?_getD, List.getElem?_append_right (Nat.le_refl _), Nat.sub_self]
      simp only [List.singleton_append, List.getElem?_cons_zero, Option.getD_some]
      rw [hd _ (by omega)]
      omega
theorem dec_read (u : Nat) (hu : u < 10000000000000000000) {r : List UInt8} (hr : ND r) :
    dgOk (mkB (Lib.decDigits u ++ r)) = true ∧ dvA (mkB (Lib.decDigits u ++ r)) = u ∧ (mkB (Lib.decDigits u ++ r)).extract (dgN (mkB (Lib.decDigits u ++ r))) (mkB (Lib.decDigits u ++ r)).size = mkB r := by
  have h1 := dg_count (dec_digit u) hr
  refine ⟨?_, ?_, ?_⟩
  · unfold dgOk
    rw [h1]
    exact decide_eq_true ⟨dec_pos u, dec_len 19 u hu (by decide)⟩
  · unfold dvA
    rw [h1]
    exact dec_val u r
  · rw [mkB_ext, h1, List.drop_left]
theorem dec_head (u : Nat) : ∃ x l, Lib.decDigits u = x :: l ∧ DG x := by
  have h1 := dec_pos u
  have h2 := dec_digit u
  cases h : Lib.decDigits u with
  | nil => rw [h] at h1; simp at h1
  | cons x l => rw [h] at h2; exact ⟨x, l, rfl, h2 x (List.mem_cons_self)⟩
end Go.Proofs.YtadiglonlchgaaaDoor
