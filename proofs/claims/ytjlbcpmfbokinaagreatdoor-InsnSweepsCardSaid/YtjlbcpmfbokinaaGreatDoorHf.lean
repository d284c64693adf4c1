/-
  Layer 2, the reference: Decode, in general.
-/
import Derived.Test.YtjlbcpmfbokinaaGreatDoorGM
import Derived.Test.YtjlbcpmfbokinaaGreatDoorGN
import Derived.Test.YtjlbcpmfbokinaaGreatDoorGO
import Derived.Test.YtjlbcpmfbokinaaGreatDoorGP
set_option linter.unusedSimpArgs false
set_option linter.unusedVariables false
namespace Go.Proofs.YtjlbcpmfbokinaaGreatDoor
open Go.RowKit

theorem shapes_fin : ∀ s : Fin 12, (fmS s.1 = 10 ↔ s.1 = 10) ∧ ((rgS s.1, imS s.1) = (0, 0) ∨ (rgS s.1, imS s.1) = (1, 0) ∨ (rgS s.1, imS s.1) = (2, 0) ∨ (rgS s.1, imS s.1) = (0, 1) ∨ (rgS s.1, imS s.1) = (1, 1) ∨ (rgS s.1, imS s.1) = (2, 1) ∨ (rgS s.1, imS s.1) = (0, 2) ∨ (rgS s.1, imS s.1) = (1, 2) ∨ (rgS s.1, imS s.1) = (1, 10)) := by decide
theorem numN_1 (c : UInt8) : ((numN [c] : Nat) : Int) = (c.toNat : Int) := by
  have e : numN [c] = c.toNat + 128 * 0 := rfl
  rw [e]; omega
theorem numN_2 (c d : UInt8) : ((numN [c, d] : Nat) : Int) = (c.toNat : Int) + 128 * (d.toNat : Int) := by
  have e : numN [c, d] = c.toNat + 128 * (d.toNat + 128 * 0) := rfl
  rw [e]; omega
theorem imm_0 {s : Nat} (hs : s < 12) {X : List UInt8} (h : X.length = 0) : 0 = immV s X := by
  have := List.eq_nil_of_length_eq_zero h
  subst this
  have : ∀ s : Fin 12, 0 = immV s.1 [] := by decide +kernel
  exact this ⟨s, hs⟩
theorem ng_1 (c : UInt8) : nmV [c] = wrap64 ((if 64 ≤ c.toNat then -1 else 0) * 128 + (c.toNat : Int)) := by
  unfold nmV
  rw [numN_1]
  rfl
theorem ng_2 (c d : UInt8) : nmV [c, d] = wrap64 ((if 64 ≤ d.toNat then -1 else 0) * 16384 + ((c.toNat : Int) + 128 * (d.toNat : Int))) := by
  unfold nmV
  rw [numN_2]
  rfl
theorem imm_1 {s : Nat} (hs : s < 12) (hm : imS s = 1) (h10 : s ≠ 10) {X : List UInt8} (h : X.length = 1) (h7 : ∀ p (h : p < X.length), X[p].toNat < 128) : nmV X = immV s X := by
  obtain ⟨c, rfl⟩ := List.length_eq_one_iff.1 h
  have hc : c.toNat < 128 := h7 0 (by simp)
  have hh : ∀ s : Fin 12, imS s.1 = 1 → s.1 ≠ 10 → hiS s.1 = 63 := by decide
  have h63 : hiS s = 63 := hh ⟨s, hs⟩ hm h10
  rw [ng_1]
  unfold immV
  rw [h63, hm, numN_1]
  have e0 : ((128 ^ 1 : Nat) : Int) = 128 := rfl
  rw [e0]
  have hc' : (c.toNat : Int) < 128 := by omega
  have hc0 : (0 : Int) ≤ (c.toNat : Int) := by omega
  have e : wrap64 (c.toNat : Int) = (c.toNat : Int) := wr_s hc0 (by omega)
  rw [e]
  by_cases h64 : 64 ≤ c.toNat
  · rw [if_pos h64, if_pos (by omega)]
    generalize (c.toNat : Int) = x at *
    clear h64 e h h7 hc
    unfold wrap64; omega
  · rw [if_neg h64, if_neg (by omega), Int.zero_mul, Int.zero_add, e]
theorem imm_2 {s : Nat} (hs : s < 12) (hm : imS s = 2) {X : List UInt8} (h : X.length = 2) (h7 : ∀ p (h : p < X.length), X[p].toNat < 128) : nmV X = immV s X := by
  obtain ⟨c, d, rfl⟩ : ∃ c d, X = [c, d] := by
    match X, h with
    | [c, d], _ => exact ⟨c, d, rfl⟩
  have hc : c.toNat < 128 := h7 0 (by simp)
  have hd : d.toNat < 128 := h7 1 (by simp)
  have hh : ∀ s : Fin 12, imS s.1 = 2 → hiS s.1 = 8191 := by decide
  have h63 : hiS s = 8191 := hh ⟨s, hs⟩ hm
  rw [ng_2]
  unfold immV
  rw [h63, hm, numN_2]
  have e0 : ((128 ^ 2 : Nat) : Int) = 16384 := rfl
  rw [e0]
  have hz : (c.toNat : Int) + 128 * (d.toNat : Int) < 16384 := by omega
  have hz0 : 0 ≤ (c.toNat : Int) + 128 * (d.toNat : Int) := by omega
  have e : wrap64 ((c.toNat : Int) + 128 * (d.toNat : Int)) = (c.toNat : Int) + 128 * (d.toNat : Int) := wr_s hz0 (by omega)
  rw [e]
  by_cases h64 : 64 ≤ d.toNat
  · rw [if_pos h64, if_pos (by omega)]
    generalize (c.toNat : Int) + 128 * (d.toNat : Int) = x at *
    clear h64 e h h7 hc hd
    unfold wrap64; omega
  · rw [if_neg h64, if_neg (by omega), Int.zero_mul, Int.zero_add, e]
theorem wr_70 (N : Int) : wrap64 (-1 * 1180591620717411303424 + N) = wrap64 N := by unfold wrap64; omega
theorem imm_10 {s : Nat} (hs : s < 12) (hm : imS s = 10) {X : List UInt8} (h : X.length = 10) : nmV X = immV s X := by
  have hh : ∀ s : Fin 12, imS s.1 = 10 → hiS s.1 = 9223372036854775807 := by decide
  have h63 : hiS s = 9223372036854775807 := hh ⟨s, hs⟩ hm
  have hw : ¬ (9223372036854775807 : Int) < wrap64 (numN X : Nat) := by unfold wrap64; omega
  have e0 : ((128 ^ 10 : Nat) : Int) = 1180591620717411303424 := by decide
  unfold nmV immV
  rw [h63, h, if_neg hw, e0]
  generalize (numN X : Int) = N
  unfold ngC
  by_cases h64 : 64 ≤ (X.getD (X.length - 1) 0).toNat
  · rw [if_pos h64, wr_70]
  · rw [if_neg h64, Int.zero_mul, Int.zero_add]
theorem imm_s {X : List UInt8} (h : X.length = 1) (h7 : ∀ p (h : p < X.length), X[p].toNat < 128) : ((X.getD 0 0).toNat : Int) = immV 10 X := by
  obtain ⟨c, rfl⟩ := List.length_eq_one_iff.1 h
  have hc : c.toNat < 128 := h7 0 (by simp)
  unfold immV
  rw [numN_1]
  have e : wrap64 (c.toNat : Int) = (c.toNat : Int) := wr_s (by omega) (by omega)
  have h127 : hiS 10 = 127 := rfl
  rw [e, h127, if_neg (by omega)]
  rfl
theorem rdecode_known (b : List UInt8) (bp : Option Addr) (bc : Nat) (w : World) (hb : SeqAt w bp (bV b)) (hcap : b.length ≤ bc) (hl : 0 < b.length) (hk : knO (opD b) = true) : Calls Tryz.prog 24 #[.slice bp b.length bc] w fun e w' => RDec b e ∧ Below w.heap.size w w' := by
  have hs : shD b < 12 := (rowO_sh hk).1
  have FO := fun W => form_any (opD b) W
  have OP := fun W => operands_any (form_bd (opD b)) W
  obtain ⟨o1, o2, o3⟩ := ops_shape ⟨shD b, hs⟩
  have hf := fmS_ne ⟨shD b, hs⟩
  obtain ⟨t1, t2⟩ := shapes_fin ⟨shD b, hs⟩
  dsimp only at o1 o2 o3 hf t1 t2
  rw [fmO_known hk, show (rowO (opD b)).sh = shD b from rfl] at FO OP
  rw [o1, o2, o3] at OP
  have go : ∀ {r m : Nat}, (rgS (shD b), imS (shD b)) = (r, m) → rgS (shD b) = r ∧ imS (shD b) = m := fun h => ⟨(Prod.mk.inj h).1, (Prod.mk.inj h).2⟩
  have ten : imS (shD b) ≠ 1 ∨ rgS (shD b) ≠ 0 → fmS (shD b) ≠ 10 := fun h e => by
    have := t1.1 e
    rw [this] at h
    revert h
    decide
  have n10 : fmS (shD b) ≠ 10 → shD b ≠ 10 := fun h e => h (t1.2 e)
  rcases t2 with h | h | h | h | h | h | h | h | h
  all_goals (obtain ⟨h1, h2⟩ := go h; rw [h1, h2] at OP)
  · exact rdec_0_0 b bp bc w hb hcap hl hk hs h1 h2 hf (ten (.inl (by omega))) (fun X hX _ e => by rw [← e]; exact imm_0 hs hX) FO OP
  · exact rdec_1_0 b bp bc w hb hcap hl hk hs h1 h2 hf (ten (.inl (by omega))) (fun X hX _ e => by rw [← e]; exact imm_0 hs hX) FO OP
  · exact rdec_2_0 b bp bc w hb hcap hl hk hs h1 h2 hf (ten (.inl (by omega))) (fun X hX _ e => by rw [← e]; exact imm_0 hs hX) FO OP
  · have h10 : shD b = 10 := by
      have : ∀ s : Fin 12, rgS s.1 = 0 → imS s.1 = 1 → s.1 = 10 := by decide
      exact this ⟨shD b, hs⟩ h1 h2
    exact rdec_0_1 b bp bc w hb hcap hl hk hs h1 h2 hf (t1.2 h10) (fun X hX h7 e => by rw [← e, h10]; exact imm_s hX h7) FO OP
  · exact rdec_1_1 b bp bc w hb hcap hl hk hs h1 h2 hf (ten (.inr (by omega))) (fun X hX h7 e => by rw [← e]; exact imm_1 hs h2 (n10 (ten (.inr (by omega)))) hX h7) FO OP
  · exact rdec_2_1 b bp bc w hb hcap hl hk hs h1 h2 hf (ten (.inr (by omega))) (fun X hX h7 e => by rw [← e]; exact imm_1 hs h2 (n10 (ten (.inr (by omega)))) hX h7) FO OP
  · exact rdec_0_2 b bp bc w hb hcap hl hk hs h1 h2 hf (ten (.inl (by omega))) (fun X hX h7 e => by rw [← e]; exact imm_2 hs h2 hX h7) FO OP
  · exact rdec_1_2 b bp bc w hb hcap hl hk hs h1 h2 hf (ten (.inl (by omega))) (fun X hX h7 e => by rw [← e]; exact imm_2 hs h2 hX h7) FO OP
  · exact rdec_1_10 b bp bc w hb hcap hl hk hs h1 h2 hf (ten (.inl (by omega))) (fun X hX _ e => by rw [← e]; exact imm_10 hs h2 hX) FO OP
theorem rdecode_any (b : List UInt8) (bp : Option Addr) (bc : Nat) (w : World) (hb : SeqAt w bp (bV b)) (hcap : b.length ≤ bc) : Calls Tryz.prog 24 #[.slice bp b.length bc] w fun e w' => RDec b e ∧ Below w.heap.size w w' := by
  by_cases hl : 0 < b.length
  · cases hk : knO (opD b)
    · exact rdecode_unknown b bp bc w hb hl hk
    · exact rdecode_known b bp bc w hb hcap hl hk
  · have hn : b = [] := List.eq_nil_of_length_eq_zero (by omega)
    subst hn
    exact rdecode_nil bp bc w
end Go.Proofs.YtjlbcpmfbokinaaGreatDoor
