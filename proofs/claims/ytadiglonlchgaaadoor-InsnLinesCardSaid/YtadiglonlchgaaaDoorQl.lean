/-
  Layer 2: the printed line read back: registers, numbers, addresses, targets.
-/
import Derived.Test.YtadiglonlchgaaaDoorQk
namespace Go.Proofs.YtadiglonlchgaaaDoor
open Go.RowKit Go.Shelf

theorem b0 : ∀ b : Fin 8, (Lib.itoa (b.1 : Int)) = [UInt8.ofNat (48 + b.1)] := by decide +kernel
/-- The text of a register. -/
theorem reg_text {b : Int} (h : 0 ≤ b ∧ b ≤ 7) : rgT b = mkB [114, UInt8.ofNat (48 + b.toNat)] := by
  have e := b0 ⟨b.toNat, by omega⟩
  have hb : ((b.toNat : Nat) : Int) = b := by omega
  unfold rgT itB
  dsimp only at e
  rw [hb] at e
  rw [e]
  rfl
theorem reg_byte {b : Int} (h : 0 ≤ b ∧ b ≤ 7) : (UInt8.ofNat (48 + b.toNat)).toNat = 48 + b.toNat := by
  rw [UInt8.toNat_ofNat']
  omega
theorem rg_read {b : Int} (h : 0 ≤ b ∧ b ≤ 7) (r : List UInt8) :
    rgOk (mkB (114 :: UInt8.ofNat (48 + b.toNat) :: r)) = true ∧ chA (rgR (mkB (114 :: UInt8.ofNat (48 + b.toNat) :: r))) 0 - 48 = b ∧ (rgR (mkB (114 :: UInt8.ofNat (48 + b.toNat) :: r))).extract 1 (rgR (mkB (114 :: UInt8.ofNat (48 + b.toNat) :: r))).size = mkB r := by
  have e := reg_byte h
  have eR : rgR (mkB (114 :: UInt8.ofNat (48 + b.toNat) :: r)) = mkB (UInt8.ofNat (48 + b.toNat) :: r) := cp_cons 114 _
  have eC : chA (mkB (UInt8.ofNat (48 + b.toNat) :: r)) 0 = 48 + b := by
    rw [chA_at]
    simp only [List.getD_cons_zero]
    rw [e]
    omega
  refine ⟨?_, ?_, ?_⟩
  · unfold rgOk
    rw [eR, eC, hp_cons, mkB_size]
    simp
    omega
  · rw [eR, eC]; omega
  · rw [eR, mkB_ext]; rfl
theorem scA_read {a : Int} (h : 0 ≤ a ∧ a ≤ 7) (S : Sc) (r : List UInt8) : scA { S with s := mkB (114 :: UInt8.ofNat (48 + a.toNat) :: r) } = some { S with s := mkB r, a := a } := by
  obtain ⟨h1, h2, h3⟩ := rg_read h r
  unfold scA
  dsimp only
  rw [if_pos h1, h2, h3]
theorem scB_read {b : Int} (h : 0 ≤ b ∧ b ≤ 7) (S : Sc) (r : List UInt8) : scB { S with s := mkB (114 :: UInt8.ofNat (48 + b.toNat) :: r) } = some { S with s := mkB r, b := b } := by
  obtain ⟨h1, h2, h3⟩ := rg_read h r
  unfold scB
  dsimp only
  rw [if_pos h1, h2, h3]
theorem scBase_read {b : Int} (h : 0 ≤ b ∧ b ≤ 7) (S : Sc) (r : List UInt8) (hr : NB r) : scBase { S with s := mkB (91 :: 114 :: UInt8.ofNat (48 + b.toNat) :: r) } = some { S with s := mkB r, b := b } := by
  unfold scBase
  dsimp only
  rw [hp_cons, cp_cons, af_id (NB.cons _ (by decide))]
  have e := scB_read h S r
  rw [if_pos (by decide), e]
  simp only [Option.map_some, af_id hr]
theorem scClose_read (S : Sc) (r : List UInt8) : scClose { S with s := mkB (93 :: r) } = some { S with s := mkB r } := by
  unfold scClose
  dsimp only
  rw [hp_cons, cp_cons, if_pos (by decide)]
theorem scInd_read {b : Int} (h : 0 ≤ b ∧ b ≤ 7) (S : Sc) (r : List UInt8) : scInd { S with s := mkB (91 :: 114 :: UInt8.ofNat (48 + b.toNat) :: 93 :: r) } = some { S with s := mkB r, b := b } := by
  unfold scInd
  rw [scBase_read h S _ (NB.cons _ (by decide))]
  exact scClose_read { S with b := b } r

/-- The magnitude of a number, its sign. -/
theorem sg_neg {n : Int} (h0 : -9223372036854775808 ≤ n) (h1 : n < 0) : sgV (n.natAbs : Int) true = n ∧ sgB (n.natAbs : Int) true = true := by
  unfold sgV sgB
  refine ⟨?_, ?_⟩
  · rw [if_pos rfl, if_neg (by omega)]; omega
  · rw [if_pos rfl]; exact decide_eq_true (by omega)
theorem sg_pos {n : Int} (h0 : 0 ≤ n) (h1 : n ≤ 9223372036854775807) : sgV (n.toNat : Int) false = n ∧ sgB (n.toNat : Int) false = true := by
  unfold sgV sgB
  refine ⟨?_, ?_⟩
  · rw [if_neg (by decide), if_neg (by omega)]; omega
  · rw [if_neg (by decide)]; exact decide_eq_true (by omega)
theorem itoa_neg {n : Int} (h : n < 0) : Lib.itoa n = 45 :: Lib.decDigits n.natAbs := by unfold Lib.itoa; rw [if_pos h]
theorem itoa_pos {n : Int} (h : 0 ≤ n) : Lib.itoa n = Lib.decDigits n.toNat := by unfold Lib.itoa; rw [if_neg (by omega)]
theorem hp_dec (c : UInt8) (hc : ¬ DG c) (u : Nat) (r : List UInt8) : hpB (mkB (Lib.decDigits u ++ r)) ⟨#[c]⟩ = false := by
  obtain ⟨x, l, e, hx⟩ := dec_head u
  rw [e, List.cons_append, hp_cons]
  exact beq_eq_false_iff_ne.2 (fun e => hc (e ▸ hx))
theorem nb_dec (u : Nat) (r : List UInt8) : NB (Lib.decDigits u ++ r) := by
  obtain ⟨x, l, e, hx⟩ := dec_head u
  rw [e, List.cons_append]
  refine NB.cons _ ⟨?_, ?_⟩ <;> (intro e2; subst e2; revert hx; decide)
theorem scN_read {n : Int} (h : I64' n) (S : Sc) (r : List UInt8) (hr : ND r) (hf : ftB S.sh n = true) : scN { S with s := mkB (Lib.itoa n ++ r) } = some { S with s := mkB r, im := n } := by
  obtain ⟨h0, h1⟩ := h
  unfold scN
  dsimp only
  rcases Int.lt_or_le n 0 with hn | hn
  · rw [itoa_neg hn, List.cons_append, hp_cons, cp_cons]
    obtain ⟨d1, d2, d3⟩ := dec_read n.natAbs (by omega) hr
    obtain ⟨s1, s2⟩ := sg_neg h0 hn
    rw [d1, d2, d3, show ((45 : UInt8) == 45) = true by decide, s1, s2, hf]
    rfl
  · rw [itoa_pos hn, hp_dec 45 (by decide), cp_no (hp_dec 45 (by decide) _ _)]
    obtain ⟨d1, d2, d3⟩ := dec_read n.toNat (by omega) hr
    obtain ⟨s1, s2⟩ := sg_pos hn h1
    rw [d1, d2, d3, s1, s2, hf]
    rfl
theorem sgT_neg {n : Int} (h : n < 0) : sgT n = mkB (45 :: Lib.decDigits n.natAbs) := by
  unfold sgT itB; rw [if_pos h, itoa_neg h]; rfl
theorem sgT_pos {n : Int} (h : 0 ≤ n) : sgT n = mkB (43 :: Lib.decDigits n.toNat) := by
  unfold sgT itB
  rw [if_neg (by omega), itoa_pos h]
  exact mkB_app [43] _
/-- A number with its sign, as a list. -/
def sgL (n : Int) : List UInt8 := if n < 0 then 45 :: Lib.decDigits n.natAbs else 43 :: Lib.decDigits n.toNat
theorem sgT_is (n : Int) : sgT n = mkB (sgL n) := by
  unfold sgL
  split
  · exact sgT_neg ‹_›
  · exact sgT_pos (by omega)
theorem sgL_neg {n : Int} (h : n < 0) : sgL n = 45 :: Lib.decDigits n.natAbs := if_pos h
theorem sgL_pos {n : Int} (h : 0 ≤ n) : sgL n = 43 :: Lib.decDigits n.toNat := if_neg (by omega)
theorem scT_read {n : Int} (h : I64' n) (S : Sc) (r : List UInt8) (hr : ND r) : scT { S with s := mkB (46 :: (sgL n ++ r)) } = some { S with s := mkB r, im := n } := by
  obtain ⟨h0, h1⟩ := h
  unfold scT scD
  dsimp only
  rcases Int.lt_or_le n 0 with hn | hn
  · rw [sgL_neg hn, List.cons_append, hp_cons2, cp_cons2]
    obtain ⟨d1, d2, d3⟩ := dec_read n.natAbs (by omega) hr
    obtain ⟨s1, s2⟩ := sg_neg h0 hn
    rw [d1, d2, d3, s1]
    rfl
  · rw [sgL_pos hn, List.cons_append, hp_cons2, hp_cons2, cp_cons2]
    obtain ⟨d1, d2, d3⟩ := dec_read n.toNat (by omega) hr
    obtain ⟨s1, s2⟩ := sg_pos hn h1
    rw [if_neg (by decide), if_pos (by decide), d1, d2, d3, s1]
    rfl
theorem scOff_read {n : Int} (h : I64' n) (S : Sc) (r : List UInt8) (hr : ND r) (hb : NB r) (hf : ftB S.sh n = true) : scOff { S with s := mkB (sgL n ++ r) } = some { S with s := mkB r, im := n } := by
  obtain ⟨h0, h1⟩ := h
  unfold scOff scTail
  dsimp only
  rcases Int.lt_or_le n 0 with hn | hn
  · rw [sgL_neg hn, List.cons_append, hp_cons, cp_cons, af_id (nb_dec _ _)]
    obtain ⟨d1, d2, d3⟩ := dec_read n.natAbs (by omega) hr
    obtain ⟨s1, s2⟩ := sg_neg h0 hn
    rw [d1, d2, d3, s1, hf, af_id hb]
    rfl
  · rw [sgL_pos hn, List.cons_append, hp_cons, hp_cons, cp_cons, af_id (nb_dec _ _)]
    obtain ⟨d1, d2, d3⟩ := dec_read n.toNat (by omega) hr
    obtain ⟨s1, s2⟩ := sg_pos hn h1
    rw [if_neg (by decide), if_pos (by decide), d1, d2, d3, s1, hf, af_id hb]
    rfl
theorem scAd_read {b n : Int} (h : I64' n) (hb : 0 ≤ b ∧ b ≤ 7) (S : Sc) (r : List UInt8) (hf : ftB S.sh n = true) : scAd { S with s := mkB (91 :: 114 :: UInt8.ofNat (48 + b.toNat) :: (sgL n ++ 93 :: r)) } = some { S with s := mkB r, b := b, im := n } := by
  unfold scAd
  have hN : NB (sgL n ++ 93 :: r) := by
    unfold sgL
    split
    · exact NB.cons _ (by decide)
    · exact NB.cons _ (by decide)
  rw [scBase_read hb S _ hN]
  show ((scOff { ({ S with b := b } : Sc) with s := mkB (sgL n ++ 93 :: r) }).bind scClose) = _
  rw [scOff_read h { S with b := b } (93 :: r) (fun x hx => by cases hx; decide) (NB.cons _ (by decide)) hf]
  exact scClose_read { S with b := b, im := n } r
theorem scAd_zero {b : Int} (hb : 0 ≤ b ∧ b ≤ 7) (S : Sc) (r : List UInt8) : scAd { S with s := mkB (91 :: 114 :: UInt8.ofNat (48 + b.toNat) :: 93 :: r) } = some { S with s := mkB r, b := b } := by
  unfold scAd
  rw [scBase_read hb S _ (NB.cons _ (by decide))]
  show ((scOff { ({ S with b := b } : Sc) with s := mkB (93 :: r) }).bind scClose) = _
  have e : scOff { ({ S with b := b } : Sc) with s := mkB (93 :: r) } = some { ({ S with b := b } : Sc) with s := mkB (93 :: r) } := by
    unfold scOff
    dsimp only
    rw [hp_cons, hp_cons, if_neg (by decide), if_neg (by decide)]
  rw [e]
  exact scClose_read { S with b := b } r
end Go.Proofs.YtadiglonlchgaaaDoor
