/-
  Layer 2: the printed line read back: operands.
-/
import Derived.Test.YtadiglonlchgaaaDoorQl
namespace Go.Proofs.YtadiglonlchgaaaDoor
open Go.RowKit Go.Shelf

/-- The text of an operand, as a list. -/
def otL (k : Nat) (a b n : Int) : List UInt8 :=
  if k = 0 then [114, UInt8.ofNat (48 + a.toNat)] else if k = 1 then [114, UInt8.ofNat (48 + b.toNat)] else if k = 2 then Lib.itoa n else if k = 5 then 46 :: sgL n
  else if k = 3 ∧ n ≠ 0 then 91 :: 114 :: UInt8.ofNat (48 + b.toNat) :: (sgL n ++ [93]) else [91, 114, UInt8.ofNat (48 + b.toNat), 93]
/-- What the reading of an operand does. -/
def upd (k : Nat) (a b n : Int) (S : Sc) : Sc :=
  if k = 0 then { S with a := a } else if k = 1 then { S with b := b } else if k = 2 then { S with im := n } else if k = 5 then { S with im := n }
  else if k = 3 ∧ n ≠ 0 then { S with b := b, im := n } else { S with b := b }
/-- An operand that a line may have. -/
def fineO (k sh : Nat) (a b n : Int) : Prop := (k = 0 → 0 ≤ a ∧ a ≤ 7) ∧ (k = 1 ∨ k = 3 ∨ k = 4 → 0 ≤ b ∧ b ≤ 7) ∧ ftB sh n = true ∧ I64' n ∧ k < 6
theorem otB_is {k sh : Nat} {a b n : Int} (h : fineO k sh a b n) : otB (k : Int) a b n = mkB (otL k a b n) := by
  obtain ⟨h0, h1, h2, h3, h4⟩ := h
  have hk : k = 0 ∨ k = 1 ∨ k = 2 ∨ k = 3 ∨ k = 4 ∨ k = 5 := by omega
  unfold otB otL
  rcases hk with rfl | rfl | rfl | rfl | rfl | rfl
  · exact reg_text (h0 rfl)
  · exact reg_text (h1 (Or.inl rfl))
  · rfl
  · have e := reg_text (h1 (Or.inr (Or.inl rfl)))
    by_cases hn : n = 0
    · simp only [hn, e]
      exact (congrArg (· ++ (⟨#[93]⟩ : ByteArray)) (mkB_app [91] _)).trans (mkB_app _ [93])
    · have e3 : (3 : Nat) = 3 ∧ n ≠ 0 := ⟨rfl, hn⟩
      have e4 : ((3 : Nat) : Int) = 3 ∧ n ≠ 0 := ⟨rfl, hn⟩
      rw [if_neg (by decide), if_neg (by decide), if_neg (by decide), if_neg (by decide), if_pos e4, if_neg (by decide), if_neg (by decide), if_neg (by decide), if_neg (by decide), if_pos e3, e, sgT_is]
      exact (congrArg (· ++ (⟨#[93]⟩ : ByteArray)) ((congrArg (· ++ mkB (sgL n)) (mkB_app [91] _)).trans (mkB_app _ _))).trans (mkB_app _ [93])
  · have e := reg_text (h1 (Or.inr (Or.inr rfl)))
    simp only [e]
    exact (congrArg (· ++ (⟨#[93]⟩ : ByteArray)) (mkB_app [91] _)).trans (mkB_app _ [93])
  · simp only [sgT_is]
    exact mkB_app [46] _
/-- What may follow an operand. -/
def Tl (r : List UInt8) : Prop := r = [] ∨ ∃ l, r = 44 :: l
theorem Tl.nd {r : List UInt8} (h : Tl r) : ND r := by
  rcases h with rfl | ⟨l, rfl⟩ <;> intro x hx <;> cases hx
  decide
theorem Tl.nb {r : List UInt8} (h : Tl r) : NB r := by
  rcases h with rfl | ⟨l, rfl⟩ <;> intro x hx <;> cases hx
  decide
theorem scRd_read {k : Nat} {a b n : Int} (S : Sc) {r : List UInt8} (h : fineO k S.sh a b n) (hr : Tl r) : scRd k { S with s := mkB (otL k a b n ++ r) } = some (upd k a b n { S with s := mkB r }) := by
  obtain ⟨h0, h1, h2, h3, h4⟩ := h
  have hk : k = 0 ∨ k = 1 ∨ k = 2 ∨ k = 3 ∨ k = 4 ∨ k = 5 := by omega
  rcases hk with rfl | rfl | rfl | rfl | rfl | rfl
  · exact scA_read (h0 rfl) S r
  · exact scB_read (h1 (Or.inl rfl)) S r
  · exact scN_read h3 S r hr.nd h2
  · by_cases hn : n = 0
    · subst hn
      exact scAd_zero (h1 (Or.inr (Or.inl rfl))) S r
    · have e1 : otL 3 a b n = 91 :: 114 :: UInt8.ofNat (48 + b.toNat) :: (sgL n ++ [93]) := by unfold otL; simp [hn]
      have e2 : ∀ T : Sc, upd 3 a b n T = { T with b := b, im := n } := by intro T; unfold upd; simp [hn]
      rw [e1, e2]
      have := scAd_read h3 (h1 (Or.inr (Or.inl rfl))) S r h2
      rw [show (91 :: 114 :: UInt8.ofNat (48 + b.toNat) :: (sgL n ++ [93])) ++ r = 91 :: 114 :: UInt8.ofNat (48 + b.toNat) :: (sgL n ++ 93 :: r) by simp]
      exact this
  · exact scInd_read (h1 (Or.inr (Or.inr rfl))) S r
  · exact scT_read h3 S r hr.nd
/-- The operands of a line, with what stands ahead of each. -/
def opL (a b n : Int) : List Nat → Bool → List UInt8
  | [], _ => []
  | k :: l, f => (if f = true then [32] else [44, 32]) ++ (otL k a b n ++ opL a b n l false)
def updL (a b n : Int) : List Nat → Sc → Sc
  | [], S => S
  | k :: l, S => updL a b n l (upd k a b n S)
theorem opL_tl (a b n : Int) : ∀ l, Tl (opL a b n l false)
  | [] => Or.inl rfl
  | _ :: _ => Or.inr ⟨_, rfl⟩
theorem nb_ot (k : Nat) (a b n : Int) (r : List UInt8) : NB (otL k a b n ++ r) := by
  unfold otL
  repeat' split
  · exact NB.cons _ (by decide)
  · exact NB.cons _ (by decide)
  · rcases Int.lt_or_le n 0 with hn | hn
    · rw [itoa_neg hn]; exact NB.cons _ (by decide)
    · rw [itoa_pos hn]; exact nb_dec _ _
  · exact NB.cons _ (by decide)
  · exact NB.cons _ (by decide)
  · exact NB.cons _ (by decide)
theorem sep_read (f : Bool) (S : Sc) (r : List UInt8) (h : NB r) : scSep f { S with s := mkB ((if f = true then [32] else [44, 32]) ++ r) } = some { S with s := mkB r } := by
  cases f
  · show scComma { S with s := mkB (44 :: 32 :: r) } = _
    unfold scComma cmB cmA
    dsimp only
    rw [af_id (NB.cons _ (by decide)), hp_cons, cp_cons, af_sp h, if_pos (by decide)]
  · show scGap { S with s := mkB (32 :: r) } = _
    unfold scGap
    dsimp only
    rw [af_sp h, mkB_size, mkB_size, if_pos (by simp)]
theorem upd_sh (k : Nat) (a b n : Int) (S : Sc) : (upd k a b n S).sh = S.sh := by unfold upd; (repeat' split) <;> rfl
theorem upd_s (k : Nat) (a b n : Int) (S : Sc) (t : ByteArray) : upd k a b n { S with s := t } = { upd k a b n S with s := t } := by
  unfold upd
  by_cases h0 : k = 0
  · simp only [h0, if_true]
  by_cases h1 : k = 1
  · simp [h1]
  by_cases h2 : k = 2
  · simp [h2]
  by_cases h5 : k = 5
  · simp [h5]
  by_cases h3 : k = 3 ∧ n ≠ 0
  · simp [h3]
  · simp only [h0, h1, h2, h5, h3, if_false]
theorem scOps_read {a b n : Int} : ∀ (l : List Nat) (f : Bool) (S : Sc), (∀ k ∈ l, fineO k S.sh a b n) → scOps l f { S with s := mkB (opL a b n l f) } = some (updL a b n l { S with s := mkB [] })
  | [], _, S, _ => rfl
  | k :: l, f, S, h => by
    show (scSep f { S with s := mkB ((if f = true then [32] else [44, 32]) ++ (otL k a b n ++ opL a b n l false)) }).bind _ = _
    rw [sep_read f S _ (nb_ot k a b n _)]
    show (scRd k { S with s := mkB (otL k a b n ++ opL a b n l false) }).bind _ = _
    rw [scRd_read S (h k List.mem_cons_self) (opL_tl a b n l)]
    show scOps l false (upd k a b n { S with s := mkB (opL a b n l false) }) = _
    rw [upd_s k a b n S (mkB (opL a b n l false)), scOps_read l false (upd k a b n S) (fun j hj => by rw [upd_sh]; exact h j (List.mem_cons_of_mem _ hj))]
    show _ = some (updL a b n l (upd k a b n { S with s := mkB [] }))
    rw [upd_s k a b n S (mkB [])]
end Go.Proofs.YtadiglonlchgaaaDoor
