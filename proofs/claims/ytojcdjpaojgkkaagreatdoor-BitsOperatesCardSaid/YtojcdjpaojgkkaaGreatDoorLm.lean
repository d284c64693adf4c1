/-
  Plain mathematics of layer 1: the division theorem.
-/
import Derived.Test.YtojcdjpaojgkkaaGreatDoorMathc
namespace Go.Proofs.YtojcdjpaojgkkaaGreatDoor
open Go.RowKit

/-- The numbers that values of a type stand as. -/
def Rg (s : Int) (g : Bool) (x : Int) : Prop :=
  if s = 1 then (if g = true then -128 ≤ x ∧ x ≤ 127 else 0 ≤ x ∧ x ≤ 255)
  else if s = 2 then (if g = true then -32768 ≤ x ∧ x ≤ 32767 else 0 ≤ x ∧ x ≤ 65535)
  else if s = 4 then (if g = true then -2147483648 ≤ x ∧ x ≤ 2147483647 else 0 ≤ x ∧ x ≤ 4294967295)
  else -9223372036854775808 ≤ x ∧ x ≤ 9223372036854775807
theorem Rg_wrap (s : Int) (g : Bool) (v : Int) (h : I64 v) : Rg s g (wrapI s g v) := by
  obtain ⟨h1, h2⟩ := h
  unfold Rg wrapI
  split
  · split <;> omega
  · split
    · split <;> omega
    · split
      · split <;> omega
      · omega
theorem wrap_Rg (s : Int) (g : Bool) (v : Int) (h : Rg s g v) : wrapI s g v = v := by
  unfold Rg at h
  unfold wrapI
  split
  · simp_all; split <;> simp_all <;> omega
  · split
    · simp_all; split <;> simp_all <;> omega
    · split
      · simp_all; split <;> simp_all <;> omega
      · rfl
theorem Rg_I64 {s : Int} {g : Bool} {v : Int} (h : Rg s g v) : I64 v := by
  unfold Rg at h
  unfold I64
  split at h
  · split at h <;> omega
  · split at h
    · split at h <;> omega
    · split at h
      · split at h <;> omega
      · omega
theorem w64_I64 (z : Int) : I64 (wrap64 z) := by unfold I64 wrap64; omega

/-- Wrapping takes away a multiple. -/
theorem w64_k (z : Int) : ∃ k, wrap64 z = z + 18446744073709551616 * k := ⟨(wrap64 z - z) / 18446744073709551616, by unfold wrap64; omega⟩
theorem w4t_k (z : Int) : ∃ k, wrapI 4 true z = z + 4294967296 * k := ⟨(wrapI 4 true z - z) / 4294967296, by simp [wrapI]; omega⟩
theorem w4f_k (z : Int) : ∃ k, wrapI 4 false z = z + 4294967296 * k := ⟨(wrapI 4 false z - z) / 4294967296, by simp [wrapI]; omega⟩

theorem tmod_bd (x y : Int) (_ : y ≠ 0) : (0 < y → -y < x.tmod y ∧ x.tmod y < y) ∧ (y < 0 → y < x.tmod y ∧ x.tmod y < -y) := by
  have h1 := Int.tmod_lt_of_pos x (b := y)
  have h2 := Int.tmod_neg x y
  constructor
  · intro hp
    refine ⟨?_, Int.tmod_lt_of_pos x hp⟩
    have := Int.tmod_lt_of_pos (-x) hp
    rw [Int.neg_tmod] at this
    omega
  · intro hn
    have hp : 0 < -y := by omega
    have a := Int.tmod_lt_of_pos x hp
    have b := Int.tmod_lt_of_pos (-x) hp
    rw [Int.tmod_neg] at a
    rw [Int.tmod_neg, Int.neg_tmod] at b
    omega
theorem tmod_sign (x y : Int) : (0 ≤ x → 0 ≤ x.tmod y) ∧ (x ≤ 0 → x.tmod y ≤ 0) := by
  constructor
  · exact fun h => Int.tmod_nonneg y h
  · intro h
    have := Int.tmod_nonneg y (a := -x) (by omega)
    rw [Int.neg_tmod] at this
    omega
theorem tdiv_eq (x y : Int) : x.tdiv y * y + x.tmod y = x := by
  have := Int.mul_tdiv_add_tmod x y
  rw [Int.mul_comm] at this
  exact this

/-- The remainder, wrapped. -/
theorem rem_true (S : Int) (hS : S = 4 ∨ S = 8) (x y : Int) (hx : Rg S true x) (hy : Rg S true y) (h0 : y ≠ 0) : wrapI S true (remI true x y) = x.tmod y := by
  apply wrap_Rg
  have b := tmod_bd x y h0
  have s := tmod_sign x y
  show Rg S true (x.tmod y)
  rcases hS with rfl | rfl
  · simp [Rg] at hx hy ⊢; omega
  · simp [Rg] at hx hy ⊢; omega

/-- Equal but for a multiple. -/
def Cg (M a b : Int) : Prop := ∃ k, a = b + M * k
theorem Cg.refl (M a : Int) : Cg M a a := ⟨0, by simp⟩
theorem Cg.of {M a b : Int} (h : a = b) : Cg M a b := h ▸ Cg.refl M a
theorem Cg.trans {M a b c : Int} (h : Cg M a b) (k : Cg M b c) : Cg M a c := by
  obtain ⟨k1, e1⟩ := h; obtain ⟨k2, e2⟩ := k
  exact ⟨k1 + k2, by rw [e1, e2, Int.mul_add]; omega⟩
theorem Cg.symm {M a b : Int} (h : Cg M a b) : Cg M b a := by
  obtain ⟨k1, e1⟩ := h
  exact ⟨-k1, by rw [e1, Int.mul_neg]; omega⟩
theorem Cg.add {M a b c d : Int} (h : Cg M a b) (k : Cg M c d) : Cg M (a + c) (b + d) := by
  obtain ⟨k1, e1⟩ := h; obtain ⟨k2, e2⟩ := k
  exact ⟨k1 + k2, by rw [e1, e2, Int.mul_add]; omega⟩
theorem Cg.sub {M a b c d : Int} (h : Cg M a b) (k : Cg M c d) : Cg M (a - c) (b - d) := by
  obtain ⟨k1, e1⟩ := h; obtain ⟨k2, e2⟩ := k
  exact ⟨k1 - k2, by rw [e1, e2, Int.mul_sub]; omega⟩
theorem Cg.mulr {M a b : Int} (h : Cg M a b) (c : Int) : Cg M (a * c) (b * c) := by
  obtain ⟨k1, e1⟩ := h
  exact ⟨k1 * c, by rw [e1, Int.add_mul, Int.mul_assoc]⟩
theorem Cg.mull {M a b : Int} (h : Cg M a b) (c : Int) : Cg M (c * a) (c * b) := by
  rw [Int.mul_comm c a, Int.mul_comm c b]
  exact h.mulr c
theorem Cg.mul {M a b c d : Int} (h : Cg M a b) (k : Cg M c d) : Cg M (a * c) (b * d) := (h.mulr c).trans (k.mull b)

/-- 2 to the width. -/
def Ms (s : Int) : Int := if s = 1 then 256 else if s = 2 then 65536 else if s = 4 then 4294967296 else 18446744073709551616
theorem w_Cg (s : Int) (g : Bool) (z : Int) : Cg (Ms s) (wrapI s g z) z := by
  unfold Ms wrapI
  split
  · split
    · exact ⟨((z + 128) % 256 - 128 - z) / 256, by omega⟩
    · exact ⟨(z % 256 - z) / 256, by omega⟩
  · split
    · split
      · exact ⟨((z + 32768) % 65536 - 32768 - z) / 65536, by omega⟩
      · exact ⟨(z % 65536 - z) / 65536, by omega⟩
    · split
      · split
        · exact ⟨((z + 2147483648) % 4294967296 - 2147483648 - z) / 4294967296, by omega⟩
        · exact ⟨(z % 4294967296 - z) / 4294967296, by omega⟩
      · exact Cg.refl _ _
theorem w64_Cg (s : Int) (z : Int) : Cg (Ms s) (wrap64 z) z := by
  obtain ⟨k, e⟩ := w64_k z
  unfold Ms
  split
  · exact ⟨72057594037927936 * k, by omega⟩
  · split
    · exact ⟨281474976710656 * k, by omega⟩
    · split
      · exact ⟨4294967296 * k, by omega⟩
      · exact ⟨k, e⟩
theorem u64_Cg (s : Int) (z : Int) : Cg (Ms s) (u64 z) z := by
  have e : u64 z = z + 18446744073709551616 * ((u64 z - z) / 18446744073709551616) := by rw [u64_eq]; omega
  generalize (u64 z - z) / 18446744073709551616 = k at e
  unfold Ms
  split
  · exact ⟨72057594037927936 * k, by omega⟩
  · split
    · exact ⟨281474976710656 * k, by omega⟩
    · split
      · exact ⟨4294967296 * k, by omega⟩
      · exact ⟨k, e⟩
theorem ww_Cg (s : Int) (g : Bool) (z : Int) : Cg (Ms s) (wrapI s g (wrap64 z)) z := (w_Cg s g _).trans (w64_Cg s z)
theorem Rg_one {s : Int} {g : Bool} {a b : Int} (ha : Rg s g a) (hb : Rg s g b) (h : Cg (Ms s) a b) : a = b := by
  obtain ⟨k, e⟩ := h
  unfold Rg at ha hb
  unfold Ms at e
  by_cases h1 : s = 1
  · simp only [h1, if_true] at ha hb e; cases g <;> simp at ha hb <;> omega
  · by_cases h2 : s = 2
    · simp [h2] at ha hb e; cases g <;> simp at ha hb <;> omega
    · by_cases h4 : s = 4
      · simp [h4] at ha hb e; cases g <;> simp at ha hb <;> omega
      · simp only [h1, h2, h4, if_false] at ha hb e; omega

/-- The quotient and the remainder, wrapped, make the dividend. -/
theorem div_ring (s : Int) (g : Bool) (x y : Int) (hx : Rg s g x) :
    wrapI s g (wrap64 (wrapI s g (wrap64 (wrapI s g (quoI g x y) * y)) + wrapI s g (remI g x y))) = x := by
  refine Rg_one (Rg_wrap s g _ (w64_I64 _)) hx ?_
  have hq : Cg (Ms s) (wrapI s g (quoI g x y) * y) ((if g = true then x.tdiv y else (u64 x).tdiv (u64 y)) * (if g = true then y else u64 y)) := by
    refine Cg.mul ?_ ?_
    · cases g
      · exact (w_Cg _ _ _).trans ((w64_Cg _ _).trans (u64_Cg _ _))
      · exact ww_Cg _ _ _
    · cases g
      · exact (u64_Cg s y).symm
      · exact Cg.refl _ _
  have hr : Cg (Ms s) (wrapI s g (remI g x y)) (if g = true then x.tmod y else (u64 x).tmod (u64 y)) := by
    cases g
    · exact (w_Cg _ _ _).trans (w64_Cg _ _)
    · exact w_Cg _ _ _
  refine (ww_Cg s g _).trans ((((ww_Cg s g _).trans hq).add hr).trans ?_)
  cases g
  · show Cg _ ((u64 x).tdiv (u64 y) * u64 y + (u64 x).tmod (u64 y)) x
    rw [tdiv_eq]
    exact u64_Cg s x
  · show Cg _ (x.tdiv y * y + x.tmod y) x
    rw [tdiv_eq]
    exact Cg.refl _ _

/-- The remainder of numbers without a sign is less than the divisor. -/
theorem rem_false (S : Int) (hS : S = 4 ∨ S = 8) (x y : Int) (hx : Rg S false x) (hy : Rg S false y) (h0 : y ≠ 0) : u64 (wrapI S false (remI false x y)) < u64 y := by
  have hy0 : 0 < u64 y := by
    have := u64_ne (Rg_I64 hy) h0
    have : 0 ≤ u64 y := by rw [u64_eq]; omega
    omega
  have hx0 : 0 ≤ u64 x := by rw [u64_eq]; omega
  have h1 := Int.tmod_lt_of_pos (u64 x) hy0
  have h2 := Int.tmod_nonneg (u64 y) hx0
  show u64 (wrapI S false (wrap64 ((u64 x).tmod (u64 y)))) < u64 y
  have hyM : u64 y ≤ 18446744073709551615 := by rw [u64_eq]; omega
  generalize hz : (u64 x).tmod (u64 y) = z at h1 h2
  rcases hS with rfl | rfl
  · have e : u64 y = y := by simp [Rg] at hy; rw [u64_eq]; omega
    have b : y ≤ 4294967295 := by simp [Rg] at hy; exact hy.2
    have : wrapI 4 false (wrap64 z) = z := by simp [wrapI, wrap64]; omega
    rw [this, show u64 z = z by rw [u64_eq]; omega]
    exact h1
  · have : u64 (wrapI 8 false (wrap64 z)) = z := by rw [u64_eq]; simp [wrapI, wrap64]; omega
    rw [this]
    exact h1
end Go.Proofs.YtojcdjpaojgkkaaGreatDoor
