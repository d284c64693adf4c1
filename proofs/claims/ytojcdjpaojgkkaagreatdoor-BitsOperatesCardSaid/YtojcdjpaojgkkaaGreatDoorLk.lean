/-
  Plain mathematics of layer 1: shifts.
-/
import Derived.Test.YtojcdjpaojgkkaaGreatDoorLg
namespace Go.Proofs.YtojcdjpaojgkkaaGreatDoor
open Go.RowKit

/-- 2 to a count. -/
theorem pow_pos2 (n : Nat) : (0 : Int) < 2 ^ n := Int.pow_pos (by decide)
theorem pow_le2 {a b : Nat} (h : a ≤ b) : (2 : Int) ^ a ≤ 2 ^ b := by
  have : (2 : Nat) ^ a ≤ 2 ^ b := Nat.pow_le_pow_right (by decide) h
  have h' : (((2 : Nat) ^ a : Nat) : Int) ≤ (((2 : Nat) ^ b : Nat) : Int) := Int.ofNat_le.2 this
  simpa using h'
/-- A value of a type, promoted, is itself. -/
theorem pro_id {s : Int} (v : validB s = true) (g : Bool) {x : Int} (h : Rg s g x) : wrapI (prS s) (prG s g) x = x := by
  apply wrap_Rg
  rcases (valid_iff s).1 v with rfl | rfl | rfl | rfl <;> cases g <;> simp [Rg, prS, prG] at h ⊢ <;> omega
theorem Rg_pro {s : Int} (v : validB s = true) (g : Bool) {x : Int} (h : Rg s g x) : Rg (prS s) (prG s g) x := by
  rcases (valid_iff s).1 v with rfl | rfl | rfl | rfl <;> cases g <;> simp [Rg, prS, prG] at h ⊢ <;> omega

/-- The count. -/
theorem cnt_id {S : Int} (hS : S = 4 ∨ S = 8) {n : Int} (h0 : 0 ≤ n) (h1 : n < 8 * S) : cntI S (wrapI 4 true n) = n := by
  have e : wrapI 4 true n = n := wrap_Rg 4 true n (by simp [Rg]; omega)
  rw [e, cntI_eq S n hS]
  rcases hS with rfl | rfl <;> omega

/-- What the shifts return. -/
def shlV (S : Int) (G : Bool) (x n : Int) : Int := wrapI S G (shlI x n)
def shrV (S : Int) (G : Bool) (x n : Int) : Int := wrapI S G (shrI G x n)
theorem shr_I64 {S : Int} (_ : S = 4 ∨ S = 8) (G : Bool) (x n : Int) (h : Rg S G x) : I64 (shrI G x n) := by
  cases G
  · exact w64_I64 _
  · have p := pow_pos2 n.toNat
    have hx := Rg_I64 h
    show I64 (x / 2 ^ n.toNat)
    unfold I64 at hx ⊢
    have a : x / 2 ^ n.toNat ≤ 9223372036854775807 := by
      by_cases h0 : 0 ≤ x
      · exact Int.le_trans (Int.ediv_le_self _ h0) hx.2
      · have := Int.ediv_neg_of_neg_of_pos (show x < 0 by omega) p
        omega
    have b : -9223372036854775808 ≤ x / 2 ^ n.toNat := by
      have : -9223372036854775808 * 2 ^ n.toNat ≤ x := by
        have : (-9223372036854775808 : Int) * 2 ^ n.toNat ≤ -9223372036854775808 * 1 := Int.mul_le_mul_of_nonpos_left (by omega) (by omega)
        omega
      exact (Int.le_ediv_iff_mul_le p).2 this
    exact ⟨b, a⟩
theorem shl_Rg (S : Int) (G : Bool) (x n : Int) : Rg S G (shlV S G x n) := Rg_wrap _ _ _ (w64_I64 _)
theorem shr_Rg {S : Int} (hS : S = 4 ∨ S = 8) (G : Bool) (x n : Int) (h : Rg S G x) : Rg S G (shrV S G x n) := Rg_wrap _ _ _ (shr_I64 hS G x n h)
theorem shl_Cg (S : Int) (G : Bool) (x n : Int) : Cg (Ms S) (shlV S G x n) (x * 2 ^ n.toNat) := ww_Cg S G _

/-- A shift to the left is a multiplication by a power of 2. -/
theorem shl_mul (S : Int) (G : Bool) (x w n : Int) (h : Cg (Ms S) w x) : wrapI S G (wrap64 (wrapI S G (wrapI S G w) * wrapI S G (wrapI S G (wrap64 (2 ^ n.toNat))))) = shlV S G x n := by
  refine Rg_one (Rg_wrap _ _ _ (w64_I64 _)) (shl_Rg _ _ _ _) ?_
  refine (ww_Cg S G _).trans (Cg.trans ?_ (shl_Cg S G x n).symm)
  exact (((w_Cg _ _ _).trans (w_Cg _ _ _)).trans h).mul ((w_Cg _ _ _).trans ((w_Cg _ _ _).trans (w64_Cg _ _)))
/-- Two shifts to the left are one. -/
theorem shl_two (S : Int) (G : Bool) (x a b : Int) (ha : 0 ≤ a) (hb : 0 ≤ b) : shlV S G (shlV S G x a) b = shlV S G x (a + b) := by
  refine Rg_one (shl_Rg _ _ _ _) (shl_Rg _ _ _ _) ?_
  refine (shl_Cg _ _ _ _).trans (((shl_Cg S G x a).mulr _).trans (Cg.trans (Cg.of ?_) (shl_Cg S G x (a + b)).symm))
  rw [Int.mul_assoc, ← Int.pow_add, show (a + b).toNat = a.toNat + b.toNat by omega]

/-- The value of a shift to the right. -/
theorem shr_true {S : Int} (hS : S = 4 ∨ S = 8) (x n : Int) (h : Rg S true x) : shrV S true x n = x / 2 ^ n.toNat := by
  show wrapI S true (x / 2 ^ n.toNat) = _
  apply wrap_Rg
  have p := pow_pos2 n.toNat
  have key : ∀ B : Int, 0 ≤ B → -B - 1 ≤ x → x ≤ B → -B - 1 ≤ x / 2 ^ n.toNat ∧ x / 2 ^ n.toNat ≤ B := by
    intro B hB h1 h2
    constructor
    · refine (Int.le_ediv_iff_mul_le p).2 ?_
      have : (-B - 1) * 2 ^ n.toNat ≤ (-B - 1) * 1 := Int.mul_le_mul_of_nonpos_left (by omega) (by omega)
      omega
    · by_cases h0 : 0 ≤ x
      · exact Int.le_trans (Int.ediv_le_self _ h0) h2
      · have := Int.ediv_neg_of_neg_of_pos (show x < 0 by omega) p
        omega
  rcases hS with rfl | rfl
  · simp [Rg] at h ⊢
    have := key 2147483647 (by omega) (by omega) (by omega)
    omega
  · simp [Rg] at h ⊢
    have := key 9223372036854775807 (by omega) (by omega) (by omega)
    omega
theorem u64_bd (x : Int) : 0 ≤ u64 x ∧ u64 x < 18446744073709551616 := by rw [u64_eq]; omega
theorem div_bd (x : Int) (hx : 0 ≤ x) (n : Nat) : 0 ≤ x / 2 ^ n ∧ x / 2 ^ n ≤ x := ⟨Int.ediv_nonneg hx (Int.le_of_lt (pow_pos2 n)), Int.ediv_le_self _ hx⟩
theorem Rg4f_u64 {x : Int} (h : Rg 4 false x) : u64 x = x ∧ 0 ≤ x ∧ x ≤ 4294967295 := by
  simp [Rg] at h
  rw [u64_eq]; omega
/-- The number of a shift to the right without a sign. -/
theorem shr_false {S : Int} (hS : S = 4 ∨ S = 8) (x n : Int) (h : Rg S false x) : u64 (shrV S false x n) = u64 x / 2 ^ n.toNat := by
  show u64 (wrapI S false (wrap64 (u64 x / 2 ^ n.toNat))) = _
  have b := u64_bd x
  have d := div_bd (u64 x) b.1 n.toNat
  rcases hS with rfl | rfl
  · have r := Rg4f_u64 h
    rw [r.1] at d ⊢
    generalize x / 2 ^ n.toNat = q at *
    have : wrapI 4 false (wrap64 q) = q := by simp [wrapI, wrap64]; omega
    rw [this, u64_eq]; omega
  · generalize u64 x / 2 ^ n.toNat = q at *
    rw [u64_eq]; simp [wrapI, wrap64]; omega
/-- Two shifts to the right are one. -/
theorem shr_two {S : Int} (hS : S = 4 ∨ S = 8) (G : Bool) (x a b : Int) (ha : 0 ≤ a) (hb : 0 ≤ b) (h : Rg S G x) : shrV S G (shrV S G x a) b = shrV S G x (a + b) := by
  have e : (a + b).toNat = a.toNat + b.toNat := by omega
  cases G
  · show wrapI S false (wrap64 (u64 (shrV S false x a) / 2 ^ b.toNat)) = wrapI S false (wrap64 (u64 x / 2 ^ (a + b).toNat))
    rw [shr_false hS x a h, Int.ediv_ediv_of_nonneg (Int.le_of_lt (pow_pos2 _)), ← Int.pow_add, e]
  · rw [shr_true hS _ b (shr_Rg hS true x a h), shr_true hS x a h, shr_true hS x (a + b) h, Int.ediv_ediv_of_nonneg (Int.le_of_lt (pow_pos2 _)), ← Int.pow_add, e]

/-- A shift to the right is a division by a power of 2. -/
theorem pow_B {S : Int} (hS : S = 4 ∨ S = 8) {n : Int} (h0 : 0 ≤ n) (h1 : n < 8 * S) : u64 (wrapI S false (wrapI S false (wrap64 (2 ^ n.toNat)))) = 2 ^ n.toNat ∧ wrapI S false (wrapI S false (wrap64 (2 ^ n.toNat))) ≠ 0 := by
  have p := pow_pos2 n.toNat
  rcases hS with rfl | rfl
  · have l := pow_le2 (a := n.toNat) (b := 31) (by omega)
    have l' : (2 : Int) ^ 31 = 2147483648 := by decide
    rw [l'] at l
    generalize (2 : Int) ^ n.toNat = q at *
    have : wrapI 4 false (wrapI 4 false (wrap64 q)) = q := by simp [wrapI, wrap64]; omega
    rw [this, u64_eq]; omega
  · have l := pow_le2 (a := n.toNat) (b := 63) (by omega)
    have l' : (2 : Int) ^ 63 = 9223372036854775808 := by decide
    rw [l'] at l
    generalize (2 : Int) ^ n.toNat = q at *
    rw [u64_eq]; simp [wrapI, wrap64]; omega
theorem pow_T {S : Int} (hS : S = 4 ∨ S = 8) {n : Int} (h0 : 0 ≤ n) (h1 : n < 8 * S - 1) : wrapI S true (wrapI S true (wrap64 (2 ^ n.toNat))) = 2 ^ n.toNat := by
  have p := pow_pos2 n.toNat
  rcases hS with rfl | rfl
  · have l := pow_le2 (a := n.toNat) (b := 30) (by omega)
    have l' : (2 : Int) ^ 30 = 1073741824 := by decide
    rw [l'] at l
    generalize (2 : Int) ^ n.toNat = q at *
    simp [wrapI, wrap64]; omega
  · have l := pow_le2 (a := n.toNat) (b := 62) (by omega)
    have l' : (2 : Int) ^ 62 = 4611686018427387904 := by decide
    rw [l'] at l
    generalize (2 : Int) ^ n.toNat = q at *
    simp [wrapI, wrap64]; omega
theorem shr_div_true {S : Int} (hS : S = 4 ∨ S = 8) (x n : Int) (h : Rg S true x) (hx : 0 ≤ x) (h0 : 0 ≤ n) (h1 : n < 8 * S - 1) :
    wrapI S true (quoI true x (wrapI S true (wrapI S true (wrap64 (2 ^ n.toNat))))) = shrV S true x n := by
  rw [pow_T hS h0 h1]
  show wrapI S true (wrap64 (x.tdiv (2 ^ n.toNat))) = wrapI S true (x / 2 ^ n.toNat)
  have e : x.tdiv (2 ^ n.toNat) = x / 2 ^ n.toNat := Int.tdiv_eq_ediv_of_nonneg hx
  rw [e]
  have d := div_bd x hx n.toNat
  have hI := Rg_I64 h
  have : wrap64 (x / 2 ^ n.toNat) = x / 2 ^ n.toNat := by
    generalize x / 2 ^ n.toNat = q at *
    unfold I64 at hI; unfold wrap64; omega
  rw [this]
theorem shr_div_false {S : Int} (hS : S = 4 ∨ S = 8) (x n : Int) (h0 : 0 ≤ n) (h1 : n < 8 * S) :
    wrapI S false (quoI false x (wrapI S false (wrapI S false (wrap64 (2 ^ n.toNat))))) = shrV S false x n := by
  show wrapI S false (wrap64 (u64 ((u64 x).tdiv (u64 (wrapI S false (wrapI S false (wrap64 (2 ^ n.toNat)))))))) = wrapI S false (wrap64 (u64 x / 2 ^ n.toNat))
  rw [(pow_B hS h0 h1).1]
  have b := u64_bd x
  have e : (u64 x).tdiv (2 ^ n.toNat) = u64 x / 2 ^ n.toNat := Int.tdiv_eq_ediv_of_nonneg b.1
  rw [e]
  have d := div_bd (u64 x) b.1 n.toNat
  have : u64 (u64 x / 2 ^ n.toNat) = u64 x / 2 ^ n.toNat := by
    generalize u64 x / 2 ^ n.toNat = q at *
    rw [u64_eq]; omega
  rw [this]
end Go.Proofs.YtojcdjpaojgkkaaGreatDoor
