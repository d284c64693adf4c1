/-
  Plain mathematics of layer 1: the ring of addition, subtraction, multiplication and the bitwise operations, modulo 2 to a width.
-/
import Derived.Test.YtojcdjpaojgkkaaGreatDoorLm
namespace Go.Proofs.YtojcdjpaojgkkaaGreatDoor
open Go.RowKit

/-- The operations of the ring. -/
@[reducible] def isRing (n : Int) : Prop := n = 1 ∨ n = 2 ∨ n = 3 ∨ n = 6 ∨ n = 7 ∨ n = 8

/-- The width of a type. -/
def Ew (s : Int) : Nat := if s = 1 then 8 else if s = 2 then 16 else if s = 4 then 32 else 64
theorem Ms_pow (s : Int) : Ms s = ((2 ^ Ew s : Nat) : Int) := by
  unfold Ms Ew
  split
  · rfl
  · split
    · rfl
    · split <;> rfl
theorem Ew_le (s : Int) : Ew s ≤ 64 := by
  unfold Ew
  split
  · omega
  · split
    · omega
    · split <;> omega

/-- The pattern of 64 bits. -/
def un (x : Int) : Nat := (x % 18446744073709551616).toNat
theorem un_Cg (s : Int) (x : Int) : Cg (Ms s) (un x : Int) x := by
  have e : (un x : Int) = x + 18446744073709551616 * (-(x / 18446744073709551616)) := by unfold un; omega
  rw [e]
  generalize -(x / 18446744073709551616) = k
  unfold Ms
  split
  · exact ⟨72057594037927936 * k, by omega⟩
  · split
    · exact ⟨281474976710656 * k, by omega⟩
    · split
      · exact ⟨4294967296 * k, by omega⟩
      · exact ⟨k, rfl⟩
theorem Cg_mod {n : Nat} {a b : Nat} (h : Cg ((2 ^ n : Nat) : Int) (a : Int) (b : Int)) : a % 2 ^ n = b % 2 ^ n := by
  obtain ⟨k, e⟩ := h
  have : ((a % 2 ^ n : Nat) : Int) = ((b % 2 ^ n : Nat) : Int) := by
    rw [Int.natCast_emod, Int.natCast_emod, e, Int.add_mul_emod_self_left]
  exact Int.ofNat.inj this
theorem Cg_of_mod {n : Nat} {a b : Nat} (h : a % 2 ^ n = b % 2 ^ n) : Cg ((2 ^ n : Nat) : Int) (a : Int) (b : Int) := by
  refine ⟨((a / 2 ^ n : Nat) : Int) - ((b / 2 ^ n : Nat) : Int), ?_⟩
  have h1 := Nat.mod_add_div a (2 ^ n)
  have h2 := Nat.mod_add_div b (2 ^ n)
  rw [h] at h1
  rw [Int.mul_sub, ← Int.natCast_mul, ← Int.natCast_mul]
  omega

/-- The operation on patterns. -/
def bo (n : Int) (a b : Nat) : Nat := if n = 6 then a &&& b else if n = 7 then a ||| b else a ^^^ b
theorem bo_mod (n : Int) (k a b : Nat) : bo n a b % 2 ^ k = bo n (a % 2 ^ k) (b % 2 ^ k) := by
  unfold bo
  split
  · exact Nat.and_mod_two_pow
  · split
    · exact Nat.or_mod_two_pow
    · exact Nat.xor_mod_two_pow
theorem bo_comm (n : Int) (a b : Nat) : bo n a b = bo n b a := by
  unfold bo
  split
  · exact Nat.and_comm _ _
  · split
    · exact Nat.or_comm _ _
    · exact Nat.xor_comm _ _
theorem bo_assoc (n : Int) (a b c : Nat) : bo n (bo n a b) c = bo n a (bo n b c) := by
  unfold bo
  split
  · exact Nat.and_assoc _ _ _
  · split
    · exact Nat.or_assoc _ _ _
    · exact Nat.xor_assoc _ _ _

/-- The operations as plain functions. -/
def ringF (n : Int) (x y : Int) : Int :=
  if n = 1 then x + y else if n = 2 then x - y else if n = 3 then x * y else (bo n (un x) (un y) : Int)
theorem ringF_Cg (n : Int) (s : Int) {x x' y y' : Int} (h : Cg (Ms s) x x') (k : Cg (Ms s) y y') : Cg (Ms s) (ringF n x y) (ringF n x' y') := by
  unfold ringF
  split
  · exact h.add k
  · split
    · exact h.sub k
    · split
      · exact h.mul k
      · have h' : Cg (Ms s) (un x : Int) (un x' : Int) := (un_Cg s x).trans (h.trans (un_Cg s x').symm)
        have k' : Cg (Ms s) (un y : Int) (un y' : Int) := (un_Cg s y).trans (k.trans (un_Cg s y').symm)
        rw [Ms_pow] at h' k' ⊢
        apply Cg_of_mod
        rw [bo_mod, Cg_mod h', Cg_mod k', ← bo_mod]
theorem ringF_comm (n : Int) (h : n ≠ 2) (x y : Int) : ringF n x y = ringF n y x := by
  by_cases h1 : n = 1
  · simp only [ringF, if_pos h1]; omega
  · by_cases h3 : n = 3
    · simp only [ringF, if_neg h1, if_neg h, if_pos h3]; exact Int.mul_comm _ _
    · simp only [ringF, if_neg h1, if_neg h, if_neg h3]; rw [bo_comm]
theorem ringF_assoc (n : Int) (h : n ≠ 2) (s : Int) (x y z : Int) : Cg (Ms s) (ringF n (ringF n x y) z) (ringF n x (ringF n y z)) := by
  by_cases h1 : n = 1
  · simp only [ringF, if_pos h1]; exact Cg.of (by omega)
  · by_cases h3 : n = 3
    · simp only [ringF, if_neg h1, if_neg h, if_pos h3]; exact Cg.of (Int.mul_assoc _ _ _)
    · simp only [ringF, if_neg h1, if_neg h, if_neg h3]
      have a := un_Cg s (bo n (un x) (un y) : Int)
      have b := un_Cg s (bo n (un y) (un z) : Int)
      rw [Ms_pow] at a b ⊢
      apply Cg_of_mod
      rw [bo_mod, Cg_mod a, ← bo_mod, bo_assoc, bo_mod, ← Cg_mod b, ← bo_mod]

theorem ofInt_un (x : Int) : (BitVec.ofInt 64 x).toNat = un x := by
  rw [BitVec.toNat_ofInt]
  rfl
theorem bits6 (x y : Int) : bits .and .i64 x y = wrap64 (bo 6 (un x) (un y) : Int) := by
  show IntKind.i64.wrap ((BitVec.ofInt 64 x &&& BitVec.ofInt 64 y).toNat : Nat) = _
  rw [BitVec.toNat_and, ofInt_un, ofInt_un, IntKind.wrap_i64]
  simp [bo, wrap64]
theorem bits7 (x y : Int) : bits .or .i64 x y = wrap64 (bo 7 (un x) (un y) : Int) := by
  show IntKind.i64.wrap ((BitVec.ofInt 64 x ||| BitVec.ofInt 64 y).toNat : Nat) = _
  rw [BitVec.toNat_or, ofInt_un, ofInt_un, IntKind.wrap_i64]
  simp [bo, wrap64]
theorem bits8 (x y : Int) : bits .xor .i64 x y = wrap64 (bo 8 (un x) (un y) : Int) := by
  show IntKind.i64.wrap ((BitVec.ofInt 64 x ^^^ BitVec.ofInt 64 y).toNat : Nat) = _
  rw [BitVec.toNat_xor, ofInt_un, ofInt_un, IntKind.wrap_i64]
  simp [bo, wrap64]

/-- What an operation computes is the plain function but for a multiple. -/
theorem arI_Cg (n : Int) (h : n = 1 ∨ n = 2 ∨ n = 3 ∨ n = 6 ∨ n = 7 ∨ n = 8) (g : Bool) (s x y : Int) : Cg (Ms s) (arI n g x y) (ringF n x y) := by
  rcases h with rfl | rfl | rfl | rfl | rfl | rfl
  · exact w64_Cg s _
  · exact w64_Cg s _
  · exact w64_Cg s _
  · show Cg (Ms s) (bits .and .i64 x y) _
    rw [bits6]; exact w64_Cg s _
  · show Cg (Ms s) (bits .or .i64 x y) _
    rw [bits7]; exact w64_Cg s _
  · show Cg (Ms s) (bits .xor .i64 x y) _
    rw [bits8]; exact w64_Cg s _
theorem arI_I64 (n : Int) (h : n = 1 ∨ n = 2 ∨ n = 3 ∨ n = 6 ∨ n = 7 ∨ n = 8) (g : Bool) (x y : Int) : I64 (arI n g x y) := by
  rcases h with rfl | rfl | rfl | rfl | rfl | rfl
  · exact w64_I64 _
  · exact w64_I64 _
  · exact w64_I64 _
  · show I64 (bits .and .i64 x y)
    rw [bits6]; exact w64_I64 _
  · show I64 (bits .or .i64 x y)
    rw [bits7]; exact w64_I64 _
  · show I64 (bits .xor .i64 x y)
    rw [bits8]; exact w64_I64 _

/-- Congruent by the wider type, so by the narrower one. -/
theorem Cg.low {s t a b : Int} (h : Cg (Ms s) a b) (hd : ∃ d, Ms s = Ms t * d) : Cg (Ms t) a b := by
  obtain ⟨d, e⟩ := hd
  obtain ⟨k, e'⟩ := h
  exact ⟨d * k, by rw [e', e, Int.mul_assoc]⟩
theorem Ms_dvd {s t : Int} (hs : validB s = true) (ht : validB t = true) (h : t ≤ s) : ∃ d, Ms s = Ms t * d := by
  rcases (valid_iff s).1 hs with rfl | rfl | rfl | rfl <;> rcases (valid_iff t).1 ht with rfl | rfl | rfl | rfl
  all_goals first | omega | exact ⟨1, by decide⟩ | exact ⟨256, by decide⟩ | exact ⟨65536, by decide⟩ | exact ⟨16777216, by decide⟩ | exact ⟨4294967296, by decide⟩ | exact ⟨281474976710656, by decide⟩ | exact ⟨72057594037927936, by decide⟩

/-- The value of an operation on two values of one type. -/
def opV (n : Int) (s : Int) (g : Bool) (a b : Int) : Int := wrapI (prS s) (prG s g) (arI n (prG s g) (wrapI (prS s) (prG s g) (wrapI s g a)) (wrapI (prS s) (prG s g) (wrapI s g b)))
theorem prS_valid {s : Int} (v : validB s = true) : validB (prS s) = true := by rcases prS_of s v with h | h <;> rw [h] <;> rfl
theorem prS_ge {s : Int} (_ : validB s = true) : s ≤ prS s := by unfold prS; split <;> omega
theorem opV_Rg (n : Int) (h : isRing n) (s : Int) (g : Bool) (a b : Int) : Rg (prS s) (prG s g) (opV n s g a b) := Rg_wrap _ _ _ (arI_I64 n h _ _ _)
theorem opV_CgP (n : Int) (h : isRing n) (s : Int) (g : Bool) (a b : Int) : Cg (Ms (prS s)) (opV n s g a b) (ringF n (wrapI s g a) (wrapI s g b)) :=
  (w_Cg _ _ _).trans ((arI_Cg n h _ _ _ _).trans (ringF_Cg n _ (w_Cg _ _ _) (w_Cg _ _ _)))
theorem opV_Cg (n : Int) (h : isRing n) {s : Int} (v : validB s = true) (g : Bool) (a b : Int) : Cg (Ms s) (opV n s g a b) (ringF n a b) :=
  ((opV_CgP n h s g a b).low (Ms_dvd (prS_valid v) v (prS_ge v))).trans (ringF_Cg n s (w_Cg _ _ _) (w_Cg _ _ _))

/-- Wrapping the result is the operation on wrapped operands. -/
theorem ring_wrap (n : Int) (h : isRing n) {c : Int} (gc : Bool) {t : Int} (gt : Bool) (vc : validB c = true) (vt : validB t = true) (hl : t ≤ c) (a b : Int) :
    wrapI t gt (opV n t gt (wrapI t gt a) (wrapI t gt b)) = wrapI t gt (opV n c gc a b) := by
  refine Rg_one (Rg_wrap _ _ _ (Rg_I64 (opV_Rg n h t gt _ _))) (Rg_wrap _ _ _ (Rg_I64 (opV_Rg n h c gc _ _))) ?_
  refine (w_Cg _ _ _).trans (((opV_Cg n h vt gt _ _).trans (ringF_Cg n t (w_Cg _ _ _) (w_Cg _ _ _))).trans ?_)
  exact (((opV_Cg n h vc gc a b).low (Ms_dvd vc vt hl)).symm).trans (w_Cg _ _ _).symm
theorem ring_comm (n : Int) (h : isRing n) (h2 : n ≠ 2) (c : Int) (gc : Bool) (a b : Int) : opV n c gc b a = opV n c gc a b := by
  refine Rg_one (opV_Rg n h _ _ _ _) (opV_Rg n h _ _ _ _) ?_
  refine (opV_CgP n h c gc b a).trans ?_
  rw [ringF_comm n h2]
  exact (opV_CgP n h c gc a b).symm
theorem ring_assoc (n : Int) (h : isRing n) (h2 : n ≠ 2) {S : Int} (v : validB S = true) (hS : prS S = S) (G : Bool) (hG : prG S G = G) (a b c : Int) :
    opV n S G a (opV n S G b c) = opV n S G (opV n S G a b) c := by
  have r1 := opV_Rg n h S G a (opV n S G b c)
  have r2 := opV_Rg n h S G (opV n S G a b) c
  rw [hS, hG] at r1 r2
  refine Rg_one r1 r2 ?_
  refine ((opV_Cg n h v G _ _).trans (ringF_Cg n S (Cg.refl _ _) (opV_Cg n h v G b c))).trans ?_
  refine (ringF_assoc n h2 S a b c).symm.trans ?_
  exact ((opV_Cg n h v G _ _).trans (ringF_Cg n S (opV_Cg n h v G a b) (Cg.refl _ _))).symm
/-- A subtraction undoes an addition. -/
theorem ring_undo {c : Int} (gc : Bool) (a b : Int) (ha : I64 a) :
    wrapI (prS c) (prG c gc) (arI 2 (prG c gc) (wrapI (prS c) (prG c gc) (wrapI (prS c) (prG c gc) (opV 1 c gc a b))) (wrapI (prS c) (prG c gc) (wrapI c gc b))) = wrapI (prS c) (prG c gc) (wrapI c gc a) := by
  have e : Cg (Ms (prS c)) (wrapI (prS c) (prG c gc) (arI 2 (prG c gc) (wrapI (prS c) (prG c gc) (wrapI (prS c) (prG c gc) (opV 1 c gc a b))) (wrapI (prS c) (prG c gc) (wrapI c gc b)))) (wrapI (prS c) (prG c gc) (wrapI c gc a)) := by
    refine (w_Cg _ _ _).trans ((w64_Cg _ _).trans (((((w_Cg _ _ _).trans (w_Cg _ _ _)).trans (opV_CgP 1 (.inl rfl) c gc a b)).sub (w_Cg _ _ _)).trans ?_))
    refine Cg.trans (Cg.of ?_) (w_Cg _ _ _).symm
    show wrapI c gc a + wrapI c gc b - wrapI c gc b = wrapI c gc a
    omega
  exact Rg_one (Rg_wrap _ _ _ (w64_I64 _)) (Rg_wrap _ _ _ (Rg_I64 (Rg_wrap c gc a ha))) e
end Go.Proofs.YtojcdjpaojgkkaaGreatDoor
