/-
  Plain mathematics of layer 1: bytes of a value, and back.
-/
import Derived.Test.YtojcdjpaojgkkaaGreatDoorLk
namespace Go.Proofs.YtojcdjpaojgkkaaGreatDoor
open Go.RowKit

/-- The number of bytes, least significant first. -/
def fbN : List UInt8 → Nat
  | [] => 0
  | c :: l => c.toNat + 256 * fbN l
theorem fbN_lt (l : List UInt8) : fbN l < 256 ^ l.length := by
  induction l with
  | nil => simp [fbN]
  | cons c l ih =>
    have h := c.toNat_lt
    simp only [fbN, List.length_cons, Nat.pow_succ]
    omega
theorem fbN_snoc (l : List UInt8) (c : UInt8) : fbN (l ++ [c]) = fbN l + c.toNat * 256 ^ l.length := by
  induction l with
  | nil => simp [fbN]
  | cons a l ih =>
    simp only [List.cons_append, fbN, ih, List.length_cons, Nat.pow_succ]
    rw [Nat.mul_add, ← Nat.mul_assoc 256, Nat.mul_comm 256 c.toNat, Nat.mul_assoc, Nat.mul_comm 256 (256 ^ _)]
    omega
theorem fbN_take (l : List UInt8) (k : Nat) (h : k < l.length) : fbN (l.take (k + 1)) = fbN (l.take k) + l[k].toNat * 256 ^ k := by
  rw [List.take_succ_eq_append_getElem h, fbN_snoc, List.length_take, Nat.min_eq_left (by omega)]

theorem un_w64 (n : Nat) (h : n < 18446744073709551616) : un (wrap64 n) = n := by unfold un wrap64; omega
theorem pow256 (k : Nat) : (256 : Nat) ^ k = 2 ^ (8 * k) := by rw [Nat.pow_mul]
/-- A byte is laid above the others. -/
theorem or_step (N c k : Nat) (hN : N < 256 ^ k) (hc : c < 256) (hk : k ≤ 7) : bits .or .i64 (wrap64 N) (wrap64 ((c : Int) * 2 ^ (8 * (k : Int)).toNat)) = wrap64 ((N + c * 256 ^ k : Nat) : Int) := by
  have hp : (256 : Nat) ^ k ≤ 256 ^ 7 := Nat.pow_le_pow_right (by decide) hk
  have hm : c * 256 ^ k ≤ 255 * 256 ^ k := Nat.mul_le_mul_right _ (by omega)
  have e7 : (256 : Nat) ^ 7 = 72057594037927936 := by decide
  have e1 : (c : Int) * 2 ^ (8 * (k : Int)).toNat = ((c * 256 ^ k : Nat) : Int) := by
    rw [show (8 * (k : Int)).toNat = 8 * k by omega, pow256]
    simp
  rw [e1, bits7, un_w64 _ (by omega), un_w64 _ (by omega)]
  congr 2
  show N ||| c * 256 ^ k = _
  rw [Nat.or_comm, Nat.add_comm, Nat.mul_comm, pow256]
  rw [pow256] at hN
  exact (Nat.two_pow_add_eq_or_of_lt hN c).symm

/-- A byte of a value. -/
def btV (v : Int) (k : Nat) : UInt8 := UInt8.ofNat (un v / 256 ^ k % 256)
def btL (v : Int) (n : Nat) : List UInt8 := (List.range n).map (btV v)
theorem btL_length (v : Int) (n : Nat) : (btL v n).length = n := by simp [btL]
theorem btL_get (v : Int) (n k : Nat) (h : k < (btL v n).length) : (btL v n)[k] = btV v k := by simp [btL]
theorem btL_succ (v : Int) (n : Nat) : btL v (n + 1) = btL v n ++ [btV v n] := by simp [btL, List.range_succ]
theorem btL_fbN (v : Int) (n : Nat) : fbN (btL v n) = un v % 256 ^ n := by
  induction n with
  | zero => simp [btL, fbN, Nat.mod_one]
  | succ n ih =>
    rw [btL_succ, fbN_snoc, ih, btL_length]
    have e : (btV v n).toNat = un v / 256 ^ n % 256 := by
      unfold btV
      have : un v / 256 ^ n % 256 < 256 := Nat.mod_lt _ (by decide)
      simp
    rw [e, Nat.pow_succ, Nat.mod_mul, Nat.mul_comm (256 ^ n)]
/-- What a shift and a conversion make of a value is its byte. -/
theorem byte_of (v : Int) (k : Nat) (hk : k ≤ 7) : IntKind.u8.wrap (v / 2 ^ (8 * (k : Int)).toNat) = ((btV v k).toNat : Int) := by
  have e : (btV v k).toNat = un v / 256 ^ k % 256 := by
    unfold btV
    have : un v / 256 ^ k % 256 < 256 := Nat.mod_lt _ (by decide)
    simp
  have w8 : ∀ n : Int, IntKind.u8.wrap n = n % 256 := fun n => by simp [IntKind.wrap, IntKind.bits, IntKind.signed]
  rw [e, w8, show (8 * (k : Int)).toNat = 8 * k by omega]
  have hk' : k = 0 ∨ k = 1 ∨ k = 2 ∨ k = 3 ∨ k = 4 ∨ k = 5 ∨ k = 6 ∨ k = 7 := by omega
  rcases hk' with rfl | rfl | rfl | rfl | rfl | rfl | rfl | rfl <;> simp [un] <;> omega

/-- The value of bytes. -/
def fbV (s : Int) (g : Bool) (l : List UInt8) : Int := wrapI s g (wrap64 (fbN l))
theorem Cg_nat_mod (s : Int) (n : Nat) : Cg (Ms s) ((n % 256 ^ (Ew s / 8) : Nat) : Int) (n : Int) := by
  have e : (256 : Nat) ^ (Ew s / 8) = 2 ^ Ew s := by
    unfold Ew
    split
    · rfl
    · split
      · rfl
      · split <;> rfl
  rw [e, Ms_pow]
  exact Cg_of_mod (Nat.mod_mod _ _)
/-- The bytes of a value make the value. -/
theorem fb_bt {s : Int} (hv : validB s = true) (g : Bool) (v : Int) (h : I64 v) : fbV s g (btL v s.toNat) = wrapI s g v := by
  refine Rg_one (Rg_wrap _ _ _ (w64_I64 _)) (Rg_wrap _ _ _ h) ?_
  refine (w_Cg s g _).trans ((w64_Cg s _).trans ?_)
  rw [btL_fbN]
  have e : s.toNat = Ew s / 8 := by rcases (valid_iff s).1 hv with rfl | rfl | rfl | rfl <;> rfl
  rw [e]
  exact (Cg_nat_mod s (un v)).trans ((un_Cg s v).trans (w_Cg s g v).symm)
theorem fbN_inj (l : List UInt8) : ∀ l' : List UInt8, l.length = l'.length → fbN l = fbN l' → l = l' := by
  induction l with
  | nil => intro l' h _; exact (List.length_eq_zero_iff.1 h.symm).symm
  | cons c l ih =>
    intro l' h e
    cases l' with
    | nil => simp at h
    | cons c' l' =>
      have h1 := c.toNat_lt
      have h2 := c'.toNat_lt
      simp only [fbN] at e
      have e1 : c.toNat = c'.toNat := by omega
      rw [ih l' (by simpa using h) (by omega), UInt8.toNat_inj.1 e1]
/-- The bytes of the value of bytes are the bytes. -/
theorem bt_fb {s : Int} (hv : validB s = true) (g : Bool) (l : List UInt8) (hl : l.length = s.toNat) : btL (fbV s g l) s.toNat = l := by
  refine fbN_inj _ _ (by rw [btL_length, hl]) ?_
  rw [btL_fbN]
  have hN := fbN_lt l
  rw [hl] at hN
  have e : s.toNat = Ew s / 8 := by rcases (valid_iff s).1 hv with rfl | rfl | rfl | rfl <;> rfl
  have h256 : (256 : Nat) ^ (Ew s / 8) = 2 ^ Ew s := by
    unfold Ew
    split
    · rfl
    · split
      · rfl
      · split <;> rfl
  have c : Cg (Ms s) (un (fbV s g l) : Int) (fbN l : Int) := (un_Cg s _).trans ((w_Cg s g _).trans (w64_Cg s _))
  rw [Ms_pow] at c
  have m := Cg_mod c
  rw [e] at hN ⊢
  rw [h256] at hN ⊢
  rw [m, Nat.mod_eq_of_lt hN]
end Go.Proofs.YtojcdjpaojgkkaaGreatDoor
