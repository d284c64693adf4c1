/-
  Plain mathematics of layer 1 (sized integers): no program is named here.
-/
import Derived.WalkKit
namespace Go.Proofs.YtojcdjpaojgkkaaGreatDoor
open Go.RowKit

/-- v wrapped to the type of s bytes, signed if g. -/
def wrapI (s : Int) (g : Bool) (v : Int) : Int :=
  if s = 1 then (if g = true then (v + 128) % 256 - 128 else v % 256)
  else if s = 2 then (if g = true then (v + 32768) % 65536 - 32768 else v % 65536)
  else if s = 4 then (if g = true then (v + 2147483648) % 4294967296 - 2147483648 else v % 4294967296)
  else v

def validB (s : Int) : Bool := s == 1 || s == 2 || s == 4 || s == 8

/-- An integer type as a value. -/
@[reducible] def tyV (s : Int) (g : Bool) : Value := .agg #[.int .i64 s, .bool g]

theorem w64_i8 (v : Int) : wrap64 (IntKind.i8.wrap v) = (v + 128) % 256 - 128 := by
  unfold wrap64; simp only [IntKind.wrap, IntKind.signed, IntKind.bits]; simp; omega
theorem w64_i16 (v : Int) : wrap64 (IntKind.i16.wrap v) = (v + 32768) % 65536 - 32768 := by
  unfold wrap64; simp only [IntKind.wrap, IntKind.signed, IntKind.bits]; simp; omega
theorem w64_i32 (v : Int) : wrap64 (wrap32 v) = (v + 2147483648) % 4294967296 - 2147483648 := by
  unfold wrap64 wrap32; omega
theorem w64_u8 (v : Int) : wrap64 (IntKind.u8.wrap v) = v % 256 := by
  unfold wrap64; simp only [IntKind.wrap, IntKind.signed, IntKind.bits]; simp; omega
theorem w64_u16 (v : Int) : wrap64 (IntKind.u16.wrap v) = v % 65536 := by
  unfold wrap64; simp only [IntKind.wrap, IntKind.signed, IntKind.bits]; simp; omega
theorem w64_u32 (v : Int) : wrap64 (IntKind.u32.wrap v) = v % 4294967296 := by
  unfold wrap64; simp only [IntKind.wrap, IntKind.signed, IntKind.bits]; simp; omega

/-- The promoted type. -/
def prS (s : Int) : Int := if s < 4 then 4 else s
def prG (s : Int) (g : Bool) : Bool := if s < 4 then true else g
/-- The rank of a promoted type. -/
def rkI (s : Int) (g : Bool) : Int := if g = true then s else s + 1
/-- The common type. -/
def cmL (s1 : Int) (g1 : Bool) (s2 : Int) (g2 : Bool) : Bool := decide (rkI (prS s1) (prG s1 g1) < rkI (prS s2) (prG s2 g2))
def cmS (s1 : Int) (g1 : Bool) (s2 : Int) (g2 : Bool) : Int := if cmL s1 g1 s2 g2 = true then prS s2 else prS s1
def cmG (s1 : Int) (g1 : Bool) (s2 : Int) (g2 : Bool) : Bool := if cmL s1 g1 s2 g2 = true then prG s2 g2 else prG s1 g1

/-- Compare. -/
def cmpI (x y : Int) : Int := if x < y then -1 else if y < x then 1 else 0
/-- The number of a value of an unsigned type. -/
def u64 (x : Int) : Int := IntKind.u64.wrap x
def ordI (g : Bool) (x y : Int) : Int := if g = true then cmpI x y else cmpI (u64 x) (u64 y)
def quoI (g : Bool) (x y : Int) : Int := if g = true then wrap64 (x.tdiv y) else wrap64 (u64 ((u64 x).tdiv (u64 y)))
def remI (g : Bool) (x y : Int) : Int := if g = true then x.tmod y else wrap64 ((u64 x).tmod (u64 y))

/-- The least and the greatest value. -/
def rgL (s : Int) (g : Bool) : Int := if g = true then (if s = 1 then -128 else if s = 2 then -32768 else if s = 4 then -2147483648 else -9223372036854775808) else 0
def rgH (s : Int) (g : Bool) : Int := if g = true then (if s = 1 then 127 else if s = 2 then 32767 else if s = 4 then 2147483647 else 9223372036854775807) else (if s = 1 then 255 else if s = 2 then 65535 else if s = 4 then 4294967295 else -1)
/-- The error of a type. -/
def eT (s : Int) : Int := if validB s = true then 0 else 10
def eTT (s1 s2 : Int) : Int := if validB s1 = true then eT s2 else 10

/-- A choice that no walk takes apart. -/
def sel (b : Bool) (x y : Int) : Int := if b = true then x else y
def selV (b : Bool) (x y : Value) : Value := if b = true then x else y
theorem sel_t (x y : Int) : sel true x y = x := rfl
theorem sel_f (x y : Int) : sel false x y = y := rfl
theorem selV_t (x y : Value) : selV true x y = x := rfl
theorem selV_f (x y : Value) : selV false x y = y := rfl

theorem valid_iff (s : Int) : validB s = true ↔ s = 1 ∨ s = 2 ∨ s = 4 ∨ s = 8 := by simp [validB, or_assoc]
theorem prS_of (s : Int) (h : validB s = true) : prS s = 4 ∨ prS s = 8 := by
  rcases (valid_iff s).1 h with rfl | rfl | rfl | rfl <;> simp [prS]
theorem prS_le (s : Int) (h : validB s = true) : 0 ≤ prS s ∧ prS s ≤ 8 := by
  rcases prS_of s h with e | e <;> omega

end Go.Proofs.YtojcdjpaojgkkaaGreatDoor
