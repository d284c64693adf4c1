/-
  Plain mathematics of layer 1, continued: the results of the binary operations.
-/
import Derived.Test.YtojcdjpaojgkkaaGreatDoorMath
namespace Go.Proofs.YtojcdjpaojgkkaaGreatDoor
open Go.RowKit

def shrI (g : Bool) (x n : Int) : Int := if g = true then x / 2 ^ n.toNat else wrap64 (u64 x / 2 ^ n.toNat)
def shlI (x n : Int) : Int := wrap64 (x * 2 ^ n.toNat)
def shI (op : Int) (g : Bool) (x n : Int) : Int := if op = 9 then shlI x n else shrI g x n
def cntI (s n : Int) : Int := bits .and .i64 n (8 * s - 1)
/-- The result of an arithmetic operation, before it is wrapped to the common type. -/
def arI (op : Int) (g : Bool) (x y : Int) : Int :=
  if op = 1 then wrap64 (x + y) else if op = 2 then wrap64 (x - y) else if op = 3 then wrap64 (x * y)
  else if op = 4 then quoI g x y else if op = 5 then remI g x y
  else if op = 6 then bits .and .i64 x y else if op = 7 then bits .or .i64 x y else bits .xor .i64 x y
def reB (op : Int) (n : Int) : Bool :=
  if op = 11 then decide (n < 0) else if op = 12 then decide (n ≤ 0) else if op = 13 then decide (0 < n)
  else if op = 14 then decide (0 ≤ n) else if op = 15 then n == 0 else n != 0
/-- The operands of an operation on the common type. -/
def opX (s1 : Int) (g1 : Bool) (a : Int) (s2 : Int) (g2 : Bool) : Int := wrapI (cmS s1 g1 s2 g2) (cmG s1 g1 s2 g2) (wrapI s1 g1 a)
def opY (s1 : Int) (g1 : Bool) (s2 : Int) (g2 : Bool) (b : Int) : Int := wrapI (cmS s1 g1 s2 g2) (cmG s1 g1 s2 g2) (wrapI s2 g2 b)

/-- The three results of a binary operation of two valid types. -/
@[reducible] def triV (s : Int) (g : Bool) (v e : Int) : Value := .tuple #[tyV s g, .int .i64 v, .int .i64 e]
def biV (op : Int) (s1 : Int) (g1 : Bool) (a : Int) (s2 : Int) (g2 : Bool) (b : Int) : Value :=
  if 1 ≤ op ∧ op ≤ 8 then
    (if (op = 4 ∨ op = 5) ∧ opY s1 g1 s2 g2 b = 0 then triV 0 false 0 12
     else triV (cmS s1 g1 s2 g2) (cmG s1 g1 s2 g2) (wrapI (cmS s1 g1 s2 g2) (cmG s1 g1 s2 g2) (arI op (cmG s1 g1 s2 g2) (opX s1 g1 a s2 g2) (opY s1 g1 s2 g2 b))) 0)
  else if op = 9 ∨ op = 10 then
    triV (prS s1) (prG s1 g1) (wrapI (prS s1) (prG s1 g1) (shI op (prG s1 g1) (wrapI (prS s1) (prG s1 g1) (wrapI s1 g1 a)) (cntI (prS s1) (wrapI s2 g2 b)))) 0
  else if 11 ≤ op ∧ op ≤ 16 then
    triV 4 true (if reB op (ordI (cmG s1 g1 s2 g2) (opX s1 g1 a s2 g2) (opY s1 g1 s2 g2 b)) = true then 1 else 0) 0
  else triV 0 false 0 11
end Go.Proofs.YtojcdjpaojgkkaaGreatDoor
