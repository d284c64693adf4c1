/-
  The laws' helpers: op and wrap.
-/
import Derived.Test.YtojcdjpaojgkkaaGreatDoorLc
namespace Go.Proofs.YtojcdjpaojgkkaaGreatDoor
open Go.RowKit

/-- A call of Binary, with what it returns. -/
@[reducible] def RetB (n : Int) (s1 : Int) (g1 : Bool) (a : Int) (s2 : Int) (g2 : Bool) (b : Int) (S : Int) (G : Bool) (V E : Int) : Prop :=
  ∀ w : World, PI w → Calls Tryz.prog 7 #[.int .i64 n, tyV s1 g1, .int .i64 a, tyV s2 g2, .int .i64 b] w fun r w' => r = .returned (triV S G V E) ∧ Below w.heap.size w w'
/-- A call that returns a number and an error. -/
@[reducible] def RetN (f : Nat) (args : Array Value) (v e : Int) : Prop :=
  ∀ w : World, PI w → Calls Tryz.prog f args w fun r w' => r = .returned (.tuple #[.int .i64 v, .int .i64 e]) ∧ Below w.heap.size w w'

/-- Calls that return one number, a text, and that read a text. -/
@[reducible] def RetV (f : Nat) (args : Array Value) (v : Int) : Prop := ∀ w : World, Calls Tryz.prog f args w fun r w' => r = .returned (.int .i64 v) ∧ Below w.heap.size w w'
@[reducible] def RetS (f : Nat) (args : Array Value) (t : ByteArray) (e : Int) : Prop := ∀ w : World, Calls Tryz.prog f args w fun r w' => r = .returned (.tuple #[.string t, .int .i64 e]) ∧ Below w.heap.size w w'
@[reducible] def RetP (f : Nat) (args : Array Value) (v e : Int) : Prop := ∀ w : World, EV w → Calls Tryz.prog f args w fun r w' => r = .returned (.tuple #[.int .i64 v, .int .i64 e]) ∧ Below w.heap.size w w'
@[reducible] def RetM (f : Nat) (args : Array Value) (v e : Int) : Prop := ∀ w : World, Calls Tryz.prog f args w fun r w' => r = .returned (.tuple #[.int .i64 v, .int .i64 e]) ∧ Below w.heap.size w w'

end Go.Proofs.YtojcdjpaojgkkaaGreatDoor
