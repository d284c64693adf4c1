import Derived.Test.YtojcdjpaojgkkaaGreatDoorSb
namespace Go.Proofs.YtojcdjpaojgkkaaGreatDoor
open Go.RowKit

/-- What a law of three types holds of its boxes. -/
structure K3 (w x : World) (s1 : Int) (g1 : Bool) (s2 : Int) (g2 : Bool) (s3 : Int) (g3 : Bool) : Prop where
  a1 : x.cell? ⟨w.heap.size, 0, none⟩ = some (.int .i64 s1)
  b1 : x.cell? ⟨w.heap.size, 1, none⟩ = some (.bool g1)
  a2 : x.cell? ⟨w.heap.size + 1, 0, none⟩ = some (.int .i64 s2)
  b2 : x.cell? ⟨w.heap.size + 1, 1, none⟩ = some (.bool g2)
  a3 : x.cell? ⟨w.heap.size + 1 + 1, 0, none⟩ = some (.int .i64 s3)
  b3 : x.cell? ⟨w.heap.size + 1 + 1, 1, none⟩ = some (.bool g3)
  p0 : x.cell? ⟨0, 0, none⟩ = some (.int .i64 4)
  p1 : x.cell? ⟨0, 1, none⟩ = some (.bool true)
  hB : Below w.heap.size w x
  hz : w.heap.size + 3 ≤ x.heap.size

/-- A call that returns a type and an error. -/
@[reducible] def RetT (f : Nat) (args : Array Value) (s : Int) (g : Bool) (e : Int) : Prop :=
  ∀ w : World, PI w → Calls Tryz.prog f args w fun r w' => r = .returned (.tuple #[tyV s g, .int .i64 e]) ∧ Below w.heap.size w w'

end Go.Proofs.YtojcdjpaojgkkaaGreatDoor
