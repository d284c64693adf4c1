/-
  The law BitsOrders, walked over named results.
-/
import Derived.Test.YtojcdjpaojgkkaaGreatDoorLd
import Derived.Test.YtojcdjpaojgkkaaGreatDoorLo
namespace Go.Proofs.YtojcdjpaojgkkaaGreatDoor
open Go.RowKit

/-- The reference's variable: its first type. -/
structure PR (w : World) : Prop where
  q0 : w.cell? ⟨1, 0, none⟩ = some (.int .i64 4)
  q1 : w.cell? ⟨1, 1, none⟩ = some (.bool true)
theorem i4_any (w : World) (hq : PR w) : Calls Tryz.prog 48 #[] w fun e w' => e = .returned (tyV 4 true) ∧ Below w.heap.size w w' := by
  obtain ⟨q0, q1⟩ := hq
  have hsz : 1 < w.heap.size := by
    rcases Nat.lt_or_ge 1 w.heap.size with h' | h'
    · exact h'
    · simp [World.cell?, Array.getElem?_eq_none h'] at q0
  go_enter Tryz.func48, Tryz.ntmps48
  go_wp2_with fail
  refine bodyPost_ret (v := tyV 4 true) (by simp [results, Tryz.results48, go_sem, *]) rfl ⟨rfl, (Gr.below (by repeat (first | (with_reducible exact Gr.refl _) | with_reducible refine Gr.alloc ?_ _ | with_reducible refine Gr.more ?_ _ _ | with_reducible refine Gr.setCell ?_ (by dsimp only; omega) _ | with_reducible refine Gr.drew ?_)))⟩

structure KO (w x : World) (s : Int) (g : Bool) (i j k : Int) : Prop where
  a1 : x.cell? ⟨w.heap.size, 0, none⟩ = some (.int .i64 s)
  b1 : x.cell? ⟨w.heap.size, 1, none⟩ = some (.bool g)
  c0 : x.cell? ⟨w.heap.size + 1, 0, none⟩ = some (.int .i64 i)
  c1 : x.cell? ⟨w.heap.size + 1, 1, none⟩ = some (.int .i64 j)
  c2 : x.cell? ⟨w.heap.size + 1, 2, none⟩ = some (.int .i64 k)
  p0 : x.cell? ⟨0, 0, none⟩ = some (.int .i64 4)
  p1 : x.cell? ⟨0, 1, none⟩ = some (.bool true)
  q0 : x.cell? ⟨1, 0, none⟩ = some (.int .i64 4)
  q1 : x.cell? ⟨1, 1, none⟩ = some (.bool true)
  hB : Below w.heap.size w x
  hz : w.heap.size + 2 ≤ x.heap.size

end Go.Proofs.YtojcdjpaojgkkaaGreatDoor
