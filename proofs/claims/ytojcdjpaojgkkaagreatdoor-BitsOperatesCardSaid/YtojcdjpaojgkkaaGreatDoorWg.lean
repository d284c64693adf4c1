import Derived.Test.YtojcdjpaojgkkaaGreatDoorWe
import Derived.Test.YtojcdjpaojgkkaaGreatDoorWd
import Derived.Test.YtojcdjpaojgkkaaGreatDoorWf
namespace Go.Proofs.YtojcdjpaojgkkaaGreatDoor
open Go.RowKit

def shL : List (Int × Nat) := [(9, 58), (10, 59)]
theorem shifts_zero (w : World) : (zeroValue 58).run Tryz.prog w = .ok .nilFunc w := by kernel_rfl
theorem shifts_look (op : Int) (hw : (Lit.int .i64 op).wf = true) (fv : Value) (hh : Bool) (e1 : fnV shL op = fv) (e2 : fnH shL op = hh) (w : World) : Calls Tryz.prog 24 #[] w fun e w' => ∃ b : Nat, e = .returned (.map (some b)) ∧
    (∀ w'' : World, w''.heap[b]? = w'.heap[b]? → (Instr.lookup 60 (.map (some b)) (.int .i64 op) true).run Tryz.prog w'' = .ok (.tuple #[fv, .bool hh]) w'') ∧ Below w.heap.size w w' := by
  refine (shifts_any w).mono ?_
  rintro e w' ⟨rfl, hm, hb⟩
  refine ⟨_, rfl, fun w'' hw'' => ?_, hb⟩
  rw [fnMap_look (l := shL) (show w'.ownsMap Tryz.prog 3 fnElem w.heap.size _ (fnD shL) from hm) Tryz.underlying3 Tryz.underlying60 shifts_zero op hw w'' hw'', e1, e2]

def arL : List (Int × Nat) := [(1, 49), (2, 50), (3, 51), (4, 52), (5, 53), (6, 54), (7, 55), (8, 56)]
theorem arithmetic_zero (w : World) : (zeroValue 53).run Tryz.prog w = .ok .nilFunc w := by kernel_rfl
theorem arithmetic_look (op : Int) (hw : (Lit.int .i64 op).wf = true) (fv : Value) (hh : Bool) (e1 : fnV arL op = fv) (e2 : fnH arL op = hh) (w : World) : Calls Tryz.prog 22 #[] w fun e w' => ∃ b : Nat, e = .returned (.map (some b)) ∧
    (∀ w'' : World, w''.heap[b]? = w'.heap[b]? → (Instr.lookup 55 (.map (some b)) (.int .i64 op) true).run Tryz.prog w'' = .ok (.tuple #[fv, .bool hh]) w'') ∧ Below w.heap.size w w' := by
  refine (arithmetic_any w).mono ?_
  rintro e w' ⟨rfl, hm, hb⟩
  refine ⟨_, rfl, fun w'' hw'' => ?_, hb⟩
  rw [fnMap_look (l := arL) (show w'.ownsMap Tryz.prog 3 fnElem w.heap.size _ (fnD arL) from hm) Tryz.underlying3 Tryz.underlying55 arithmetic_zero op hw w'' hw'', e1, e2]

def reL : List (Int × Nat) := [(11, 61), (12, 62), (13, 63), (14, 64), (15, 65), (16, 66)]
theorem relations_zero (w : World) : (zeroValue 63).run Tryz.prog w = .ok .nilFunc w := by kernel_rfl
theorem relations_look (op : Int) (hw : (Lit.int .i64 op).wf = true) (fv : Value) (hh : Bool) (e1 : fnV reL op = fv) (e2 : fnH reL op = hh) (w : World) : Calls Tryz.prog 26 #[] w fun e w' => ∃ b : Nat, e = .returned (.map (some b)) ∧
    (∀ w'' : World, w''.heap[b]? = w'.heap[b]? → (Instr.lookup 65 (.map (some b)) (.int .i64 op) true).run Tryz.prog w'' = .ok (.tuple #[fv, .bool hh]) w'') ∧ Below w.heap.size w w' := by
  refine (relations_any w).mono ?_
  rintro e w' ⟨rfl, hm, hb⟩
  refine ⟨_, rfl, fun w'' hw'' => ?_, hb⟩
  rw [fnMap_look (l := reL) (show w'.ownsMap Tryz.prog 3 fnElem w.heap.size _ (fnD reL) from hm) Tryz.underlying3 Tryz.underlying65 relations_zero op hw w'' hw'', e1, e2]

end Go.Proofs.YtojcdjpaojgkkaaGreatDoor
