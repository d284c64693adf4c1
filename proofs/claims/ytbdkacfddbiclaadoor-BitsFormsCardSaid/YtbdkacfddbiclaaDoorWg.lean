import Derived.Test.YtbdkacfddbiclaaDoorWe
import Derived.Test.YtbdkacfddbiclaaDoorWd
import Derived.Test.YtbdkacfddbiclaaDoorWf
namespace Go.Proofs.YtbdkacfddbiclaaDoor
open Go.RowKit

def shL : List (Int × Nat) := [(9, 85), (10, 86)]
theorem shifts_zero (w : World) : (zeroValue 84).run Tryd.prog w = .ok .nilFunc w := by kernel_rfl
theorem shifts_look (op : Int) (hw : (Lit.int .i64 op).wf = true) (fv : Value) (hh : Bool) (e1 : fnV shL op = fv) (e2 : fnH shL op = hh) (w : World) : Calls Tryd.prog 59 #[] w fun e w' => ∃ b : Nat, e = .returned (.map (some b)) ∧
    (∀ w'' : World, w''.heap[b]? = w'.heap[b]? → (Instr.lookup 86 (.map (some b)) (.int .i64 op) true).run Tryd.prog w'' = .ok (.tuple #[fv, .bool hh]) w'') ∧ Below w.heap.size w w' := by
  refine (shifts_any w).mono ?_
  rintro e w' ⟨rfl, hm, hb⟩
  refine ⟨_, rfl, fun w'' hw'' => ?_, hb⟩
  rw [fnMap_look (l := shL) (show w'.ownsMap Tryd.prog 3 fnElem w.heap.size _ (fnD shL) from hm) Tryd.underlying3 Tryd.underlying86 shifts_zero op hw w'' hw'', e1, e2]

def arL : List (Int × Nat) := [(1, 77), (2, 78), (3, 79), (4, 80), (5, 81), (6, 82), (7, 83), (8, 84)]
theorem arithmetic_zero (w : World) : (zeroValue 80).run Tryd.prog w = .ok .nilFunc w := by kernel_rfl
theorem arithmetic_look (op : Int) (hw : (Lit.int .i64 op).wf = true) (fv : Value) (hh : Bool) (e1 : fnV arL op = fv) (e2 : fnH arL op = hh) (w : World) : Calls Tryd.prog 58 #[] w fun e w' => ∃ b : Nat, e = .returned (.map (some b)) ∧
    (∀ w'' : World, w''.heap[b]? = w'.heap[b]? → (Instr.lookup 82 (.map (some b)) (.int .i64 op) true).run Tryd.prog w'' = .ok (.tuple #[fv, .bool hh]) w'') ∧ Below w.heap.size w w' := by
  refine (arithmetic_any w).mono ?_
  rintro e w' ⟨rfl, hm, hb⟩
  refine ⟨_, rfl, fun w'' hw'' => ?_, hb⟩
  rw [fnMap_look (l := arL) (show w'.ownsMap Tryd.prog 3 fnElem w.heap.size _ (fnD arL) from hm) Tryd.underlying3 Tryd.underlying82 arithmetic_zero op hw w'' hw'', e1, e2]

def reL : List (Int × Nat) := [(11, 87), (12, 88), (13, 89), (14, 90), (15, 91), (16, 92)]
theorem relations_zero (w : World) : (zeroValue 89).run Tryd.prog w = .ok .nilFunc w := by kernel_rfl
theorem relations_look (op : Int) (hw : (Lit.int .i64 op).wf = true) (fv : Value) (hh : Bool) (e1 : fnV reL op = fv) (e2 : fnH reL op = hh) (w : World) : Calls Tryd.prog 61 #[] w fun e w' => ∃ b : Nat, e = .returned (.map (some b)) ∧
    (∀ w'' : World, w''.heap[b]? = w'.heap[b]? → (Instr.lookup 91 (.map (some b)) (.int .i64 op) true).run Tryd.prog w'' = .ok (.tuple #[fv, .bool hh]) w'') ∧ Below w.heap.size w w' := by
  refine (relations_any w).mono ?_
  rintro e w' ⟨rfl, hm, hb⟩
  refine ⟨_, rfl, fun w'' hw'' => ?_, hb⟩
  rw [fnMap_look (l := reL) (show w'.ownsMap Tryd.prog 3 fnElem w.heap.size _ (fnD reL) from hm) Tryd.underlying3 Tryd.underlying91 relations_zero op hw w'' hw'', e1, e2]

end Go.Proofs.YtbdkacfddbiclaaDoor
