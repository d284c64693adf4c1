/-
  Layer 2: the chapter's examples, by the mathematics.
-/
import Derived.Test.YtjlbcpmfbokinaaGreatDoorJw
set_option linter.unusedSimpArgs false
set_option linter.unusedVariables false
namespace Go.Proofs.YtjlbcpmfbokinaaGreatDoor
open Go.RowKit Go.Shelf Go.WideMaps Go.Maps

@[reducible] def exP : ByteArray := ⟨#[115, 116, 111, 114, 101, 49, 32, 91, 32, 114, 50, 32, 43, 32, 51, 32, 93, 44, 114, 52]⟩
@[reducible] def exQ : ByteArray := ⟨#[98, 101, 113, 32, 114, 49, 44, 32, 114, 50, 44, 32, 46, 43, 54, 52]⟩
@[reducible] def exT : ByteArray := ⟨#[46, 102, 117, 110, 99, 32, 102, 10, 108, 58, 32, 105, 110, 99, 32, 114, 48, 44, 32, 49, 10, 106, 117, 109, 112, 32, 108]⟩
theorem exP_is : paE exP = 0 ∧ (paS exP).op = 19 ∧ (paS exP).a = 4 ∧ (paS exP).b = 2 ∧ (paS exP).im = 3 := by decide +kernel
theorem exQ_is : paE exQ = 24 := by decide +kernel
/-- What the text of the example becomes. -/
def exB : Bool := match rdAll 100 exT (lnN exT) (A0 100) with
  | none => false
  | some A => (enK A A.list.length == some [144, 0, 1, 153, 122, 127]) && (A.code == []) && A.list.all (fun x => decide (x.nm.size ≤ 31)) && (A.fin == 106) &&
      match A.syms with
      | [x] => x.nm.data.toList == [102] && x.pl == 100
      | _ => false
theorem exB_is : exB = true := by decide +kernel
end Go.Proofs.YtjlbcpmfbokinaaGreatDoor
