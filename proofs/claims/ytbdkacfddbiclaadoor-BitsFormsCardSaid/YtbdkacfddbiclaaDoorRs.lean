/-
  What the rows share, continued: an argument that is a string, within the reach.
-/
import Derived.Test.YtbdkacfddbiclaaDoorRb
import Derived.SizedLaws
namespace Go.Proofs.YtbdkacfddbiclaaDoor
set_option maxRecDepth 100000
open Go.ChangeShapes Go.WideShapes Go.ChangeAt Go.WideElems Go.RowKit Go.Joins

theorem open_StrD {H : Type} {enc : TypeId × Value → H} {W : World} {base : Nat} {v : Value} {d : DataW H} {p : List MemPlace} (hv : Value.okWide Tryd.prog W .any base 9 v) (h : DataW.Trod enc Tryd.prog W 0 (fun _ => true) true 9 v d p) : ∃ s : ByteArray, v = .string s ∧ d = .lit (.string s.data.toList) := by
  obtain ⟨s, rfl, hd, _, _⟩ := Go.ChangeMaps.open_string Tryd.underlying9 hv h
  exact ⟨s, rfl, hd⟩
theorem str_reach {H : Type} {ts : List TypeId} {ds : List (DataW H)} (h : (DataW.weightsEach Tryd.prog ts ds).all (· ≤ reachBytes) = true) {j : Nat} {t : TypeId} {s : ByteArray} {d : DataW H} (hd : d = .lit (.string s.data.toList)) (ht : ts[j]? = some t) (hj : ds[j]? = some d) : s.size ≤ 140737488351232 := by
  subst hd
  have := sized_string h ht hj
  rw [Array.length_toList] at this
  exact this
end Go.Proofs.YtbdkacfddbiclaaDoor
