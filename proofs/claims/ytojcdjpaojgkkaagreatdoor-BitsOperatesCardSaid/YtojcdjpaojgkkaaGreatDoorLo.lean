/-
  Plain mathematics of layer 1: the order.
-/
import Derived.Test.YtojcdjpaojgkkaaGreatDoorLm
namespace Go.Proofs.YtojcdjpaojgkkaaGreatDoor
open Go.RowKit

theorem cmp_facts (a b c : Int) : (-1 ≤ cmpI a b ∧ cmpI a b ≤ 1) ∧ cmpI b a = -cmpI a b ∧ (cmpI a b = 0 ↔ a = b) ∧ (cmpI a b ≤ 0 ↔ a ≤ b) ∧ (cmpI a b < 0 ↔ a < b) := by
  unfold cmpI
  refine ⟨⟨?_, ?_⟩, ?_, ?_, ?_, ?_⟩ <;> (repeat' split) <;> omega
theorem u64_inj {a b : Int} (ha : I64 a) (hb : I64 b) (h : u64 a = u64 b) : a = b := by
  obtain ⟨a1, a2⟩ := ha; obtain ⟨b1, b2⟩ := hb
  rw [u64_eq, u64_eq] at h
  omega
/-- What a value of a type with (without) a sign stands for in an order. -/
def ordK (g : Bool) (x : Int) : Int := if g = true then x else u64 x
theorem ordI_eq (g : Bool) (x y : Int) : ordI g x y = cmpI (ordK g x) (ordK g y) := by cases g <;> rfl
theorem ordK_inj {g : Bool} {a b : Int} (ha : I64 a) (hb : I64 b) : ordK g a = ordK g b ↔ a = b := by
  refine ⟨fun h => ?_, fun h => h ▸ rfl⟩
  cases g
  · exact u64_inj ha hb h
  · exact h

/-- The operands of a relation, on the promoted type, stand for the same numbers. -/
theorem ordK_pr (s : Int) (g : Bool) (h : validB s = true) (x : Int) (hx : Rg s g x) : ordK (prG s g) (wrapI (prS s) (prG s g) x) = ordK g x := by
  rcases (valid_iff s).1 h with rfl | rfl | rfl | rfl <;> cases g <;> simp [Rg] at hx <;> simp [prS, prG, ordK, wrapI, u64_eq] <;> omega
theorem ordI_pr (s : Int) (g : Bool) (h : validB s = true) (x y : Int) (hx : Rg s g x) (hy : Rg s g y) : ordI (prG s g) (wrapI (prS s) (prG s g) x) (wrapI (prS s) (prG s g) y) = ordI g x y := by
  rw [ordI_eq, ordI_eq, ordK_pr s g h x hx, ordK_pr s g h y hy]

theorem rg_wrap (s : Int) (g : Bool) (h : validB s = true) : wrapI s g (rgL s g) = rgL s g ∧ wrapI s g (rgH s g) = rgH s g := by
  rcases (valid_iff s).1 h with rfl | rfl | rfl | rfl <;> cases g <;> decide
theorem rg_least (s : Int) (g : Bool) (h : validB s = true) (x : Int) (hx : Rg s g x) : ordI g (rgL s g) x ≤ 0 ∧ ordI g x (rgH s g) ≤ 0 := by
  rw [ordI_eq, ordI_eq, (cmp_facts _ _ 0).2.2.2.1, (cmp_facts _ _ 0).2.2.2.1]
  rcases (valid_iff s).1 h with rfl | rfl | rfl | rfl <;> cases g <;> simp [Rg] at hx <;> simp [rgL, rgH, ordK, u64_eq] <;> omega

/-- The order's facts that the law asks. -/
theorem ord_law (g : Bool) (a b c : Int) (ha : I64 a) (hb : I64 b) :
    (-1 ≤ ordI g a b ∧ ordI g a b ≤ 1) ∧ ordI g b a = -ordI g a b ∧ (ordI g a b = 0 ↔ a = b) ∧ (ordI g a b ≤ 0 → ordI g b c ≤ 0 → ordI g a c ≤ 0) ∧ (ordI g a b < 0 → ordI g b c ≤ 0 → ordI g a c < 0) := by
  simp only [ordI_eq]
  have h1 := cmp_facts (ordK g a) (ordK g b) 0
  have h2 := cmp_facts (ordK g b) (ordK g c) 0
  have h3 := cmp_facts (ordK g a) (ordK g c) 0
  refine ⟨h1.1, h1.2.1, h1.2.2.1.trans (ordK_inj ha hb), ?_, ?_⟩
  · rw [h1.2.2.2.1, h2.2.2.2.1, h3.2.2.2.1]; omega
  · rw [h1.2.2.2.2, h2.2.2.2.1, h3.2.2.2.2]; omega
end Go.Proofs.YtojcdjpaojgkkaaGreatDoor
