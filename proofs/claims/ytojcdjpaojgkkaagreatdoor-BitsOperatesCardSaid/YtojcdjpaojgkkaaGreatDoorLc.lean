import Derived.Test.YtojcdjpaojgkkaaGreatDoorLb
namespace Go.Proofs.YtojcdjpaojgkkaaGreatDoor
open Go.RowKit

theorem valid_mem (s : Int) (h : validB s = true) : s ∈ [(1 : Int), 2, 4, 8] := by
  rcases (valid_iff s).1 h with rfl | rfl | rfl | rfl <;> decide
theorem cm_valid0 : ∀ s1 ∈ [(1 : Int), 2, 4, 8], ∀ g1 : Bool, ∀ s2 ∈ [(1 : Int), 2, 4, 8], ∀ g2 : Bool, validB (cmS s1 g1 s2 g2) = true := by decide +kernel
theorem cm_comm0 : ∀ s1 ∈ [(1 : Int), 2, 4, 8], ∀ g1 : Bool, ∀ s2 ∈ [(1 : Int), 2, 4, 8], ∀ g2 : Bool, cmS s2 g2 s1 g1 = cmS s1 g1 s2 g2 ∧ cmG s2 g2 s1 g1 = cmG s1 g1 s2 g2 := by decide +kernel
theorem cm_assoc0 : ∀ s1 ∈ [(1 : Int), 2, 4, 8], ∀ g1 : Bool, ∀ s2 ∈ [(1 : Int), 2, 4, 8], ∀ g2 : Bool, ∀ s3 ∈ [(1 : Int), 2, 4, 8], ∀ g3 : Bool,
    cmS s1 g1 (cmS s2 g2 s3 g3) (cmG s2 g2 s3 g3) = cmS (cmS s1 g1 s2 g2) (cmG s1 g1 s2 g2) s3 g3 ∧ cmG s1 g1 (cmS s2 g2 s3 g3) (cmG s2 g2 s3 g3) = cmG (cmS s1 g1 s2 g2) (cmG s1 g1 s2 g2) s3 g3 := by decide +kernel
theorem pr_facts0 : ∀ s ∈ [(1 : Int), 2, 4, 8], ∀ g : Bool, validB (prS s) = true ∧ prS (prS s) = prS s ∧ prG (prS s) (prG s g) = prG s g ∧ cmS s g s g = prS s ∧ cmG s g s g = prG s g := by decide +kernel

theorem eTT_ok {s1 s2 : Int} (v1 : validB s1 = true) (v2 : validB s2 = true) : eTT s1 s2 = 0 := by simp [eTT, eT, v1, v2]
theorem eTT_bad {s1 s2 : Int} (h : (validB s1 && validB s2) = false) : eTT s1 s2 = 10 := by
  cases v1 : validB s1 <;> simp_all [eTT, eT]
theorem usual_ok (s1 : Int) (g1 : Bool) (s2 : Int) (g2 : Bool) (v1 : validB s1 = true) (v2 : validB s2 = true) : RetT 11 #[tyV s1 g1, tyV s2 g2] (cmS s1 g1 s2 g2) (cmG s1 g1 s2 g2) 0 := fun w hp => by
  have h := busual_any s1 g1 s2 g2 w hp
  rw [v1, v2, eTT_ok v1 v2] at h
  exact h
theorem usual_bad (s1 : Int) (g1 : Bool) (s2 : Int) (g2 : Bool) (hv : (validB s1 && validB s2) = false) : RetT 11 #[tyV s1 g1, tyV s2 g2] 0 false 10 := fun w hp => by
  have h := busual_any s1 g1 s2 g2 w hp
  rw [hv, eTT_bad hv] at h
  exact h
end Go.Proofs.YtojcdjpaojgkkaaGreatDoor
