import Derived.Test.YtbdkacfddbiclaaDoorLb
namespace Go.Proofs.YtbdkacfddbiclaaDoor
open Go.RowKit

theorem valid_mem (s : Int) (h : validB s = true) : s ∈ [(1 : Int), 2, 4, 8] := by
  rcases (valid_iff s).1 h with rfl | rfl | rfl | rfl <;> decide
theorem cm_valid0 : ∀ s1 ∈ [(1 : Int), 2, 4, 8], ∀ g1 : Bool, ∀ s2 ∈ [(1 : Int), 2, 4, 8], ∀ g2 : Bool, validB (cmS s1 g1 s2 g2) = true := by decide +kernel
theorem cm_comm0 : ∀ s1 ∈ [(1 : Int), 2, 4, 8], ∀ g1 : Bool, ∀ s2 ∈ [(1 : Int), 2, 4, 8], ∀ g2 : Bool, cmS s2 g2 s1 g1 = cmS s1 g1 s2 g2 ∧ cmG s2 g2 s1 g1 = cmG s1 g1 s2 g2 := by decide +kernel
theorem cm_assoc0 : ∀ s1 ∈ [(1 : Int), 2, 4, 8], ∀ g1 : Bool, ∀ s2 ∈ [(1 : Int), 2, 4, 8], ∀ g2 : Bool, ∀ s3 ∈ [(1 : Int), 2, 4, 8], ∀ g3 : Bool,
    cmS s1 g1 (cmS s2 g2 s3 g3) (cmG s2 g2 s3 g3) = cmS (cmS s1 g1 s2 g2) (cmG s1 g1 s2 g2) s3 g3 ∧ cmG s1 g1 (cmS s2 g2 s3 g3) (cmG s2 g2 s3 g3) = cmG (cmS s1 g1 s2 g2) (cmG s1 g1 s2 g2) s3 g3 := by decide +kernel
theorem pr_facts0 : ∀ s ∈ [(1 : Int), 2, 4, 8], ∀ g : Bool, validB (prS s) = true ∧ prS (prS s) = prS s ∧ prG (prS s) (prG s g) = prG s g ∧ cmS s g s g = prS s ∧ cmG s g s g = prG s g := by decide +kernel

theorem eTT_ok {s1 s2 : Int} (v1 : validB s1 = true) (v2 : validB s2 = true) : eTT s1 s2 = 0 := by simp [eTT, eT, v1, v2]
theorem eTT_bad {s1 s2 : Int} (h : (validB s1 && validB s2) = false) : eTT s1 s2 = 10 := by
  cases v1 : validB s1 <;> simp_all [eTT, eT]
theorem usual_ok (s1 : Int) (g1 : Bool) (s2 : Int) (g2 : Bool) (v1 : validB s1 = true) (v2 : validB s2 = true) : RetT 17 #[tyV s1 g1, tyV s2 g2] (cmS s1 g1 s2 g2) (cmG s1 g1 s2 g2) 0 := fun w hp => by
  have h := busual_any s1 g1 s2 g2 w hp
  rw [v1, v2, eTT_ok v1 v2] at h
  exact h
theorem usual_bad (s1 : Int) (g1 : Bool) (s2 : Int) (g2 : Bool) (hv : (validB s1 && validB s2) = false) : RetT 17 #[tyV s1 g1, tyV s2 g2] 0 false 10 := fun w hp => by
  have h := busual_any s1 g1 s2 g2 w hp
  rw [hv, eTT_bad hv] at h
  exact h
theorem promote_ok (s : Int) (g : Bool) (v : validB s = true) : RetT 15 #[tyV s g] (prS s) (prG s g) 0 := fun w hp => by
  have h := bpromote_any s g w hp
  rw [v, show eT s = 0 by simp [eT, v]] at h
  exact h

theorem law_common (s1 : Int) (g1 : Bool) (s2 : Int) (g2 : Bool) (s3 : Int) (g3 : Bool) (w : World) (hp : PI w) (hE : EV w) :
    Calls Tryd.prog 7 #[tyV s1 g1, tyV s2 g2, tyV s3 g3] w fun e w' => e = .returned (.bool true) ∧ Below w.heap.size w w' := by
  cases h12 : (validB s1 && validB s2)
  · cases h23 : (validB s2 && validB s3)
    · exact common_bad s1 g1 s2 g2 s3 g3 _ _ _ _ _ _ (usual_bad s1 g1 s2 g2 h12) (usual_bad s2 g2 s3 g3 h23) (.inl rfl) w hp hE
    · have v := h23; rw [Bool.and_eq_true] at v
      exact common_bad s1 g1 s2 g2 s3 g3 _ _ _ _ _ _ (usual_bad s1 g1 s2 g2 h12) (usual_ok s2 g2 s3 g3 v.1 v.2) (.inl rfl) w hp hE
  · have v := h12; rw [Bool.and_eq_true] at v
    cases h23 : (validB s2 && validB s3)
    · exact common_bad s1 g1 s2 g2 s3 g3 _ _ _ _ _ _ (usual_ok s1 g1 s2 g2 v.1 v.2) (usual_bad s2 g2 s3 g3 h23) (.inr ⟨rfl, rfl⟩) w hp hE
    · have v' := h23; rw [Bool.and_eq_true] at v'
      have m1 := valid_mem s1 v.1; have m2 := valid_mem s2 v.2; have m3 := valid_mem s3 v'.2
      have c := cm_comm0 s1 m1 g1 s2 m2 g2
      have a := cm_assoc0 s1 m1 g1 s2 m2 g2 s3 m3 g3
      have p := pr_facts0 s1 m1 g1
      have H21 := usual_ok s2 g2 s1 g1 v.2 v.1
      rw [c.1, c.2] at H21
      have H1B := usual_ok s1 g1 (cmS s2 g2 s3 g3) (cmG s2 g2 s3 g3) v.1 (cm_valid0 s2 m2 g2 s3 m3 g3)
      rw [a.1, a.2] at H1B
      have HD := promote_ok (prS s1) (prG s1 g1) p.1
      rw [p.2.1, p.2.2.1] at HD
      have H11 := usual_ok s1 g1 s1 g1 v.1 v.1
      rw [p.2.2.2.1, p.2.2.2.2] at H11
      exact common_good s1 g1 s2 g2 s3 g3 _ _ _ _ _ _ _ _ (usual_ok s1 g1 s2 g2 v.1 v.2) (usual_ok s2 g2 s3 g3 v.2 v'.2) H21
        (usual_ok _ _ s3 g3 (cm_valid0 s1 m1 g1 s2 m2 g2) v'.2) H1B (promote_ok s1 g1 v.1) HD H11 w hp hE
end Go.Proofs.YtbdkacfddbiclaaDoor
