import Derived.Test.YtojcdjpaojgkkaaGreatDoorPb
namespace Go.Proofs.YtojcdjpaojgkkaaGreatDoor
open Go.RowKit

/-- The value that a sign and a magnitude make, if the type has it. -/
def nmOK (s : Int) (g : Bool) (neg : Bool) (m : Int) : Bool := if neg = true then decide (m ≤ u64 (-(u64 (rgL s g)))) else decide (m ≤ u64 (rgH s g))
def nmV (neg : Bool) (m : Int) : Int := if neg = true then wrap64 (u64 (-m)) else wrap64 m

set_option maxHeartbeats 400000 in
theorem numbered_any (s : Int) (g : Bool) (neg : Bool) (m : Int) (w : World) (hv : validB s = true) : Calls Tryz.prog 37 #[tyV s g, .bool neg, .int .u64 m] w fun e w' => e = .returned (.tuple #[.int .i64 (sel (nmOK s g neg m) (nmV neg m) 0), .int .i64 (sel (nmOK s g neg m) 0 13)]) ∧ Below w.heap.size w w' := by
  cases neg
  · cases h : nmOK s g false m
    · have h1 : u64 (rgH s g) < m := by simp [nmOK] at h; omega
      clear h
      unfold u64 at h1
      go_enter Tryz.func37, Tryz.ntmps37
      go_wp2_with (go_at_call 73; (refine (limits_any _ _ _ ?hpp).mono ?_; case hpp => exact hv); rintro e w1 ⟨rfl, hb⟩; obtain ⟨os, n, rfl⟩ := Below.moreE hb; clear hb)
      go_ret2
      exact ⟨by simp [sel], (Gr.below (by repeat (first | (with_reducible exact Gr.refl _) | with_reducible refine Gr.alloc ?_ _ | with_reducible refine Gr.more ?_ _ _ | with_reducible refine Gr.setCell ?_ (by dsimp only; omega) _ | with_reducible refine Gr.drew ?_)))⟩
    · have h1 : m ≤ u64 (rgH s g) := by simpa [nmOK] using h
      clear h
      unfold u64 at h1
      go_enter Tryz.func37, Tryz.ntmps37
      go_wp2_with (go_at_call 73; (refine (limits_any _ _ _ ?hpp).mono ?_; case hpp => exact hv); rintro e w1 ⟨rfl, hb⟩; obtain ⟨os, n, rfl⟩ := Below.moreE hb; clear hb)
      go_ret2
      exact ⟨by simp [sel, nmV], (Gr.below (by repeat (first | (with_reducible exact Gr.refl _) | with_reducible refine Gr.alloc ?_ _ | with_reducible refine Gr.more ?_ _ _ | with_reducible refine Gr.setCell ?_ (by dsimp only; omega) _ | with_reducible refine Gr.drew ?_)))⟩
  · cases h : nmOK s g true m
    · have h1 : u64 (-(u64 (rgL s g))) < m := by simp [nmOK] at h; omega
      clear h
      unfold u64 at h1
      go_enter Tryz.func37, Tryz.ntmps37
      go_wp2_with (go_at_call 73; (refine (limits_any _ _ _ ?hpp).mono ?_; case hpp => exact hv); rintro e w1 ⟨rfl, hb⟩; obtain ⟨os, n, rfl⟩ := Below.moreE hb; clear hb)
      go_ret2
      exact ⟨by simp [sel], (Gr.below (by repeat (first | (with_reducible exact Gr.refl _) | with_reducible refine Gr.alloc ?_ _ | with_reducible refine Gr.more ?_ _ _ | with_reducible refine Gr.setCell ?_ (by dsimp only; omega) _ | with_reducible refine Gr.drew ?_)))⟩
    · have h1 : m ≤ u64 (-(u64 (rgL s g))) := by simpa [nmOK] using h
      clear h
      unfold u64 at h1
      go_enter Tryz.func37, Tryz.ntmps37
      go_wp2_with (go_at_call 73; (refine (limits_any _ _ _ ?hpp).mono ?_; case hpp => exact hv); rintro e w1 ⟨rfl, hb⟩; obtain ⟨os, n, rfl⟩ := Below.moreE hb; clear hb)
      go_ret2
      exact ⟨by simp [sel, nmV, u64], (Gr.below (by repeat (first | (with_reducible exact Gr.refl _) | with_reducible refine Gr.alloc ?_ _ | with_reducible refine Gr.more ?_ _ _ | with_reducible refine Gr.setCell ?_ (by dsimp only; omega) _ | with_reducible refine Gr.drew ?_)))⟩

set_option maxRecDepth 100000 in
set_option maxHeartbeats 400000 in
theorem pu_empty (b : Int) (w : World) : Calls Tryz.prog 77 #[.string ByteArray.empty, .int .i64 b, .int .i64 64] w fun e w' => PuP b [] e ∧ w = w' := by
  have hnm : ByteArray.empty.toList.isEmpty = true := by rw [ByteArray.toList_eq]; rfl
  go_enter Tryz.func77, Tryz.ntmps77
  go_wp2
  go_ret2
  exact ⟨Or.inr ⟨rfl, _, _, rfl, Or.inr rfl⟩, rfl⟩
end Go.Proofs.YtojcdjpaojgkkaaGreatDoor
