/-
  The reference of layer 1: Check, Wrapped, Wrap, Promoted, Promote, both, Convert.
-/
import Derived.Test.YtojcdjpaojgkkaaGreatDoorReg
import Derived.Test.YtojcdjpaojgkkaaGreatDoorLs
namespace Go.Proofs.YtojcdjpaojgkkaaGreatDoor
open Go.RowKit

/-- The reference's variable: its four types. -/
structure PR8 (w : World) : Prop where
  q0 : w.cell? ⟨1, 0, none⟩ = some (.int .i64 4)
  q1 : w.cell? ⟨1, 1, none⟩ = some (.bool true)
  q2 : w.cell? ⟨1, 2, none⟩ = some (.int .i64 4)
  q3 : w.cell? ⟨1, 3, none⟩ = some (.bool false)
  q4 : w.cell? ⟨1, 4, none⟩ = some (.int .i64 8)
  q5 : w.cell? ⟨1, 5, none⟩ = some (.bool true)
  q6 : w.cell? ⟨1, 6, none⟩ = some (.int .i64 8)
  q7 : w.cell? ⟨1, 7, none⟩ = some (.bool false)
theorem PR8.up {W W' : World} (g : Gr W.heap.size W W') (h : PR8 W) : PR8 W' := ⟨grC g h.q0, grC g h.q1, grC g h.q2, grC g h.q3, grC g h.q4, grC g h.q5, grC g h.q6, grC g h.q7⟩
theorem PR8.pr {W : World} (h : PR8 W) : PR W := ⟨h.q0, h.q1⟩

/-- Calls under the reference's variable. -/
@[reducible] def QetT (f : Nat) (args : Array Value) (s : Int) (g : Bool) (e : Int) : Prop :=
  ∀ w : World, PR8 w → Calls Tryz.prog f args w fun r w' => r = .returned (.tuple #[tyV s g, .int .i64 e]) ∧ Below w.heap.size w w'
@[reducible] def QetV (f : Nat) (args : Array Value) (s : Int) (g : Bool) : Prop :=
  ∀ w : World, PR8 w → Calls Tryz.prog f args w fun r w' => r = .returned (tyV s g) ∧ Below w.heap.size w w'
@[reducible] def QetI (f : Nat) (args : Array Value) (v : Int) : Prop :=
  ∀ w : World, PR8 w → Calls Tryz.prog f args w fun r w' => r = .returned (.int .i64 v) ∧ Below w.heap.size w w'

set_option maxHeartbeats 1000000 in
theorem rcheck_any (s : Int) (g : Bool) (w : World) : Calls Tryz.prog 18 #[tyV s g] w fun e w' => e = .returned (.int .i64 (eT s)) ∧ Below w.heap.size w w' := by
  by_cases h1 : s = 1
  · subst h1
    go_enter Tryz.func18, Tryz.ntmps18
    go_wp2
    go_ret
    exact ⟨rfl, (Below.refl _ _).alloc (Nat.le_refl _) _⟩
  · by_cases h2 : s = 2
    · subst h2
      go_enter Tryz.func18, Tryz.ntmps18
      go_wp2
      go_ret
      exact ⟨rfl, (Below.refl _ _).alloc (Nat.le_refl _) _⟩
    · by_cases h4 : s = 4
      · subst h4
        go_enter Tryz.func18, Tryz.ntmps18
        go_wp2
        go_ret
        exact ⟨rfl, (Below.refl _ _).alloc (Nat.le_refl _) _⟩
      · by_cases h8 : s = 8
        · subst h8
          go_enter Tryz.func18, Tryz.ntmps18
          go_wp2
          go_ret
          exact ⟨rfl, (Below.refl _ _).alloc (Nat.le_refl _) _⟩
        · have e : eT s = 10 := by simp [eT, validB, h1, h2, h4, h8]
          rw [e]
          have n1 : (s != 1) = true := bne_iff_ne.2 h1
          have n2 : (s != 2) = true := bne_iff_ne.2 h2
          have n4 : (s != 4) = true := bne_iff_ne.2 h4
          have n8 : (s != 8) = true := bne_iff_ne.2 h8
          go_enter Tryz.func18, Tryz.ntmps18
          go_wp2
          go_ret
          exact ⟨rfl, (Below.refl _ _).alloc (Nat.le_refl _) _⟩
set_option maxHeartbeats 1000000 in
theorem rwrapped_any (s : Int) (g : Bool) (v : Int) (w : World) : Calls Tryz.prog 19 #[tyV s g, .int .i64 v] w fun e w' => e = .returned (.int .i64 (wrapI s g v)) ∧ Below w.heap.size w w' := by
  by_cases h1 : s = 1
  · subst h1
    cases g
    all_goals
      go_enter Tryz.func19, Tryz.ntmps19
      go_wp2
      go_ret
      exact ⟨ret_int (by simp [wrapI, w64_i8]), (Below.refl _ _).alloc (Nat.le_refl _) _⟩
  · by_cases h2 : s = 2
    · subst h2
      cases g
      all_goals
        go_enter Tryz.func19, Tryz.ntmps19
        go_wp2
        go_ret
        exact ⟨ret_int (by simp [wrapI, w64_i16, w64_u16]), (Below.refl _ _).alloc (Nat.le_refl _) _⟩
    · by_cases h4 : s = 4
      · subst h4
        cases g
        all_goals
          go_enter Tryz.func19, Tryz.ntmps19
          go_wp2
          go_ret
          exact ⟨ret_int (by simp [wrapI, w64_i32]), (Below.refl _ _).alloc (Nat.le_refl _) _⟩
      · have e : wrapI s g v = v := by simp [wrapI, h1, h2, h4]
        rw [e]
        go_enter Tryz.func19, Tryz.ntmps19
        go_wp2
        go_ret
        exact ⟨rfl, (Below.refl _ _).alloc (Nat.le_refl _) _⟩
theorem rcheck_ok {s : Int} (v : validB s = true) (g : Bool) : RetV 18 #[tyV s g] 0 := fun w => by
  have h := rcheck_any s g w
  rw [show eT s = 0 by simp [eT, v]] at h
  exact h
theorem rcheck_bad {s : Int} (v : validB s = false) (g : Bool) : RetV 18 #[tyV s g] 10 := fun w => by
  have h := rcheck_any s g w
  rw [show eT s = 10 by simp [eT, v]] at h
  exact h

set_option maxHeartbeats 400000 in
theorem rpromoted_any (s : Int) (g : Bool) : QetV 20 #[tyV s g] (prS s) (prG s g) := fun w hq => by
  obtain ⟨q0, q1, _⟩ := hq
  have zq := szc q0
  by_cases h4 : s < 4
  all_goals
    go_enter Tryz.func20, Tryz.ntmps20
    go_wp2_with (go_at_call 48; (refine (i4_any _ ?hpp).mono ?_; case hpp => exact ⟨by go_simp, by go_simp⟩); rintro e w1 ⟨rfl, hb⟩; obtain ⟨os, n, rfl⟩ := Below.moreE hb; clear hb)
    (try replace h4 : ¬ s < 4 := by omega)
    refine bodyPost_ret (v := tyV (prS s) (prG s g)) (by simp [results, Tryz.results20, go_sem, prS, prG, h4]) rfl ⟨rfl, (Gr.below (by repeat (first | (with_reducible exact Gr.refl _) | with_reducible refine Gr.alloc ?_ _ | with_reducible refine Gr.more ?_ _ _ | with_reducible refine Gr.setCell ?_ (by dsimp only; omega) _ | with_reducible refine Gr.drew ?_)))⟩
theorem rboth_ok {s1 s2 : Int} (v1 : validB s1 = true) (v2 : validB s2 = true) (g1 g2 : Bool) : RetV 29 #[tyV s1 g1, tyV s2 g2] 0 := fun w => by
  have H1 := rcheck_ok v1 g1
  have H2 := rcheck_ok v2 g2
  go_enter Tryz.func29, Tryz.ntmps29
  go_wp2_with first | (go_at_call 18; (with_reducible refine (H1 _).mono ?_); rintro e w1 ⟨rfl, hb⟩; obtain ⟨os, n, rfl⟩ := Below.moreE hb; clear hb) | (go_at_call 18; (with_reducible refine (H2 _).mono ?_); rintro e w1 ⟨rfl, hb⟩; obtain ⟨os, n, rfl⟩ := Below.moreE hb; clear hb)
  refine bodyPost_ret (v := .int .i64 0) (by simp [results, Tryz.results29, go_sem]) rfl ⟨rfl, (Gr.below (by repeat (first | (with_reducible exact Gr.refl _) | with_reducible refine Gr.alloc ?_ _ | with_reducible refine Gr.more ?_ _ _ | with_reducible refine Gr.setCell ?_ (by dsimp only; omega) _ | with_reducible refine Gr.drew ?_)))⟩
theorem rboth_bad {s1 s2 : Int} (hv : (validB s1 && validB s2) = false) (g1 g2 : Bool) : RetV 29 #[tyV s1 g1, tyV s2 g2] 10 := fun w => by
  cases v1 : validB s1
  · have H1 := rcheck_bad v1 g1
    go_enter Tryz.func29, Tryz.ntmps29
    go_wp2_with (go_at_call 18; (refine (H1 _).mono ?_); rintro e w1 ⟨rfl, hb⟩; obtain ⟨os, n, rfl⟩ := Below.moreE hb; clear hb)
    refine bodyPost_ret (v := .int .i64 10) (by simp [results, Tryz.results29, go_sem]) rfl ⟨rfl, (Gr.below (by repeat (first | (with_reducible exact Gr.refl _) | with_reducible refine Gr.alloc ?_ _ | with_reducible refine Gr.more ?_ _ _ | with_reducible refine Gr.setCell ?_ (by dsimp only; omega) _ | with_reducible refine Gr.drew ?_)))⟩
  · have v2 : validB s2 = false := by simpa [v1] using hv
    have H1 := rcheck_ok v1 g1
    have H2 := rcheck_bad v2 g2
    go_enter Tryz.func29, Tryz.ntmps29
    go_wp2_with first | (go_at_call 18; (with_reducible refine (H1 _).mono ?_); rintro e w1 ⟨rfl, hb⟩; obtain ⟨os, n, rfl⟩ := Below.moreE hb; clear hb) | (go_at_call 18; (with_reducible refine (H2 _).mono ?_); rintro e w1 ⟨rfl, hb⟩; obtain ⟨os, n, rfl⟩ := Below.moreE hb; clear hb)
    refine bodyPost_ret (v := .int .i64 10) (by simp [results, Tryz.results29, go_sem]) rfl ⟨rfl, (Gr.below (by repeat (first | (with_reducible exact Gr.refl _) | with_reducible refine Gr.alloc ?_ _ | with_reducible refine Gr.more ?_ _ _ | with_reducible refine Gr.setCell ?_ (by dsimp only; omega) _ | with_reducible refine Gr.drew ?_)))⟩

end Go.Proofs.YtojcdjpaojgkkaaGreatDoor
