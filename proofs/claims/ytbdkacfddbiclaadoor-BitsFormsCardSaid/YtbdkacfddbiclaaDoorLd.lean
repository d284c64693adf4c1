/-
  The laws' helpers: op and wrap.
-/
import Derived.Test.YtbdkacfddbiclaaDoorLc
namespace Go.Proofs.YtbdkacfddbiclaaDoor
open Go.RowKit

/-- A call of Binary, with what it returns. -/
@[reducible] def RetB (n : Int) (s1 : Int) (g1 : Bool) (a : Int) (s2 : Int) (g2 : Bool) (b : Int) (S : Int) (G : Bool) (V E : Int) : Prop :=
  ∀ w : World, PI w → Calls Tryd.prog 37 #[.int .i64 n, tyV s1 g1, .int .i64 a, tyV s2 g2, .int .i64 b] w fun r w' => r = .returned (triV S G V E) ∧ Below w.heap.size w w'
/-- A call of op, with what it returns. -/
@[reducible] def RetO (n : Int) (s : Int) (g : Bool) (a b : Int) (S : Int) (G : Bool) (V : Int) : Prop :=
  ∀ w : World, PI w → Calls Tryd.prog 35 #[.int .i64 n, tyV s g, .int .i64 a, .int .i64 b] w fun r w' => r = .returned (.tuple #[tyV S G, .int .i64 V]) ∧ Below w.heap.size w w'
/-- A call that returns a number and an error. -/
@[reducible] def RetN (f : Nat) (args : Array Value) (v e : Int) : Prop :=
  ∀ w : World, PI w → Calls Tryd.prog f args w fun r w' => r = .returned (.tuple #[.int .i64 v, .int .i64 e]) ∧ Below w.heap.size w w'

/-- Calls that return one number, a text, and that read a text. -/
@[reducible] def RetV (f : Nat) (args : Array Value) (v : Int) : Prop := ∀ w : World, Calls Tryd.prog f args w fun r w' => r = .returned (.int .i64 v) ∧ Below w.heap.size w w'
@[reducible] def RetS (f : Nat) (args : Array Value) (t : ByteArray) (e : Int) : Prop := ∀ w : World, Calls Tryd.prog f args w fun r w' => r = .returned (.tuple #[.string t, .int .i64 e]) ∧ Below w.heap.size w w'
@[reducible] def RetP (f : Nat) (args : Array Value) (v e : Int) : Prop := ∀ w : World, EV w → Calls Tryd.prog f args w fun r w' => r = .returned (.tuple #[.int .i64 v, .int .i64 e]) ∧ Below w.heap.size w w'
@[reducible] def RetM (f : Nat) (args : Array Value) (v e : Int) : Prop := ∀ w : World, Calls Tryd.prog f args w fun r w' => r = .returned (.tuple #[.int .i64 v, .int .i64 e]) ∧ Below w.heap.size w w'

set_option maxHeartbeats 1000000 in
theorem op_of {n : Int} {s : Int} {g : Bool} {a b : Int} {S : Int} {G : Bool} {V E : Int} (H : RetB n s g a s g b S G V E) : RetO n s g a b S G V := fun w hp => by
  obtain ⟨p0, p1, hsz⟩ := hp
  go_enter Tryd.func35, Tryd.ntmps35
  go_wp2_with (go_at_call 37; (refine (H _ ?hpp).mono ?_; case hpp => exact ⟨by go_simp, by go_simp, by go_simp <;> omega⟩); rintro e w1 ⟨rfl, hb⟩; obtain ⟨os, n, rfl⟩ := Below.moreE hb; clear hb)
  all_goals
    refine bodyPost_ret (v := .tuple #[tyV S G, .int .i64 V]) ?_ rfl ⟨rfl, (Gr.below (by repeat (first | (with_reducible exact Gr.refl _) | with_reducible refine Gr.alloc ?_ _ | with_reducible refine Gr.more ?_ _ _ | with_reducible refine Gr.setCell ?_ (by dsimp only; omega) _ | with_reducible refine Gr.drew ?_)))⟩
    simp [results, Tryd.results35, go_sem, *]

theorem lwrap_any (s : Int) (g : Bool) (v : Int) (w : World) : Calls Tryd.prog 36 #[tyV s g, .int .i64 v] w fun e w' => e = .returned (.int .i64 (sel (validB s) (wrapI s g v) 0)) ∧ Below w.heap.size w w' := by
  go_enter Tryd.func36, Tryd.ntmps36
  go_wp2_with (go_at_call 19; (refine (bwrap_any _ _ _ _).mono ?_); rintro e w1 ⟨rfl, hb⟩; obtain ⟨os, n, rfl⟩ := Below.moreE hb; clear hb)
  refine bodyPost_ret (v := .int .i64 (sel (validB s) (wrapI s g v) 0)) ?_ rfl ⟨rfl, (Gr.below (by repeat (first | (with_reducible exact Gr.refl _) | with_reducible refine Gr.alloc ?_ _ | with_reducible refine Gr.more ?_ _ _ | with_reducible refine Gr.setCell ?_ (by dsimp only; omega) _ | with_reducible refine Gr.drew ?_)))⟩
  simp [results, Tryd.results36, go_sem]
end Go.Proofs.YtbdkacfddbiclaaDoor
