/-
  Layer 2, contracts: an error is caught.
-/
import Derived.Test.YtjlbcpmfbokinaaGreatDoorGD
import Derived.Defers
import Derived.Recover
import Derived.Laws.Pointers
set_option linter.unusedSimpArgs false
set_option linter.unusedVariables false
namespace Go.Proofs.YtjlbcpmfbokinaaGreatDoor
open Go.RowKit

set_option maxRecDepth 100000 in
theorem catch_err (B : Nat) (x E : Int) (w : World) (hx : w.cell? ⟨B, 0, none⟩ = some (.int .i64 x)) (fx : w.frozen? ⟨B, 0, none⟩ = false) :
    CallsD Tryz.prog 60 #[.pointer (some ⟨B, 0, none⟩)] (.panicking (erV E)) w fun e u' w' =>
      e = .returned (.tuple #[]) ∧ u' = .panicking [{ v := .iface 25 (.int .i64 E), recovered := true }] ∧ w' = w.setCell ⟨B, 0, none⟩ (.int .i64 E) := by
  have hb := lt_of_cell hx
  have hta : ∀ (E : Int) (w : World), (Instr.typeAssert (.iface 25 (.int .i64 E)) 20 25 true).run Tryz.prog w = .ok (.tuple #[.int .i64 E, .bool true]) w := fun _ _ => by kernel_rfl
  refine callsD_of_wpS Tryz.func60 rfl fun c₀ cs hu => ?_
  simp only [Tryz.ntmps60, List.size_toArray, List.length_cons, List.length_nil, Nat.reduceAdd, Nat.reduceSub, Array.replicate_succ, Array.replicate_zero, List.push_toArray, List.append_toArray, List.nil_append, List.cons_append]
  apply wpS_seq
  apply wpS_region
  simp [wpOpsS, go_sem, recoverD, hu, Exit.thenS]
  have Hu := Lib.hid hu
  clear hu
  refine wpS_of_wp ?_
  go_wp2
  exact ⟨rfl, _, rfl, _, results_none rfl _ _ _, rfl, rfl, rfl⟩

set_option maxRecDepth 100000 in
theorem catch_none (B : Nat) (w : World) :
    CallsD Tryz.prog 60 #[.pointer (some ⟨B, 0, none⟩)] .returning w fun e u' w' => e = .returned (.tuple #[]) ∧ u' = .returning ∧ w' = w := by
  refine callsD_of_wpS Tryz.func60 rfl fun c₀ cs hu => ?_
  simp only [Tryz.ntmps60, List.size_toArray, List.length_cons, List.length_nil, Nat.reduceAdd, Nat.reduceSub, Array.replicate_succ, Array.replicate_zero, List.push_toArray, List.append_toArray, List.nil_append, List.cons_append]
  apply wpS_seq
  apply wpS_region
  simp [wpOpsS, go_sem, recoverD, hu, Exit.thenS]
  have Hu := Lib.hid hu
  clear hu
  refine wpS_of_wp ?_
  go_wp2
  exact ⟨rfl, .returning, by have := Hu.out; cases c₀; simp_all, _, results_none rfl _ _ _, rfl, rfl, rfl⟩

/-- The world behind 'caught': the box of the error, B, and what was made behind it. -/
structure CaughtE (B : Nat) (wm w' : World) : Prop where
  os : w'.os = wm.os
  tape : w'.tape = wm.tape
  output : w'.output = wm.output
  size : wm.heap.size ≤ w'.heap.size
  other : ∀ k, k < wm.heap.size → k ≠ B → w'.heap[k]? = wm.heap[k]?
theorem CaughtE.refl (B : Nat) (w : World) : CaughtE B w w := ⟨rfl, rfl, rfl, Nat.le_refl _, fun _ _ _ => rfl⟩
theorem CaughtE.set {B : Nat} {wm w' : World} (h : CaughtE B wm w') (o : Nat) (v : Value) : CaughtE B wm (w'.setCell ⟨B, o, none⟩ v) :=
  ⟨h.os, h.tape, h.output, by rw [World.size_setCell]; exact h.size, fun k hk hne => (Below.heap_setCell _ _ _ _ hne).trans (h.other k hk hne)⟩

set_option maxRecDepth 100000 in
theorem caught_gen (F : Nat) (first caps : Array Value) (hF : ∀ args w, (callFunc F args).run Tryz.prog w = .ok (.enter F args) w) (w : World) (R : Int → World → Prop)
    (H : Calls Tryz.prog F (first ++ caps) (w.alloc (.cells #[.int .i64 0] 25)) fun e w' => w.heap.size < w'.heap.size ∧ w'.heap[w.heap.size]? = some (.cells #[.int .i64 0] 25 (0, 0)) ∧ ((e = .returned (.tuple #[]) ∧ R 0 w') ∨ ∃ E, e = .panicked (erV E) ∧ R E w')) :
    Calls Tryz.prog 46 #[.func (.func F) first caps] w fun e w' => ∃ E wm, e = .returned (.int .i64 E) ∧ R E wm ∧ CaughtE w.heap.size wm w' := by
  have hmf : ∀ (fn : Fn) (first cap : Array Value) (w : World), (Instr.makeFunc fn first cap).run Tryz.prog w = .ok (.func fn first cap) w := fun _ _ _ _ => rfl
  go_enter_defers Tryz.func46, Tryz.ntmps46
  go_wp2
  refine H.mono ?_
  rintro e w1 ⟨hz, hB, h⟩
  have c0 : w1.cell? ⟨w.heap.size, 0, none⟩ = some (.int .i64 0) := by simp [World.cell?, hB]
  have f0 : w1.frozen? ⟨w.heap.size, 0, none⟩ = false := by simp [World.frozen?, hB]
  rcases h with ⟨rfl, hR⟩ | ⟨E, rfl, hR⟩
  · go_wp2
    refine leaves_cons (f := 60) (args := #[.pointer (some ⟨w.heap.size, 0, none⟩)]) (by simp) (by simp [go_sem]) ?_
    refine (catch_none w.heap.size _).mono ?_
    rintro e u' w'' ⟨rfl, rfl, rfl⟩
    have g0 : (w1.setCell ⟨w.heap.size, 0, none⟩ (.int .i64 0)).cell? ⟨w.heap.size, 0, none⟩ = some (.int .i64 0) := by go_simp
    refine ⟨.int .i64 0, by simp [results, Tryz.results46, go_sem, g0], 0, w1, rfl, hR, ?_⟩
    exact (CaughtE.refl _ _).set _ _
  · go_wp2
    refine leaves_cons (f := 60) (args := #[.pointer (some ⟨w.heap.size, 0, none⟩)]) (by simp) (by simp [go_sem]) ?_
    refine (catch_err w.heap.size 0 E _ c0 f0).mono ?_
    rintro e u' w'' ⟨rfl, rfl, rfl⟩
    have g0 : (w1.setCell ⟨w.heap.size, 0, none⟩ (.int .i64 E)).cell? ⟨w.heap.size, 0, none⟩ = some (.int .i64 E) := by go_simp
    refine ⟨.int .i64 E, by simp [results, Tryz.results46, go_sem, g0], E, w1, rfl, hR, ?_⟩
    exact (CaughtE.refl _ _).set _ _
end Go.Proofs.YtjlbcpmfbokinaaGreatDoor
