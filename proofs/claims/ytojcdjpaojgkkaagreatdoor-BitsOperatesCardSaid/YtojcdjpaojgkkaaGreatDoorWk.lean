import Derived.Test.YtojcdjpaojgkkaaGreatDoorWh1
import Derived.Test.YtojcdjpaojgkkaaGreatDoorWh2
import Derived.Test.YtojcdjpaojgkkaaGreatDoorWh3
import Derived.Test.YtojcdjpaojgkkaaGreatDoorWh4
import Derived.Test.YtojcdjpaojgkkaaGreatDoorWi
import Derived.Test.YtojcdjpaojgkkaaGreatDoorWj1
import Derived.Test.YtojcdjpaojgkkaaGreatDoorWj2
namespace Go.Proofs.YtojcdjpaojgkkaaGreatDoor
open Go.RowKit

theorem fn_none (op : Int) (h : op < 1 ∨ 16 < op) : (fnV arL op = .nilFunc ∧ fnH arL op = false) ∧ (fnV shL op = .nilFunc ∧ fnH shL op = false) ∧ (fnV reL op = .nilFunc ∧ fnH reL op = false) := by
  have ne : ∀ k : Int, 1 ≤ k → k ≤ 16 → (k == op) = false := fun k h1 h2 => beq_eq_false_iff_ne.2 (by omega)
  simp [fnV, fnH, arL, shL, reL, ne]

set_option maxRecDepth 100000 in
set_option maxHeartbeats 2000000 in
theorem bin_none (op : Int) (hw : (Lit.int .i64 op).wf = true) (ho : op < 1 ∨ 16 < op) (s1 : Int) (g1 : Bool) (a : Int) (s2 : Int) (g2 : Bool) (b : Int) (w : World) (v1 : validB s1 = true) (v2 : validB s2 = true) :
    Calls Tryz.prog 7 #[.int .i64 op, tyV s1 g1, .int .i64 a, tyV s2 g2, .int .i64 b] w fun e w' => e = .returned (triV 0 false 0 11) ∧ Below w.heap.size w w' := by
  obtain ⟨⟨a1, a2⟩, ⟨a3, a4⟩, a5, a6⟩ := fn_none op ho
  have A1 := Lib.hid a1
  have A2 := Lib.hid a2
  have A3 := Lib.hid a3
  have A4 := Lib.hid a4
  have A5 := Lib.hid a5
  have A6 := Lib.hid a6
  clear a1 a2 a3 a4 a5 a6 ho
  go_enter Tryz.func7, Tryz.ntmps7
  go_wp2_with (go_at_call 14; (refine (valid_any _ _ _).mono ?_); rintro e w1 ⟨rfl, hb⟩; obtain ⟨os, n, rfl⟩ := Below.moreE hb; clear hb)
  go_region_held3 (fun w' => w'.cell? ⟨w.heap.size, 0, none⟩ = some (.int .i64 s1) ∧ w'.cell? ⟨w.heap.size, 1, none⟩ = some (.bool g1) ∧ w'.cell? ⟨w.heap.size + 1, 0, none⟩ = some (.int .i64 s2) ∧ w'.cell? ⟨w.heap.size + 1, 1, none⟩ = some (.bool g2)) (exact ⟨by go_simp <;> omega, by go_simp <;> omega, by go_simp <;> omega, by go_simp <;> omega⟩) (first | (go_at_call 17; (refine (wrap_any _ _ _ _).mono ?_); rintro e w1 ⟨rfl, hb⟩; obtain ⟨os, n, rfl⟩ := Below.moreE hb; clear hb))
  go_wp2_with first | (go_at_call 22; (refine (arithmetic_look op hw .nilFunc false A1.out A2.out _).mono ?_); rintro e w1 ⟨bm, rfl, hl, hb⟩; obtain ⟨os, n, rfl⟩ := Below.moreE hb; clear hb) | (go_at_call 24; (refine (shifts_look op hw .nilFunc false A3.out A4.out _).mono ?_); rintro e w1 ⟨bm2, rfl, hl2, hb⟩; obtain ⟨os, n, rfl⟩ := Below.moreE hb; clear hb) | (go_at_call 26; (refine (relations_look op hw .nilFunc false A5.out A6.out _).mono ?_); rintro e w1 ⟨bm3, rfl, hl3, hb⟩; obtain ⟨os, n, rfl⟩ := Below.moreE hb; clear hb)
  refine bodyPost_ret (v := triV 0 false 0 11) ?_ rfl ⟨rfl, (Gr.below (by repeat (first | (with_reducible exact Gr.refl _) | with_reducible refine Gr.alloc ?_ _ | with_reducible refine Gr.more ?_ _ _ | with_reducible refine Gr.setCell ?_ (by dsimp only; omega) _ | with_reducible refine Gr.drew ?_)))⟩
  simp [results, Tryz.results7, go_sem, triV]

set_option maxRecDepth 100000 in
set_option maxHeartbeats 2000000 in
theorem bin_bad (op : Int) (s1 : Int) (g1 : Bool) (a : Int) (s2 : Int) (g2 : Bool) (b : Int) (w : World) (hv : (validB s1 && validB s2) = false) :
    Calls Tryz.prog 7 #[.int .i64 op, tyV s1 g1, .int .i64 a, tyV s2 g2, .int .i64 b] w fun e w' => e = .returned (triV 0 false 0 10) ∧ Below w.heap.size w w' := by
  by_cases v1 : validB s1 = true
  · have v2 : validB s2 = false := by simpa [v1] using hv
    clear hv
    go_enter Tryz.func7, Tryz.ntmps7
    go_wp2_with (go_at_call 14; (refine (valid_any _ _ _).mono ?_); rintro e w1 ⟨rfl, hb⟩; obtain ⟨os, n, rfl⟩ := Below.moreE hb; clear hb)
    refine bodyPost_ret (v := triV 0 false 0 10) ?_ rfl ⟨rfl, (Gr.below (by repeat (first | (with_reducible exact Gr.refl _) | with_reducible refine Gr.alloc ?_ _ | with_reducible refine Gr.more ?_ _ _ | with_reducible refine Gr.setCell ?_ (by dsimp only; omega) _ | with_reducible refine Gr.drew ?_)))⟩
    simp [results, Tryz.results7, go_sem, triV]
  · clear hv
    go_enter Tryz.func7, Tryz.ntmps7
    go_wp2_with (go_at_call 14; (refine (valid_any _ _ _).mono ?_); rintro e w1 ⟨rfl, hb⟩; obtain ⟨os, n, rfl⟩ := Below.moreE hb; clear hb)
    refine bodyPost_ret (v := triV 0 false 0 10) ?_ rfl ⟨rfl, (Gr.below (by repeat (first | (with_reducible exact Gr.refl _) | with_reducible refine Gr.alloc ?_ _ | with_reducible refine Gr.more ?_ _ _ | with_reducible refine Gr.setCell ?_ (by dsimp only; omega) _ | with_reducible refine Gr.drew ?_)))⟩
    simp [results, Tryz.results7, go_sem, triV]
end Go.Proofs.YtojcdjpaojgkkaaGreatDoor
