import Derived.Test.YtojcdjpaojgkkaaGreatDoorWa
import Derived.BigQuiet
import Derived.Deep.QuietTactic
import Derived.Deep.DeepCutAuto
namespace Go.Proofs.YtojcdjpaojgkkaaGreatDoor
open Go.RowKit

set_option maxHeartbeats 1000000 in
theorem common_any (s1 : Int) (g1 : Bool) (s2 : Int) (g2 : Bool) (w : World) (hp : PI w) (h1 : validB s1 = true) (h2 : validB s2 = true) : Calls Tryz.prog 23 #[tyV s1 g1, tyV s2 g2] w fun e w' => e = .returned (tyV (cmS s1 g1 s2 g2) (cmG s1 g1 s2 g2)) ∧ Below w.heap.size w w' := by
  obtain ⟨p0, p1, hsz⟩ := hp
  obtain ⟨l1, u1⟩ := prS_le s1 h1
  obtain ⟨l2, u2⟩ := prS_le s2 h2
  clear h1 h2
  go_enter Tryz.func23, Tryz.ntmps23
  go_upto_region 1 with fail
  go_cut [] (fun wx => (wx.cell? ⟨w.heap.size, 0, none⟩ = some (.int .i64 (prS s1)) ∧ wx.cell? ⟨w.heap.size, 1, none⟩ = some (.bool (prG s1 g1)) ∧ wx.cell? ⟨w.heap.size + 1, 0, none⟩ = some (.int .i64 (prS s2)) ∧ wx.cell? ⟨w.heap.size + 1, 1, none⟩ = some (.bool (prG s2 g2)) ∧
    (∃ x y, wx.cell? ⟨w.heap.size + 1 + 1, 0, none⟩ = some x ∧ wx.cell? ⟨w.heap.size + 1 + 1, 1, none⟩ = some y) ∧ wx.frozen? ⟨w.heap.size + 1 + 1, 0, none⟩ = false ∧ wx.frozen? ⟨w.heap.size + 1 + 1, 1, none⟩ = false) ∧ Below w.heap.size w wx ∧ w.heap.size + 3 ≤ wx.heap.size)
  case first =>
    go_region_with (go_at_call 16; (refine (promoted_any _ _ _ ?hpp).mono ?_; case hpp => exact ⟨by go_simp, by go_simp, by go_simp <;> omega⟩); rintro e w1 ⟨rfl, hb⟩; obtain ⟨os, n, rfl⟩ := Below.moreE hb; clear hb)
    all_goals
      go_wp2_with fail
      go_meet
      exact ⟨⟨by go_simp, by go_simp, by go_simp, by go_simp, ⟨.int .i64 0, .bool false, by go_simp, by go_simp⟩, by go_simp, by go_simp⟩, (Gr.below (by repeat (first | (with_reducible exact Gr.refl _) | with_reducible refine Gr.alloc ?_ _ | with_reducible refine Gr.more ?_ _ _ | with_reducible refine Gr.setCell ?_ (by dsimp only; omega) _ | with_reducible refine Gr.drew ?_))), by simp <;> omega⟩
  case rest =>
  obtain ⟨⟨c0, c1, c2, c3, ⟨x, y, c4, c5⟩, f4, f5⟩, hB, hz⟩ := hcut
  clear p0 p1 hsz
  go_upto_region 2 with fail
  go_cut [13] (fun s13 wy => s13 = .bool (cmL s1 g1 s2 g2) ∧ ∃ os n, wy = wc.more os n)
  case first =>
    go_region_with (go_at_call 57; (refine (rank_any _ _ _ ?hpp).mono ?_; case hpp => omega); rintro e w1 ⟨rfl, hb⟩; obtain ⟨os, n, rfl⟩ := Below.moreE hb; clear hb)
    all_goals
      go_wp2_with fail
      go_meet
      exact ⟨rfl, _, _, rfl⟩
  case rest =>
  obtain ⟨rfl, os, n, rfl⟩ := hcut
  cases hl : cmL s1 g1 s2 g2
  all_goals
    go_wp2
    refine bodyPost_ret (v := tyV (cmS s1 g1 s2 g2) (cmG s1 g1 s2 g2)) ?_ rfl ⟨rfl, ?_⟩
    · simp [results, Tryz.results23, go_sem, cmS, cmG, *]
    · refine Gr.below ?_
      have hG : Gr w.heap.size w wc := ⟨hB, by omega⟩
      repeat (first | (with_reducible exact hG) | with_reducible refine Gr.alloc ?_ _ | with_reducible refine Gr.more ?_ _ _ | with_reducible refine Gr.setCell ?_ (by dsimp only; omega) _ | with_reducible refine Gr.drew ?_)
end Go.Proofs.YtojcdjpaojgkkaaGreatDoor
