/-
  Layer 2: the law InsnLines, where the instruction is not one.
-/
import Derived.Test.YtadiglonlchgaaaDoorQg
import Derived.Test.YtadiglonlchgaaaDoorQe
namespace Go.Proofs.YtadiglonlchgaaaDoor
open Go.RowKit Go.Shelf Go.WideMaps Go.Maps

set_option maxRecDepth 100000 in
set_option maxHeartbeats 4000000 in
theorem lines_bad {op a b n : Int} (h : okX op a b n = false) (w : World) (hT : TB w) (hP : PT w) :
    Calls Tryd.prog 6 #[inV op a b n] w fun e w' => e = .returned (.bool true) ∧ Below w.heap.size w w' := by
  have SN := fun W (g : Below w.heap.size w W) => sane_yes W (hT.up g) (hP.up g)
  have PR := fun W (g : Below w.heap.size w W) => print_bad h W (hT.up g)
  have CH := fun W (g : Below w.heap.size w W) => check_bad h W (hT.up g)
  clear hT hP h
  go_enter Tryd.func6, Tryd.ntmps6
  go_upto_region 2 with (go_at_call 7; (with_reducible refine (SN _ ((Below.refl _ _).alloc (Nat.le_refl _) _)).mono ?_); rintro e w1 ⟨rfl, hL1⟩)
  have b0 : Below w.heap.size w (w.alloc (.cells #[.int .i64 op, .int .i64 a, .int .i64 b, .int .i64 n] 23)) := (Below.refl _ _).alloc (Nat.le_refl _) _
  have hz : w.heap.size < (w.alloc (.cells #[.int .i64 op, .int .i64 a, .int .i64 b, .int .i64 n] 23)).heap.size := by simp
  refine wp_gen (fun W => Below w.heap.size w W ∧ w.heap.size < W.heap.size ∧ W.cell? ⟨w.heap.size, 0, none⟩ = some (.int .i64 op) ∧ W.cell? ⟨w.heap.size, 1, none⟩ = some (.int .i64 a) ∧ W.cell? ⟨w.heap.size, 2, none⟩ = some (.int .i64 b) ∧ W.cell? ⟨w.heap.size, 3, none⟩ = some (.int .i64 n)) ⟨b0.trans (hL1.mono b0.size), Nat.lt_of_lt_of_le hz hL1.size, cell_up hL1 hz (by rw [cell_of_row _ _ 0 _ _ (0, 0) (heap_alloc_new w _)]; rfl), cell_up hL1 hz (by rw [cell_of_row _ _ 1 _ _ (0, 0) (heap_alloc_new w _)]; rfl), cell_up hL1 hz (by rw [cell_of_row _ _ 2 _ _ (0, 0) (heap_alloc_new w _)]; rfl), cell_up hL1 hz (by rw [cell_of_row _ _ 3 _ _ (0, 0) (heap_alloc_new w _)]; rfl)⟩ ?_
  rintro W ⟨gW, lq, x0, x1, x2, x3⟩
  clear b0 hz hL1 SN
  go_upto_region 3 with (go_at_call 11; (with_reducible refine (PR _ gW).mono ?_); rintro e w2 ⟨rfl, hL2⟩)
  have b2 := gW.trans (hL2.mono gW.size)
  replace x0 := cell_up hL2 lq x0
  replace x1 := cell_up hL2 lq x1
  replace x2 := cell_up hL2 lq x2
  replace x3 := cell_up hL2 lq x3
  have lq2 := lt_of_cell x0
  go_wp2_with (go_at_call 12; (with_reducible refine (CH _ b2).mono ?_); rintro e w3 ⟨rfl, hL3⟩)
  go_ret
  exact ⟨rfl, b2.trans (hL3.mono b2.size)⟩
end Go.Proofs.YtadiglonlchgaaaDoor
