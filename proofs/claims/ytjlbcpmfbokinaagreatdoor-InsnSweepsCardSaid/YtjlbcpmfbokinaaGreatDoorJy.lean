/-
  Layer 2, contracts: Print, at the example's instruction.
-/
import Derived.Test.YtjlbcpmfbokinaaGreatDoorJx
set_option linter.unusedSimpArgs false
set_option linter.unusedVariables false
namespace Go.Proofs.YtjlbcpmfbokinaaGreatDoor
open Go.RowKit Go.Shelf

theorem it1 : itB 1 = ⟨#[49]⟩ := by decide +kernel
theorem it7 : itB 7 = ⟨#[55]⟩ := by decide +kernel
theorem itm8 : itB (-8) = ⟨#[45, 56]⟩ := by decide +kernel
theorem row18 : rowOV 18 = .agg #[.int .i64 18, .string ⟨#[108, 111, 97, 100, 56]⟩, .int .i64 5, .int .i64 2, .int .i64 1] := by rfl
theorem ok18 : okX 18 1 7 (-8) = true := by decide +kernel
/-- The line, as far as its operands go. -/
def txK (k : Nat) : ByteArray := if k = 0 then ⟨#[108, 111, 97, 100, 56]⟩ else if k = 1 then ⟨#[108, 111, 97, 100, 56, 32, 114, 49]⟩ else ⟨#[108, 111, 97, 100, 56, 32, 114, 49, 44, 32, 91, 114, 55, 45, 56, 93]⟩
set_option maxRecDepth 100000 in
set_option maxHeartbeats 4000000 in
theorem print_ex (w : World) (hT : TB w) (hP : PT w) : Calls Tryz.prog 27 #[inV 18 1 7 (-8)] w fun e w' => e = .returned (.tuple #[.string ⟨#[108, 111, 97, 100, 56, 32, 114, 49, 44, 32, 91, 114, 55, 45, 56, 93]⟩, .int .i64 0]) ∧ Below w.heap.size w w' := by
  have D : ∀ W, Below w.heap.size w W → Calls Tryz.prog 31 #[inV 18 1 7 (-8)] W fun e w' => e = .returned (.tuple #[.agg #[.int .i64 18, .string ⟨#[108, 111, 97, 100, 56]⟩, .int .i64 5, .int .i64 2, .int .i64 1], .int .i64 0]) ∧ Below W.heap.size W w' := fun W g => by rw [← row18]; exact described_ok ok18 W (hT.up g)
  have OA : ∀ W, Below w.heap.size w W → Calls Tryz.prog 45 #[.int .i64 0, inV 18 1 7 (-8)] W fun e w' => e = .returned (.string ⟨#[114, 49]⟩) ∧ Below W.heap.size W w' := fun W g => by
    have := opText_A 18 1 7 (-8) (by decide) W (hP.up g)
    rw [it1] at this
    exact this
  have OD : ∀ W, Below w.heap.size w W → Calls Tryz.prog 45 #[.int .i64 3, inV 18 1 7 (-8)] W fun e w' => e = .returned (.string ⟨#[91, 114, 55, 45, 56, 93]⟩) ∧ Below W.heap.size W w' := fun W g => by
    have := opText_addr 18 1 7 (-8) (by decide) (by decide) (by decide) W (hP.up g)
    rw [it7, itm8] at this
    exact this
  obtain ⟨q, c, hq, hsq⟩ := hT.ly.o 5 (by decide)
  have hops : opsS 5 = [0, 3] := rfl
  rw [hops] at hq hsq
  obtain ⟨qb, qo, rfl, hc⟩ := hsq.resolve_left (by simp [iV])
  have y0 : w.cell? ⟨qb, qo, none⟩ = some (.int .i64 0) := hc 0 _ rfl
  have y1 : w.cell? ⟨qb, qo + 1, none⟩ = some (.int .i64 3) := hc 1 _ rfl
  have hq' : w.cell? ⟨0, 29, none⟩ = some (.slice (some ⟨qb, qo, none⟩) 2 c) := hq
  have lq := lt_of_cell hq'
  have ly := lt_of_cell y0
  clear hc hsq hq hops hT hP
  go_enter Tryz.func27, Tryz.ntmps27
  go_wp2_with (go_at_call 31; (refine (D _ (Gr.below (by repeat (first | (with_reducible exact Gr.refl _) | with_reducible refine Gr.alloc ?_ _ | with_reducible refine Gr.more ?_ _ _ | with_reducible refine Gr.setCell ?_ (by dsimp only; omega) _ | with_reducible refine Gr.drew ?_)))).mono ?_); rintro e w1 ⟨rfl, hb⟩; obtain ⟨os, n', rfl⟩ := Below.moreE hb; clear hb)
  go_loopw [6, 25] (fun s i wr => ∃ k : Nat, k ≤ 2 ∧ i = .int .i64 (k : Int) ∧ s = .string (txK k) ∧ wr.cell? ⟨w.heap.size, 0, none⟩ = some (.int .i64 18) ∧ wr.cell? ⟨w.heap.size, 1, none⟩ = some (.int .i64 1) ∧ wr.cell? ⟨w.heap.size, 2, none⟩ = some (.int .i64 7) ∧ wr.cell? ⟨w.heap.size, 3, none⟩ = some (.int .i64 (-8)) ∧ Below w.heap.size w wr ∧ w.heap.size < wr.heap.size) (fun _ i _ => 2 - (intOf i).toNat)
  case atStart => exact ⟨0, by omega, rfl, rfl, by go_simp, by go_simp, by go_simp, by go_simp, (Gr.below (by repeat (first | (with_reducible exact Gr.refl _) | with_reducible refine Gr.alloc ?_ _ | with_reducible refine Gr.more ?_ _ _ | with_reducible refine Gr.setCell ?_ (by dsimp only; omega) _ | with_reducible refine Gr.drew ?_))), by simp; omega⟩
  case round =>
    obtain ⟨k, hk, rfl, rfl, x0, x1, x2, x3, hB, hz⟩ := hrel
    have y0 := (hB.cell (p := ⟨qb, qo, none⟩) ly).trans y0
    have y1 := (hB.cell (p := ⟨qb, qo + 1, none⟩) ly).trans y1
    match k, hk with
    | 0, _ =>
      go_wp2_with (go_at_call 45; (refine (OA _ hB).mono ?_); rintro e w2 ⟨rfl, hL2⟩)
      have x0 := (hL2.cell (p := ⟨w.heap.size, 0, none⟩) hz).trans x0
      have x1 := (hL2.cell (p := ⟨w.heap.size, 1, none⟩) hz).trans x1
      have x2 := (hL2.cell (p := ⟨w.heap.size, 2, none⟩) hz).trans x2
      have x3 := (hL2.cell (p := ⟨w.heap.size, 3, none⟩) hz).trans x3
      go_roundw
      case rel => exact ⟨1, by omega, rfl, rfl, x0, x1, x2, x3, hB.trans (hL2.mono (by omega)), by have := hL2.size; omega⟩
      case measure => simp [intOf]
    | 1, _ =>
      go_wp2_with (go_at_call 45; (refine (OD _ hB).mono ?_); rintro e w2 ⟨rfl, hL2⟩)
      have x0 := (hL2.cell (p := ⟨w.heap.size, 0, none⟩) hz).trans x0
      have x1 := (hL2.cell (p := ⟨w.heap.size, 1, none⟩) hz).trans x1
      have x2 := (hL2.cell (p := ⟨w.heap.size, 2, none⟩) hz).trans x2
      have x3 := (hL2.cell (p := ⟨w.heap.size, 3, none⟩) hz).trans x3
      go_roundw
      case rel => exact ⟨2, by omega, rfl, rfl, x0, x1, x2, x3, hB.trans (hL2.mono (by omega)), by have := hL2.size; omega⟩
      case measure => simp [intOf]
    | 2, _ =>
      go_wp2_with fail
      refine bodyPost_ret (v := .tuple #[.string (txK 2), .int .i64 0]) (by simp [results, go_sem, *]) rfl ?_
      exact ⟨rfl, hB⟩
end Go.Proofs.YtjlbcpmfbokinaaGreatDoor
