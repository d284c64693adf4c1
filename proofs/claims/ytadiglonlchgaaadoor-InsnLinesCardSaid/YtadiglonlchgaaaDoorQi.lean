/-
  Layer 2: the law InsnLines, where the instruction is one, out of what its line reads as.
-/
import Derived.Test.YtadiglonlchgaaaDoorQh
namespace Go.Proofs.YtadiglonlchgaaaDoor
open Go.RowKit Go.Shelf Go.WideMaps Go.Maps

/-- What is to be shown of the printed line: Parse reads it back; the assembler encodes it. -/
structure LineOk (op a b n : Int) : Prop where
  len : (prL op a b n).size ≤ 20000
  par : inV (paS (prL op a b n)).op (paS (prL op a b n)).a (paS (prL op a b n)).b (paS (prL op a b n)).im = inV op a b n
  err : paE (prL op a b n) = 0
  asm : ∃ A, rdAll 0 (prL op a b n) (lnN (prL op a b n)) (A0 0) = some A ∧ (∀ x ∈ A.list, x.nm.size ≤ maxLen) ∧ A.code = [] ∧ A.syms = [] ∧ enK A A.list.length = some (enL op a b n)
set_option maxRecDepth 100000 in
set_option maxHeartbeats 4000000 in
theorem lines_ok {op a b n : Int} (h : okX op a b n = true) (ha : I64' a) (hb : I64' b) (hn : I64' n) (hO : LineOk op a b n) (w : World) (hT : TB w) (hP : PT w) :
    Calls Tryd.prog 6 #[inV op a b n] w fun e w' => e = .returned (.bool true) ∧ Below w.heap.size w w' := by
  have SN := fun W (g : Below w.heap.size w W) => sane_yes W (hT.up g) (hP.up g)
  have PR := fun W (g : Below w.heap.size w W) => print_ok h ha hb hn W (hT.up g) (hP.up g)
  obtain ⟨hlen, hpar, herr, A, hA1, hA2, hA3, hA4, hA5⟩ := hO
  have PA := fun W (g : Below w.heap.size w W) => parse_any (prL op a b n) (Nat.le_trans hlen (by decide)) W (hT.up g)
  unfold ParR at PA
  rw [hpar, herr] at PA
  have AS := fun W (g : Below w.heap.size w W) => assemble_ok (prL op a b n) hlen 0 (by decide) hA1 hA2 hA3 hA5 W (hT.up g)
  rw [hA4] at AS
  have EN := fun W (g : Below w.heap.size w W) => encode_is h rfl W (hT.up g)
  generalize prL op a b n = t at *
  generalize enL op a b n = X at *
  clear hT hP h hpar herr hA1 hA2 hA3 hA4 hA5 hlen
  go_enter Tryd.func6, Tryd.ntmps6
  go_upto_region 2 with (go_at_call 7; (with_reducible refine (SN _ ((Below.refl _ _).alloc (Nat.le_refl _) _)).mono ?_); rintro e w1 ⟨rfl, hL1⟩)
  have b0 : Below w.heap.size w (w.alloc (.cells #[.int .i64 op, .int .i64 a, .int .i64 b, .int .i64 n] 23)) := (Below.refl _ _).alloc (Nat.le_refl _) _
  have hz : w.heap.size < (w.alloc (.cells #[.int .i64 op, .int .i64 a, .int .i64 b, .int .i64 n] 23)).heap.size := by simp
  refine wp_gen (fun W => Below w.heap.size w W ∧ w.heap.size < W.heap.size ∧ W.cell? ⟨w.heap.size, 0, none⟩ = some (.int .i64 op) ∧ W.cell? ⟨w.heap.size, 1, none⟩ = some (.int .i64 a) ∧ W.cell? ⟨w.heap.size, 2, none⟩ = some (.int .i64 b) ∧ W.cell? ⟨w.heap.size, 3, none⟩ = some (.int .i64 n)) ⟨b0.trans (hL1.mono b0.size), Nat.lt_of_lt_of_le hz hL1.size, cell_up hL1 hz (by rw [cell_of_row _ _ 0 _ _ (0, 0) (heap_alloc_new w _)]; rfl), cell_up hL1 hz (by rw [cell_of_row _ _ 1 _ _ (0, 0) (heap_alloc_new w _)]; rfl), cell_up hL1 hz (by rw [cell_of_row _ _ 2 _ _ (0, 0) (heap_alloc_new w _)]; rfl), cell_up hL1 hz (by rw [cell_of_row _ _ 3 _ _ (0, 0) (heap_alloc_new w _)]; rfl)⟩ ?_
  rintro W ⟨gW, lq, x0, x1, x2, x3⟩
  clear b0 hz hL1 SN
  go_upto_region 5 with (go_at_call 11; (with_reducible refine (PR _ gW).mono ?_); rintro e w2 ⟨rfl, hL2⟩)
  have b2 := gW.trans (hL2.mono gW.size)
  go_upto_region 6 with (go_at_call 13; (with_reducible refine (PA _ b2).mono ?_); rintro e w3 ⟨rfl, hL3⟩)
  have c3 := hL2.trans (hL3.mono hL2.size)
  have hz3 : w3.heap.size < (w3.alloc (.cells #[.int .i64 op, .int .i64 a, .int .i64 b, .int .i64 n] 23)).heap.size := by simp
  have hc4 := c3.alloc c3.size (.cells #[.int .i64 op, .int .i64 a, .int .i64 b, .int .i64 n] 23)
  refine wp_gen (fun W4 => Below W.heap.size W W4 ∧ w3.heap.size < W4.heap.size ∧ W4.cell? ⟨w3.heap.size, 0, none⟩ = some (.int .i64 op) ∧ W4.cell? ⟨w3.heap.size, 1, none⟩ = some (.int .i64 a) ∧ W4.cell? ⟨w3.heap.size, 2, none⟩ = some (.int .i64 b) ∧ W4.cell? ⟨w3.heap.size, 3, none⟩ = some (.int .i64 n)) ⟨hc4, hz3, by rw [cell_of_row _ _ 0 _ _ (0, 0) (heap_alloc_new w3 _)]; rfl, by rw [cell_of_row _ _ 1 _ _ (0, 0) (heap_alloc_new w3 _)]; rfl, by rw [cell_of_row _ _ 2 _ _ (0, 0) (heap_alloc_new w3 _)]; rfl, by rw [cell_of_row _ _ 3 _ _ (0, 0) (heap_alloc_new w3 _)]; rfl⟩ ?_
  rintro W4 ⟨c4, lz, z0, z1, z2, z3⟩
  clear hc4 hz3 c3 hL2 hL3 b2
  have b4 := gW.trans (c4.mono gW.size)
  go_upto_region 7 with (go_at_call 14; (with_reducible refine (AS _ b4).mono ?_); rintro e w5 ⟨p5, c5, v5, rfl, s5, own5, hL5⟩; obtain ⟨q5, k5, rfl⟩ := own_sl own5)
  have b5 := b4.trans (hL5.mono b4.size)
  replace z0 := cell_up hL5 lz z0
  replace z1 := cell_up hL5 lz z1
  replace z2 := cell_up hL5 lz z2
  replace z3 := cell_up hL5 lz z3
  replace lz := lt_of_cell z0
  replace c4 := c4.trans (hL5.mono c4.size)
  replace x0 := cell_up c4 lq x0
  replace x1 := cell_up c4 lq x1
  replace x2 := cell_up c4 lq x2
  replace x3 := cell_up c4 lq x3
  replace lq := lt_of_cell x0
  clear own5 hL5 b4 c4
  go_upto_region 8 with (go_at_call 8; (with_reducible refine (EN _ b5).mono ?_); rintro e w6 ⟨p6, c6, rfl, s6, hL6⟩)
  have b6 := b5.trans (hL6.mono b5.size)
  replace z0 := cell_up hL6 lz z0
  replace z1 := cell_up hL6 lz z1
  replace z2 := cell_up hL6 lz z2
  replace z3 := cell_up hL6 lz z3
  replace x0 := cell_up hL6 lq x0
  replace x1 := cell_up hL6 lq x1
  replace x2 := cell_up hL6 lq x2
  replace x3 := cell_up hL6 lq x3
  replace lz := lt_of_cell z0
  replace lq := lt_of_cell x0
  have SB6 := sb_lit X rfl p5 p6 c5 c6 w6 (s5.up hL6) s6
  go_wp2_with (go_at_call 10; (with_reducible refine SB6.mono ?_); rintro e w7 ⟨rfl, rfl⟩)
  go_ret
  exact ⟨rfl, b6⟩
end Go.Proofs.YtadiglonlchgaaaDoor
