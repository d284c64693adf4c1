/-
  Layer 2: the law InsnEncodes.
-/
import Derived.Test.YtjlbcpmfbokinaaGreatDoorHf
import Derived.Test.YtjlbcpmfbokinaaGreatDoorQb
import Derived.Test.YtjlbcpmfbokinaaGreatDoorJt
namespace Go.Proofs.YtjlbcpmfbokinaaGreatDoor
open Go.RowKit Go.Shelf Go.WideMaps Go.Maps

set_option maxRecDepth 100000 in
set_option maxHeartbeats 8000000 in
theorem law_encodes_ok {op a b n : Int} (h : okX op a b n = true) (hn : IB n) (r : List UInt8) (rp : Option Addr) (rc : Nat) (hcap : r.length ≤ rc) (w : World) (hT : TB w) (hP : PT w) (hb : SeqAt w rp (bV r)) :
    Calls Tryz.prog 4 #[inV op a b n, .slice rp r.length rc] w fun e w' => e = .returned (.bool true) ∧ Below w.heap.size w w' := by
  have SN := fun W (g : Below w.heap.size w W) => sane_yes W (hT.up g) (hP.up g)
  have EN := fun W (g : Below w.heap.size w W) => encode_is h rfl W (hT.up g)
  have RC := fun W => rcheck_any (op := op) (a := a) (b := b) hn W
  have RE := fun W => rencode_ok h W
  have DE := fun W (g : Below w.heap.size w W) => decode_any r rp rc W (hT.up g) (hb.up g) hcap
  have RD := fun W (g : Below w.heap.size w W) => rdecode_any r rp rc W (hb.up g) hcap
  rw [show eX op a b n = 0 by unfold eX; rw [h]; rfl] at RC
  unfold REnc at RE
  unfold DecR at DE
  unfold RDec at RD
  have DE := Lib.hid DE
  have RD := Lib.hid RD
  generalize oD r = o' at *
  generalize aD r = a' at *
  generalize bD r = b' at *
  generalize iD r = i' at *
  generalize (nD r : Int) = n' at *
  generalize eD r = e' at *
  generalize enL op a b n = X at *
  clear hT hP h hn hb
  go_enter Tryz.func4, Tryz.ntmps4
  go_upto_region 2 with (go_at_call 6; (with_reducible refine (SN _ ((Below.refl _ _).alloc (Nat.le_refl _) _)).mono ?_); rintro e w1 ⟨rfl, hL1⟩)
  have b0 : Below w.heap.size w (w.alloc (.cells #[.int .i64 op, .int .i64 a, .int .i64 b, .int .i64 n] 23)) := (Below.refl _ _).alloc (Nat.le_refl _) _
  have hz : w.heap.size < (w.alloc (.cells #[.int .i64 op, .int .i64 a, .int .i64 b, .int .i64 n] 23)).heap.size := by simp
  refine wp_gen (fun W => Below w.heap.size w W ∧ w.heap.size < W.heap.size ∧ W.cell? ⟨w.heap.size, 0, none⟩ = some (.int .i64 op) ∧ W.cell? ⟨w.heap.size, 1, none⟩ = some (.int .i64 a) ∧ W.cell? ⟨w.heap.size, 2, none⟩ = some (.int .i64 b) ∧ W.cell? ⟨w.heap.size, 3, none⟩ = some (.int .i64 n)) ⟨b0.trans (hL1.mono b0.size), Nat.lt_of_lt_of_le hz hL1.size, cell_up hL1 hz (by rw [cell_of_row _ _ 0 _ _ (0, 0) (heap_alloc_new w _)]; rfl), cell_up hL1 hz (by rw [cell_of_row _ _ 1 _ _ (0, 0) (heap_alloc_new w _)]; rfl), cell_up hL1 hz (by rw [cell_of_row _ _ 2 _ _ (0, 0) (heap_alloc_new w _)]; rfl), cell_up hL1 hz (by rw [cell_of_row _ _ 3 _ _ (0, 0) (heap_alloc_new w _)]; rfl)⟩ ?_
  rintro W ⟨gW, lq, x0, x1, x2, x3⟩
  clear b0 hz hL1 SN
  go_upto_region 3 with (go_at_call 20; (with_reducible refine (EN _ gW).mono ?_); rintro e w5 ⟨p5, c5, rfl, s5, hL5⟩)
  have g5 := gW.trans (hL5.mono gW.size)
  replace x0 := cell_up hL5 lq x0
  replace x1 := cell_up hL5 lq x1
  replace x2 := cell_up hL5 lq x2
  replace x3 := cell_up hL5 lq x3
  replace lq := lt_of_cell x0
  clear EN gW hL5
  go_upto_region 5 with first
    | (go_at_call 11; (with_reducible refine (RC _).mono ?_); rintro e w6 ⟨rfl, hL6⟩; have g6 := g5.trans (hL6.mono g5.size); have y0 := cell_up hL6 lq x0; have y1 := cell_up hL6 lq x1; have y2 := cell_up hL6 lq x2; have y3 := cell_up hL6 lq x3; have l6 := lt_of_cell y0; have s6 := s5.up hL6)
    | (go_at_call 22; (with_reducible refine (RE _).mono ?_); rintro e w7 ⟨⟨p7, c7, rfl, s7⟩, hL7⟩; have g7 := g6.trans (hL7.mono g6.size); have SB7 := sb_lit X rfl p5 p7 c5 c7 w7 (s6.up hL7) s7)
    | (go_at_call 21; (with_reducible refine SB7.mono ?_); rintro e w8 ⟨rfl, rfl⟩)
  refine wp_gen (R := fun W' => Below w.heap.size w W') g7 ?_
  clear x0 x1 x2 x3 y0 y1 y2 y3 l6 lq s5 s6 s7 SB7 g5 g6 g7 hL6 hL7 RC RE
  intro W9 g9
  have hG : Gr w.heap.size w W9 := ⟨g9, g9.size⟩
  clear g9
  go_wp2_with first
    | (go_at_call 23; (refine (DE.out _ (Gr.below (by repeat (first | (with_reducible exact hG) | with_reducible refine Gr.alloc ?_ _ | with_reducible refine Gr.more ?_ _ _ | with_reducible refine Gr.setCell ?_ (by dsimp only; (try simp only [World.size_more, World.size_alloc, World.size_setCell, World.size_drew, Array.size_append]); omega) _ | with_reducible refine Gr.drew ?_)))).mono ?_); rintro e w9 ⟨rfl, hb⟩; obtain ⟨os, n', rfl⟩ := Below.moreE hb; clear hb)
    | (go_at_call 24; (refine (RD.out _ (Gr.below (by repeat (first | (with_reducible exact hG) | with_reducible refine Gr.alloc ?_ _ | with_reducible refine Gr.more ?_ _ _ | with_reducible refine Gr.setCell ?_ (by dsimp only; (try simp only [World.size_more, World.size_alloc, World.size_setCell, World.size_drew, Array.size_append]); omega) _ | with_reducible refine Gr.drew ?_)))).mono ?_); rintro e w9 ⟨rfl, hb⟩; obtain ⟨os, n', rfl⟩ := Below.moreE hb; clear hb)
  go_ret
  exact ⟨rfl, Gr.below (by repeat (first | (with_reducible exact hG) | with_reducible refine Gr.alloc ?_ _ | with_reducible refine Gr.more ?_ _ _ | with_reducible refine Gr.setCell ?_ (by dsimp only; (try simp only [World.size_more, World.size_alloc, World.size_setCell, World.size_drew, Array.size_append]); omega) _ | with_reducible refine Gr.drew ?_))⟩
set_option maxRecDepth 100000 in
set_option maxHeartbeats 8000000 in
theorem law_encodes_bad {op a b n : Int} (h : okX op a b n = false) (hn : IB n) (r : List UInt8) (rp : Option Addr) (rc : Nat) (hcap : r.length ≤ rc) (w : World) (hT : TB w) (hP : PT w) (hb : SeqAt w rp (bV r)) :
    Calls Tryz.prog 4 #[inV op a b n, .slice rp r.length rc] w fun e w' => e = .returned (.bool true) ∧ Below w.heap.size w w' := by
  have SN := fun W (g : Below w.heap.size w W) => sane_yes W (hT.up g) (hP.up g)
  have EN := fun W (g : Below w.heap.size w W) => encode_bad h W (hT.up g)
  have RC := fun W => rcheck_any (op := op) (a := a) (b := b) hn W
  have DE := fun W (g : Below w.heap.size w W) => decode_any r rp rc W (hT.up g) (hb.up g) hcap
  have RD := fun W (g : Below w.heap.size w W) => rdecode_any r rp rc W (hb.up g) hcap
  rw [show eX op a b n = 20 by unfold eX; rw [h]; rfl] at RC
  unfold EncR at EN
  unfold DecR at DE
  unfold RDec at RD
  have DE := Lib.hid DE
  have RD := Lib.hid RD
  generalize oD r = o' at *
  generalize aD r = a' at *
  generalize bD r = b' at *
  generalize iD r = i' at *
  generalize (nD r : Int) = n' at *
  generalize eD r = e' at *
  clear hT hP h hn hb
  go_enter Tryz.func4, Tryz.ntmps4
  go_upto_region 2 with (go_at_call 6; (with_reducible refine (SN _ ((Below.refl _ _).alloc (Nat.le_refl _) _)).mono ?_); rintro e w1 ⟨rfl, hL1⟩)
  have b0 : Below w.heap.size w (w.alloc (.cells #[.int .i64 op, .int .i64 a, .int .i64 b, .int .i64 n] 23)) := (Below.refl _ _).alloc (Nat.le_refl _) _
  have hz : w.heap.size < (w.alloc (.cells #[.int .i64 op, .int .i64 a, .int .i64 b, .int .i64 n] 23)).heap.size := by simp
  refine wp_gen (fun W => Below w.heap.size w W ∧ w.heap.size < W.heap.size ∧ W.cell? ⟨w.heap.size, 0, none⟩ = some (.int .i64 op) ∧ W.cell? ⟨w.heap.size, 1, none⟩ = some (.int .i64 a) ∧ W.cell? ⟨w.heap.size, 2, none⟩ = some (.int .i64 b) ∧ W.cell? ⟨w.heap.size, 3, none⟩ = some (.int .i64 n)) ⟨b0.trans (hL1.mono b0.size), Nat.lt_of_lt_of_le hz hL1.size, cell_up hL1 hz (by rw [cell_of_row _ _ 0 _ _ (0, 0) (heap_alloc_new w _)]; rfl), cell_up hL1 hz (by rw [cell_of_row _ _ 1 _ _ (0, 0) (heap_alloc_new w _)]; rfl), cell_up hL1 hz (by rw [cell_of_row _ _ 2 _ _ (0, 0) (heap_alloc_new w _)]; rfl), cell_up hL1 hz (by rw [cell_of_row _ _ 3 _ _ (0, 0) (heap_alloc_new w _)]; rfl)⟩ ?_
  rintro W ⟨gW, lq, x0, x1, x2, x3⟩
  clear b0 hz hL1 SN
  go_upto_region 3 with (go_at_call 20; (with_reducible refine (EN _ gW).mono ?_); rintro e w5 ⟨⟨p5, c5, rfl, s5, _⟩, hL5⟩)
  have g5 := gW.trans (hL5.mono gW.size)
  replace x0 := cell_up hL5 lq x0
  replace x1 := cell_up hL5 lq x1
  replace x2 := cell_up hL5 lq x2
  replace x3 := cell_up hL5 lq x3
  replace lq := lt_of_cell x0
  clear EN gW hL5
  go_upto_region 5 with first
    | (go_at_call 11; (with_reducible refine (RC _).mono ?_); rintro e w6 ⟨rfl, hL6⟩; have g6 := g5.trans (hL6.mono g5.size); have y0 := cell_up hL6 lq x0; have y1 := cell_up hL6 lq x1; have y2 := cell_up hL6 lq x2; have y3 := cell_up hL6 lq x3; have l6 := lt_of_cell y0)
  refine wp_gen (R := fun W' => Below w.heap.size w W') g6 ?_
  clear x0 x1 x2 x3 y0 y1 y2 y3 l6 lq s5 g5 g6 hL6 RC
  intro W9 g9
  have hG : Gr w.heap.size w W9 := ⟨g9, g9.size⟩
  clear g9
  go_wp2_with first
    | (go_at_call 23; (refine (DE.out _ (Gr.below (by repeat (first | (with_reducible exact hG) | with_reducible refine Gr.alloc ?_ _ | with_reducible refine Gr.more ?_ _ _ | with_reducible refine Gr.setCell ?_ (by dsimp only; (try simp only [World.size_more, World.size_alloc, World.size_setCell, World.size_drew, Array.size_append]); omega) _ | with_reducible refine Gr.drew ?_)))).mono ?_); rintro e w9 ⟨rfl, hb⟩; obtain ⟨os, n', rfl⟩ := Below.moreE hb; clear hb)
    | (go_at_call 24; (refine (RD.out _ (Gr.below (by repeat (first | (with_reducible exact hG) | with_reducible refine Gr.alloc ?_ _ | with_reducible refine Gr.more ?_ _ _ | with_reducible refine Gr.setCell ?_ (by dsimp only; (try simp only [World.size_more, World.size_alloc, World.size_setCell, World.size_drew, Array.size_append]); omega) _ | with_reducible refine Gr.drew ?_)))).mono ?_); rintro e w9 ⟨rfl, hb⟩; obtain ⟨os, n', rfl⟩ := Below.moreE hb; clear hb)
  go_ret
  exact ⟨rfl, Gr.below (by repeat (first | (with_reducible exact hG) | with_reducible refine Gr.alloc ?_ _ | with_reducible refine Gr.more ?_ _ _ | with_reducible refine Gr.setCell ?_ (by dsimp only; (try simp only [World.size_more, World.size_alloc, World.size_setCell, World.size_drew, Array.size_append]); omega) _ | with_reducible refine Gr.drew ?_))⟩
theorem law_encodes {op a b n : Int} (hn : IB n) (r : List UInt8) (rp : Option Addr) (rc : Nat) (hcap : r.length ≤ rc) (w : World) (hT : TB w) (hP : PT w) (hb : SeqAt w rp (bV r)) :
    Calls Tryz.prog 4 #[inV op a b n, .slice rp r.length rc] w fun e w' => e = .returned (.bool true) ∧ Below w.heap.size w w' := by
  cases h : okX op a b n
  · exact law_encodes_bad h hn r rp rc hcap w hT hP hb
  · exact law_encodes_ok h hn r rp rc hcap w hT hP hb
end Go.Proofs.YtjlbcpmfbokinaaGreatDoor
