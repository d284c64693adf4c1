/-
  Layer 2: the laws' examples hold: sane.
-/
import Derived.Test.YtjlbcpmfbokinaaGreatDoorQa
set_option linter.unusedSimpArgs false
set_option linter.unusedVariables false
namespace Go.Proofs.YtjlbcpmfbokinaaGreatDoor
open Go.RowKit Go.Shelf Go.WideMaps Go.Maps

set_option maxRecDepth 100000 in
set_option maxHeartbeats 1000000 in
theorem sameSyms_one {W : World} {g1 g2 c1 c2 : Nat} (x0 : W.cell? ⟨g1, 0, none⟩ = some (.string ⟨#[102]⟩)) (x1 : W.cell? ⟨g1, 1, none⟩ = some (.int .i64 100)) (x2 : W.cell? ⟨g1, 2, none⟩ = some (.int .i64 6))
    (y0 : W.cell? ⟨g2, 0, none⟩ = some (.string ⟨#[102]⟩)) (y1 : W.cell? ⟨g2, 1, none⟩ = some (.int .i64 100)) (y2 : W.cell? ⟨g2, 2, none⟩ = some (.int .i64 6)) :
    Calls Tryz.prog 30 #[.slice (some ⟨g1, 0, none⟩) 1 c1, .slice (some ⟨g2, 0, none⟩) 1 c2] W fun e W' => e = .returned (.bool true) ∧ ∃ n, W' = W.drewN n := by
  go_enter Tryz.func30, Tryz.ntmps30
  go_wp2_with fail
  go_loopw [5] (fun i wr => (i = .int .i64 0 ∧ wr = W) ∨ (i = .int .i64 1 ∧ ∃ n, wr = W.drewN n)) (fun i _ => 1 - (intOf i).toNat)
  case atStart => exact .inl ⟨rfl, rfl⟩
  case round =>
    rcases hrel with ⟨rfl, rfl⟩ | ⟨rfl, n, rfl⟩
    · go_upto_region 6 with fail
      go_quiet (fail)
      go_wp2_with fail
      go_roundw
      case rel => exact .inr ⟨rfl, _, rfl⟩
      case measure => simp [intOf]
    · go_wp2_with fail
      go_ret
      exact ⟨rfl, n, rfl⟩

theorem sb_lit (l : List UInt8) {k : Nat} (hk : l.length = k) (p q : Option Addr) (pc qc : Nat) (W : World) (hX : SeqAt W p (bV l)) (hY : SeqAt W q (bV l)) : Calls Tryz.prog 21 #[.slice p k pc, .slice q k qc] W fun e w' => e = .returned (.bool true) ∧ W = w' := by
  subst hk
  have := sameBytes_any l l p q pc qc W hX hY
  rw [beq_self_eq_true] at this
  exact this
set_option maxRecDepth 100000 in
set_option maxHeartbeats 8000000 in
theorem sane_yes (w : World) (hT : TB w) (hP : PT w) : Calls Tryz.prog 6 #[] w fun e w' => e = .returned (.bool true) ∧ Below w.heap.size w w' := by
  have E1 := fun W (g : Below w.heap.size w W) => encode_is enc1.1 enc1.2 W (hT.up g)
  have E2 := fun W (g : Below w.heap.size w W) => encode_is enc2.1 enc2.2 W (hT.up g)
  have E3 := fun W (g : Below w.heap.size w W) => encode_is enc3.1 enc3.2 W (hT.up g)
  have HE1 := Lib.hid E1
  have HE2 := Lib.hid E2
  have HE3 := Lib.hid E3
  have HT := Lib.hid hT
  have HP := Lib.hid hP
  clear E1 E2 E3 hT hP
  go_enter Tryz.func6, Tryz.ntmps6
  go_upto_region 2 with (go_at_call 20; (with_reducible refine (HE1.out _ (Below.refl _ _)).mono ?_); rintro e w1 ⟨p1, c1, rfl, s1, hL1⟩)
  go_upto_region 3 with (go_at_call 20; (with_reducible refine (HE2.out _ hL1).mono ?_); rintro e w2 ⟨p2, c2, rfl, s2, hL2⟩)
  have b2 := hL1.trans (hL2.mono hL1.size)
  go_upto_region 4 with (go_at_call 20; (with_reducible refine (HE3.out _ b2).mono ?_); rintro e w3 ⟨p3, c3, rfl, s3, hL3⟩)
  have b3 := b2.trans (hL3.mono b2.size)
  replace s1 := (s1.up hL2).up hL3
  replace s2 := s2.up hL3
  clear b2 hL1 hL2 hL3
  obtain ⟨W1, hW1⟩ : ∃ W1, w3.alloc (.cells #[.int .u8 130, .int .u8 10] 5) = W1 := ⟨_, rfl⟩
  have g1 : Below w3.heap.size w3 W1 := by rw [← hW1]; exact (Below.refl _ _).alloc (Nat.le_refl _) _
  have z1 : W1.heap.size = w3.heap.size + 1 := by rw [← hW1]; simp
  have n1 : SeqAt W1 (some ⟨w3.heap.size, 0, none⟩) (bV [130, 10]) := by rw [← hW1]; exact seqNew w3 [130, 10] _ rfl rfl
  have X1 := sb_lit [130, 10] (k := 2) rfl p1 (some ⟨w3.heap.size, 0, none⟩) c1 2 W1 (s1.up g1) n1
  obtain ⟨W2, hW2⟩ : ∃ W2, W1.alloc (.cells #[.int .u8 144, .int .u8 3, .int .u8 127] 5) = W2 := ⟨_, rfl⟩
  have g2 : Below W1.heap.size W1 W2 := by rw [← hW2]; exact (Below.refl _ _).alloc (Nat.le_refl _) _
  have z2 : W2.heap.size = w3.heap.size + 1 + 1 := by rw [← hW2]; simp; omega
  have n2 : SeqAt W2 (some ⟨w3.heap.size + 1, 0, none⟩) (bV [144, 3, 127]) := by rw [← hW2]; exact seqNew W1 [144, 3, 127] _ rfl z1
  have X2 := sb_lit [144, 3, 127] (k := 3) rfl p2 (some ⟨w3.heap.size + 1, 0, none⟩) c2 3 W2 ((s2.up g1).up g2) n2
  obtain ⟨W3, hW3⟩ : ∃ W3, W2.alloc (.cells #[.int .u8 153, .int .u8 72, .int .u8 1] 5) = W3 := ⟨_, rfl⟩
  have g3 : Below W2.heap.size W2 W3 := by rw [← hW3]; exact (Below.refl _ _).alloc (Nat.le_refl _) _
  have n3 : SeqAt W3 (some ⟨w3.heap.size + 1 + 1, 0, none⟩) (bV [153, 72, 1]) := by rw [← hW3]; exact seqNew W2 [153, 72, 1] _ rfl z2
  have X3 := sb_lit [153, 72, 1] (k := 3) rfl p3 (some ⟨w3.heap.size + 1 + 1, 0, none⟩) c3 3 W3 (((s3.up g1).up g2).up g3) n3
  rw [← hW3, ← hW2, ← hW1] at X3
  rw [← hW2, ← hW1] at X2
  rw [← hW1] at X1
  clear hW1 hW2 hW3 g1 g2 g3 z1 z2 n1 n2 n3 s1 s2 s3 HE1 HE2 HE3
  have Y1 := Lib.hid X1
  have Y2 := Lib.hid X2
  have Y3 := Lib.hid X3
  clear X1 X2 X3
  go_upto_region 6 with first | (go_at_call 21; (with_reducible refine Y1.out.mono ?_); rintro e w4 ⟨rfl, rfl⟩) | (go_at_call 21; (with_reducible refine Y2.out.mono ?_); rintro e w4 ⟨rfl, rfl⟩) | (go_at_call 21; (with_reducible refine Y3.out.mono ?_); rintro e w4 ⟨rfl, rfl⟩)
  have b4 : Below w.heap.size w (((w3.alloc (.cells #[.int .u8 130, .int .u8 10] 5)).alloc (.cells #[.int .u8 144, .int .u8 3, .int .u8 127] 5)).alloc (.cells #[.int .u8 153, .int .u8 72, .int .u8 1] 5)) := ((b3.alloc b3.size _).alloc (by have := b3.size; simp; omega) _).alloc (by have := b3.size; simp; omega) _
  refine wp_gen (fun w5 => Below w.heap.size w w5) b4 ?_
  intro w5 b5
  clear b4 b3 Y1 Y2 Y3
  have D1 := Lib.hid (fun W (g : Below w.heap.size w W) p c (hc : 3 ≤ c) hb => decode_lit (b := [130, 10, 204]) ⟨dec1.2.1, dec1.2.2.1, dec1.2.2.2.1, dec1.2.2.2.2.1, dec1.2.2.2.2.2, dec1.1⟩ (k := 3) rfl p c hc W (HT.out.up g) hb)
  have D2 := Lib.hid (fun W (g : Below w.heap.size w W) p c (hc : 1 ≤ c) hb => decode_lit (no_dec dec2 (by decide)) (k := 1) rfl p c hc W (HT.out.up g) hb)
  have D3 := Lib.hid (fun W (g : Below w.heap.size w W) p c (hc : 1 ≤ c) hb => decode_lit (no_dec dec3 (by decide)) (k := 1) rfl p c hc W (HT.out.up g) hb)
  have D4 := Lib.hid (fun W (g : Below w.heap.size w W) p c (hc : 2 ≤ c) hb => decode_lit (no_dec dec4 (by decide)) (k := 2) rfl p c hc W (HT.out.up g) hb)
  have F1 := D1.out _ (b5.alloc b5.size _) _ 3 (by decide) (seqNew w5 [130, 10, 204] 5 rfl rfl)
  go_upto_region 7 with (go_at_call 23; (refine F1.mono ?_); rintro e w6 ⟨rfl, hL6⟩)
  have k6 : Below w5.heap.size w5 w6 := ((Below.refl _ _).alloc (Nat.le_refl _) _).trans (hL6.mono (by simp))
  have b6 := b5.trans (k6.mono b5.size)
  refine wp_gen (fun w7 => Below w.heap.size w w7 ∧ w7.cell? ⟨w6.heap.size, 0, none⟩ = some (.int .i64 2) ∧ w7.cell? ⟨w6.heap.size, 1, none⟩ = some (.int .i64 1) ∧ w7.cell? ⟨w6.heap.size, 2, none⟩ = some (.int .i64 2) ∧ w7.cell? ⟨w6.heap.size, 3, none⟩ = some (.int .i64 0)) ⟨b6.alloc b6.size _, by go_simp, by go_simp, by go_simp, by go_simp⟩ ?_
  rintro w7 ⟨b7, x0, x1, x2, x3⟩
  have lq := lt_of_cell x0
  clear F1 D1 hL6 k6 b6 b5
  have F2 := D2.out _ (b7.alloc b7.size _) _ 1 (by decide) (seqNew w7 [130] 5 rfl rfl)
  go_upto_region 8 with (go_at_call 23; (refine F2.mono ?_); rintro e w8 ⟨rfl, hL8⟩)
  have k8 : Below w7.heap.size w7 w8 := ((Below.refl _ _).alloc (Nat.le_refl _) _).trans (hL8.mono (by simp))
  have b8 := b7.trans (k8.mono b7.size)
  replace x0 := cell_up k8 lq x0
  replace x1 := cell_up k8 lq x1
  replace x2 := cell_up k8 lq x2
  replace x3 := cell_up k8 lq x3
  replace lq := lt_of_cell x0
  clear F2 D2 hL8 k8 b7
  have F3 := D3.out _ (b8.alloc b8.size _) _ 1 (by decide) (seqNew w8 [10] 5 rfl rfl)
  go_upto_region 9 with (go_at_call 23; (refine F3.mono ?_); rintro e w9 ⟨rfl, hL9⟩)
  have k9 : Below w8.heap.size w8 w9 := ((Below.refl _ _).alloc (Nat.le_refl _) _).trans (hL9.mono (by simp))
  have b9 := b8.trans (k9.mono b8.size)
  replace x0 := cell_up k9 lq x0
  replace x1 := cell_up k9 lq x1
  replace x2 := cell_up k9 lq x2
  replace x3 := cell_up k9 lq x3
  replace lq := lt_of_cell x0
  clear F3 D3 hL9 k9 b8
  have F4 := D4.out _ (b9.alloc b9.size _) _ 2 (by decide) (seqNew w9 [130, 64] 5 rfl rfl)
  go_upto_region 10 with (go_at_call 23; (refine F4.mono ?_); rintro e w10 ⟨rfl, hL10⟩)
  have k10 : Below w9.heap.size w9 w10 := ((Below.refl _ _).alloc (Nat.le_refl _) _).trans (hL10.mono (by simp))
  have b10 := b9.trans (k10.mono b9.size)
  replace x0 := cell_up k10 lq x0
  replace x1 := cell_up k10 lq x1
  replace x2 := cell_up k10 lq x2
  replace x3 := cell_up k10 lq x3
  replace lq := lt_of_cell x0
  clear F4 D4 hL10 k10 b9
  go_upto_region 12 with fail
  refine wp_gen (fun w11 => Below w.heap.size w w11) (b10.alloc b10.size _) ?_
  intro w11 b11
  clear b10 x0 x1 x2 x3 lq
  have P1 := print_ex w11 (HT.out.up b11) (HP.out.up b11)
  go_upto_region 13 with (go_at_call 27; (refine P1.mono ?_); rintro e w12 ⟨rfl, hL12⟩)
  have b12 := b11.trans (hL12.mono b11.size)
  have P2 := parse_ex1 w12 (HT.out.up b12)
  go_upto_region 14 with (go_at_call 28; (refine P2.mono ?_); rintro e w13 ⟨rfl, hL13⟩)
  have b13 := b12.trans (hL13.mono b12.size)
  refine wp_gen (fun w14 => Below w.heap.size w w14 ∧ w14.cell? ⟨w13.heap.size, 0, none⟩ = some (.int .i64 19) ∧ w14.cell? ⟨w13.heap.size, 1, none⟩ = some (.int .i64 4) ∧ w14.cell? ⟨w13.heap.size, 2, none⟩ = some (.int .i64 2) ∧ w14.cell? ⟨w13.heap.size, 3, none⟩ = some (.int .i64 3)) ⟨b13.alloc b13.size _, by go_simp, by go_simp, by go_simp, by go_simp⟩ ?_
  rintro w14 ⟨b14, x0, x1, x2, x3⟩
  have lq := lt_of_cell x0
  clear P1 P2 hL12 hL13 b11 b12 b13
  have P3 := parse_ex2 w14 (HT.out.up b14)
  go_upto_region 15 with (go_at_call 28; (refine P3.mono ?_); rintro e w15 ⟨⟨po, pa, pb, pi, rfl⟩, hL15⟩)
  have b15 := b14.trans (hL15.mono b14.size)
  replace x0 := cell_up hL15 lq x0
  replace x1 := cell_up hL15 lq x1
  replace x2 := cell_up hL15 lq x2
  replace x3 := cell_up hL15 lq x3
  replace lq := lt_of_cell x0
  have P4 := assemble_ex w15 (HT.out.up b15)
  go_upto_region 16 with (go_at_call 29; (refine P4.mono ?_); rintro e w16 ⟨qa, ca, va, rfl, hsa, hoa, hL16⟩)
  have b16 := b15.trans (hL16.mono b15.size)
  replace x0 := cell_up hL16 lq x0
  replace x1 := cell_up hL16 lq x1
  replace x2 := cell_up hL16 lq x2
  replace x3 := cell_up hL16 lq x3
  replace lq := lt_of_cell x0
  clear P3 P4 hL15 hL16 b14 b15
  go_upto_region 18 with fail
  clear x0 x1 x2 x3 lq
  obtain ⟨gs, cs, rfl⟩ : ∃ g c, va = .slice (some ⟨g, 0, none⟩) 1 c := by
    rcases hoa.2 with ⟨_, hn⟩ | ⟨g, cap, cur, he, _⟩
    · omega
    · exact ⟨g, cap, he⟩
  have y0 : w16.cell? ⟨gs, 0, none⟩ = some (.string ⟨#[102]⟩) := by have := hoa.cells (g := gs) rfl 0 _ rfl; rwa [Addr.add_lit] at this
  have y1 : w16.cell? ⟨gs, 1, none⟩ = some (.int .i64 100) := by have := hoa.cells (g := gs) rfl 1 _ rfl; rwa [Addr.add_lit] at this
  have y2 : w16.cell? ⟨gs, 2, none⟩ = some (.int .i64 6) := by have := hoa.cells (g := gs) rfl 2 _ rfl; rwa [Addr.add_lit] at this
  have ly := lt_of_cell y0
  clear hoa
  have S1 := sb_lit [144, 0, 1, 153, 122, 127] (k := 6) rfl qa (some ⟨w16.heap.size, 0, none⟩) ca 6 (w16.alloc (.cells #[.int .u8 144, .int .u8 0, .int .u8 1, .int .u8 153, .int .u8 122, .int .u8 127] 5)) (hsa.up ((Below.refl _ _).alloc (Nat.le_refl _) _)) (seqNew w16 [144, 0, 1, 153, 122, 127] _ rfl rfl)
  have S2 := sameSyms_one (W := (w16.alloc (.cells #[.int .u8 144, .int .u8 0, .int .u8 1, .int .u8 153, .int .u8 122, .int .u8 127] 5)).alloc (.cells #[.string ⟨#[102]⟩, .int .i64 100, .int .i64 6] 64)) (g1 := gs) (g2 := w16.heap.size + 1) (c1 := cs) (c2 := 1) (by go_simp) (by go_simp) (by go_simp) (by go_simp) (by go_simp) (by go_simp)
  have bE := (b16.alloc b16.size (.cells #[.int .u8 144, .int .u8 0, .int .u8 1, .int .u8 153, .int .u8 122, .int .u8 127] 5)).alloc (by have := b16.size; simp; omega) (.cells #[.string ⟨#[102]⟩, .int .i64 100, .int .i64 6] 64)
  clear y0 y1 y2 ly hsa b16
  go_wp2_with first | (go_at_call 21; (with_reducible refine S1.mono ?_); rintro e w17 ⟨rfl, rfl⟩) | (go_at_call 30; (with_reducible refine S2.mono ?_); rintro e w18 ⟨rfl, n, rfl⟩)
  go_ret
  exact ⟨rfl, bE.trans ((below_drewN _ n).mono (by have := bE.size; exact this))⟩
end Go.Proofs.YtjlbcpmfbokinaaGreatDoor
