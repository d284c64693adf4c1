/-
  Layer 2: the law InsnBack.
-/
import Derived.Test.YtadiglonlchgaaaDoorQd
namespace Go.Proofs.YtadiglonlchgaaaDoor
open Go.RowKit Go.Shelf Go.WideMaps Go.Maps

theorem seq_take {W : World} {p : Option Addr} {b : List UInt8} (h : SeqAt W p (bV b)) (n : Nat) : SeqAt W p (bV (b.take n)) := by
  rcases h with h | ⟨g, o, e, h⟩
  · have : b = [] := by simpa [bV] using h
    subst this
    exact .inl (by simp [bV])
  · refine .inr ⟨g, o, e, fun j v hj => h j v ?_⟩
    unfold bV at hj ⊢
    rw [List.map_take, List.getElem?_take] at hj
    split at hj
    · exact hj
    · cases hj
set_option maxRecDepth 100000 in
set_option maxHeartbeats 8000000 in
theorem back_bad_bad (op a b n : Int) (hx : okX op a b n = false) (r : List UInt8) (rp : Option Addr) (rc : Nat) (hcap : r.length ≤ rc) (hrl : r.length ≤ 140737488351232) (hrc : rc ≤ maxLen) (he : eD r ≠ 0) (w : World) (hT : TB w) (hP : PT w) (hb : SeqAt w rp (bV r)) :
    Calls Tryd.prog 3 #[inV op a b n, .slice rp r.length rc] w fun e w' => e = .returned (.bool true) ∧ Below w.heap.size w w' := by
  have SN := fun W (g : Below w.heap.size w W) => sane_yes W (hT.up g) (hP.up g)
  obtain ⟨gi, gh, gz0, gz1, gz2⟩ := info_parts A_infoU8'
  have HT := Lib.hid hT
  have HB := Lib.hid hb
  unfold maxLen at hrc
  have EB := Lib.hid (fun W (g : Below w.heap.size w W) => encode_bad hx W (HT.out.up g))
  have hne : (eD r == 0) = false := beq_eq_false_iff_ne.2 he
  have hne2 : (eD r != 0) = true := by unfold bne; rw [hne]; rfl
  have D1 := Lib.hid (fun W (g : Below w.heap.size w W) => dec_at r rfl rp rc hcap W (HT.out.up g) (HB.out.up g))
  generalize eD r = E at *
  generalize oD r = z0 at *
  generalize aD r = z1 at *
  generalize bD r = z2 at *
  generalize iD r = z3 at *
  generalize nD r = m at *
  clear hT hP hb hx he
  go_enter Tryd.func3, Tryd.ntmps3
  go_upto_region 2 with (go_at_call 7; (with_reducible refine (SN _ ((Below.refl _ _).alloc (Nat.le_refl _) _)).mono ?_); rintro e w1 ⟨rfl, hL1⟩)
  have b0 : Below w.heap.size w (w.alloc (.cells #[.int .i64 op, .int .i64 a, .int .i64 b, .int .i64 n] 23)) := (Below.refl _ _).alloc (Nat.le_refl _) _
  have hz : w.heap.size < (w.alloc (.cells #[.int .i64 op, .int .i64 a, .int .i64 b, .int .i64 n] 23)).heap.size := by simp
  refine wp_gen (fun W => Below w.heap.size w W ∧ w.heap.size < W.heap.size ∧ W.cell? ⟨w.heap.size, 0, none⟩ = some (.int .i64 op) ∧ W.cell? ⟨w.heap.size, 1, none⟩ = some (.int .i64 a) ∧ W.cell? ⟨w.heap.size, 2, none⟩ = some (.int .i64 b) ∧ W.cell? ⟨w.heap.size, 3, none⟩ = some (.int .i64 n)) ⟨b0.trans (hL1.mono b0.size), Nat.lt_of_lt_of_le hz hL1.size, cell_up hL1 hz (by rw [cell_of_row _ _ 0 _ _ (0, 0) (heap_alloc_new w _)]; rfl), cell_up hL1 hz (by rw [cell_of_row _ _ 1 _ _ (0, 0) (heap_alloc_new w _)]; rfl), cell_up hL1 hz (by rw [cell_of_row _ _ 2 _ _ (0, 0) (heap_alloc_new w _)]; rfl), cell_up hL1 hz (by rw [cell_of_row _ _ 3 _ _ (0, 0) (heap_alloc_new w _)]; rfl)⟩ ?_
  rintro W ⟨gW, lq, x0, x1, x2, x3⟩
  clear b0 hz hL1 SN
  go_upto_region 7 with (go_at_call 8; (with_reducible refine (EB.out _ gW).mono ?_); rintro e w2 ⟨⟨p2, c2, rfl, _, _⟩, hL2⟩)
  refine wp_gen (fun W' => Below w.heap.size w W') (gW.trans (hL2.mono gW.size)) ?_
  clear hL2 x0 x1 x2 x3 lq
  clear gW EB
  intro W7 hB
  go_wp2_with (go_at_call 9; (with_reducible refine (D1.out _ hB).mono ?_); rintro e w8 ⟨rfl, hL8⟩; have b8 := hB.trans (hL8.mono hB.size))
  go_ret
  exact ⟨rfl, b8.alloc b8.size _⟩
set_option maxRecDepth 100000 in
set_option maxHeartbeats 8000000 in
theorem back_bad_ok (op a b n : Int) (hx : okX op a b n = false) (r : List UInt8) (rp : Option Addr) (rc : Nat) (hcap : r.length ≤ rc) (hrl : r.length ≤ 140737488351232) (hrc : rc ≤ maxLen) (he : eD r = 0) (w : World) (hT : TB w) (hP : PT w) (hb : SeqAt w rp (bV r)) :
    Calls Tryd.prog 3 #[inV op a b n, .slice rp r.length rc] w fun e w' => e = .returned (.bool true) ∧ Below w.heap.size w w' := by
  have SN := fun W (g : Below w.heap.size w W) => sane_yes W (hT.up g) (hP.up g)
  obtain ⟨gi, gh, gz0, gz1, gz2⟩ := info_parts A_infoU8'
  have HT := Lib.hid hT
  have HB := Lib.hid hb
  unfold maxLen at hrc
  have EB := Lib.hid (fun W (g : Below w.heap.size w W) => encode_bad hx W (HT.out.up g))
  have D1 := (fun W (g : Below w.heap.size w W) => dec_at r rfl rp rc hcap W (HT.out.up g) (HB.out.up g))
  rw [he] at D1
  have hn := nD_le he
  have ED := enc_dec he
  have EN := fun W (g : Below w.heap.size w W) => encode_is ED.1 ED.2 W (HT.out.up g)
  have hl : (r.take (nD r)).length = nD r := by rw [List.length_take]; omega
  simp only [hl] at EN
  clear ED
  obtain ⟨g0, o0, rfl, hc⟩ := HB.out.resolve_left (by intro e; have h0 : r.length = 0 := (by have := congrArg List.length e; rw [bV_len] at this; exact this); omega)
  clear hc
  generalize oD r = z0 at *
  generalize aD r = z1 at *
  generalize bD r = z2 at *
  generalize iD r = z3 at *
  generalize nD r = m at *
  obtain ⟨hn1, hn2⟩ := hn
  have i1 : (1 : Int) ≤ (m : Int) := by omega
  have i2 : (m : Int) ≤ (r.length : Int) := by omega
  have i3 : decide ((1 : Int) ≤ (m : Int)) = true := decide_eq_true i1
  have i4 : decide ((m : Int) ≤ (r.length : Int)) = true := decide_eq_true i2
  have i5 : decide (1 ≤ m) = true := decide_eq_true hn1
  have i6 : decide (m ≤ r.length) = true := decide_eq_true hn2
  have i7 : (0 : Int) ≤ (m : Int) := by omega
  have i8 : (m : Int) ≤ (rc : Int) := by omega
  have D1 := Lib.hid D1
  have EN := Lib.hid EN
  clear hT hP hb hx he
  go_enter Tryd.func3, Tryd.ntmps3
  go_upto_region 2 with (go_at_call 7; (with_reducible refine (SN _ ((Below.refl _ _).alloc (Nat.le_refl _) _)).mono ?_); rintro e w1 ⟨rfl, hL1⟩)
  have b0 : Below w.heap.size w (w.alloc (.cells #[.int .i64 op, .int .i64 a, .int .i64 b, .int .i64 n] 23)) := (Below.refl _ _).alloc (Nat.le_refl _) _
  have hz : w.heap.size < (w.alloc (.cells #[.int .i64 op, .int .i64 a, .int .i64 b, .int .i64 n] 23)).heap.size := by simp
  refine wp_gen (fun W => Below w.heap.size w W ∧ w.heap.size < W.heap.size ∧ W.cell? ⟨w.heap.size, 0, none⟩ = some (.int .i64 op) ∧ W.cell? ⟨w.heap.size, 1, none⟩ = some (.int .i64 a) ∧ W.cell? ⟨w.heap.size, 2, none⟩ = some (.int .i64 b) ∧ W.cell? ⟨w.heap.size, 3, none⟩ = some (.int .i64 n)) ⟨b0.trans (hL1.mono b0.size), Nat.lt_of_lt_of_le hz hL1.size, cell_up hL1 hz (by rw [cell_of_row _ _ 0 _ _ (0, 0) (heap_alloc_new w _)]; rfl), cell_up hL1 hz (by rw [cell_of_row _ _ 1 _ _ (0, 0) (heap_alloc_new w _)]; rfl), cell_up hL1 hz (by rw [cell_of_row _ _ 2 _ _ (0, 0) (heap_alloc_new w _)]; rfl), cell_up hL1 hz (by rw [cell_of_row _ _ 3 _ _ (0, 0) (heap_alloc_new w _)]; rfl)⟩ ?_
  rintro W ⟨gW, lq, x0, x1, x2, x3⟩
  clear b0 hz hL1 SN
  go_upto_region 7 with (go_at_call 8; (with_reducible refine (EB.out _ gW).mono ?_); rintro e w2 ⟨⟨p2, c2, rfl, _, _⟩, hL2⟩)
  refine wp_gen (fun W' => Below w.heap.size w W') (gW.trans (hL2.mono gW.size)) ?_
  clear hL2 x0 x1 x2 x3 lq
  clear gW EB
  intro W7 hB
  go_upto_region 10 with (go_at_call 9; (with_reducible refine (D1.out _ hB).mono ?_); rintro e w8 ⟨rfl, hL8⟩; have b8 := hB.trans (hL8.mono hB.size))
  have b9 := b8.alloc b8.size (.cells #[.int .i64 z0, .int .i64 z1, .int .i64 z2, .int .i64 z3] 23)
  go_upto_region 11 with (go_at_call 8; (with_reducible refine (EN.out _ b9).mono ?_); rintro e w10 ⟨p10, c10, rfl, s10, hL10⟩)
  have b10 := b9.trans (hL10.mono b9.size)
  have X10 := sb_lit (r.take m) hl p10 (some ⟨g0, o0, none⟩) c10 rc w10 s10 (seq_take (HB.out.up b10) m)
  go_wp2_with (go_at_call 10; (with_reducible refine X10.mono ?_); rintro e w11 ⟨rfl, rfl⟩)
  go_ret
  exact ⟨rfl, b10⟩
set_option maxRecDepth 100000 in
set_option maxHeartbeats 8000000 in
theorem back_ok_bad (op a b n : Int) (hx : okX op a b n = true) (r : List UInt8) (rp : Option Addr) (rc : Nat) (hcap : r.length ≤ rc) (hrl : r.length ≤ 140737488351232) (hrc : rc ≤ maxLen) (he : eD r ≠ 0) (w : World) (hT : TB w) (hP : PT w) (hb : SeqAt w rp (bV r)) :
    Calls Tryd.prog 3 #[inV op a b n, .slice rp r.length rc] w fun e w' => e = .returned (.bool true) ∧ Below w.heap.size w w' := by
  have SN := fun W (g : Below w.heap.size w W) => sane_yes W (hT.up g) (hP.up g)
  obtain ⟨gi, gh, gz0, gz1, gz2⟩ := info_parts A_infoU8'
  have HT := Lib.hid hT
  have HB := Lib.hid hb
  unfold maxLen at hrc
  have EB := Lib.hid (fun W (g : Below w.heap.size w W) => encode_is hx rfl W (HT.out.up g))
  have DE := dec_enc hx r
  obtain ⟨hk, _⟩ := okX_parts hx
  have hXl : (enL op a b n).length ≤ 12 := by
    rw [enL_len hk]
    have hs := (rowO_sh hk).1
    generalize (rowO op).sh = s at *
    have : ∀ s : Fin 12, lenS s.1 ≤ 12 := by decide
    exact this ⟨s, hs⟩
  clear hk
  generalize enL op a b n = X at *
  have hDE := Lib.hid DE
  clear DE
  have hne : (eD r == 0) = false := beq_eq_false_iff_ne.2 he
  have hne2 : (eD r != 0) = true := by unfold bne; rw [hne]; rfl
  have D1 := Lib.hid (fun W (g : Below w.heap.size w W) => dec_at r rfl rp rc hcap W (HT.out.up g) (HB.out.up g))
  generalize eD r = E at *
  generalize oD r = z0 at *
  generalize aD r = z1 at *
  generalize bD r = z2 at *
  generalize iD r = z3 at *
  generalize nD r = m at *
  clear hT hP hb hx he
  go_enter Tryd.func3, Tryd.ntmps3
  go_upto_region 2 with (go_at_call 7; (with_reducible refine (SN _ ((Below.refl _ _).alloc (Nat.le_refl _) _)).mono ?_); rintro e w1 ⟨rfl, hL1⟩)
  have b0 : Below w.heap.size w (w.alloc (.cells #[.int .i64 op, .int .i64 a, .int .i64 b, .int .i64 n] 23)) := (Below.refl _ _).alloc (Nat.le_refl _) _
  have hz : w.heap.size < (w.alloc (.cells #[.int .i64 op, .int .i64 a, .int .i64 b, .int .i64 n] 23)).heap.size := by simp
  refine wp_gen (fun W => Below w.heap.size w W ∧ w.heap.size < W.heap.size ∧ W.cell? ⟨w.heap.size, 0, none⟩ = some (.int .i64 op) ∧ W.cell? ⟨w.heap.size, 1, none⟩ = some (.int .i64 a) ∧ W.cell? ⟨w.heap.size, 2, none⟩ = some (.int .i64 b) ∧ W.cell? ⟨w.heap.size, 3, none⟩ = some (.int .i64 n)) ⟨b0.trans (hL1.mono b0.size), Nat.lt_of_lt_of_le hz hL1.size, cell_up hL1 hz (by rw [cell_of_row _ _ 0 _ _ (0, 0) (heap_alloc_new w _)]; rfl), cell_up hL1 hz (by rw [cell_of_row _ _ 1 _ _ (0, 0) (heap_alloc_new w _)]; rfl), cell_up hL1 hz (by rw [cell_of_row _ _ 2 _ _ (0, 0) (heap_alloc_new w _)]; rfl), cell_up hL1 hz (by rw [cell_of_row _ _ 3 _ _ (0, 0) (heap_alloc_new w _)]; rfl)⟩ ?_
  rintro W ⟨gW, lq, x0, x1, x2, x3⟩
  clear b0 hz hL1 SN
  go_upto_region 4 with (go_at_call 8; (with_reducible refine (EB.out _ gW).mono ?_); rintro e w2 ⟨p2, c2, rfl, s2, hL2⟩)
  have lX : (0 + X.length) * 1 ≤ 140737488355328 := by omega
  have lR : (X.length + r.length) * 1 ≤ 140737488355328 := by omega
  have mX : 0 + X.length ≤ maxLen := by unfold maxLen; omega
  have mR : X.length + r.length ≤ maxLen := by unfold maxLen; omega
  have own0 : (w2.alloc (.cells #[] 5)).ownsRow W.heap.size 5 1 (.slice (some ⟨w2.heap.size, 0, none⟩) 0 0) 0 [] := World.ownsRow_lit (base := W.heap.size) (e := 5) (size := 1) w2 #[] 0 hL2.size (Nat.zero_le _) (Nat.zero_mul 1).symm
  have c2b : Below W.heap.size W (w2.alloc (.cells #[] 5)) := hL2.alloc hL2.size _
  have s2b := s2.up ((Below.refl w2.heap.size w2).alloc (Nat.le_refl _) (.cells #[] 5))
  go_upto_region 5 with first
    | (at_builtin; refine append_seq rfl _ _ 24 rfl W.heap.size 5 gi (.int .u8 0) 1 Tryd.underlying24 gh gz0 gz1 gz2 rfl (.slice (some ⟨w2.heap.size, 0, none⟩) 0 0) 0 [] rfl own0 p2 X.length c2 (bV X) rfl (bV_len X) s2b (bV_one X) mX lX c2b.size ?_; intro v3 w3 hown3 hg3; have c3 : Below W.heap.size W w3 := c2b.grown hg3 c2b.size (fun j hj => by injection hj with hj; subst hj; exact hL2.size); have own3 : w3.ownsRow W.heap.size 5 1 v3 X.length (bV X) := (by simpa only [Nat.zero_add, List.nil_append] using hown3); obtain ⟨s3, t3, rfl⟩ := own_sl own3; clear hown3)
    | (at_builtin; refine append_seq rfl _ _ 24 rfl W.heap.size 5 gi (.int .u8 0) 1 Tryd.underlying24 gh gz0 gz1 gz2 rfl (.slice s3 X.length t3) X.length (bV X) rfl own3 _ r.length rc (bV r) rfl (bV_len r) (HB.out.up (gW.trans (c3.mono gW.size))) (bV_one r) mR lR c3.size ?_; intro v4 w4 hown4 hg4; have c4 : Below W.heap.size W w4 := c3.grown hg4 c3.size (fun j hj => (own3.lt j hj).1); obtain ⟨s4, t4, rfl⟩ := own_sl hown4; have q4 := SeqFar.own hown4; have e4 : bV X ++ bV r = bV (X ++ r) := (by simp [bV]); rw [e4] at q4; have F4 := dec_at (X ++ r) (k := X.length + r.length) (by simp) s4 t4 q4.2.1 w4 (HT.out.up (gW.trans (c4.mono gW.size))) q4.1.at; rw [hDE.out.1, hDE.out.2.1, hDE.out.2.2.1, hDE.out.2.2.2.1, hDE.out.2.2.2.2.1, hDE.out.2.2.2.2.2] at F4)
    | (go_at_call 9; (with_reducible refine F4.mono ?_); rintro e w5 ⟨rfl, hL5⟩)
  have c5 : Below W.heap.size W w5 := c4.trans (hL5.mono c4.size)
  have y0 := cell_up c5 lq x0
  have y1 := cell_up c5 lq x1
  have y2 := cell_up c5 lq x2
  have y3 := cell_up c5 lq x3
  have lz : w.heap.size < w5.heap.size := Nat.lt_of_lt_of_le lq c5.size
  have gg : Below w.heap.size w (w5.alloc (.cells #[.int .i64 op, .int .i64 a, .int .i64 b, .int .i64 n] 23)) := (gW.trans (c5.mono gW.size)).alloc (gW.trans (c5.mono gW.size)).size _
  clear x0 x1 x2 x3 F4 q4 e4 hown4 hg4 own3 hg3 own0 s2 s2b lX lR mX mR hL5 c4 c3 c2b c5 hL2
  go_upto_region 7 with fail
  refine wp_gen (fun W' => Below w.heap.size w W') gg ?_
  clear gg y0 y1 y2 y3 lq lz gW EB hDE
  intro W7 hB
  go_wp2_with (go_at_call 9; (with_reducible refine (D1.out _ hB).mono ?_); rintro e w8 ⟨rfl, hL8⟩; have b8 := hB.trans (hL8.mono hB.size))
  go_ret
  exact ⟨rfl, b8.alloc b8.size _⟩
set_option maxRecDepth 100000 in
set_option maxHeartbeats 8000000 in
theorem back_ok_ok (op a b n : Int) (hx : okX op a b n = true) (r : List UInt8) (rp : Option Addr) (rc : Nat) (hcap : r.length ≤ rc) (hrl : r.length ≤ 140737488351232) (hrc : rc ≤ maxLen) (he : eD r = 0) (w : World) (hT : TB w) (hP : PT w) (hb : SeqAt w rp (bV r)) :
    Calls Tryd.prog 3 #[inV op a b n, .slice rp r.length rc] w fun e w' => e = .returned (.bool true) ∧ Below w.heap.size w w' := by
  have SN := fun W (g : Below w.heap.size w W) => sane_yes W (hT.up g) (hP.up g)
  obtain ⟨gi, gh, gz0, gz1, gz2⟩ := info_parts A_infoU8'
  have HT := Lib.hid hT
  have HB := Lib.hid hb
  unfold maxLen at hrc
  have EB := Lib.hid (fun W (g : Below w.heap.size w W) => encode_is hx rfl W (HT.out.up g))
  have DE := dec_enc hx r
  obtain ⟨hk, _⟩ := okX_parts hx
  have hXl : (enL op a b n).length ≤ 12 := by
    rw [enL_len hk]
    have hs := (rowO_sh hk).1
    generalize (rowO op).sh = s at *
    have : ∀ s : Fin 12, lenS s.1 ≤ 12 := by decide
    exact this ⟨s, hs⟩
  clear hk
  generalize enL op a b n = X at *
  have hDE := Lib.hid DE
  clear DE
  have D1 := (fun W (g : Below w.heap.size w W) => dec_at r rfl rp rc hcap W (HT.out.up g) (HB.out.up g))
  rw [he] at D1
  have hn := nD_le he
  have ED := enc_dec he
  have EN := fun W (g : Below w.heap.size w W) => encode_is ED.1 ED.2 W (HT.out.up g)
  have hl : (r.take (nD r)).length = nD r := by rw [List.length_take]; omega
  simp only [hl] at EN
  clear ED
  obtain ⟨g0, o0, rfl, hc⟩ := HB.out.resolve_left (by intro e; have h0 : r.length = 0 := (by have := congrArg List.length e; rw [bV_len] at this; exact this); omega)
  clear hc
  generalize oD r = z0 at *
  generalize aD r = z1 at *
  generalize bD r = z2 at *
  generalize iD r = z3 at *
  generalize nD r = m at *
  obtain ⟨hn1, hn2⟩ := hn
  have i1 : (1 : Int) ≤ (m : Int) := by omega
  have i2 : (m : Int) ≤ (r.length : Int) := by omega
  have i3 : decide ((1 : Int) ≤ (m : Int)) = true := decide_eq_true i1
  have i4 : decide ((m : Int) ≤ (r.length : Int)) = true := decide_eq_true i2
  have i5 : decide (1 ≤ m) = true := decide_eq_true hn1
  have i6 : decide (m ≤ r.length) = true := decide_eq_true hn2
  have i7 : (0 : Int) ≤ (m : Int) := by omega
  have i8 : (m : Int) ≤ (rc : Int) := by omega
  have D1 := Lib.hid D1
  have EN := Lib.hid EN
  clear hT hP hb hx he
  go_enter Tryd.func3, Tryd.ntmps3
  go_upto_region 2 with (go_at_call 7; (with_reducible refine (SN _ ((Below.refl _ _).alloc (Nat.le_refl _) _)).mono ?_); rintro e w1 ⟨rfl, hL1⟩)
  have b0 : Below w.heap.size w (w.alloc (.cells #[.int .i64 op, .int .i64 a, .int .i64 b, .int .i64 n] 23)) := (Below.refl _ _).alloc (Nat.le_refl _) _
  have hz : w.heap.size < (w.alloc (.cells #[.int .i64 op, .int .i64 a, .int .i64 b, .int .i64 n] 23)).heap.size := by simp
  refine wp_gen (fun W => Below w.heap.size w W ∧ w.heap.size < W.heap.size ∧ W.cell? ⟨w.heap.size, 0, none⟩ = some (.int .i64 op) ∧ W.cell? ⟨w.heap.size, 1, none⟩ = some (.int .i64 a) ∧ W.cell? ⟨w.heap.size, 2, none⟩ = some (.int .i64 b) ∧ W.cell? ⟨w.heap.size, 3, none⟩ = some (.int .i64 n)) ⟨b0.trans (hL1.mono b0.size), Nat.lt_of_lt_of_le hz hL1.size, cell_up hL1 hz (by rw [cell_of_row _ _ 0 _ _ (0, 0) (heap_alloc_new w _)]; rfl), cell_up hL1 hz (by rw [cell_of_row _ _ 1 _ _ (0, 0) (heap_alloc_new w _)]; rfl), cell_up hL1 hz (by rw [cell_of_row _ _ 2 _ _ (0, 0) (heap_alloc_new w _)]; rfl), cell_up hL1 hz (by rw [cell_of_row _ _ 3 _ _ (0, 0) (heap_alloc_new w _)]; rfl)⟩ ?_
  rintro W ⟨gW, lq, x0, x1, x2, x3⟩
  clear b0 hz hL1 SN
  go_upto_region 4 with (go_at_call 8; (with_reducible refine (EB.out _ gW).mono ?_); rintro e w2 ⟨p2, c2, rfl, s2, hL2⟩)
  have lX : (0 + X.length) * 1 ≤ 140737488355328 := by omega
  have lR : (X.length + r.length) * 1 ≤ 140737488355328 := by omega
  have mX : 0 + X.length ≤ maxLen := by unfold maxLen; omega
  have mR : X.length + r.length ≤ maxLen := by unfold maxLen; omega
  have own0 : (w2.alloc (.cells #[] 5)).ownsRow W.heap.size 5 1 (.slice (some ⟨w2.heap.size, 0, none⟩) 0 0) 0 [] := World.ownsRow_lit (base := W.heap.size) (e := 5) (size := 1) w2 #[] 0 hL2.size (Nat.zero_le _) (Nat.zero_mul 1).symm
  have c2b : Below W.heap.size W (w2.alloc (.cells #[] 5)) := hL2.alloc hL2.size _
  have s2b := s2.up ((Below.refl w2.heap.size w2).alloc (Nat.le_refl _) (.cells #[] 5))
  go_upto_region 5 with first
    | (at_builtin; refine append_seq rfl _ _ 24 rfl W.heap.size 5 gi (.int .u8 0) 1 Tryd.underlying24 gh gz0 gz1 gz2 rfl (.slice (some ⟨w2.heap.size, 0, none⟩) 0 0) 0 [] rfl own0 p2 X.length c2 (bV X) rfl (bV_len X) s2b (bV_one X) mX lX c2b.size ?_; intro v3 w3 hown3 hg3; have c3 : Below W.heap.size W w3 := c2b.grown hg3 c2b.size (fun j hj => by injection hj with hj; subst hj; exact hL2.size); have own3 : w3.ownsRow W.heap.size 5 1 v3 X.length (bV X) := (by simpa only [Nat.zero_add, List.nil_append] using hown3); obtain ⟨s3, t3, rfl⟩ := own_sl own3; clear hown3)
    | (at_builtin; refine append_seq rfl _ _ 24 rfl W.heap.size 5 gi (.int .u8 0) 1 Tryd.underlying24 gh gz0 gz1 gz2 rfl (.slice s3 X.length t3) X.length (bV X) rfl own3 _ r.length rc (bV r) rfl (bV_len r) (HB.out.up (gW.trans (c3.mono gW.size))) (bV_one r) mR lR c3.size ?_; intro v4 w4 hown4 hg4; have c4 : Below W.heap.size W w4 := c3.grown hg4 c3.size (fun j hj => (own3.lt j hj).1); obtain ⟨s4, t4, rfl⟩ := own_sl hown4; have q4 := SeqFar.own hown4; have e4 : bV X ++ bV r = bV (X ++ r) := (by simp [bV]); rw [e4] at q4; have F4 := dec_at (X ++ r) (k := X.length + r.length) (by simp) s4 t4 q4.2.1 w4 (HT.out.up (gW.trans (c4.mono gW.size))) q4.1.at; rw [hDE.out.1, hDE.out.2.1, hDE.out.2.2.1, hDE.out.2.2.2.1, hDE.out.2.2.2.2.1, hDE.out.2.2.2.2.2] at F4)
    | (go_at_call 9; (with_reducible refine F4.mono ?_); rintro e w5 ⟨rfl, hL5⟩)
  have c5 : Below W.heap.size W w5 := c4.trans (hL5.mono c4.size)
  have y0 := cell_up c5 lq x0
  have y1 := cell_up c5 lq x1
  have y2 := cell_up c5 lq x2
  have y3 := cell_up c5 lq x3
  have lz : w.heap.size < w5.heap.size := Nat.lt_of_lt_of_le lq c5.size
  have gg : Below w.heap.size w (w5.alloc (.cells #[.int .i64 op, .int .i64 a, .int .i64 b, .int .i64 n] 23)) := (gW.trans (c5.mono gW.size)).alloc (gW.trans (c5.mono gW.size)).size _
  clear x0 x1 x2 x3 F4 q4 e4 hown4 hg4 own3 hg3 own0 s2 s2b lX lR mX mR hL5 c4 c3 c2b c5 hL2
  go_upto_region 7 with fail
  refine wp_gen (fun W' => Below w.heap.size w W') gg ?_
  clear gg y0 y1 y2 y3 lq lz gW EB hDE
  intro W7 hB
  go_upto_region 10 with (go_at_call 9; (with_reducible refine (D1.out _ hB).mono ?_); rintro e w8 ⟨rfl, hL8⟩; have b8 := hB.trans (hL8.mono hB.size))
  have b9 := b8.alloc b8.size (.cells #[.int .i64 z0, .int .i64 z1, .int .i64 z2, .int .i64 z3] 23)
  go_upto_region 11 with (go_at_call 8; (with_reducible refine (EN.out _ b9).mono ?_); rintro e w10 ⟨p10, c10, rfl, s10, hL10⟩)
  have b10 := b9.trans (hL10.mono b9.size)
  have X10 := sb_lit (r.take m) hl p10 (some ⟨g0, o0, none⟩) c10 rc w10 s10 (seq_take (HB.out.up b10) m)
  go_wp2_with (go_at_call 10; (with_reducible refine X10.mono ?_); rintro e w11 ⟨rfl, rfl⟩)
  go_ret
  exact ⟨rfl, b10⟩
theorem law_back (op a b n : Int) (r : List UInt8) (rp : Option Addr) (rc : Nat) (hcap : r.length ≤ rc) (hrl : r.length ≤ 140737488351232) (hrc : rc ≤ maxLen) (w : World) (hT : TB w) (hP : PT w) (hb : SeqAt w rp (bV r)) :
    Calls Tryd.prog 3 #[inV op a b n, .slice rp r.length rc] w fun e w' => e = .returned (.bool true) ∧ Below w.heap.size w w' := by
  by_cases he : eD r = 0
  · cases hx : okX op a b n
    · exact back_bad_ok op a b n hx r rp rc hcap hrl hrc he w hT hP hb
    · exact back_ok_ok op a b n hx r rp rc hcap hrl hrc he w hT hP hb
  · cases hx : okX op a b n
    · exact back_bad_bad op a b n hx r rp rc hcap hrl hrc he w hT hP hb
    · exact back_ok_bad op a b n hx r rp rc hcap hrl hrc he w hT hP hb
end Go.Proofs.YtadiglonlchgaaaDoor
