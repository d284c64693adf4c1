/-
  Layer 2, contracts: Encode (made by genik.py).
-/
import Derived.Test.YtjlbcpmfbokinaaGreatDoorIj
import Derived.Deep.AppendLies
import Derived.RangeFuncRecord
set_option linter.unusedSimpArgs false
set_option linter.unusedVariables false
namespace Go.Proofs.YtjlbcpmfbokinaaGreatDoor
open Go.RowKit

theorem A_infoU8' : (Tryz.prog.info? 5).map (fun i => (i.zero, i.size, i.bytes)) = some (some (.int .u8 0), 1, 1) := by kernel_rfl
theorem grpL_snoc : ∀ (k : Nat) (n : Int), grpL n (k + 1) = grpL n k ++ [UInt8.ofNat ((n / (128 ^ k : Nat)) % 128).toNat]
  | 0, n => by simp [grpL]
  | k + 1, n => by
    show UInt8.ofNat (n % 128).toNat :: grpL (n / 128) (k + 1) = _
    rw [grpL_snoc k (n / 128), Int.ediv_ediv_of_nonneg (by omega)]
    have e : (128 : Int) * ((128 ^ k : Nat) : Int) = ((128 ^ (k + 1) : Nat) : Int) := by rw [Nat.pow_succ]; push_cast; rw [Int.mul_comm]
    rw [e]
    rfl
/-- What Encode answers. -/
def EncR (lo : Nat) (l : List UInt8) (E : Int) (e : Ending) (w' : World) : Prop := ∃ p c, e = .returned (.tuple #[.slice p l.length c, .int .i64 E]) ∧ SeqFar lo w' p (bV l) ∧ l.length ≤ c
set_option maxHeartbeats 1000000 in
theorem encode_bad {op a b n : Int} (h : okX op a b n = false) (w : World) (hT : TB w) : Calls Tryz.prog 20 #[inV op a b n] w fun e w' => EncR w.heap.size [] 20 e w' ∧ Below w.heap.size w w' := by
  have DD : ∀ W, Below w.heap.size w W → Calls Tryz.prog 31 #[inV op a b n] W fun e w' => e = .returned (.tuple #[rowZ, .int .i64 20]) ∧ Below W.heap.size W w' := fun W g => described_bad h W (hT.up g)
  clear hT h
  go_enter Tryz.func20, Tryz.ntmps20
  go_wp2_with (go_at_call 31; (refine (DD _ (Gr.below (by repeat (first | (with_reducible exact Gr.refl _) | with_reducible refine Gr.alloc ?_ _ | with_reducible refine Gr.more ?_ _ _ | with_reducible refine Gr.setCell ?_ (by dsimp only; omega) _ | with_reducible refine Gr.drew ?_)))).mono ?_); rintro e w1 ⟨rfl, hb⟩; obtain ⟨os, n', rfl⟩ := Below.moreE hb; clear hb)
  go_ret2
  exact ⟨⟨none, 0, rfl, .inl rfl, Nat.le_refl _⟩, (Gr.below (by repeat (first | (with_reducible exact Gr.refl _) | with_reducible refine Gr.alloc ?_ _ | with_reducible refine Gr.more ?_ _ _ | with_reducible refine Gr.setCell ?_ (by dsimp only; omega) _ | with_reducible refine Gr.drew ?_)))⟩

set_option maxRecDepth 100000 in
set_option maxHeartbeats 8000000 in
theorem encode_0 (rg : Nat) (hrg : rg = 0) {op a b n : Int} (h : okX op a b n = true) (hr : rgS (rowO op).sh = rg) (w : World) (hT : TB w) : Calls Tryz.prog 20 #[inV op a b n] w fun e w' => EncR w.heap.size (enL op a b n) 0 e w' ∧ Below w.heap.size w w' := by
  obtain ⟨i0, hi, hz0, hz1, hz2⟩ := info_parts A_infoU8'
  obtain ⟨hk, ha, hb, hf⟩ := okX_parts h
  obtain ⟨hs, ho⟩ := rowO_sh hk
  have DD : ∀ W, Below w.heap.size w W → Calls Tryz.prog 31 #[inV op a b n] W fun e w' => e = .returned (.tuple #[rowOV op, .int .i64 0]) ∧ Below W.heap.size W w' := fun W g => described_ok h W (hT.up g)
  have hop := (knO_iff op).1 hk
  have hEL : enL op a b n = (UInt8.ofNat (128 + op).toNat :: regL (rowO op).sh a b) ++ grpL n (imS (rowO op).sh) := by simp [enL]
  unfold rowOV at DD
  rw [ho] at DD
  have HT : ∀ W, Below w.heap.size w W → TB W := fun W g => hT.up g
  have HT := Lib.hid HT
  have hA := irB_iff.1 ha
  have hB := irB_iff.1 hb
  generalize hsv : (rowO op).sh = s at *
  generalize (rowO op).rd = rd at *
  generalize (rowO op).wr = wt at *
  generalize mnO op = mn at *
  have hs1 : (s : Int) < 12 := by omega
  have hs0 : (0 : Int) ≤ (s : Int) := by omega
  have hil : ∀ s : Fin 12, imS s.1 ≤ 10 := by decide
  have hi10 : imS s ≤ 10 := hil ⟨s, hs⟩
  generalize hmv : imS s = m at *
  have hi10' : (m : Int) ≤ 10 := by omega
  subst hrg
  rw [hr] at hA hB
  obtain ⟨X, hX⟩ : ∃ X, enL op a b n = X := ⟨_, rfl⟩
  rw [hX]
  have HX : Hid (X = [UInt8.ofNat (128 + op).toNat] ++ grpL n m) := Lib.hid (by rw [← hX, hEL, show regL s a b = [] by unfold regL; rw [if_pos hr]])
  have o0 : 0 ≤ op := by omega
  have o1 : op ≤ 76 := by omega
  have HSM := Lib.hid (And.intro hs (And.intro hr hmv))
  have EB : ∀ x : Int, 0 ≤ x → x < 256 → (((UInt8.ofNat x.toNat).toNat : Nat) : Int) = x := fun x h0 h1 => by rw [u8_toNat (by omega)]; omega
  have EB := Lib.hid EB
  clear hT h hk ha hb hf hs ho hop hEL hA hB hsv hil hi10 hX hr hmv
  go_enter Tryz.func20, Tryz.ntmps20
  go_upto_region 4 with (go_at_call 31; (refine (DD _ (Gr.below (by repeat (first | (with_reducible exact Gr.refl _) | with_reducible refine Gr.alloc ?_ _ | with_reducible refine Gr.more ?_ _ _ | with_reducible refine Gr.setCell ?_ (by dsimp only; omega) _ | with_reducible refine Gr.drew ?_)))).mono ?_); rintro e w1 ⟨rfl, hb⟩; have hb2 : Below w.heap.size w w1 := Below.trans (Gr.below (by repeat (first | (with_reducible exact Gr.refl _) | with_reducible refine Gr.alloc ?_ _ | with_reducible refine Gr.more ?_ _ _ | with_reducible refine Gr.setCell ?_ (by dsimp only; omega) _ | with_reducible refine Gr.drew ?_))) (hb.mono (by simp)); have z1 : w.heap.size < w1.heap.size := (by have := hb.size; simp at this; omega); have T3 := HT.out w1 hb2; have d0 := T3.ly.r s HSM.out.1; have d1 := T3.ly.i s HSM.out.1; rw [HSM.out.2.1] at d0; rw [HSM.out.2.2] at d1; have zg := lt_of_cell d0; have x0 : w1.cell? ⟨w.heap.size, 0, none⟩ = some (.int .i64 op) := (by rw [hb.cell (by simp)]; go_simp); have x1 : w1.cell? ⟨w.heap.size, 1, none⟩ = some (.int .i64 a) := (by rw [hb.cell (by simp)]; go_simp); have x2 : w1.cell? ⟨w.heap.size, 2, none⟩ = some (.int .i64 b) := (by rw [hb.cell (by simp)]; go_simp); have x3 : w1.cell? ⟨w.heap.size, 3, none⟩ = some (.int .i64 n) := (by rw [hb.cell (by simp)]; go_simp); clear hb T3)
  have hopw : wrap64 (128 + op) = 128 + op := by unfold wrap64; omega
  go_wp2_with fail
  have z0 : w1.heap.size < w1.heap.size + 1 := Nat.lt_succ_self _
  go_loopw [6, 7, 53] (fun v r i wr => ∃ (u : Value) (k : Nat), u = v ∧ k ≤ m ∧ i = .int .i64 (k : Int) ∧ r = .int .i64 (n / (128 ^ k : Nat)) ∧ wr.ownsRow (w1.heap.size + 1) 5 1 u (1 + k) (bV ([UInt8.ofNat (128 + op).toNat] ++ grpL n k)) ∧ w1.heap.size + 1 ≤ wr.heap.size ∧ Below w.heap.size w wr) (fun _ _ i _ => m - (intOf i).toNat)
  case atStart => exact ⟨_, 0, rfl, Nat.zero_le _, rfl, by simp, (by have E := EB.out (128 + op) (by omega) (by omega); have e : bV ([UInt8.ofNat (128 + op).toNat] ++ grpL n 0) = [.int .u8 (128 + op)] := (by simp only [bV, grpL, List.append_nil, List.map_cons, List.map_nil]; rw [E]); rw [e]; exact (by have := World.ownsRow_lit (w1.alloc (.cells #[.int .i64 op, .string mn, .int .i64 (s : Int), .int .i64 rd, .int .i64 wt] 67)) (base := w1.heap.size + 1) (e := 5) (size := 1) #[.int .u8 (128 + op)] 1 (by simp) (by decide) rfl; rw [World.size_alloc] at this; exact this)), by simp, hb2.alloc (Nat.le_of_lt z1) _ |>.alloc (by simp; omega) _⟩
  case round =>
    obtain ⟨u, k, rfl, hkm, rfl, rfl, hown, hz, hB⟩ := hrel
    by_cases hlt : k < m
    · have hlt' : (k : Int) < (m : Int) := by omega
      have k9 : k < 10 := by omega
      have HW1 : Hid (wrap64 ((k : Int) + 1) = ((k + 1 : Nat) : Int)) := Lib.hid (by clear d0 d1 x0 x1 x2 x3 hown; unfold wrap64; omega)
      have HY : Hid (n / (128 ^ k : Nat) / 128 = n / (128 ^ (k + 1) : Nat)) := Lib.hid (by rw [Int.ediv_ediv_of_nonneg (Int.natCast_nonneg _), Nat.pow_succ]; push_cast; rfl)
      have HS := Lib.hid (grpL_snoc k n)
      obtain ⟨y, hy⟩ : ∃ y : Int, n / (128 ^ k : Nat) = y := ⟨_, rfl⟩
      rw [hy] at HY HS ⊢
      clear hy
      have h7 := and7 y
      have y0 : 0 ≤ y % 128 := by omega
      have y1 : y % 128 < 128 := by omega
      have HE := EB.out (y % 128) y0 (by omega)
      have HN : Hid (bV ([UInt8.ofNat (128 + op).toNat] ++ grpL n (k + 1)) = bV ([UInt8.ofNat (128 + op).toNat] ++ grpL n k) ++ [.int .u8 (y % 128)]) := by
        refine Lib.hid ?_
        rw [HS.out]
        simp only [bV, List.map_append, List.append_assoc, List.map_cons, List.map_nil]
        rw [HE]
      clear HE HS
      generalize y % 128 = t at *
      go_wp2_with (at_builtin; refine wpList_append_own _ rfl _ _ 37 rfl (w1.heap.size + 1) 5 i0 (.int .u8 0) 1 1 Tryz.underlying37 hi hz0 hz1 hz2 rfl (by decide) u (1 + k) (bV ([UInt8.ofNat (128 + op).toNat] ++ grpL n k)) rfl (own_al hown _) ⟨wr.heap.size, 0, none⟩ 1 1 [.int .u8 t] rfl ?qc1 ?qc2 ?qc3 ?qc4 ?qc5 ?qc6 ?_)
      case qc1 => rfl
      case qc2 => exact World.news_of_block (World.alloc_heap_new _ _)
      case qc3 => intro u hu; simp at hu; subst hu; rfl
      case qc4 => unfold maxLen; omega
      case qc5 => omega
      case qc6 => simp; omega
      intro v' w5 hown5 hgrow hnil
      have hge : ∀ j, u.ownBlock = some j → w1.heap.size + 1 ≤ j := fun j hj => (hown.lt j hj).1
      have hown6 : w5.ownsRow (w1.heap.size + 1) 5 1 v' (1 + (k + 1)) (bV ([UInt8.ofNat (128 + op).toNat] ++ grpL n (k + 1))) := by
        rw [HN.out, show 1 + (k + 1) = 1 + k + 1 by omega]; exact hown5
      have hB5 : Below w.heap.size w w5 := (hB.alloc hB.size _).grown hgrow (by simp; omega) (fun j hj => by have := hge j hj; omega)
      have hz5 : w1.heap.size + 1 ≤ w5.heap.size := by have := hgrow.size; simp at this; omega
      clear hown hown5 hgrow hnil hge
      go_wp2_with fail
      exact ⟨⟨_, k + 1, rfl, hlt, by first | (rw [HW1.out]; done) | (push_cast; rfl), by rw [← HY.out], hown6, hz5, hB5⟩, by first | (simp only [intOf, HW1.out]; omega) | (simp only [intOf]; omega)⟩
    · obtain rfl : k = m := by omega
      have hge : ¬ (k : Int) < (k : Int) := by omega
      have hXl : X.length = 1 + k := by rw [HX.out]; simp [grpL_len]; try omega
      rw [← HX.out] at hown
      rw [← hXl] at hown
      obtain ⟨q5, c5, rfl⟩ := own_sl hown
      have p1 := SeqFar.own hown
      clear hXl
      go_wp2_with fail
      go_ret2
      exact ⟨⟨q5, c5, rfl, p1.1.lower (by omega), p1.2.1⟩, hB⟩

set_option maxRecDepth 100000 in
set_option maxHeartbeats 8000000 in
theorem encode_1 (rg : Nat) (hrg : rg = 1) {op a b n : Int} (h : okX op a b n = true) (hr : rgS (rowO op).sh = rg) (w : World) (hT : TB w) : Calls Tryz.prog 20 #[inV op a b n] w fun e w' => EncR w.heap.size (enL op a b n) 0 e w' ∧ Below w.heap.size w w' := by
  obtain ⟨i0, hi, hz0, hz1, hz2⟩ := info_parts A_infoU8'
  obtain ⟨hk, ha, hb, hf⟩ := okX_parts h
  obtain ⟨hs, ho⟩ := rowO_sh hk
  have DD : ∀ W, Below w.heap.size w W → Calls Tryz.prog 31 #[inV op a b n] W fun e w' => e = .returned (.tuple #[rowOV op, .int .i64 0]) ∧ Below W.heap.size W w' := fun W g => described_ok h W (hT.up g)
  have hop := (knO_iff op).1 hk
  have hEL : enL op a b n = (UInt8.ofNat (128 + op).toNat :: regL (rowO op).sh a b) ++ grpL n (imS (rowO op).sh) := by simp [enL]
  unfold rowOV at DD
  rw [ho] at DD
  have HT : ∀ W, Below w.heap.size w W → TB W := fun W g => hT.up g
  have HT := Lib.hid HT
  have hA := irB_iff.1 ha
  have hB := irB_iff.1 hb
  generalize hsv : (rowO op).sh = s at *
  generalize (rowO op).rd = rd at *
  generalize (rowO op).wr = wt at *
  generalize mnO op = mn at *
  have hs1 : (s : Int) < 12 := by omega
  have hs0 : (0 : Int) ≤ (s : Int) := by omega
  have hil : ∀ s : Fin 12, imS s.1 ≤ 10 := by decide
  have hi10 : imS s ≤ 10 := hil ⟨s, hs⟩
  generalize hmv : imS s = m at *
  have hi10' : (m : Int) ≤ 10 := by omega
  subst hrg
  rw [hr] at hA hB
  have xa : 0 ≤ a ∧ a ≤ 7 := by omega
  obtain ⟨xa0, xa1⟩ := xa
  obtain ⟨X, hX⟩ : ∃ X, enL op a b n = X := ⟨_, rfl⟩
  rw [hX]
  have HX : Hid (X = [UInt8.ofNat (128 + op).toNat, UInt8.ofNat a.toNat] ++ grpL n m) := Lib.hid (by rw [← hX, hEL, show regL s a b = [UInt8.ofNat a.toNat] by unfold regL; rw [if_neg (by omega), if_pos hr]])
  have o0 : 0 ≤ op := by omega
  have o1 : op ≤ 76 := by omega
  have HSM := Lib.hid (And.intro hs (And.intro hr hmv))
  have EB : ∀ x : Int, 0 ≤ x → x < 256 → (((UInt8.ofNat x.toNat).toNat : Nat) : Int) = x := fun x h0 h1 => by rw [u8_toNat (by omega)]; omega
  have EB := Lib.hid EB
  clear hT h hk ha hb hf hs ho hop hEL hA hB hsv hil hi10 hX hr hmv
  go_enter Tryz.func20, Tryz.ntmps20
  go_upto_region 4 with (go_at_call 31; (refine (DD _ (Gr.below (by repeat (first | (with_reducible exact Gr.refl _) | with_reducible refine Gr.alloc ?_ _ | with_reducible refine Gr.more ?_ _ _ | with_reducible refine Gr.setCell ?_ (by dsimp only; omega) _ | with_reducible refine Gr.drew ?_)))).mono ?_); rintro e w1 ⟨rfl, hb⟩; have hb2 : Below w.heap.size w w1 := Below.trans (Gr.below (by repeat (first | (with_reducible exact Gr.refl _) | with_reducible refine Gr.alloc ?_ _ | with_reducible refine Gr.more ?_ _ _ | with_reducible refine Gr.setCell ?_ (by dsimp only; omega) _ | with_reducible refine Gr.drew ?_))) (hb.mono (by simp)); have z1 : w.heap.size < w1.heap.size := (by have := hb.size; simp at this; omega); have T3 := HT.out w1 hb2; have d0 := T3.ly.r s HSM.out.1; have d1 := T3.ly.i s HSM.out.1; rw [HSM.out.2.1] at d0; rw [HSM.out.2.2] at d1; have zg := lt_of_cell d0; have x0 : w1.cell? ⟨w.heap.size, 0, none⟩ = some (.int .i64 op) := (by rw [hb.cell (by simp)]; go_simp); have x1 : w1.cell? ⟨w.heap.size, 1, none⟩ = some (.int .i64 a) := (by rw [hb.cell (by simp)]; go_simp); have x2 : w1.cell? ⟨w.heap.size, 2, none⟩ = some (.int .i64 b) := (by rw [hb.cell (by simp)]; go_simp); have x3 : w1.cell? ⟨w.heap.size, 3, none⟩ = some (.int .i64 n) := (by rw [hb.cell (by simp)]; go_simp); clear hb T3)
  have hopw : wrap64 (128 + op) = 128 + op := by unfold wrap64; omega
  have hx0 : 0 ≤ a := by omega
  have hx1 : a < 256 := by omega
  have hLIT := (show ((w1.alloc (.cells #[.int .i64 op, .string mn, .int .i64 (s : Int), .int .i64 rd, .int .i64 wt] 67)).alloc (.cells #[.int .u8 (128 + op)] 5)).ownsRow (w1.heap.size + 1) 5 1 (.slice (some ⟨w1.heap.size + 1, 0, none⟩) 1 1) 1 [.int .u8 (128 + op)] by have := World.ownsRow_lit (w1.alloc (.cells #[.int .i64 op, .string mn, .int .i64 (s : Int), .int .i64 rd, .int .i64 wt] 67)) (base := w1.heap.size + 1) (e := 5) (size := 1) #[.int .u8 (128 + op)] 1 (by simp) (by decide) rfl; rw [World.size_alloc] at this; exact this)
  go_wp2_with (at_builtin; refine wpList_append_own _ rfl _ _ 37 rfl (w1.heap.size + 1) 5 i0 (.int .u8 0) 1 1 Tryz.underlying37 hi hz0 hz1 hz2 rfl (by decide) (.slice (some ⟨w1.heap.size + 1, 0, none⟩) 1 1) 1 [.int .u8 (128 + op)] rfl (own_al hLIT _) ⟨w1.heap.size + 1 + 1, 0, none⟩ 1 1 [.int .u8 a] rfl ?qa1 ?qa2 ?qa3 ?qa4 ?qa5 ?qa6 ?_)
  case qa1 => rfl
  case qa2 => exact World.news_of_block (by have := World.alloc_heap_new (((w1.alloc (.cells #[.int .i64 op, .string mn, .int .i64 (s : Int), .int .i64 rd, .int .i64 wt] 67))).alloc (.cells #[.int .u8 (128 + op)] 5)) (.cells #[.int .u8 a] 5); simpa using this)
  case qa3 => intro u hu; simp at hu; subst hu; rfl
  case qa4 => decide
  case qa5 => decide
  case qa6 => first | (simp; done) | (simp; omega)
  intro v0 w5 ho5 hgrow hnil
  have hn0 : ∀ b, b < w1.heap.size + 1 → some b ≠ (Value.slice (some ⟨w1.heap.size + 1, 0, none⟩) 1 1).ownBlock := fun b hb => by simp [Value.ownBlock]; omega
  have t2 : w5.cell? ⟨w1.heap.size, 2, none⟩ = some (.int .i64 (s : Int)) := grown_cell hgrow (by go_simp) (hn0 _ (by omega))
  have e3 : w5.cell? ⟨w.heap.size, 3, none⟩ = some (.int .i64 n) := grown_cell hgrow (by go_simp) (hn0 _ (by omega))
  have e1 : w5.cell? ⟨0, s * 5 + 1, none⟩ = some (.int .i64 (m : Int)) := grown_cell hgrow (by go_simp) (hn0 _ (by omega))
  have B5 : Below w.heap.size w w5 := (((hb2.alloc (Nat.le_of_lt z1) _).alloc (by simp; omega) _).alloc (by simp; omega) _).grown hgrow (by simp; omega) (fun j hj => by simp [Value.ownBlock] at hj; omega)
  have z5 : w1.heap.size + 1 ≤ w5.heap.size := by have := hgrow.size; simp at this; omega
  have o5 : w5.ownsRow (w1.heap.size + 1) 5 1 v0 (2 + 0) (bV ([UInt8.ofNat (128 + op).toNat, UInt8.ofNat (a).toNat] ++ grpL n 0)) := by
    have E := EB.out (128 + op) (by omega) (by omega)
    have E2 := EB.out a hx0 hx1
    have e : bV ([UInt8.ofNat (128 + op).toNat, UInt8.ofNat (a).toNat] ++ grpL n 0) = [.int .u8 (128 + op)] ++ [.int .u8 a] := by
      simp only [bV, grpL, List.append_nil, List.map_cons, List.map_nil]
      rw [E, E2]; rfl
    rw [e]; exact ho5
  clear ho5 hgrow hnil hn0 hLIT
  go_wp2_with fail
  have z0 : w1.heap.size < w1.heap.size + 1 := Nat.lt_succ_self _
  go_loopw [6, 7, 53] (fun v r i wr => ∃ (u : Value) (k : Nat), u = v ∧ k ≤ m ∧ i = .int .i64 (k : Int) ∧ r = .int .i64 (n / (128 ^ k : Nat)) ∧ wr.ownsRow (w1.heap.size + 1) 5 1 u (2 + k) (bV ([UInt8.ofNat (128 + op).toNat, UInt8.ofNat a.toNat] ++ grpL n k)) ∧ w1.heap.size + 1 ≤ wr.heap.size ∧ Below w.heap.size w wr) (fun _ _ i _ => m - (intOf i).toNat)
  case atStart => exact ⟨_, 0, rfl, Nat.zero_le _, rfl, by simp, o5, z5, B5⟩
  case round =>
    obtain ⟨u, k, rfl, hkm, rfl, rfl, hown, hz, hB⟩ := hrel
    by_cases hlt : k < m
    · have hlt' : (k : Int) < (m : Int) := by omega
      have k9 : k < 10 := by omega
      have HW1 : Hid (wrap64 ((k : Int) + 1) = ((k + 1 : Nat) : Int)) := Lib.hid (by clear d0 d1 x0 x1 x2 x3 hown; unfold wrap64; omega)
      have HY : Hid (n / (128 ^ k : Nat) / 128 = n / (128 ^ (k + 1) : Nat)) := Lib.hid (by rw [Int.ediv_ediv_of_nonneg (Int.natCast_nonneg _), Nat.pow_succ]; push_cast; rfl)
      have HS := Lib.hid (grpL_snoc k n)
      obtain ⟨y, hy⟩ : ∃ y : Int, n / (128 ^ k : Nat) = y := ⟨_, rfl⟩
      rw [hy] at HY HS ⊢
      clear hy
      have h7 := and7 y
      have y0 : 0 ≤ y % 128 := by omega
      have y1 : y % 128 < 128 := by omega
      have HE := EB.out (y % 128) y0 (by omega)
      have HN : Hid (bV ([UInt8.ofNat (128 + op).toNat, UInt8.ofNat a.toNat] ++ grpL n (k + 1)) = bV ([UInt8.ofNat (128 + op).toNat, UInt8.ofNat a.toNat] ++ grpL n k) ++ [.int .u8 (y % 128)]) := by
        refine Lib.hid ?_
        rw [HS.out]
        simp only [bV, List.map_append, List.append_assoc, List.map_cons, List.map_nil]
        rw [HE]
      clear HE HS
      generalize y % 128 = t at *
      go_wp2_with (at_builtin; refine wpList_append_own _ rfl _ _ 37 rfl (w1.heap.size + 1) 5 i0 (.int .u8 0) 1 1 Tryz.underlying37 hi hz0 hz1 hz2 rfl (by decide) u (2 + k) (bV ([UInt8.ofNat (128 + op).toNat, UInt8.ofNat a.toNat] ++ grpL n k)) rfl (own_al hown _) ⟨wr.heap.size, 0, none⟩ 1 1 [.int .u8 t] rfl ?qc1 ?qc2 ?qc3 ?qc4 ?qc5 ?qc6 ?_)
      case qc1 => rfl
      case qc2 => exact World.news_of_block (World.alloc_heap_new _ _)
      case qc3 => intro u hu; simp at hu; subst hu; rfl
      case qc4 => unfold maxLen; omega
      case qc5 => omega
      case qc6 => simp; omega
      intro v' w5 hown5 hgrow hnil
      have hge : ∀ j, u.ownBlock = some j → w1.heap.size + 1 ≤ j := fun j hj => (hown.lt j hj).1
      have hown6 : w5.ownsRow (w1.heap.size + 1) 5 1 v' (2 + (k + 1)) (bV ([UInt8.ofNat (128 + op).toNat, UInt8.ofNat a.toNat] ++ grpL n (k + 1))) := by
        rw [HN.out, show 2 + (k + 1) = 2 + k + 1 by omega]; exact hown5
      have hB5 : Below w.heap.size w w5 := (hB.alloc hB.size _).grown hgrow (by simp; omega) (fun j hj => by have := hge j hj; omega)
      have hz5 : w1.heap.size + 1 ≤ w5.heap.size := by have := hgrow.size; simp at this; omega
      clear hown hown5 hgrow hnil hge
      go_wp2_with fail
      exact ⟨⟨_, k + 1, rfl, hlt, by first | (rw [HW1.out]; done) | (push_cast; rfl), by rw [← HY.out], hown6, hz5, hB5⟩, by first | (simp only [intOf, HW1.out]; omega) | (simp only [intOf]; omega)⟩
    · obtain rfl : k = m := by omega
      have hge : ¬ (k : Int) < (k : Int) := by omega
      have hXl : X.length = 2 + k := by rw [HX.out]; simp [grpL_len]; try omega
      rw [← HX.out] at hown
      rw [← hXl] at hown
      obtain ⟨q5, c5, rfl⟩ := own_sl hown
      have p1 := SeqFar.own hown
      clear hXl
      go_wp2_with fail
      go_ret2
      exact ⟨⟨q5, c5, rfl, p1.1.lower (by omega), p1.2.1⟩, hB⟩

set_option maxRecDepth 100000 in
set_option maxHeartbeats 8000000 in
theorem encode_2 (rg : Nat) (hrg : rg = 2) {op a b n : Int} (h : okX op a b n = true) (hr : rgS (rowO op).sh = rg) (w : World) (hT : TB w) : Calls Tryz.prog 20 #[inV op a b n] w fun e w' => EncR w.heap.size (enL op a b n) 0 e w' ∧ Below w.heap.size w w' := by
  obtain ⟨i0, hi, hz0, hz1, hz2⟩ := info_parts A_infoU8'
  obtain ⟨hk, ha, hb, hf⟩ := okX_parts h
  obtain ⟨hs, ho⟩ := rowO_sh hk
  have DD : ∀ W, Below w.heap.size w W → Calls Tryz.prog 31 #[inV op a b n] W fun e w' => e = .returned (.tuple #[rowOV op, .int .i64 0]) ∧ Below W.heap.size W w' := fun W g => described_ok h W (hT.up g)
  have hop := (knO_iff op).1 hk
  have hEL : enL op a b n = (UInt8.ofNat (128 + op).toNat :: regL (rowO op).sh a b) ++ grpL n (imS (rowO op).sh) := by simp [enL]
  unfold rowOV at DD
  rw [ho] at DD
  have HT : ∀ W, Below w.heap.size w W → TB W := fun W g => hT.up g
  have HT := Lib.hid HT
  have hA := irB_iff.1 ha
  have hB := irB_iff.1 hb
  generalize hsv : (rowO op).sh = s at *
  generalize (rowO op).rd = rd at *
  generalize (rowO op).wr = wt at *
  generalize mnO op = mn at *
  have hs1 : (s : Int) < 12 := by omega
  have hs0 : (0 : Int) ≤ (s : Int) := by omega
  have hil : ∀ s : Fin 12, imS s.1 ≤ 10 := by decide
  have hi10 : imS s ≤ 10 := hil ⟨s, hs⟩
  generalize hmv : imS s = m at *
  have hi10' : (m : Int) ≤ 10 := by omega
  subst hrg
  rw [hr] at hA hB
  have xa : 0 ≤ a ∧ a ≤ 7 := by omega
  have xb : 0 ≤ b ∧ b ≤ 7 := by omega
  obtain ⟨xa0, xa1⟩ := xa
  obtain ⟨xb0, xb1⟩ := xb
  obtain ⟨X, hX⟩ : ∃ X, enL op a b n = X := ⟨_, rfl⟩
  rw [hX]
  have HX : Hid (X = [UInt8.ofNat (128 + op).toNat, UInt8.ofNat (8 * a + b).toNat] ++ grpL n m) := Lib.hid (by rw [← hX, hEL, show regL s a b = [UInt8.ofNat (8 * a + b).toNat] by unfold regL; rw [if_neg (by omega), if_neg (by omega)]])
  have o0 : 0 ≤ op := by omega
  have o1 : op ≤ 76 := by omega
  have HSM := Lib.hid (And.intro hs (And.intro hr hmv))
  have EB : ∀ x : Int, 0 ≤ x → x < 256 → (((UInt8.ofNat x.toNat).toNat : Nat) : Int) = x := fun x h0 h1 => by rw [u8_toNat (by omega)]; omega
  have EB := Lib.hid EB
  clear hT h hk ha hb hf hs ho hop hEL hA hB hsv hil hi10 hX hr hmv
  go_enter Tryz.func20, Tryz.ntmps20
  go_upto_region 4 with (go_at_call 31; (refine (DD _ (Gr.below (by repeat (first | (with_reducible exact Gr.refl _) | with_reducible refine Gr.alloc ?_ _ | with_reducible refine Gr.more ?_ _ _ | with_reducible refine Gr.setCell ?_ (by dsimp only; omega) _ | with_reducible refine Gr.drew ?_)))).mono ?_); rintro e w1 ⟨rfl, hb⟩; have hb2 : Below w.heap.size w w1 := Below.trans (Gr.below (by repeat (first | (with_reducible exact Gr.refl _) | with_reducible refine Gr.alloc ?_ _ | with_reducible refine Gr.more ?_ _ _ | with_reducible refine Gr.setCell ?_ (by dsimp only; omega) _ | with_reducible refine Gr.drew ?_))) (hb.mono (by simp)); have z1 : w.heap.size < w1.heap.size := (by have := hb.size; simp at this; omega); have T3 := HT.out w1 hb2; have d0 := T3.ly.r s HSM.out.1; have d1 := T3.ly.i s HSM.out.1; rw [HSM.out.2.1] at d0; rw [HSM.out.2.2] at d1; have zg := lt_of_cell d0; have x0 : w1.cell? ⟨w.heap.size, 0, none⟩ = some (.int .i64 op) := (by rw [hb.cell (by simp)]; go_simp); have x1 : w1.cell? ⟨w.heap.size, 1, none⟩ = some (.int .i64 a) := (by rw [hb.cell (by simp)]; go_simp); have x2 : w1.cell? ⟨w.heap.size, 2, none⟩ = some (.int .i64 b) := (by rw [hb.cell (by simp)]; go_simp); have x3 : w1.cell? ⟨w.heap.size, 3, none⟩ = some (.int .i64 n) := (by rw [hb.cell (by simp)]; go_simp); clear hb T3)
  have hopw : wrap64 (128 + op) = 128 + op := by unfold wrap64; omega
  have hx0 : 0 ≤ (8 * a + b) := by omega
  have hx1 : (8 * a + b) < 256 := by omega
  have hLIT := (show ((w1.alloc (.cells #[.int .i64 op, .string mn, .int .i64 (s : Int), .int .i64 rd, .int .i64 wt] 67)).alloc (.cells #[.int .u8 (128 + op)] 5)).ownsRow (w1.heap.size + 1) 5 1 (.slice (some ⟨w1.heap.size + 1, 0, none⟩) 1 1) 1 [.int .u8 (128 + op)] by have := World.ownsRow_lit (w1.alloc (.cells #[.int .i64 op, .string mn, .int .i64 (s : Int), .int .i64 rd, .int .i64 wt] 67)) (base := w1.heap.size + 1) (e := 5) (size := 1) #[.int .u8 (128 + op)] 1 (by simp) (by decide) rfl; rw [World.size_alloc] at this; exact this)
  go_wp2_with (at_builtin; refine wpList_append_own _ rfl _ _ 37 rfl (w1.heap.size + 1) 5 i0 (.int .u8 0) 1 1 Tryz.underlying37 hi hz0 hz1 hz2 rfl (by decide) (.slice (some ⟨w1.heap.size + 1, 0, none⟩) 1 1) 1 [.int .u8 (128 + op)] rfl (own_al hLIT _) ⟨w1.heap.size + 1 + 1, 0, none⟩ 1 1 [.int .u8 (8 * a + b)] rfl ?qa1 ?qa2 ?qa3 ?qa4 ?qa5 ?qa6 ?_)
  case qa1 => rfl
  case qa2 => exact World.news_of_block (by have := World.alloc_heap_new (((w1.alloc (.cells #[.int .i64 op, .string mn, .int .i64 (s : Int), .int .i64 rd, .int .i64 wt] 67))).alloc (.cells #[.int .u8 (128 + op)] 5)) (.cells #[.int .u8 (8 * a + b)] 5); simpa using this)
  case qa3 => intro u hu; simp at hu; subst hu; rfl
  case qa4 => decide
  case qa5 => decide
  case qa6 => first | (simp; done) | (simp; omega)
  intro v0 w5 ho5 hgrow hnil
  have hn0 : ∀ b, b < w1.heap.size + 1 → some b ≠ (Value.slice (some ⟨w1.heap.size + 1, 0, none⟩) 1 1).ownBlock := fun b hb => by simp [Value.ownBlock]; omega
  have t2 : w5.cell? ⟨w1.heap.size, 2, none⟩ = some (.int .i64 (s : Int)) := grown_cell hgrow (by go_simp) (hn0 _ (by omega))
  have e3 : w5.cell? ⟨w.heap.size, 3, none⟩ = some (.int .i64 n) := grown_cell hgrow (by go_simp) (hn0 _ (by omega))
  have e1 : w5.cell? ⟨0, s * 5 + 1, none⟩ = some (.int .i64 (m : Int)) := grown_cell hgrow (by go_simp) (hn0 _ (by omega))
  have B5 : Below w.heap.size w w5 := (((hb2.alloc (Nat.le_of_lt z1) _).alloc (by simp; omega) _).alloc (by simp; omega) _).grown hgrow (by simp; omega) (fun j hj => by simp [Value.ownBlock] at hj; omega)
  have z5 : w1.heap.size + 1 ≤ w5.heap.size := by have := hgrow.size; simp at this; omega
  have o5 : w5.ownsRow (w1.heap.size + 1) 5 1 v0 (2 + 0) (bV ([UInt8.ofNat (128 + op).toNat, UInt8.ofNat ((8 * a + b)).toNat] ++ grpL n 0)) := by
    have E := EB.out (128 + op) (by omega) (by omega)
    have E2 := EB.out (8 * a + b) hx0 hx1
    have e : bV ([UInt8.ofNat (128 + op).toNat, UInt8.ofNat ((8 * a + b)).toNat] ++ grpL n 0) = [.int .u8 (128 + op)] ++ [.int .u8 (8 * a + b)] := by
      simp only [bV, grpL, List.append_nil, List.map_cons, List.map_nil]
      rw [E, E2]; rfl
    rw [e]; exact ho5
  clear ho5 hgrow hnil hn0 hLIT
  go_wp2_with fail
  have z0 : w1.heap.size < w1.heap.size + 1 := Nat.lt_succ_self _
  go_loopw [6, 7, 53] (fun v r i wr => ∃ (u : Value) (k : Nat), u = v ∧ k ≤ m ∧ i = .int .i64 (k : Int) ∧ r = .int .i64 (n / (128 ^ k : Nat)) ∧ wr.ownsRow (w1.heap.size + 1) 5 1 u (2 + k) (bV ([UInt8.ofNat (128 + op).toNat, UInt8.ofNat (8 * a + b).toNat] ++ grpL n k)) ∧ w1.heap.size + 1 ≤ wr.heap.size ∧ Below w.heap.size w wr) (fun _ _ i _ => m - (intOf i).toNat)
  case atStart => exact ⟨_, 0, rfl, Nat.zero_le _, rfl, by simp, o5, z5, B5⟩
  case round =>
    obtain ⟨u, k, rfl, hkm, rfl, rfl, hown, hz, hB⟩ := hrel
    by_cases hlt : k < m
    · have hlt' : (k : Int) < (m : Int) := by omega
      have k9 : k < 10 := by omega
      have HW1 : Hid (wrap64 ((k : Int) + 1) = ((k + 1 : Nat) : Int)) := Lib.hid (by clear d0 d1 x0 x1 x2 x3 hown; unfold wrap64; omega)
      have HY : Hid (n / (128 ^ k : Nat) / 128 = n / (128 ^ (k + 1) : Nat)) := Lib.hid (by rw [Int.ediv_ediv_of_nonneg (Int.natCast_nonneg _), Nat.pow_succ]; push_cast; rfl)
      have HS := Lib.hid (grpL_snoc k n)
      obtain ⟨y, hy⟩ : ∃ y : Int, n / (128 ^ k : Nat) = y := ⟨_, rfl⟩
      rw [hy] at HY HS ⊢
      clear hy
      have h7 := and7 y
      have y0 : 0 ≤ y % 128 := by omega
      have y1 : y % 128 < 128 := by omega
      have HE := EB.out (y % 128) y0 (by omega)
      have HN : Hid (bV ([UInt8.ofNat (128 + op).toNat, UInt8.ofNat (8 * a + b).toNat] ++ grpL n (k + 1)) = bV ([UInt8.ofNat (128 + op).toNat, UInt8.ofNat (8 * a + b).toNat] ++ grpL n k) ++ [.int .u8 (y % 128)]) := by
        refine Lib.hid ?_
        rw [HS.out]
        simp only [bV, List.map_append, List.append_assoc, List.map_cons, List.map_nil]
        rw [HE]
      clear HE HS
      generalize y % 128 = t at *
      go_wp2_with (at_builtin; refine wpList_append_own _ rfl _ _ 37 rfl (w1.heap.size + 1) 5 i0 (.int .u8 0) 1 1 Tryz.underlying37 hi hz0 hz1 hz2 rfl (by decide) u (2 + k) (bV ([UInt8.ofNat (128 + op).toNat, UInt8.ofNat (8 * a + b).toNat] ++ grpL n k)) rfl (own_al hown _) ⟨wr.heap.size, 0, none⟩ 1 1 [.int .u8 t] rfl ?qc1 ?qc2 ?qc3 ?qc4 ?qc5 ?qc6 ?_)
      case qc1 => rfl
      case qc2 => exact World.news_of_block (World.alloc_heap_new _ _)
      case qc3 => intro u hu; simp at hu; subst hu; rfl
      case qc4 => unfold maxLen; omega
      case qc5 => omega
      case qc6 => simp; omega
      intro v' w5 hown5 hgrow hnil
      have hge : ∀ j, u.ownBlock = some j → w1.heap.size + 1 ≤ j := fun j hj => (hown.lt j hj).1
      have hown6 : w5.ownsRow (w1.heap.size + 1) 5 1 v' (2 + (k + 1)) (bV ([UInt8.ofNat (128 + op).toNat, UInt8.ofNat (8 * a + b).toNat] ++ grpL n (k + 1))) := by
        rw [HN.out, show 2 + (k + 1) = 2 + k + 1 by omega]; exact hown5
      have hB5 : Below w.heap.size w w5 := (hB.alloc hB.size _).grown hgrow (by simp; omega) (fun j hj => by have := hge j hj; omega)
      have hz5 : w1.heap.size + 1 ≤ w5.heap.size := by have := hgrow.size; simp at this; omega
      clear hown hown5 hgrow hnil hge
      go_wp2_with fail
      exact ⟨⟨_, k + 1, rfl, hlt, by first | (rw [HW1.out]; done) | (push_cast; rfl), by rw [← HY.out], hown6, hz5, hB5⟩, by first | (simp only [intOf, HW1.out]; omega) | (simp only [intOf]; omega)⟩
    · obtain rfl : k = m := by omega
      have hge : ¬ (k : Int) < (k : Int) := by omega
      have hXl : X.length = 2 + k := by rw [HX.out]; simp [grpL_len]; try omega
      rw [← HX.out] at hown
      rw [← hXl] at hown
      obtain ⟨q5, c5, rfl⟩ := own_sl hown
      have p1 := SeqFar.own hown
      clear hXl
      go_wp2_with fail
      go_ret2
      exact ⟨⟨q5, c5, rfl, p1.1.lower (by omega), p1.2.1⟩, hB⟩

theorem encode_ok {op a b n : Int} (h : okX op a b n = true) (w : World) (hT : TB w) : Calls Tryz.prog 20 #[inV op a b n] w fun e w' => EncR w.heap.size (enL op a b n) 0 e w' ∧ Below w.heap.size w w' := by
  obtain ⟨hk, _⟩ := okX_parts h
  rcases regs_of (rowO_sh hk).1 with hr | hr | hr
  · exact encode_0 0 rfl h hr w hT
  · exact encode_1 1 rfl h hr w hT
  · exact encode_2 2 rfl h hr w hT
end Go.Proofs.YtjlbcpmfbokinaaGreatDoor
