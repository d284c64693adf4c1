/-
  Layer 2, contracts: the tables; isRegister, fits, length, byOp.
  Layer 2, contracts: fits, byOp, described.
  Layer 2, contracts: described, Check (made by genig.py).
  Layer 2, contracts: registersIn, goesOn, immediateIn.
  Layer 2, contracts: immediateIn.
-/
import Derived.Test.YtjlbcpmfbokinaaGreatDoorGA
import Derived.Test.YtjlbcpmfbokinaaGreatDoorGn
import Derived.BigQuiet
import Derived.Deep.DeepCutAuto
import Derived.Deep.RegionHeld3
import Derived.Deep.RegionWith
import Derived.Deep.RegionLaw
import Derived.Deep.QuietTactic
set_option linter.unusedSimpArgs false
set_option linter.unusedVariables false
namespace Go.Proofs.YtjlbcpmfbokinaaGreatDoor
open Go.RowKit

def mnT : List (List UInt8) := [[110, 111, 112], [109, 111, 118, 101], [115, 101, 116], [108, 105, 116], [97, 100, 100], [115, 117, 98], [109, 117, 108], [100, 105, 118], [109, 111, 100], [97, 110, 100], [111, 114], [120, 111, 114], [115, 104, 108], [115, 104, 114], [115, 97, 114], [105, 110, 99], [108, 111, 97, 100, 49], [108, 111, 97, 100, 56], [115, 116, 111, 114, 101, 49], [115, 116, 111, 114, 101, 56], [98, 101, 113], [98, 110, 101], [98, 108, 116], [98, 103, 101], [106, 117, 109, 112], [106, 117, 109, 112, 114], [99, 97, 108, 108], [99, 97, 108, 108, 114], [114, 101, 116], [112, 117, 115, 104], [112, 111, 112], [108, 101, 97], [115, 121, 115], [115, 119, 97, 112], [98, 114, 101, 97, 107]]
/-- The mnemonic of a row. -/
def mnS (i : Nat) : ByteArray := ⟨(mnT.getD i []).toArray⟩
/-- The table of shapes lies in memory. -/
structure LY (W : World) : Prop where
  r : ∀ s, s < 12 → W.cell? ⟨0, s * 5, none⟩ = some (.int .i64 (rgS s : Int))
  i : ∀ s, s < 12 → W.cell? ⟨0, s * 5 + 1, none⟩ = some (.int .i64 (imS s : Int))
  l : ∀ s, s < 12 → W.cell? ⟨0, s * 5 + 2, none⟩ = some (.int .i64 (loS s))
  h : ∀ s, s < 12 → W.cell? ⟨0, s * 5 + 3, none⟩ = some (.int .i64 (hiS s))
  o : ∀ s, s < 12 → ∃ p c, W.cell? ⟨0, s * 5 + 4, none⟩ = some (.slice p (opsS s).length c) ∧ SeqAt W p (iV (opsS s))
/-- The table of operations. -/
structure OT (W : World) : Prop where
  o : ∀ i, i < 35 → W.cell? ⟨1, i * 5, none⟩ = some (.int .i64 (opAt i).op)
  m : ∀ i, i < 35 → W.cell? ⟨1, i * 5 + 1, none⟩ = some (.string (mnS i))
  s : ∀ i, i < 35 → W.cell? ⟨1, i * 5 + 2, none⟩ = some (.int .i64 ((opAt i).sh : Int))
  r : ∀ i, i < 35 → W.cell? ⟨1, i * 5 + 3, none⟩ = some (.int .i64 (opAt i).rd)
  w : ∀ i, i < 35 → W.cell? ⟨1, i * 5 + 4, none⟩ = some (.int .i64 (opAt i).wr)
structure TB (W : World) : Prop where
  ly : LY W
  ot : OT W
theorem TB.up {W W' : World} (g : Below W.heap.size W W') (h : TB W) : TB W' := by
  obtain ⟨⟨a1, a2, a3, a4, a5⟩, ⟨b1, b2, b3, b4, b5⟩⟩ := h
  have U : ∀ {b o : Nat} {v : Value}, W.cell? ⟨b, o, none⟩ = some v → W'.cell? ⟨b, o, none⟩ = some v := fun h => cell_up g (lt_of_cell h) h
  exact ⟨⟨fun s h => U (a1 s h), fun s h => U (a2 s h), fun s h => U (a3 s h), fun s h => U (a4 s h), fun s h => by obtain ⟨p, c, h1, h2⟩ := a5 s h; exact ⟨p, c, U h1, h2.up g⟩⟩, ⟨fun s h => U (b1 s h), fun s h => U (b2 s h), fun s h => U (b3 s h), fun s h => U (b4 s h), fun s h => U (b5 s h)⟩⟩

theorem isReg_any (n : Int) (p : Bool) (w : World) : Calls Tryz.prog 53 #[.int .i64 n, .bool p] w fun e w' => e = .returned (.bool (irB n p)) ∧ w = w' := by
  by_cases h0 : n = 0
  · subst h0
    rw [show irB 0 p = true by simp [irB]]
    go_enter Tryz.func53, Tryz.ntmps53
    go_wp2
    go_ret
    exact ⟨rfl, rfl⟩
  have h0' : (n == 0) = false := beq_eq_false_iff_ne.2 h0
  cases p
  · rw [show irB n false = false by simp [irB, h0]]
    clear h0
    go_enter Tryz.func53, Tryz.ntmps53
    go_wp2
    go_ret
    exact ⟨rfl, rfl⟩
  by_cases h1 : 0 < n
  · by_cases h7 : n ≤ 7
    · rw [show irB n true = true by simp [irB, h1, h7]]
      clear h0
      go_enter Tryz.func53, Tryz.ntmps53
      go_wp2
      go_ret
      exact ⟨rfl, rfl⟩
    · rw [show irB n true = false by simp [irB, h0, h7]]
      clear h0
      go_enter Tryz.func53, Tryz.ntmps53
      go_wp2
      go_ret
      exact ⟨rfl, rfl⟩
  · rw [show irB n true = false by simp [irB, h0, h1]]
    clear h0
    go_enter Tryz.func53, Tryz.ntmps53
    go_wp2
    go_ret
    exact ⟨rfl, rfl⟩

set_option maxHeartbeats 1000000 in
theorem length_any (s : Nat) (hs : s < 12) (w : World) (hT : TB w) : Calls Tryz.prog 32 #[.int .i64 (s : Int)] w fun e w' => e = .returned (.int .i64 (lenS s : Int)) ∧ w = w' := by
  have d0 := hT.ly.r s hs
  have d1 := hT.ly.i s hs
  have hs1 : (s : Int) < 12 := by omega
  have hs0 : (0 : Int) ≤ (s : Int) := by omega
  have b0 := lt_of_cell d0
  have hi : imS s ≤ 10 := by have : ∀ s : Fin 12, imS s.1 ≤ 10 := by decide
                             exact this ⟨s, hs⟩
  by_cases h0 : rgS s = 0
  · have hL : (lenS s : Int) = 1 + (imS s : Int) := by unfold lenS; rw [if_pos h0]; omega
    rw [hL]
    rw [h0] at d0
    clear h0 hL hT hs
    generalize (imS s) = m at *
    have w1 : wrap64 (1 + (m : Int)) = 1 + (m : Int) := by unfold wrap64; omega
    go_enter Tryz.func32, Tryz.ntmps32
    go_wp2_with fail
    go_ret
    exact ⟨rfl, rfl⟩
  · have hL : (lenS s : Int) = 2 + (imS s : Int) := by unfold lenS; rw [if_neg h0]; omega
    rw [hL]
    have hr : ((rgS s : Int) == 0) = false := by rw [beq_eq_false_iff_ne]; omega
    clear h0 hL hT hs
    generalize (imS s) = m at *
    generalize (rgS s : Int) = r at *
    have w1 : wrap64 (2 + (m : Int)) = 2 + (m : Int) := by unfold wrap64; omega
    go_enter Tryz.func32, Tryz.ntmps32
    go_wp2_with fail
    go_ret
    exact ⟨rfl, rfl⟩
end Go.Proofs.YtjlbcpmfbokinaaGreatDoor

namespace Go.Proofs.YtjlbcpmfbokinaaGreatDoor
open Go.RowKit

set_option maxHeartbeats 1000000 in
theorem fits_any (s : Nat) (hs : s < 12) (n : Int) (w : World) (hT : TB w) : Calls Tryz.prog 54 #[.int .i64 (s : Int), .int .i64 n] w fun e w' => e = .returned (.bool (ftB s n)) ∧ w = w' := by
  have d0 := hT.ly.l s hs
  have d1 := hT.ly.h s hs
  have hs1 : (s : Int) < 12 := by omega
  have hs0 : (0 : Int) ≤ (s : Int) := by omega
  have b0 := lt_of_cell d0
  by_cases h0 : loS s ≤ n
  · by_cases h1 : n ≤ hiS s
    · rw [show ftB s n = true by unfold ftB; rw [decide_eq_true h0, decide_eq_true h1]; rfl]
      clear hT hs
      generalize loS s = l at *
      generalize hiS s = u at *
      go_enter Tryz.func54, Tryz.ntmps54
      go_wp2_with fail
      go_ret
      exact ⟨rfl, rfl⟩
    · rw [show ftB s n = false by unfold ftB; rw [decide_eq_true h0, decide_eq_false h1]; rfl]
      clear hT hs
      generalize loS s = l at *
      generalize hiS s = u at *
      go_enter Tryz.func54, Tryz.ntmps54
      go_wp2_with fail
      go_ret
      exact ⟨rfl, rfl⟩
  · rw [show ftB s n = false by unfold ftB; rw [decide_eq_false h0]; rfl]
    clear hT hs
    generalize loS s = l at *
    generalize hiS s = u at *
    go_enter Tryz.func54, Tryz.ntmps54
    go_wp2_with fail
    go_ret
    exact ⟨rfl, rfl⟩

/-- The value of a row of the table. -/
@[reducible] def rowV (op : Int) (m : ByteArray) (s : Nat) (r w : Int) : Value := .agg #[.int .i64 op, .string m, .int .i64 (s : Int), .int .i64 r, .int .i64 w]
/-- The row of an operation. -/
def mnO (op : Int) : ByteArray := mnS (ixO op)
@[reducible] def rowOV (op : Int) : Value := rowV (rowO op).op (mnO op) (rowO op).sh (rowO op).rd (rowO op).wr
@[reducible] def rowZ : Value := .agg #[.int .i64 0, .string ⟨#[]⟩, .int .i64 0, .int .i64 0, .int .i64 0]

set_option maxRecDepth 100000 in
set_option maxHeartbeats 2000000 in
theorem byOp_gen (op : Int) (v : Value) (kn : Bool) (HV : Hid (v = (if knO op then rowOV op else rowZ) ∧ kn = knO op)) (w : World) (hT : TB w) : Calls Tryz.prog 40 #[.int .i64 op] w fun e w' => e = .returned (.tuple #[v, .bool kn]) ∧ Below w.heap.size w w' := by
  have HT := Lib.hid hT
  clear hT
  go_enter Tryz.func40, Tryz.ntmps40
  go_wp2_with fail
  go_loopw [5] (fun i wr => ∃ k : Nat, k ≤ 35 ∧ i = .int .i64 (k : Int) ∧ Hid (∀ j, j < k → (opAt j).op ≠ op) ∧ wr.cell? ⟨w.heap.size, 0, none⟩ = some (.int .i64 0) ∧ wr.cell? ⟨w.heap.size, 1, none⟩ = some (.string ⟨#[]⟩) ∧ wr.cell? ⟨w.heap.size, 2, none⟩ = some (.int .i64 0) ∧ wr.cell? ⟨w.heap.size, 3, none⟩ = some (.int .i64 0) ∧ wr.cell? ⟨w.heap.size, 4, none⟩ = some (.int .i64 0) ∧ wr.frozen? ⟨w.heap.size, 0, none⟩ = false ∧ wr.frozen? ⟨w.heap.size, 1, none⟩ = false ∧ wr.frozen? ⟨w.heap.size, 2, none⟩ = false ∧ wr.frozen? ⟨w.heap.size, 3, none⟩ = false ∧ wr.frozen? ⟨w.heap.size, 4, none⟩ = false ∧ w.heap.size < wr.heap.size ∧ Gr w.heap.size w wr) (fun i _ => 35 - (intOf i).toNat)
  case atStart => exact ⟨0, by omega, rfl, Lib.hid (fun j hj => by omega), by go_simp, by go_simp, by go_simp, by go_simp, by go_simp, by go_simp, by go_simp, by go_simp, by go_simp, by go_simp, by simp, by repeat (first | (with_reducible exact Gr.refl _) | with_reducible refine Gr.alloc ?_ _)⟩
  case round =>
    obtain ⟨k, hk, rfl, hok, r0, r1, r2, r3, r4, f0, f1, f2, f3, f4, hz, hG⟩ := hrel
    by_cases hlt : k < 35
    · have hlt' : (k : Int) < 35 := by omega
      have hk0 : (0 : Int) ≤ (k : Int) := by omega
      have hw1 : wrap64 ((k : Int) + 1) = (k : Int) + 1 := by unfold wrap64; omega
      have T2 := (HT.out.up hG.below).ot
      have c0 := T2.o k hlt
      have c1 := T2.m k hlt
      have c2 := T2.s k hlt
      have c3 := T2.r k hlt
      have c4 := T2.w k hlt
      have bz := lt_of_cell c0
      clear T2
      by_cases he : (opAt k).op = op
      · have he' : ((opAt k).op == op) = true := by simp [he]
        have hx := ixO_is hlt hok.out he
        have HR : Hid (v = rowV (opAt k).op (mnS k) (opAt k).sh (opAt k).rd (opAt k).wr ∧ kn = true) := by
          have hk : knO op = true := by unfold knO; rw [hx]; exact decide_eq_true hlt
          refine Lib.hid ⟨?_, HV.out.2.trans hk⟩
          rw [HV.out.1, hk]
          simp only [if_true, rowOV, rowO, mnO, hx]
        clear he hok hx
        generalize (opAt k).op = o at *
        generalize mnS k = m at *
        generalize (opAt k).sh = s at *
        generalize (opAt k).rd = r at *
        generalize (opAt k).wr = wv at *
        go_wp2_with fail
        refine bodyPost_ret (v := .tuple #[rowV o m s r wv, .bool true]) (by simp [results, go_sem, *]) rfl ?_
        refine ⟨by rw [HR.out.1, HR.out.2], Gr.below ?_⟩
        repeat (first | (with_reducible exact hG) | with_reducible refine Gr.setCell ?_ (by dsimp only; omega) _)
      · have he' : ((opAt k).op == op) = false := beq_eq_false_iff_ne.2 he
        have hst : Hid (∀ j, j < k + 1 → (opAt j).op ≠ op) := Lib.hid (fun j hj => by
          by_cases e : j = k
          · subst e; exact he
          · exact hok.out j (by omega))
        clear he hok c1 c2 c3 c4
        generalize (opAt k).op = o at *
        go_wp2_with fail
        go_roundw
        case rel => exact ⟨k + 1, by omega, by go_num, hst, by go_simp, by go_simp, by go_simp, by go_simp, by go_simp, by go_simp, by go_simp, by go_simp, by go_simp, by go_simp, hz, hG⟩
        case measure => simp [intOf]; omega
    · obtain rfl : k = 35 := by omega
      have hk : knO op = false := by unfold knO; rw [ixO_none hok.out]; rfl
      have HR : Hid (v = rowZ ∧ kn = false) := Lib.hid ⟨by rw [HV.out.1, hk]; rfl, HV.out.2.trans hk⟩
      clear hk
      clear hok
      go_wp2_with fail
      refine bodyPost_ret (v := .tuple #[rowZ, .bool false]) (by simp [results, go_sem, *]) rfl ?_
      refine ⟨by rw [HR.out.1, HR.out.2], Gr.below ?_⟩
      repeat (first | (with_reducible exact hG) | with_reducible refine Gr.setCell ?_ (by dsimp only; omega) _)
theorem byOp_yes {op : Int} (h : knO op = true) (w : World) (hT : TB w) : Calls Tryz.prog 40 #[.int .i64 op] w fun e w' => e = .returned (.tuple #[rowOV op, .bool true]) ∧ Below w.heap.size w w' :=
  byOp_gen op _ _ (Lib.hid ⟨by rw [h]; rfl, h.symm⟩) w hT
theorem byOp_no {op : Int} (h : knO op = false) (w : World) (hT : TB w) : Calls Tryz.prog 40 #[.int .i64 op] w fun e w' => e = .returned (.tuple #[rowZ, .bool false]) ∧ Below w.heap.size w w' :=
  byOp_gen op _ _ (Lib.hid ⟨by rw [h]; rfl, h.symm⟩) w hT
end Go.Proofs.YtjlbcpmfbokinaaGreatDoor

namespace Go.Proofs.YtjlbcpmfbokinaaGreatDoor
open Go.RowKit

/-- An instruction's value. -/
@[reducible] def inV (op a b n : Int) : Value := .agg #[.int .i64 op, .int .i64 a, .int .i64 b, .int .i64 n]
set_option maxRecDepth 100000 in
set_option maxHeartbeats 2000000 in
theorem described_ok {op a b n : Int} (h : okX op a b n = true) (w : World) (hT : TB w) : Calls Tryz.prog 31 #[inV op a b n] w fun e w' => e = .returned (.tuple #[rowOV op, .int .i64 0]) ∧ Below w.heap.size w w' := by
  obtain ⟨hk0, ha, hb, hf⟩ := okX_parts h
  clear h
  have hk := hk0
  obtain ⟨hs, ho⟩ := rowO_sh hk
  have BY : ∀ W, Below w.heap.size w W → Calls Tryz.prog 40 #[.int .i64 op] W fun e w' => e = .returned (.tuple #[rowOV op, .bool true]) ∧ Below W.heap.size W w' := fun W g => byOp_yes hk W (hT.up g)
  have HT := Lib.hid hT
  have FT : ∀ W, Below w.heap.size w W → Calls Tryz.prog 54 #[.int .i64 ((rowO op).sh : Int), .int .i64 n] W fun e w' => e = .returned (.bool (ftB (rowO op).sh n)) ∧ W = w' := fun W g => fits_any _ hs n W (hT.up g)
  have rb : (rowO op).sh < 12 := hs
  unfold rowOV at BY ⊢
  rw [ho] at BY ⊢
  generalize hsv : (rowO op).sh = s at *
  generalize (rowO op).rd = rd at *
  generalize (rowO op).wr = wr at *
  generalize mnO op = mn at *
  have hs1 : (s : Int) < 12 := by omega
  have hs0 : (0 : Int) ≤ (s : Int) := by omega
  clear hT hk hk0 ho hsv
  rw [hf] at FT
  rcases regs_of hs with hr | hr | hr
  · rw [hr] at ha hb
    replace ha : irB a false = true := ha
    replace hb : irB b false = true := hb
    have IA := fun W => isReg_any a false W
    rw [ha] at IA
    have IB := fun W => isReg_any b false W
    rw [hb] at IB
    clear ha hb
    go_enter Tryz.func31, Tryz.ntmps31
    go_wp2_with (first | (go_at_call 40; (refine (BY _ (Gr.below (by repeat (first | (with_reducible exact Gr.refl _) | with_reducible refine Gr.alloc ?_ _ | with_reducible refine Gr.more ?_ _ _ | with_reducible refine Gr.setCell ?_ (by dsimp only; omega) _ | with_reducible refine Gr.drew ?_)))).mono ?_); rintro e w1 ⟨rfl, hb⟩; have T3 := TB.up (Below.trans (Gr.below (by repeat (first | (with_reducible exact Gr.refl _) | with_reducible refine Gr.alloc ?_ _ | with_reducible refine Gr.more ?_ _ _ | with_reducible refine Gr.setCell ?_ (by dsimp only; omega) _ | with_reducible refine Gr.drew ?_))) (hb.mono (by (try simp only [World.size_more, World.size_alloc, World.size_setCell, World.size_drew, Array.size_append]); omega))) HT.out; have d0 := T3.ly.r s hs; have zb := lt_of_cell d0; rw [hr] at d0; clear T3; obtain ⟨os, n', rfl⟩ := Below.moreE hb; clear hb) | (go_at_call 53; (with_reducible refine (IA _).mono ?_); rintro e w1 ⟨rfl, rfl⟩) | (go_at_call 53; (with_reducible refine (IB _).mono ?_); rintro e w1 ⟨rfl, rfl⟩) | (go_at_call 54; (refine (FT _ (Gr.below (by repeat (first | (with_reducible exact Gr.refl _) | with_reducible refine Gr.alloc ?_ _ | with_reducible refine Gr.more ?_ _ _ | with_reducible refine Gr.setCell ?_ (by dsimp only; omega) _ | with_reducible refine Gr.drew ?_)))).mono ?_); rintro e w1 ⟨rfl, rfl⟩))
    refine bodyPost_ret (v := .tuple #[rowV op mn s rd wr, .int .i64 0]) (by simp [results, go_sem, *]) rfl ?_
    exact ⟨rfl, (Gr.below (by repeat (first | (with_reducible exact Gr.refl _) | with_reducible refine Gr.alloc ?_ _ | with_reducible refine Gr.more ?_ _ _ | with_reducible refine Gr.setCell ?_ (by dsimp only; omega) _ | with_reducible refine Gr.drew ?_)))⟩
  · rw [hr] at ha hb
    replace ha : irB a true = true := ha
    replace hb : irB b false = true := hb
    have IA := fun W => isReg_any a true W
    rw [ha] at IA
    have IB := fun W => isReg_any b false W
    rw [hb] at IB
    clear ha hb
    go_enter Tryz.func31, Tryz.ntmps31
    go_wp2_with (first | (go_at_call 40; (refine (BY _ (Gr.below (by repeat (first | (with_reducible exact Gr.refl _) | with_reducible refine Gr.alloc ?_ _ | with_reducible refine Gr.more ?_ _ _ | with_reducible refine Gr.setCell ?_ (by dsimp only; omega) _ | with_reducible refine Gr.drew ?_)))).mono ?_); rintro e w1 ⟨rfl, hb⟩; have T3 := TB.up (Below.trans (Gr.below (by repeat (first | (with_reducible exact Gr.refl _) | with_reducible refine Gr.alloc ?_ _ | with_reducible refine Gr.more ?_ _ _ | with_reducible refine Gr.setCell ?_ (by dsimp only; omega) _ | with_reducible refine Gr.drew ?_))) (hb.mono (by (try simp only [World.size_more, World.size_alloc, World.size_setCell, World.size_drew, Array.size_append]); omega))) HT.out; have d0 := T3.ly.r s hs; have zb := lt_of_cell d0; rw [hr] at d0; clear T3; obtain ⟨os, n', rfl⟩ := Below.moreE hb; clear hb) | (go_at_call 53; (with_reducible refine (IA _).mono ?_); rintro e w1 ⟨rfl, rfl⟩) | (go_at_call 53; (with_reducible refine (IB _).mono ?_); rintro e w1 ⟨rfl, rfl⟩) | (go_at_call 54; (refine (FT _ (Gr.below (by repeat (first | (with_reducible exact Gr.refl _) | with_reducible refine Gr.alloc ?_ _ | with_reducible refine Gr.more ?_ _ _ | with_reducible refine Gr.setCell ?_ (by dsimp only; omega) _ | with_reducible refine Gr.drew ?_)))).mono ?_); rintro e w1 ⟨rfl, rfl⟩))
    refine bodyPost_ret (v := .tuple #[rowV op mn s rd wr, .int .i64 0]) (by simp [results, go_sem, *]) rfl ?_
    exact ⟨rfl, (Gr.below (by repeat (first | (with_reducible exact Gr.refl _) | with_reducible refine Gr.alloc ?_ _ | with_reducible refine Gr.more ?_ _ _ | with_reducible refine Gr.setCell ?_ (by dsimp only; omega) _ | with_reducible refine Gr.drew ?_)))⟩
  · rw [hr] at ha hb
    replace ha : irB a true = true := ha
    replace hb : irB b true = true := hb
    have IA := fun W => isReg_any a true W
    rw [ha] at IA
    have IB := fun W => isReg_any b true W
    rw [hb] at IB
    clear ha hb
    go_enter Tryz.func31, Tryz.ntmps31
    go_wp2_with (first | (go_at_call 40; (refine (BY _ (Gr.below (by repeat (first | (with_reducible exact Gr.refl _) | with_reducible refine Gr.alloc ?_ _ | with_reducible refine Gr.more ?_ _ _ | with_reducible refine Gr.setCell ?_ (by dsimp only; omega) _ | with_reducible refine Gr.drew ?_)))).mono ?_); rintro e w1 ⟨rfl, hb⟩; have T3 := TB.up (Below.trans (Gr.below (by repeat (first | (with_reducible exact Gr.refl _) | with_reducible refine Gr.alloc ?_ _ | with_reducible refine Gr.more ?_ _ _ | with_reducible refine Gr.setCell ?_ (by dsimp only; omega) _ | with_reducible refine Gr.drew ?_))) (hb.mono (by (try simp only [World.size_more, World.size_alloc, World.size_setCell, World.size_drew, Array.size_append]); omega))) HT.out; have d0 := T3.ly.r s hs; have zb := lt_of_cell d0; rw [hr] at d0; clear T3; obtain ⟨os, n', rfl⟩ := Below.moreE hb; clear hb) | (go_at_call 53; (with_reducible refine (IA _).mono ?_); rintro e w1 ⟨rfl, rfl⟩) | (go_at_call 53; (with_reducible refine (IB _).mono ?_); rintro e w1 ⟨rfl, rfl⟩) | (go_at_call 54; (refine (FT _ (Gr.below (by repeat (first | (with_reducible exact Gr.refl _) | with_reducible refine Gr.alloc ?_ _ | with_reducible refine Gr.more ?_ _ _ | with_reducible refine Gr.setCell ?_ (by dsimp only; omega) _ | with_reducible refine Gr.drew ?_)))).mono ?_); rintro e w1 ⟨rfl, rfl⟩))
    refine bodyPost_ret (v := .tuple #[rowV op mn s rd wr, .int .i64 0]) (by simp [results, go_sem, *]) rfl ?_
    exact ⟨rfl, (Gr.below (by repeat (first | (with_reducible exact Gr.refl _) | with_reducible refine Gr.alloc ?_ _ | with_reducible refine Gr.more ?_ _ _ | with_reducible refine Gr.setCell ?_ (by dsimp only; omega) _ | with_reducible refine Gr.drew ?_)))⟩

set_option maxRecDepth 100000 in
set_option maxHeartbeats 2000000 in
theorem described_a {op a b n : Int} (hk0 : knO op = true) (ha : irB a (decide (1 ≤ rgS (rowO op).sh)) = false) (w : World) (hT : TB w) : Calls Tryz.prog 31 #[inV op a b n] w fun e w' => e = .returned (.tuple #[rowZ, .int .i64 20]) ∧ Below w.heap.size w w' := by
  have hk := hk0
  obtain ⟨hs, ho⟩ := rowO_sh hk
  have BY : ∀ W, Below w.heap.size w W → Calls Tryz.prog 40 #[.int .i64 op] W fun e w' => e = .returned (.tuple #[rowOV op, .bool true]) ∧ Below W.heap.size W w' := fun W g => byOp_yes hk W (hT.up g)
  have HT := Lib.hid hT
  have FT : ∀ W, Below w.heap.size w W → Calls Tryz.prog 54 #[.int .i64 ((rowO op).sh : Int), .int .i64 n] W fun e w' => e = .returned (.bool (ftB (rowO op).sh n)) ∧ W = w' := fun W g => fits_any _ hs n W (hT.up g)
  have rb : (rowO op).sh < 12 := hs
  unfold rowOV at BY
  rw [ho] at BY
  generalize hsv : (rowO op).sh = s at *
  generalize (rowO op).rd = rd at *
  generalize (rowO op).wr = wr at *
  generalize mnO op = mn at *
  have hs1 : (s : Int) < 12 := by omega
  have hs0 : (0 : Int) ≤ (s : Int) := by omega
  clear hT hk hk0 ho hsv
  rcases regs_of hs with hr | hr | hr
  · rw [hr] at ha
    replace ha : irB a false = false := ha
    have IA := fun W => isReg_any a false W
    rw [ha] at IA
    clear ha
    go_enter Tryz.func31, Tryz.ntmps31
    go_wp2_with (first | (go_at_call 40; (refine (BY _ (Gr.below (by repeat (first | (with_reducible exact Gr.refl _) | with_reducible refine Gr.alloc ?_ _ | with_reducible refine Gr.more ?_ _ _ | with_reducible refine Gr.setCell ?_ (by dsimp only; omega) _ | with_reducible refine Gr.drew ?_)))).mono ?_); rintro e w1 ⟨rfl, hb⟩; have T3 := TB.up (Below.trans (Gr.below (by repeat (first | (with_reducible exact Gr.refl _) | with_reducible refine Gr.alloc ?_ _ | with_reducible refine Gr.more ?_ _ _ | with_reducible refine Gr.setCell ?_ (by dsimp only; omega) _ | with_reducible refine Gr.drew ?_))) (hb.mono (by (try simp only [World.size_more, World.size_alloc, World.size_setCell, World.size_drew, Array.size_append]); omega))) HT.out; have d0 := T3.ly.r s hs; have zb := lt_of_cell d0; rw [hr] at d0; clear T3; obtain ⟨os, n', rfl⟩ := Below.moreE hb; clear hb) | (go_at_call 53; (with_reducible refine (IA _).mono ?_); rintro e w1 ⟨rfl, rfl⟩))
    refine bodyPost_ret (v := .tuple #[rowZ, .int .i64 20]) (by simp [results, go_sem, *]) rfl ?_
    exact ⟨rfl, (Gr.below (by repeat (first | (with_reducible exact Gr.refl _) | with_reducible refine Gr.alloc ?_ _ | with_reducible refine Gr.more ?_ _ _ | with_reducible refine Gr.setCell ?_ (by dsimp only; omega) _ | with_reducible refine Gr.drew ?_)))⟩
  · rw [hr] at ha
    replace ha : irB a true = false := ha
    have IA := fun W => isReg_any a true W
    rw [ha] at IA
    clear ha
    go_enter Tryz.func31, Tryz.ntmps31
    go_wp2_with (first | (go_at_call 40; (refine (BY _ (Gr.below (by repeat (first | (with_reducible exact Gr.refl _) | with_reducible refine Gr.alloc ?_ _ | with_reducible refine Gr.more ?_ _ _ | with_reducible refine Gr.setCell ?_ (by dsimp only; omega) _ | with_reducible refine Gr.drew ?_)))).mono ?_); rintro e w1 ⟨rfl, hb⟩; have T3 := TB.up (Below.trans (Gr.below (by repeat (first | (with_reducible exact Gr.refl _) | with_reducible refine Gr.alloc ?_ _ | with_reducible refine Gr.more ?_ _ _ | with_reducible refine Gr.setCell ?_ (by dsimp only; omega) _ | with_reducible refine Gr.drew ?_))) (hb.mono (by (try simp only [World.size_more, World.size_alloc, World.size_setCell, World.size_drew, Array.size_append]); omega))) HT.out; have d0 := T3.ly.r s hs; have zb := lt_of_cell d0; rw [hr] at d0; clear T3; obtain ⟨os, n', rfl⟩ := Below.moreE hb; clear hb) | (go_at_call 53; (with_reducible refine (IA _).mono ?_); rintro e w1 ⟨rfl, rfl⟩))
    refine bodyPost_ret (v := .tuple #[rowZ, .int .i64 20]) (by simp [results, go_sem, *]) rfl ?_
    exact ⟨rfl, (Gr.below (by repeat (first | (with_reducible exact Gr.refl _) | with_reducible refine Gr.alloc ?_ _ | with_reducible refine Gr.more ?_ _ _ | with_reducible refine Gr.setCell ?_ (by dsimp only; omega) _ | with_reducible refine Gr.drew ?_)))⟩
  · rw [hr] at ha
    replace ha : irB a true = false := ha
    have IA := fun W => isReg_any a true W
    rw [ha] at IA
    clear ha
    go_enter Tryz.func31, Tryz.ntmps31
    go_wp2_with (first | (go_at_call 40; (refine (BY _ (Gr.below (by repeat (first | (with_reducible exact Gr.refl _) | with_reducible refine Gr.alloc ?_ _ | with_reducible refine Gr.more ?_ _ _ | with_reducible refine Gr.setCell ?_ (by dsimp only; omega) _ | with_reducible refine Gr.drew ?_)))).mono ?_); rintro e w1 ⟨rfl, hb⟩; have T3 := TB.up (Below.trans (Gr.below (by repeat (first | (with_reducible exact Gr.refl _) | with_reducible refine Gr.alloc ?_ _ | with_reducible refine Gr.more ?_ _ _ | with_reducible refine Gr.setCell ?_ (by dsimp only; omega) _ | with_reducible refine Gr.drew ?_))) (hb.mono (by (try simp only [World.size_more, World.size_alloc, World.size_setCell, World.size_drew, Array.size_append]); omega))) HT.out; have d0 := T3.ly.r s hs; have zb := lt_of_cell d0; rw [hr] at d0; clear T3; obtain ⟨os, n', rfl⟩ := Below.moreE hb; clear hb) | (go_at_call 53; (with_reducible refine (IA _).mono ?_); rintro e w1 ⟨rfl, rfl⟩))
    refine bodyPost_ret (v := .tuple #[rowZ, .int .i64 20]) (by simp [results, go_sem, *]) rfl ?_
    exact ⟨rfl, (Gr.below (by repeat (first | (with_reducible exact Gr.refl _) | with_reducible refine Gr.alloc ?_ _ | with_reducible refine Gr.more ?_ _ _ | with_reducible refine Gr.setCell ?_ (by dsimp only; omega) _ | with_reducible refine Gr.drew ?_)))⟩

set_option maxRecDepth 100000 in
set_option maxHeartbeats 2000000 in
theorem described_b {op a b n : Int} (hk0 : knO op = true) (ha : irB a (decide (1 ≤ rgS (rowO op).sh)) = true) (hb : irB b (rgS (rowO op).sh == 2) = false) (w : World) (hT : TB w) : Calls Tryz.prog 31 #[inV op a b n] w fun e w' => e = .returned (.tuple #[rowZ, .int .i64 20]) ∧ Below w.heap.size w w' := by
  have hk := hk0
  obtain ⟨hs, ho⟩ := rowO_sh hk
  have BY : ∀ W, Below w.heap.size w W → Calls Tryz.prog 40 #[.int .i64 op] W fun e w' => e = .returned (.tuple #[rowOV op, .bool true]) ∧ Below W.heap.size W w' := fun W g => byOp_yes hk W (hT.up g)
  have HT := Lib.hid hT
  have FT : ∀ W, Below w.heap.size w W → Calls Tryz.prog 54 #[.int .i64 ((rowO op).sh : Int), .int .i64 n] W fun e w' => e = .returned (.bool (ftB (rowO op).sh n)) ∧ W = w' := fun W g => fits_any _ hs n W (hT.up g)
  have rb : (rowO op).sh < 12 := hs
  unfold rowOV at BY
  rw [ho] at BY
  generalize hsv : (rowO op).sh = s at *
  generalize (rowO op).rd = rd at *
  generalize (rowO op).wr = wr at *
  generalize mnO op = mn at *
  have hs1 : (s : Int) < 12 := by omega
  have hs0 : (0 : Int) ≤ (s : Int) := by omega
  clear hT hk hk0 ho hsv
  rcases regs_of hs with hr | hr | hr
  · rw [hr] at ha hb
    replace ha : irB a false = true := ha
    replace hb : irB b false = false := hb
    have IA := fun W => isReg_any a false W
    rw [ha] at IA
    have IB := fun W => isReg_any b false W
    rw [hb] at IB
    clear ha hb
    go_enter Tryz.func31, Tryz.ntmps31
    go_wp2_with (first | (go_at_call 40; (refine (BY _ (Gr.below (by repeat (first | (with_reducible exact Gr.refl _) | with_reducible refine Gr.alloc ?_ _ | with_reducible refine Gr.more ?_ _ _ | with_reducible refine Gr.setCell ?_ (by dsimp only; omega) _ | with_reducible refine Gr.drew ?_)))).mono ?_); rintro e w1 ⟨rfl, hb⟩; have T3 := TB.up (Below.trans (Gr.below (by repeat (first | (with_reducible exact Gr.refl _) | with_reducible refine Gr.alloc ?_ _ | with_reducible refine Gr.more ?_ _ _ | with_reducible refine Gr.setCell ?_ (by dsimp only; omega) _ | with_reducible refine Gr.drew ?_))) (hb.mono (by (try simp only [World.size_more, World.size_alloc, World.size_setCell, World.size_drew, Array.size_append]); omega))) HT.out; have d0 := T3.ly.r s hs; have zb := lt_of_cell d0; rw [hr] at d0; clear T3; obtain ⟨os, n', rfl⟩ := Below.moreE hb; clear hb) | (go_at_call 53; (with_reducible refine (IA _).mono ?_); rintro e w1 ⟨rfl, rfl⟩) | (go_at_call 53; (with_reducible refine (IB _).mono ?_); rintro e w1 ⟨rfl, rfl⟩))
    refine bodyPost_ret (v := .tuple #[rowZ, .int .i64 20]) (by simp [results, go_sem, *]) rfl ?_
    exact ⟨rfl, (Gr.below (by repeat (first | (with_reducible exact Gr.refl _) | with_reducible refine Gr.alloc ?_ _ | with_reducible refine Gr.more ?_ _ _ | with_reducible refine Gr.setCell ?_ (by dsimp only; omega) _ | with_reducible refine Gr.drew ?_)))⟩
  · rw [hr] at ha hb
    replace ha : irB a true = true := ha
    replace hb : irB b false = false := hb
    have IA := fun W => isReg_any a true W
    rw [ha] at IA
    have IB := fun W => isReg_any b false W
    rw [hb] at IB
    clear ha hb
    go_enter Tryz.func31, Tryz.ntmps31
    go_wp2_with (first | (go_at_call 40; (refine (BY _ (Gr.below (by repeat (first | (with_reducible exact Gr.refl _) | with_reducible refine Gr.alloc ?_ _ | with_reducible refine Gr.more ?_ _ _ | with_reducible refine Gr.setCell ?_ (by dsimp only; omega) _ | with_reducible refine Gr.drew ?_)))).mono ?_); rintro e w1 ⟨rfl, hb⟩; have T3 := TB.up (Below.trans (Gr.below (by repeat (first | (with_reducible exact Gr.refl _) | with_reducible refine Gr.alloc ?_ _ | with_reducible refine Gr.more ?_ _ _ | with_reducible refine Gr.setCell ?_ (by dsimp only; omega) _ | with_reducible refine Gr.drew ?_))) (hb.mono (by (try simp only [World.size_more, World.size_alloc, World.size_setCell, World.size_drew, Array.size_append]); omega))) HT.out; have d0 := T3.ly.r s hs; have zb := lt_of_cell d0; rw [hr] at d0; clear T3; obtain ⟨os, n', rfl⟩ := Below.moreE hb; clear hb) | (go_at_call 53; (with_reducible refine (IA _).mono ?_); rintro e w1 ⟨rfl, rfl⟩) | (go_at_call 53; (with_reducible refine (IB _).mono ?_); rintro e w1 ⟨rfl, rfl⟩))
    refine bodyPost_ret (v := .tuple #[rowZ, .int .i64 20]) (by simp [results, go_sem, *]) rfl ?_
    exact ⟨rfl, (Gr.below (by repeat (first | (with_reducible exact Gr.refl _) | with_reducible refine Gr.alloc ?_ _ | with_reducible refine Gr.more ?_ _ _ | with_reducible refine Gr.setCell ?_ (by dsimp only; omega) _ | with_reducible refine Gr.drew ?_)))⟩
  · rw [hr] at ha hb
    replace ha : irB a true = true := ha
    replace hb : irB b true = false := hb
    have IA := fun W => isReg_any a true W
    rw [ha] at IA
    have IB := fun W => isReg_any b true W
    rw [hb] at IB
    clear ha hb
    go_enter Tryz.func31, Tryz.ntmps31
    go_wp2_with (first | (go_at_call 40; (refine (BY _ (Gr.below (by repeat (first | (with_reducible exact Gr.refl _) | with_reducible refine Gr.alloc ?_ _ | with_reducible refine Gr.more ?_ _ _ | with_reducible refine Gr.setCell ?_ (by dsimp only; omega) _ | with_reducible refine Gr.drew ?_)))).mono ?_); rintro e w1 ⟨rfl, hb⟩; have T3 := TB.up (Below.trans (Gr.below (by repeat (first | (with_reducible exact Gr.refl _) | with_reducible refine Gr.alloc ?_ _ | with_reducible refine Gr.more ?_ _ _ | with_reducible refine Gr.setCell ?_ (by dsimp only; omega) _ | with_reducible refine Gr.drew ?_))) (hb.mono (by (try simp only [World.size_more, World.size_alloc, World.size_setCell, World.size_drew, Array.size_append]); omega))) HT.out; have d0 := T3.ly.r s hs; have zb := lt_of_cell d0; rw [hr] at d0; clear T3; obtain ⟨os, n', rfl⟩ := Below.moreE hb; clear hb) | (go_at_call 53; (with_reducible refine (IA _).mono ?_); rintro e w1 ⟨rfl, rfl⟩) | (go_at_call 53; (with_reducible refine (IB _).mono ?_); rintro e w1 ⟨rfl, rfl⟩))
    refine bodyPost_ret (v := .tuple #[rowZ, .int .i64 20]) (by simp [results, go_sem, *]) rfl ?_
    exact ⟨rfl, (Gr.below (by repeat (first | (with_reducible exact Gr.refl _) | with_reducible refine Gr.alloc ?_ _ | with_reducible refine Gr.more ?_ _ _ | with_reducible refine Gr.setCell ?_ (by dsimp only; omega) _ | with_reducible refine Gr.drew ?_)))⟩

set_option maxRecDepth 100000 in
set_option maxHeartbeats 2000000 in
theorem described_f {op a b n : Int} (hk0 : knO op = true) (ha : irB a (decide (1 ≤ rgS (rowO op).sh)) = true) (hb : irB b (rgS (rowO op).sh == 2) = true) (hf : ftB (rowO op).sh n = false) (w : World) (hT : TB w) : Calls Tryz.prog 31 #[inV op a b n] w fun e w' => e = .returned (.tuple #[rowZ, .int .i64 20]) ∧ Below w.heap.size w w' := by
  have hk := hk0
  obtain ⟨hs, ho⟩ := rowO_sh hk
  have BY : ∀ W, Below w.heap.size w W → Calls Tryz.prog 40 #[.int .i64 op] W fun e w' => e = .returned (.tuple #[rowOV op, .bool true]) ∧ Below W.heap.size W w' := fun W g => byOp_yes hk W (hT.up g)
  have HT := Lib.hid hT
  have FT : ∀ W, Below w.heap.size w W → Calls Tryz.prog 54 #[.int .i64 ((rowO op).sh : Int), .int .i64 n] W fun e w' => e = .returned (.bool (ftB (rowO op).sh n)) ∧ W = w' := fun W g => fits_any _ hs n W (hT.up g)
  have rb : (rowO op).sh < 12 := hs
  unfold rowOV at BY
  rw [ho] at BY
  generalize hsv : (rowO op).sh = s at *
  generalize (rowO op).rd = rd at *
  generalize (rowO op).wr = wr at *
  generalize mnO op = mn at *
  have hs1 : (s : Int) < 12 := by omega
  have hs0 : (0 : Int) ≤ (s : Int) := by omega
  clear hT hk hk0 ho hsv
  rw [hf] at FT
  rcases regs_of hs with hr | hr | hr
  · rw [hr] at ha hb
    replace ha : irB a false = true := ha
    replace hb : irB b false = true := hb
    have IA := fun W => isReg_any a false W
    rw [ha] at IA
    have IB := fun W => isReg_any b false W
    rw [hb] at IB
    clear ha hb
    go_enter Tryz.func31, Tryz.ntmps31
    go_wp2_with (first | (go_at_call 40; (refine (BY _ (Gr.below (by repeat (first | (with_reducible exact Gr.refl _) | with_reducible refine Gr.alloc ?_ _ | with_reducible refine Gr.more ?_ _ _ | with_reducible refine Gr.setCell ?_ (by dsimp only; omega) _ | with_reducible refine Gr.drew ?_)))).mono ?_); rintro e w1 ⟨rfl, hb⟩; have T3 := TB.up (Below.trans (Gr.below (by repeat (first | (with_reducible exact Gr.refl _) | with_reducible refine Gr.alloc ?_ _ | with_reducible refine Gr.more ?_ _ _ | with_reducible refine Gr.setCell ?_ (by dsimp only; omega) _ | with_reducible refine Gr.drew ?_))) (hb.mono (by (try simp only [World.size_more, World.size_alloc, World.size_setCell, World.size_drew, Array.size_append]); omega))) HT.out; have d0 := T3.ly.r s hs; have zb := lt_of_cell d0; rw [hr] at d0; clear T3; obtain ⟨os, n', rfl⟩ := Below.moreE hb; clear hb) | (go_at_call 53; (with_reducible refine (IA _).mono ?_); rintro e w1 ⟨rfl, rfl⟩) | (go_at_call 53; (with_reducible refine (IB _).mono ?_); rintro e w1 ⟨rfl, rfl⟩) | (go_at_call 54; (refine (FT _ (Gr.below (by repeat (first | (with_reducible exact Gr.refl _) | with_reducible refine Gr.alloc ?_ _ | with_reducible refine Gr.more ?_ _ _ | with_reducible refine Gr.setCell ?_ (by dsimp only; omega) _ | with_reducible refine Gr.drew ?_)))).mono ?_); rintro e w1 ⟨rfl, rfl⟩))
    refine bodyPost_ret (v := .tuple #[rowZ, .int .i64 20]) (by simp [results, go_sem, *]) rfl ?_
    exact ⟨rfl, (Gr.below (by repeat (first | (with_reducible exact Gr.refl _) | with_reducible refine Gr.alloc ?_ _ | with_reducible refine Gr.more ?_ _ _ | with_reducible refine Gr.setCell ?_ (by dsimp only; omega) _ | with_reducible refine Gr.drew ?_)))⟩
  · rw [hr] at ha hb
    replace ha : irB a true = true := ha
    replace hb : irB b false = true := hb
    have IA := fun W => isReg_any a true W
    rw [ha] at IA
    have IB := fun W => isReg_any b false W
    rw [hb] at IB
    clear ha hb
    go_enter Tryz.func31, Tryz.ntmps31
    go_wp2_with (first | (go_at_call 40; (refine (BY _ (Gr.below (by repeat (first | (with_reducible exact Gr.refl _) | with_reducible refine Gr.alloc ?_ _ | with_reducible refine Gr.more ?_ _ _ | with_reducible refine Gr.setCell ?_ (by dsimp only; omega) _ | with_reducible refine Gr.drew ?_)))).mono ?_); rintro e w1 ⟨rfl, hb⟩; have T3 := TB.up (Below.trans (Gr.below (by repeat (first | (with_reducible exact Gr.refl _) | with_reducible refine Gr.alloc ?_ _ | with_reducible refine Gr.more ?_ _ _ | with_reducible refine Gr.setCell ?_ (by dsimp only; omega) _ | with_reducible refine Gr.drew ?_))) (hb.mono (by (try simp only [World.size_more, World.size_alloc, World.size_setCell, World.size_drew, Array.size_append]); omega))) HT.out; have d0 := T3.ly.r s hs; have zb := lt_of_cell d0; rw [hr] at d0; clear T3; obtain ⟨os, n', rfl⟩ := Below.moreE hb; clear hb) | (go_at_call 53; (with_reducible refine (IA _).mono ?_); rintro e w1 ⟨rfl, rfl⟩) | (go_at_call 53; (with_reducible refine (IB _).mono ?_); rintro e w1 ⟨rfl, rfl⟩) | (go_at_call 54; (refine (FT _ (Gr.below (by repeat (first | (with_reducible exact Gr.refl _) | with_reducible refine Gr.alloc ?_ _ | with_reducible refine Gr.more ?_ _ _ | with_reducible refine Gr.setCell ?_ (by dsimp only; omega) _ | with_reducible refine Gr.drew ?_)))).mono ?_); rintro e w1 ⟨rfl, rfl⟩))
    refine bodyPost_ret (v := .tuple #[rowZ, .int .i64 20]) (by simp [results, go_sem, *]) rfl ?_
    exact ⟨rfl, (Gr.below (by repeat (first | (with_reducible exact Gr.refl _) | with_reducible refine Gr.alloc ?_ _ | with_reducible refine Gr.more ?_ _ _ | with_reducible refine Gr.setCell ?_ (by dsimp only; omega) _ | with_reducible refine Gr.drew ?_)))⟩
  · rw [hr] at ha hb
    replace ha : irB a true = true := ha
    replace hb : irB b true = true := hb
    have IA := fun W => isReg_any a true W
    rw [ha] at IA
    have IB := fun W => isReg_any b true W
    rw [hb] at IB
    clear ha hb
    go_enter Tryz.func31, Tryz.ntmps31
    go_wp2_with (first | (go_at_call 40; (refine (BY _ (Gr.below (by repeat (first | (with_reducible exact Gr.refl _) | with_reducible refine Gr.alloc ?_ _ | with_reducible refine Gr.more ?_ _ _ | with_reducible refine Gr.setCell ?_ (by dsimp only; omega) _ | with_reducible refine Gr.drew ?_)))).mono ?_); rintro e w1 ⟨rfl, hb⟩; have T3 := TB.up (Below.trans (Gr.below (by repeat (first | (with_reducible exact Gr.refl _) | with_reducible refine Gr.alloc ?_ _ | with_reducible refine Gr.more ?_ _ _ | with_reducible refine Gr.setCell ?_ (by dsimp only; omega) _ | with_reducible refine Gr.drew ?_))) (hb.mono (by (try simp only [World.size_more, World.size_alloc, World.size_setCell, World.size_drew, Array.size_append]); omega))) HT.out; have d0 := T3.ly.r s hs; have zb := lt_of_cell d0; rw [hr] at d0; clear T3; obtain ⟨os, n', rfl⟩ := Below.moreE hb; clear hb) | (go_at_call 53; (with_reducible refine (IA _).mono ?_); rintro e w1 ⟨rfl, rfl⟩) | (go_at_call 53; (with_reducible refine (IB _).mono ?_); rintro e w1 ⟨rfl, rfl⟩) | (go_at_call 54; (refine (FT _ (Gr.below (by repeat (first | (with_reducible exact Gr.refl _) | with_reducible refine Gr.alloc ?_ _ | with_reducible refine Gr.more ?_ _ _ | with_reducible refine Gr.setCell ?_ (by dsimp only; omega) _ | with_reducible refine Gr.drew ?_)))).mono ?_); rintro e w1 ⟨rfl, rfl⟩))
    refine bodyPost_ret (v := .tuple #[rowZ, .int .i64 20]) (by simp [results, go_sem, *]) rfl ?_
    exact ⟨rfl, (Gr.below (by repeat (first | (with_reducible exact Gr.refl _) | with_reducible refine Gr.alloc ?_ _ | with_reducible refine Gr.more ?_ _ _ | with_reducible refine Gr.setCell ?_ (by dsimp only; omega) _ | with_reducible refine Gr.drew ?_)))⟩

set_option maxRecDepth 100000 in
set_option maxHeartbeats 2000000 in
theorem described_no {op a b n : Int} (hk : knO op = false) (w : World) (hT : TB w) : Calls Tryz.prog 31 #[inV op a b n] w fun e w' => e = .returned (.tuple #[rowZ, .int .i64 20]) ∧ Below w.heap.size w w' := by
  have BY : ∀ W, Below w.heap.size w W → Calls Tryz.prog 40 #[.int .i64 op] W fun e w' => e = .returned (.tuple #[rowZ, .bool false]) ∧ Below W.heap.size W w' := fun W g => byOp_no hk W (hT.up g)
  clear hT hk
  go_enter Tryz.func31, Tryz.ntmps31
  go_wp2_with (go_at_call 40; (refine (BY _ (Gr.below (by repeat (first | (with_reducible exact Gr.refl _) | with_reducible refine Gr.alloc ?_ _ | with_reducible refine Gr.more ?_ _ _ | with_reducible refine Gr.setCell ?_ (by dsimp only; omega) _ | with_reducible refine Gr.drew ?_)))).mono ?_); rintro e w1 ⟨rfl, hb⟩; obtain ⟨os, n', rfl⟩ := Below.moreE hb; clear hb)
  refine bodyPost_ret (v := .tuple #[rowZ, .int .i64 20]) (by simp [results, go_sem, *]) rfl ?_
  exact ⟨rfl, (Gr.below (by repeat (first | (with_reducible exact Gr.refl _) | with_reducible refine Gr.alloc ?_ _ | with_reducible refine Gr.more ?_ _ _ | with_reducible refine Gr.setCell ?_ (by dsimp only; omega) _ | with_reducible refine Gr.drew ?_)))⟩
theorem described_bad {op a b n : Int} (h : okX op a b n = false) (w : World) (hT : TB w) : Calls Tryz.prog 31 #[inV op a b n] w fun e w' => e = .returned (.tuple #[rowZ, .int .i64 20]) ∧ Below w.heap.size w w' := by
  cases hk : knO op
  · exact described_no hk w hT
  cases ha : irB a (decide (1 ≤ rgS (rowO op).sh))
  · exact described_a hk ha w hT
  cases hb : irB b (rgS (rowO op).sh == 2)
  · exact described_b hk ha hb w hT
  cases hf : ftB (rowO op).sh n
  · exact described_f hk ha hb hf w hT
  · unfold okX at h
    rw [hk, ha, hb, hf] at h
    cases h
end Go.Proofs.YtjlbcpmfbokinaaGreatDoor

namespace Go.Proofs.YtjlbcpmfbokinaaGreatDoor
open Go.RowKit

theorem or7 (V : Int) (c : Nat) (hc : c < 128) : bits .or .i64 (wrap64 (V * 128)) (c : Int) = wrap64 (V * 128 + c) := by
  show IntKind.i64.wrap ((BitVec.ofInt 64 (wrap64 (V * 128)) ||| BitVec.ofInt 64 (c : Int)).toNat : Nat) = _
  rw [BitVec.toNat_or, BitVec.toNat_ofInt, BitVec.toNat_ofInt, IntKind.wrap_i64]
  have e1 : (wrap64 (V * 128) % ((2 ^ 64 : Nat) : Int)).toNat = 2 ^ 7 * ((V % 144115188075855872).toNat) := by unfold wrap64; omega
  have e2 : ((c : Int) % ((2 ^ 64 : Nat) : Int)).toNat = c := by omega
  rw [e1, e2, ← Nat.two_pow_add_eq_or_of_lt (by omega) _]
  unfold wrap64
  omega
theorem and7 (x : Int) : bits .and .i64 x 127 = x % 128 := by
  show IntKind.i64.wrap ((BitVec.ofInt 64 x &&& BitVec.ofInt 64 (127 : Int)).toNat : Nat) = _
  rw [BitVec.toNat_and, BitVec.toNat_ofInt, BitVec.toNat_ofInt, IntKind.wrap_i64]
  have e2 : ((127 : Int) % ((2 ^ 64 : Nat) : Int)).toNat = 2 ^ 7 - 1 := by omega
  rw [e2, Nat.and_two_pow_sub_one_eq_mod]
  omega

set_option maxHeartbeats 2000000 in
theorem registersIn_any (s : Nat) (hs : s < 12) (b : List UInt8) (bp : Option Addr) (bc : Nat) (w : World) (hT : TB w) (hb : SeqAt w bp (bV b)) (hl : rgS s ≠ 0 → 1 < b.length) : Calls Tryz.prog 42 #[.int .i64 (s : Int), .slice bp b.length bc] w fun e w' => e = .returned (.tuple #[.int .i64 (rA s b), .int .i64 (rB s b)]) ∧ Below w.heap.size w w' := by
  have d0 := hT.ly.r s hs
  have hs1 : (s : Int) < 12 := by omega
  have hs0 : (0 : Int) ≤ (s : Int) := by omega
  have b0 := lt_of_cell d0
  rcases regs_of hs with hr | hr | hr
  · have e1 : rA s b = 0 := by unfold rA; rw [if_neg (by omega), if_neg (by omega)]
    have e2 : rB s b = 0 := by unfold rB; rw [if_neg (by omega)]
    rw [hr] at d0
    rw [e1, e2]
    clear hT hb hl hs hr e1 e2
    go_enter Tryz.func42, Tryz.ntmps42
    go_wp2_with fail
    go_ret2
    exact ⟨rfl, (Gr.below (by repeat (first | (with_reducible exact Gr.refl _) | with_reducible refine Gr.alloc ?_ _ | with_reducible refine Gr.more ?_ _ _ | with_reducible refine Gr.setCell ?_ (by dsimp only; omega) _ | with_reducible refine Gr.drew ?_)))⟩
  · have h1 := hl (by omega)
    have e1 : rA s b = (b[1].toNat : Int) := by unfold rA; rw [if_pos hr]; simp [List.getD, h1]
    have e2 : rB s b = 0 := by unfold rB; rw [if_neg (by omega)]
    obtain ⟨g, o, rfl, hc⟩ := seqAt_neK hb (by intro e; have := congrArg List.length e; rw [bV_len] at this; simp at this; rw [this] at h1; simp at h1)
    have c1 := hc 1 _ (bV_get b 1 h1)
    have lc := lt_of_cell c1
    have hli : (1 : Int) < (b.length : Int) := by omega
    have hx : (b[1].toNat : Int) < 256 := by have := b[1].toNat_lt; omega
    have hx0 : (0 : Int) ≤ (b[1].toNat : Int) := by omega
    rw [hr] at d0
    rw [e1, e2]
    clear hT hb hl hs hr e1 e2 hc
    generalize (b[1].toNat : Int) = x at *
    go_enter Tryz.func42, Tryz.ntmps42
    go_wp2_with fail
    go_ret2
    exact ⟨rfl, (Gr.below (by repeat (first | (with_reducible exact Gr.refl _) | with_reducible refine Gr.alloc ?_ _ | with_reducible refine Gr.more ?_ _ _ | with_reducible refine Gr.setCell ?_ (by dsimp only; omega) _ | with_reducible refine Gr.drew ?_)))⟩
  · have h1 := hl (by omega)
    have e1 : rA s b = (b[1].toNat : Int) / 8 := by unfold rA; rw [if_neg (by omega), if_pos hr]; simp [List.getD, h1]
    have e2 : rB s b = (b[1].toNat : Int) % 8 := by unfold rB; rw [if_pos hr]; simp [List.getD, h1]
    obtain ⟨g, o, rfl, hc⟩ := seqAt_neK hb (by intro e; have := congrArg List.length e; rw [bV_len] at this; simp at this; rw [this] at h1; simp at h1)
    have c1 := hc 1 _ (bV_get b 1 h1)
    have lc := lt_of_cell c1
    have hli : (1 : Int) < (b.length : Int) := by omega
    have hx : (b[1].toNat : Int) < 256 := by have := b[1].toNat_lt; omega
    have hx0 : (0 : Int) ≤ (b[1].toNat : Int) := by omega
    rw [hr] at d0
    rw [e1, e2]
    clear hT hb hl hs hr e1 e2 hc
    generalize (b[1].toNat : Int) = x at *
    go_enter Tryz.func42, Tryz.ntmps42
    go_upto_region 5 with fail
    go_quiet (fail)
    all_goals (
      go_wp2_with fail
      go_ret2
      exact ⟨rfl, (grDrewN (Gr.refl w) _).below⟩)

theorem retBd {p q : Prop} [Decidable p] [Decidable q] (h : p ↔ q) : Ending.returned (.bool (decide p)) = .returned (.bool (decide q)) := by rw [show decide p = decide q by simp [h]]
set_option maxHeartbeats 4000000 in
theorem goesOn_any (s : Nat) (hs : s < 12) (i : Nat) (hi : 1 ≤ i) (hi2 : i ≤ 12) (c : UInt8) (w : World) (hT : TB w) : Calls Tryz.prog 41 #[.int .i64 (s : Int), .int .i64 (i : Int), .int .u8 (c.toNat : Int)] w fun e w' => e = .returned (.bool (goB s i c)) ∧ Below w.heap.size w w' := by
  have d0 := hT.ly.r s hs
  have d1 := hT.ly.i s hs
  have LL : ∀ W, Below w.heap.size w W → Calls Tryz.prog 32 #[.int .i64 (s : Int)] W fun e w' => e = .returned (.int .i64 (lenS s : Int)) ∧ W = w' := fun W g => length_any s hs W (hT.up g)
  have hs1 : (s : Int) < 12 := by omega
  have hs0 : (0 : Int) ≤ (s : Int) := by omega
  have b0 := lt_of_cell d0
  have hx : (c.toNat : Int) < 256 := by have := c.toNat_lt; omega
  have hx0 : (0 : Int) ≤ (c.toNat : Int) := by omega
  have hil : ∀ s : Fin 12, imS s.1 ≤ 10 := by decide
  have hi10 : imS s ≤ 10 := hil ⟨s, hs⟩
  have hL12 : 1 ≤ lenS s ∧ lenS s ≤ 12 := by unfold lenS; split <;> omega
  have hLw : wrap64 ((lenS s : Int) - 1) = (lenS s : Int) - 1 := by unfold wrap64; omega
  have fin : ∀ {x y : Bool} {W : World}, x = y → Below w.heap.size w W → (Ending.returned (.bool x) = .returned (.bool y) ∧ Below w.heap.size w W) := fun h g => ⟨retB h, g⟩
  by_cases h1 : i = 1 ∧ rgS s = 1
  · obtain ⟨rfl, hr⟩ := h1
    rw [hr] at d0
    have hg : goB s 1 c = decide (c.toNat < 8) := by unfold goB; rw [if_pos ⟨rfl, hr⟩]
    by_cases hc : c.toNat < 8
    · have hc' : (c.toNat : Int) < 8 := by omega
      rw [hg, decide_eq_true hc]
      clear hT hg hc hr hi hi2
      generalize (c.toNat : Int) = x at *
      go_enter Tryz.func41, Tryz.ntmps41
      go_wp2_with fail
      go_ret
      exact ⟨rfl, (Gr.below (by repeat (first | (with_reducible exact Gr.refl _) | with_reducible refine Gr.alloc ?_ _ | with_reducible refine Gr.more ?_ _ _ | with_reducible refine Gr.setCell ?_ (by dsimp only; omega) _ | with_reducible refine Gr.drew ?_)))⟩
    · have hc' : ¬ (c.toNat : Int) < 8 := by omega
      rw [hg, decide_eq_false hc]
      clear hT hg hc hr hi hi2
      generalize (c.toNat : Int) = x at *
      go_enter Tryz.func41, Tryz.ntmps41
      go_wp2_with fail
      go_ret
      exact ⟨rfl, (Gr.below (by repeat (first | (with_reducible exact Gr.refl _) | with_reducible refine Gr.alloc ?_ _ | with_reducible refine Gr.more ?_ _ _ | with_reducible refine Gr.setCell ?_ (by dsimp only; omega) _ | with_reducible refine Gr.drew ?_)))⟩
  by_cases h2 : i = 1 ∧ rgS s = 2
  · obtain ⟨rfl, hr⟩ := h2
    rw [hr] at d0
    have hg : goB s 1 c = decide (c.toNat < 64) := by unfold goB; rw [if_neg (by omega), if_pos ⟨rfl, hr⟩]
    by_cases hc : c.toNat < 64
    · have hc' : (c.toNat : Int) < 64 := by omega
      rw [hg, decide_eq_true hc]
      clear hT hg hc hr hi hi2 h1
      generalize (c.toNat : Int) = x at *
      go_enter Tryz.func41, Tryz.ntmps41
      go_wp2_with fail
      go_ret
      exact ⟨rfl, (Gr.below (by repeat (first | (with_reducible exact Gr.refl _) | with_reducible refine Gr.alloc ?_ _ | with_reducible refine Gr.more ?_ _ _ | with_reducible refine Gr.setCell ?_ (by dsimp only; omega) _ | with_reducible refine Gr.drew ?_)))⟩
    · have hc' : ¬ (c.toNat : Int) < 64 := by omega
      rw [hg, decide_eq_false hc]
      clear hT hg hc hr hi hi2 h1
      generalize (c.toNat : Int) = x at *
      go_enter Tryz.func41, Tryz.ntmps41
      go_wp2_with fail
      go_ret
      exact ⟨rfl, (Gr.below (by repeat (first | (with_reducible exact Gr.refl _) | with_reducible refine Gr.alloc ?_ _ | with_reducible refine Gr.more ?_ _ _ | with_reducible refine Gr.setCell ?_ (by dsimp only; omega) _ | with_reducible refine Gr.drew ?_)))⟩
  -- neither: the tests at i = 1 fail
  have key : ∀ (xi : Bool), (((i : Int) == 1) = xi) → (xi = true → ((rgS s : Int) == 1) = false ∧ ((rgS s : Int) == 2) = false) →
      Calls Tryz.prog 41 #[.int .i64 (s : Int), .int .i64 (i : Int), .int .u8 (c.toNat : Int)] w fun e w' => e = .returned (.bool (goB s i c)) ∧ Below w.heap.size w w' := by
    intro xi hxi hrr
    by_cases hw : imS s = 10 ∧ i = lenS s - 1
    · obtain ⟨hm, hie⟩ := hw
      have hie' : ((i : Int) == (lenS s : Int) - 1) = true := by rw [beq_iff_eq]; omega
      have hg : goB s i c = (decide (c.toNat = 0) || decide (c.toNat = 127)) := by unfold goB; rw [if_neg h1, if_neg h2, if_pos ⟨hm, hie⟩]
      rw [hm] at d1
      have hk0 : c.toNat = 0 ∨ c.toNat = 127 ∨ (c.toNat ≠ 0 ∧ c.toNat ≠ 127) := by omega
      rcases hk0 with hk | hk | ⟨hk, hk2⟩
      · have e : (c.toNat : Int) = 0 := by omega
        rw [hg, show (decide (c.toNat = 0) || decide (c.toNat = 127)) = true by simp [hk], e]
        clear hT hg hk h1 h2 hie hm hx hx0 e
        generalize (lenS s : Int) = L at *
        generalize (rgS s : Int) = R at *
        cases xi
        · clear hrr
          go_enter Tryz.func41, Tryz.ntmps41
          go_wp2_with (go_at_call 32; (refine (LL _ (Gr.below (by repeat (first | (with_reducible exact Gr.refl _) | with_reducible refine Gr.alloc ?_ _ | with_reducible refine Gr.more ?_ _ _ | with_reducible refine Gr.setCell ?_ (by dsimp only; omega) _ | with_reducible refine Gr.drew ?_)))).mono ?_); rintro e w1 ⟨rfl, rfl⟩)
          go_ret
          exact ⟨rfl, (Gr.below (by repeat (first | (with_reducible exact Gr.refl _) | with_reducible refine Gr.alloc ?_ _ | with_reducible refine Gr.more ?_ _ _ | with_reducible refine Gr.setCell ?_ (by dsimp only; omega) _ | with_reducible refine Gr.drew ?_)))⟩
        · obtain ⟨ra, rb⟩ := hrr rfl
          clear hrr
          go_enter Tryz.func41, Tryz.ntmps41
          go_wp2_with (go_at_call 32; (refine (LL _ (Gr.below (by repeat (first | (with_reducible exact Gr.refl _) | with_reducible refine Gr.alloc ?_ _ | with_reducible refine Gr.more ?_ _ _ | with_reducible refine Gr.setCell ?_ (by dsimp only; omega) _ | with_reducible refine Gr.drew ?_)))).mono ?_); rintro e w1 ⟨rfl, rfl⟩)
          go_ret
          exact ⟨rfl, (Gr.below (by repeat (first | (with_reducible exact Gr.refl _) | with_reducible refine Gr.alloc ?_ _ | with_reducible refine Gr.more ?_ _ _ | with_reducible refine Gr.setCell ?_ (by dsimp only; omega) _ | with_reducible refine Gr.drew ?_)))⟩
      · have e : (c.toNat : Int) = 127 := by omega
        rw [hg, show (decide (c.toNat = 0) || decide (c.toNat = 127)) = true by simp [hk], e]
        clear hT hg hk h1 h2 hie hm hx hx0 e
        generalize (lenS s : Int) = L at *
        generalize (rgS s : Int) = R at *
        cases xi
        · clear hrr
          go_enter Tryz.func41, Tryz.ntmps41
          go_wp2_with (go_at_call 32; (refine (LL _ (Gr.below (by repeat (first | (with_reducible exact Gr.refl _) | with_reducible refine Gr.alloc ?_ _ | with_reducible refine Gr.more ?_ _ _ | with_reducible refine Gr.setCell ?_ (by dsimp only; omega) _ | with_reducible refine Gr.drew ?_)))).mono ?_); rintro e w1 ⟨rfl, rfl⟩)
          go_ret
          exact ⟨rfl, (Gr.below (by repeat (first | (with_reducible exact Gr.refl _) | with_reducible refine Gr.alloc ?_ _ | with_reducible refine Gr.more ?_ _ _ | with_reducible refine Gr.setCell ?_ (by dsimp only; omega) _ | with_reducible refine Gr.drew ?_)))⟩
        · obtain ⟨ra, rb⟩ := hrr rfl
          clear hrr
          go_enter Tryz.func41, Tryz.ntmps41
          go_wp2_with (go_at_call 32; (refine (LL _ (Gr.below (by repeat (first | (with_reducible exact Gr.refl _) | with_reducible refine Gr.alloc ?_ _ | with_reducible refine Gr.more ?_ _ _ | with_reducible refine Gr.setCell ?_ (by dsimp only; omega) _ | with_reducible refine Gr.drew ?_)))).mono ?_); rintro e w1 ⟨rfl, rfl⟩)
          go_ret
          exact ⟨rfl, (Gr.below (by repeat (first | (with_reducible exact Gr.refl _) | with_reducible refine Gr.alloc ?_ _ | with_reducible refine Gr.more ?_ _ _ | with_reducible refine Gr.setCell ?_ (by dsimp only; omega) _ | with_reducible refine Gr.drew ?_)))⟩
      · have n0 : ((c.toNat : Int) == 0) = false := by rw [beq_eq_false_iff_ne]; omega
        have n1 : ((c.toNat : Int) == 127) = false := by rw [beq_eq_false_iff_ne]; omega
        rw [hg, decide_eq_false hk, decide_eq_false hk2]
        clear hT hg hk hk2 h1 h2 hie hm
        generalize (c.toNat : Int) = x at *
        generalize (lenS s : Int) = L at *
        generalize (rgS s : Int) = R at *
        cases xi
        · clear hrr
          go_enter Tryz.func41, Tryz.ntmps41
          go_wp2_with (go_at_call 32; (refine (LL _ (Gr.below (by repeat (first | (with_reducible exact Gr.refl _) | with_reducible refine Gr.alloc ?_ _ | with_reducible refine Gr.more ?_ _ _ | with_reducible refine Gr.setCell ?_ (by dsimp only; omega) _ | with_reducible refine Gr.drew ?_)))).mono ?_); rintro e w1 ⟨rfl, rfl⟩)
          go_ret
          exact ⟨rfl, (Gr.below (by repeat (first | (with_reducible exact Gr.refl _) | with_reducible refine Gr.alloc ?_ _ | with_reducible refine Gr.more ?_ _ _ | with_reducible refine Gr.setCell ?_ (by dsimp only; omega) _ | with_reducible refine Gr.drew ?_)))⟩
        · obtain ⟨ra, rb⟩ := hrr rfl
          clear hrr
          go_enter Tryz.func41, Tryz.ntmps41
          go_wp2_with (go_at_call 32; (refine (LL _ (Gr.below (by repeat (first | (with_reducible exact Gr.refl _) | with_reducible refine Gr.alloc ?_ _ | with_reducible refine Gr.more ?_ _ _ | with_reducible refine Gr.setCell ?_ (by dsimp only; omega) _ | with_reducible refine Gr.drew ?_)))).mono ?_); rintro e w1 ⟨rfl, rfl⟩)
          go_ret
          exact ⟨rfl, (Gr.below (by repeat (first | (with_reducible exact Gr.refl _) | with_reducible refine Gr.alloc ?_ _ | with_reducible refine Gr.more ?_ _ _ | with_reducible refine Gr.setCell ?_ (by dsimp only; omega) _ | with_reducible refine Gr.drew ?_)))⟩
    · have hg : goB s i c = decide (c.toNat < 128) := by unfold goB; rw [if_neg h1, if_neg h2, if_neg hw]
      have hm : ((imS s : Int) == 10) = false ∨ (((imS s : Int) == 10) = true ∧ ((i : Int) == (lenS s : Int) - 1) = false) := by
        by_cases e : imS s = 10
        · right; exact ⟨by simp [e], by rw [beq_eq_false_iff_ne]; intro h; exact hw ⟨e, by omega⟩⟩
        · left; rw [beq_eq_false_iff_ne]; omega
      obtain ⟨xc, hxc⟩ : ∃ xc, decide ((c.toNat : Int) < 128) = xc := ⟨_, rfl⟩
      have hgx : goB s i c = xc := by rw [hg, ← hxc, decide_eq_decide]; omega
      rw [hgx]
      clear hT hg hgx h1 h2 hw
      generalize (c.toNat : Int) = x at *
      generalize (lenS s : Int) = L at *
      generalize (rgS s : Int) = R at *
      generalize (imS s : Int) = M at *
      cases xi
      · clear hrr
        rcases hm with hm | ⟨hm, hm2⟩
        · go_enter Tryz.func41, Tryz.ntmps41
          go_wp2_with (go_at_call 32; (refine (LL _ (Gr.below (by repeat (first | (with_reducible exact Gr.refl _) | with_reducible refine Gr.alloc ?_ _ | with_reducible refine Gr.more ?_ _ _ | with_reducible refine Gr.setCell ?_ (by dsimp only; omega) _ | with_reducible refine Gr.drew ?_)))).mono ?_); rintro e w1 ⟨rfl, rfl⟩)
          go_ret
          first | exact ⟨rfl, (Gr.below (by repeat (first | (with_reducible exact Gr.refl _) | with_reducible refine Gr.alloc ?_ _ | with_reducible refine Gr.more ?_ _ _ | with_reducible refine Gr.setCell ?_ (by dsimp only; omega) _ | with_reducible refine Gr.drew ?_)))⟩ | exact fin hxc (Gr.below (by repeat (first | (with_reducible exact Gr.refl _) | with_reducible refine Gr.alloc ?_ _ | with_reducible refine Gr.more ?_ _ _ | with_reducible refine Gr.setCell ?_ (by dsimp only; omega) _ | with_reducible refine Gr.drew ?_)))
        · go_enter Tryz.func41, Tryz.ntmps41
          go_wp2_with (go_at_call 32; (refine (LL _ (Gr.below (by repeat (first | (with_reducible exact Gr.refl _) | with_reducible refine Gr.alloc ?_ _ | with_reducible refine Gr.more ?_ _ _ | with_reducible refine Gr.setCell ?_ (by dsimp only; omega) _ | with_reducible refine Gr.drew ?_)))).mono ?_); rintro e w1 ⟨rfl, rfl⟩)
          go_ret
          first | exact ⟨rfl, (Gr.below (by repeat (first | (with_reducible exact Gr.refl _) | with_reducible refine Gr.alloc ?_ _ | with_reducible refine Gr.more ?_ _ _ | with_reducible refine Gr.setCell ?_ (by dsimp only; omega) _ | with_reducible refine Gr.drew ?_)))⟩ | exact fin hxc (Gr.below (by repeat (first | (with_reducible exact Gr.refl _) | with_reducible refine Gr.alloc ?_ _ | with_reducible refine Gr.more ?_ _ _ | with_reducible refine Gr.setCell ?_ (by dsimp only; omega) _ | with_reducible refine Gr.drew ?_)))
      · obtain ⟨ra, rb⟩ := hrr rfl
        clear hrr
        rcases hm with hm | ⟨hm, hm2⟩
        · go_enter Tryz.func41, Tryz.ntmps41
          go_wp2_with (go_at_call 32; (refine (LL _ (Gr.below (by repeat (first | (with_reducible exact Gr.refl _) | with_reducible refine Gr.alloc ?_ _ | with_reducible refine Gr.more ?_ _ _ | with_reducible refine Gr.setCell ?_ (by dsimp only; omega) _ | with_reducible refine Gr.drew ?_)))).mono ?_); rintro e w1 ⟨rfl, rfl⟩)
          go_ret
          first | exact ⟨rfl, (Gr.below (by repeat (first | (with_reducible exact Gr.refl _) | with_reducible refine Gr.alloc ?_ _ | with_reducible refine Gr.more ?_ _ _ | with_reducible refine Gr.setCell ?_ (by dsimp only; omega) _ | with_reducible refine Gr.drew ?_)))⟩ | exact fin hxc (Gr.below (by repeat (first | (with_reducible exact Gr.refl _) | with_reducible refine Gr.alloc ?_ _ | with_reducible refine Gr.more ?_ _ _ | with_reducible refine Gr.setCell ?_ (by dsimp only; omega) _ | with_reducible refine Gr.drew ?_)))
        · go_enter Tryz.func41, Tryz.ntmps41
          go_wp2_with (go_at_call 32; (refine (LL _ (Gr.below (by repeat (first | (with_reducible exact Gr.refl _) | with_reducible refine Gr.alloc ?_ _ | with_reducible refine Gr.more ?_ _ _ | with_reducible refine Gr.setCell ?_ (by dsimp only; omega) _ | with_reducible refine Gr.drew ?_)))).mono ?_); rintro e w1 ⟨rfl, rfl⟩)
          go_ret
          first | exact ⟨rfl, (Gr.below (by repeat (first | (with_reducible exact Gr.refl _) | with_reducible refine Gr.alloc ?_ _ | with_reducible refine Gr.more ?_ _ _ | with_reducible refine Gr.setCell ?_ (by dsimp only; omega) _ | with_reducible refine Gr.drew ?_)))⟩ | exact fin hxc (Gr.below (by repeat (first | (with_reducible exact Gr.refl _) | with_reducible refine Gr.alloc ?_ _ | with_reducible refine Gr.more ?_ _ _ | with_reducible refine Gr.setCell ?_ (by dsimp only; omega) _ | with_reducible refine Gr.drew ?_)))
  by_cases he : i = 1
  · exact key true (by simp [he]) (fun _ => ⟨by rw [beq_eq_false_iff_ne]; intro h; exact h1 ⟨he, by omega⟩, by rw [beq_eq_false_iff_ne]; intro h; exact h2 ⟨he, by omega⟩⟩)
  · exact key false (by rw [beq_eq_false_iff_ne]; omega) (fun h => by cases h)
end Go.Proofs.YtjlbcpmfbokinaaGreatDoor

namespace Go.Proofs.YtjlbcpmfbokinaaGreatDoor
open Go.RowKit

theorem numN_drop {X : List UInt8} {p : Nat} (h : p < X.length) : numN (X.drop p) = X[p].toNat + 128 * numN (X.drop (p + 1)) := by
  rw [List.drop_eq_getElem_cons h]; rfl
theorem w7 (N x : Nat) : wrap64 (wrap64 (N : Int) * 128 + (x : Int)) = wrap64 ((x + 128 * N : Nat) : Int) := by unfold wrap64; omega
set_option maxRecDepth 100000 in
set_option maxHeartbeats 2000000 in
theorem immediateIn_any (s : Nat) (hs : s < 12) (X : List UInt8) (bp : Option Addr) (bc : Nat) (w : World) (hT : TB w) (hb : SeqAt w bp (bV X)) (hm : imS s ≤ X.length) (hl : X.length ≤ 12) (h7 : ∀ p (h : p < X.length), X.length - imS s ≤ p → X[p].toNat < 128) :
    Calls Tryz.prog 43 #[.int .i64 (s : Int), .slice bp X.length bc] w fun e w' => e = .returned (.int .i64 (immV s (X.drop (X.length - imS s)))) ∧ w = w' := by
  have d1 := hT.ly.i s hs
  have d3 := hT.ly.h s hs
  have hs1 : (s : Int) < 12 := by omega
  have hs0 : (0 : Int) ≤ (s : Int) := by omega
  have b0 := lt_of_cell d1
  have hil : ∀ s : Fin 12, imS s.1 ≤ 10 := by decide
  have hi10 : imS s ≤ 10 := hil ⟨s, hs⟩
  have hil2 : ∀ s : Fin 12, s.1 ≠ 3 → imS s.1 ≤ 2 := by decide
  have hi2 : s ≠ 3 → imS s ≤ 2 := fun h => hil2 ⟨s, hs⟩ h
  have HI := Lib.hid (And.intro hi2 hs)
  have H7 := Lib.hid h7
  have HB := Lib.hid hb
  have hl' : (X.length : Int) ≤ 12 := by omega
  have hm' : (imS s : Int) ≤ (X.length : Int) := by omega
  have hi10' : (imS s : Int) ≤ 10 := by omega
  obtain ⟨I, hI⟩ : ∃ I, immV s (X.drop (X.length - imS s)) = I := ⟨_, rfl⟩
  rw [hI]
  have HV := Lib.hid hI
  clear hT h7 hb hil hil2 hi2 hI
  go_enter Tryz.func43, Tryz.ntmps43
  go_wp2_with fail
  go_loop [6, 7] (fun v i => ∃ j : Nat, j ≤ imS s ∧ i = .int .i64 ((X.length : Int) - 1 - (j : Int)) ∧ v = .int .i64 (wrap64 (numN (X.drop (X.length - j)) : Nat))) (fun _ i => (intOf i + 1).toNat)
  case atStart => exact ⟨0, Nat.zero_le _, by go_num, by simp [numN, wrap64]⟩
  case round =>
    obtain ⟨j, hj, rfl, rfl⟩ := hrel
    by_cases hlt : j < imS s
    · have q0 : (0 : Int) ≤ (X.length : Int) - 1 - (j : Int) := by omega
      have q1 : (X.length : Int) - 1 - (j : Int) < (X.length : Int) := by omega
      have q2 : (X.length : Int) - (imS s : Int) ≤ (X.length : Int) - 1 - (j : Int) := by omega
      obtain ⟨p, hp⟩ : ∃ p : Nat, (X.length : Int) - 1 - (j : Int) = (p : Int) := ⟨((X.length : Int) - 1 - (j : Int)).toNat, by omega⟩
      have hpl : p < X.length := by omega
      obtain ⟨g, o, rfl, hc⟩ := seqAt_neK HB.out (by intro e; have := congrArg List.length e; rw [bV_len] at this; simp at this; rw [this] at hpl; simp at hpl)
      have c1 := hc p _ (bV_get X p hpl)
      have lc := lt_of_cell c1
      have h128 := H7.out p hpl (by omega)
      have hpj : X.length - (j + 1) = p := by omega
      have hpj2 : X.length - j = p + 1 := by omega
      have HN := Lib.hid (numN_drop hpl)
      have hx : (X[p].toNat : Int) < 128 := by omega
      have hx0 : (0 : Int) ≤ (X[p].toNat : Int) := by omega
      have HO := Lib.hid (or7 (wrap64 (numN (X.drop (p + 1)) : Nat)) X[p].toNat h128)
      rw [hpj2]
      rw [hp] at q0 q1 q2 ⊢
      clear hc HB H7 hpj2
      generalize (X[p].toNat) = x at *
      generalize numN (X.drop (p + 1)) = N at *
      go_wp2_with fail
      have e1 : (p : Int) - 1 = (X.length : Int) - 1 - ((j + 1 : Nat) : Int) := by omega
      have e2 : bits .or .i64 (wrap64 (wrap64 (N : Int) * 128)) (x : Int) = wrap64 (numN (X.drop (X.length - (j + 1))) : Nat) := by
        rw [HO.out, hpj, HN.out]
        exact w7 _ _
      exact ⟨⟨j + 1, hlt, by rw [e1], by rw [e2]⟩, by first | (simp [intOf]; done) | (simp [intOf]; omega)⟩
    · obtain rfl : j = imS s := by omega
      have hge : ¬ (X.length : Int) - (imS s : Int) ≤ (X.length : Int) - 1 - (imS s : Int) := by omega
      have hwide : wrap64 (numN (X.drop (X.length - imS s)) : Nat) ≤ 9223372036854775807 := by unfold wrap64; omega
      have hlow : -9223372036854775808 ≤ wrap64 (numN (X.drop (X.length - imS s)) : Nat) := by unfold wrap64; omega
      obtain ⟨V, hV⟩ : ∃ V, wrap64 (numN (X.drop (X.length - imS s)) : Nat) = V := ⟨_, rfl⟩
      have hv : I = if hiS s < V then V - (128 ^ imS s : Nat) else V := by rw [← HV.out]; unfold immV; rw [hV]
      rw [hV] at hwide hlow ⊢
      clear hV HV
      by_cases hh : hiS s < V
      · have h3 : s ≠ 3 := by
          rintro rfl
          have : hiS 3 = 9223372036854775807 := rfl
          omega
        have hm2 := HI.out.1 h3
        have hlo : 0 ≤ hiS s := by
          have : ∀ s : Fin 12, 0 ≤ hiS s.1 := by decide
          exact this ⟨s, HI.out.2⟩
        rw [if_pos hh] at hv
        have HW := Lib.hid hv
        clear h3 H7 HB hv HI
        generalize hiS s = u at *
        generalize hmv : imS s = m at *
        have : m = 0 ∨ m = 1 ∨ m = 2 := by omega
        rcases this with rfl | rfl | rfl
        · have w1 : wrap64 (V - 1) = V - 1 := by unfold wrap64; omega
          go_wp2_with fail
          go_ret
          exact ⟨retI (by rw [HW.out]; rfl), rfl⟩
        · have w1 : wrap64 (V - 128) = V - 128 := by unfold wrap64; omega
          go_wp2_with fail
          go_ret
          exact ⟨retI (by rw [HW.out]; rfl), rfl⟩
        · have w1 : wrap64 (V - 16384) = V - 16384 := by unfold wrap64; omega
          go_wp2_with fail
          go_ret
          exact ⟨retI (by rw [HW.out]; rfl), rfl⟩
      · rw [if_neg hh] at hv
        have HW := Lib.hid hv
        clear H7 HB HI hv
        generalize hiS s = u at *
        go_wp2_with fail
        go_ret
        exact ⟨retI HW.out.symm, rfl⟩
end Go.Proofs.YtjlbcpmfbokinaaGreatDoor
