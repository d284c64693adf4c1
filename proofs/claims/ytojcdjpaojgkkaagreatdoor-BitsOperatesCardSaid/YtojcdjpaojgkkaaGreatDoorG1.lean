/-
  The reference of layer 1, what BitsOperates needs: truth, Unary (the other seat).
  Plain mathematics for the reference's operations (the other seat): its shifts are loops.
  The reference of layer 1 (the other seat): quotient, shifted.
  The reference of layer 1 (the other seat): arithmetic.
  bits.Unary (the other seat): its map of closures, its walk.
  The reference of layer 1 (the other seat): Unary's three operations.
  bits.Unary (the other seat): its three operations.
-/
import Derived.Test.YtojcdjpaojgkkaaGreatDoorUa
import Derived.Test.YtojcdjpaojgkkaaGreatDoorLk
import Derived.Test.YtojcdjpaojgkkaaGreatDoorMathc
import Derived.BigQuiet
import Derived.Deep.QuietTactic
import Derived.Test.YtojcdjpaojgkkaaGreatDoorWk
namespace Go.Proofs.YtojcdjpaojgkkaaGreatDoor
open Go.RowKit

/-- The reference's Value: a type, a value, an error. -/
@[reducible] def valV (s : Int) (g : Bool) (v e : Int) : Value := .agg #[.int .i64 s, .bool g, .int .i64 v, .int .i64 e]

theorem rtruth_any (b : Bool) (w : World) (hq : PR w) : Calls Tryz.prog 21 #[.bool b] w fun e w' => e = .returned (valV 4 true (if b then 1 else 0) 0) ∧ Below w.heap.size w w' := by
  obtain ⟨q0, q1⟩ := hq
  have zq := szc q0
  cases b
  all_goals
    go_enter Tryz.func21, Tryz.ntmps21
    go_wp2_with (go_at_call 48; (refine (i4_any _ ?hpp).mono ?_; case hpp => exact ⟨by go_simp, by go_simp⟩); rintro e w1 ⟨rfl, hb⟩; obtain ⟨os, n, rfl⟩ := Below.moreE hb; clear hb)
    refine bodyPost_ret (v := valV 4 true _ 0) (by simp [results, Tryz.results21, go_sem]) rfl ⟨rfl, (Gr.below (by repeat (first | (with_reducible exact Gr.refl _) | with_reducible refine Gr.alloc ?_ _ | with_reducible refine Gr.more ?_ _ _ | with_reducible refine Gr.setCell ?_ (by dsimp only; omega) _ | with_reducible refine Gr.drew ?_)))⟩

set_option maxHeartbeats 1000000 in
theorem run_bad (op : Int) {s : Int} (v : validB s = false) (g : Bool) (a : Int) (w : World) : Calls Tryz.prog 6 #[.int .i64 op, tyV s g, .int .i64 a] w fun e w' => e = .returned (valV 0 false 0 10) ∧ Below w.heap.size w w' := by
  have HK := rcheck_bad v g
  go_enter Tryz.func6, Tryz.ntmps6
  go_wp2_with (go_at_call 18; (refine (HK _).mono ?_); rintro e w1 ⟨rfl, hb⟩; obtain ⟨os, n, rfl⟩ := Below.moreE hb; clear hb)
  refine bodyPost_ret (v := valV 0 false 0 10) (by simp [results, Tryz.results6, go_sem]) rfl ⟨rfl, (Gr.below (by repeat (first | (with_reducible exact Gr.refl _) | with_reducible refine Gr.alloc ?_ _ | with_reducible refine Gr.more ?_ _ _ | with_reducible refine Gr.setCell ?_ (by dsimp only; omega) _ | with_reducible refine Gr.drew ?_)))⟩
set_option maxHeartbeats 1000000 in
theorem run_none (op : Int) (h1 : (op == 1) = false) (h2 : (op == 2) = false) (h3 : (op == 3) = false) {s : Int} (v : validB s = true) (g : Bool) (a : Int) (w : World) (hq : PR8 w) : Calls Tryz.prog 6 #[.int .i64 op, tyV s g, .int .i64 a] w fun e w' => e = .returned (valV 0 false 0 11) ∧ Below w.heap.size w w' := by
  have HK := rcheck_ok v g
  have HP := rpromoted_any s g
  obtain ⟨q0, q1, q2, q3, q4, q5, q6, q7⟩ := hq
  have zq := szc q0
  go_enter Tryz.func6, Tryz.ntmps6
  go_wp2_with first | (go_at_call 18; (refine (HK _).mono ?_); rintro e w1 ⟨rfl, hb⟩; obtain ⟨os, n, rfl⟩ := Below.moreE hb; clear hb) | (go_at_call 19; (refine (rwrapped_any _ _ _ _).mono ?_); rintro e w1 ⟨rfl, hb⟩; obtain ⟨os, n, rfl⟩ := Below.moreE hb; clear hb) | (go_at_call 20; (refine (HP _ ?hpp).mono ?_; case hpp => exact ⟨by go_simp, by go_simp, by go_simp, by go_simp, by go_simp, by go_simp, by go_simp, by go_simp⟩); rintro e w1 ⟨rfl, hb⟩; obtain ⟨os, n, rfl⟩ := Below.moreE hb; clear hb)
  refine bodyPost_ret (v := valV 0 false 0 11) (by simp [results, Tryz.results6, go_sem]) rfl ⟨rfl, (Gr.below (by repeat (first | (with_reducible exact Gr.refl _) | with_reducible refine Gr.alloc ?_ _ | with_reducible refine Gr.more ?_ _ _ | with_reducible refine Gr.setCell ?_ (by dsimp only; omega) _ | with_reducible refine Gr.drew ?_)))⟩
end Go.Proofs.YtojcdjpaojgkkaaGreatDoor

namespace Go.Proofs.YtojcdjpaojgkkaaGreatDoor
open Go.RowKit

theorem i64_and1 (n : Int) : bits .and .i64 n 1 = n % 2 := by
  have hm : (BitVec.ofInt 64 1).toNat = 2 ^ 1 - 1 := by decide
  have key : (BitVec.ofInt 64 n &&& BitVec.ofInt 64 1).toNat = (n % ((2 ^ 64 : Nat) : Int)).toNat % 2 ^ 1 := by
    rw [BitVec.toNat_and, BitVec.toNat_ofInt, hm, Nat.and_two_pow_sub_one_eq_mod]
  show IntKind.i64.wrap ((BitVec.ofInt 64 n &&& BitVec.ofInt 64 1).toNat : Nat) = n % 2
  rw [key, IntKind.wrap_i64]
  omega

/-- The quotient by -1. -/
theorem quo_m1 (a : Int) : quoI true a (-1) = wrap64 (-a) := by simp [quoI]
theorem rem_m1 (a : Int) : remI true a (-1) = 0 := by simp [remI]

/-- One step of a shift to the left. -/
theorem shl_step (S : Int) (G : Bool) (x : Int) (k : Nat) : wrapI S G (wrap64 (shlV S G x k + shlV S G x k)) = shlV S G x ((k + 1 : Nat) : Int) := by
  have h := shl_two S G x k 1 (by omega) (by omega)
  rw [show ((k + 1 : Nat) : Int) = (k : Int) + 1 by omega, ← h]
  unfold shlV shlI
  congr 2
  simp
  omega
/-- One step of a shift to the right of a signed value. -/
theorem shr_step_t {S : Int} (hS : S = 4 ∨ S = 8) (x : Int) (h : Rg S true x) (k : Nat) : (shrV S true x k - bits .and .i64 (shrV S true x k) 1).tdiv 2 = shrV S true x ((k + 1 : Nat) : Int) := by
  have h1 := shr_two hS true x k 1 (by omega) (by omega) h
  rw [show ((k + 1 : Nat) : Int) = (k : Int) + 1 by omega, ← h1, i64_and1]
  have h2 := shr_Rg hS true x k h
  rw [shr_true hS _ 1 h2]
  have : ((2 : Int) ^ (1 : Int).toNat) = 2 := by decide
  rw [this]
  generalize shrV S true x k = v
  rw [show v - v % 2 = v / 2 * 2 by omega, Int.mul_tdiv_cancel _ (by decide)]
/-- One step of a shift to the right of an unsigned value. -/
theorem shr_step_f {S : Int} (hS : S = 4 ∨ S = 8) (x : Int) (h : Rg S false x) (k : Nat) : wrap64 ((u64 (shrV S false x k)).tdiv 2) = shrV S false x ((k + 1 : Nat) : Int) := by
  have h1 := shr_two hS false x k 1 (by omega) (by omega) h
  rw [show ((k + 1 : Nat) : Int) = (k : Int) + 1 by omega, ← h1]
  have h2 := shr_Rg hS false x k h
  generalize shrV S false x k = v at h2 ⊢
  have hb := u64_bd v
  have e : shrI false v 1 = wrap64 ((u64 v).tdiv 2) := by
    show wrap64 (u64 v / 2 ^ (1 : Int).toNat) = _
    have : ((2 : Int) ^ (1 : Int).toNat) = 2 := by decide
    rw [this, Int.tdiv_eq_ediv_of_nonneg hb.1]
  unfold shrV
  rw [e]
  symm
  rw [Int.tdiv_eq_ediv_of_nonneg hb.1]
  apply wrap_Rg
  rcases hS with rfl | rfl
  · simp [Rg] at h2
    have : u64 v = v := by rw [u64_eq]; omega
    rw [this]
    simp [Rg]
    unfold wrap64
    omega
  · simp [Rg]
    unfold wrap64
    omega
theorem shl_0 (S : Int) (G : Bool) (x : Int) (h : Rg S G x) : shlV S G x ((0 : Nat) : Int) = x := by
  unfold shlV shlI
  have e : wrap64 (x * 2 ^ ((0 : Nat) : Int).toNat) = x := by
    have := Rg_I64 h
    unfold I64 at this
    simp
    unfold wrap64
    omega
  rw [e]
  exact wrap_Rg _ _ _ h
theorem shr_0 {S : Int} (hS : S = 4 ∨ S = 8) (G : Bool) (x : Int) (h : Rg S G x) : shrV S G x ((0 : Nat) : Int) = x := by
  cases G
  · unfold shrV shrI
    have e : wrap64 (u64 x / 2 ^ ((0 : Nat) : Int).toNat) = x := by
      have := Rg_I64 h
      unfold I64 at this
      simp [u64_eq]
      unfold wrap64
      omega
    rw [if_neg (by simp), e]
    exact wrap_Rg _ _ _ h
  · rw [shr_true hS x _ h]; simp
/-- The reference's count. -/
theorem cnt_ref {S : Int} (hS : S = 4 ∨ S = 8) (b : Int) : cntI S b = b.tmod (8 * S) + (if b.tmod (8 * S) < 0 then 8 * S else 0) := by
  rw [cntI_eq S b hS]
  have h1 := tmod_bd b (8 * S) (by omega)
  have h2 := tmod_sign b (8 * S)
  have h3 := tdiv_eq b (8 * S)
  generalize b.tmod (8 * S) = r at *
  generalize b.tdiv (8 * S) = q at *
  rcases hS with rfl | rfl <;> (split <;> omega)
end Go.Proofs.YtojcdjpaojgkkaaGreatDoor

namespace Go.Proofs.YtojcdjpaojgkkaaGreatDoor
open Go.RowKit

theorem _root_.Go.Gr.drewN {B : Nat} {a w : World} (h : Gr B a w) (n : Nat) : Gr B a (w.drewN n) := ⟨⟨h.below.os, h.below.tape, h.below.output, h.below.size, h.below.block⟩, h.size⟩

set_option maxHeartbeats 1000000 in
theorem rquotient_any (s : Int) (g : Bool) (a b : Int) (w : World) (hb0 : b ≠ 0) (hu : u64 b ≠ 0) : Calls Tryz.prog 70 #[tyV s g, .int .i64 a, .int .i64 b] w fun e w' => e = .returned (.tuple #[.int .i64 (quoI g a b), .int .i64 (remI g a b)]) ∧ Below w.heap.size w w' := by
  cases g
  · unfold u64 at hu
    go_enter Tryz.func70, Tryz.ntmps70
    go_wp2
    go_quiet (fail)
    go_wp2
    refine bodyPost_ret (v := .tuple #[.int .i64 (quoI false a b), .int .i64 (remI false a b)]) (by simp [results, Tryz.results70, go_sem, quoI, remI, u64]) rfl ⟨rfl, (((Gr.refl w).alloc _).drewN _).below⟩
  · clear hu
    by_cases h1 : b = -1
    · subst h1
      rw [quo_m1, rem_m1]
      go_enter Tryz.func70, Tryz.ntmps70
      go_wp2
      refine bodyPost_ret (v := .tuple #[.int .i64 (wrap64 (-a)), .int .i64 0]) (by simp [results, Tryz.results70, go_sem]) rfl ⟨rfl, (Gr.below (by repeat (first | (with_reducible exact Gr.refl _) | with_reducible refine Gr.alloc ?_ _ | with_reducible refine Gr.more ?_ _ _ | with_reducible refine Gr.setCell ?_ (by dsimp only; omega) _ | with_reducible refine Gr.drew ?_)))⟩
    · have e1 : (b == -1) = false := beq_eq_false_iff_ne.2 h1
      clear h1
      go_enter Tryz.func70, Tryz.ntmps70
      go_wp2
      go_quiet (fail)
      go_wp2
      refine bodyPost_ret (v := .tuple #[.int .i64 (quoI true a b), .int .i64 (remI true a b)]) (by simp [results, Tryz.results70, go_sem, quoI, remI]) rfl ⟨rfl, (((Gr.refl w).alloc _).drewN _).below⟩

theorem shrF_w (y : Int) : Value.int .i64 (wrap64 (IntKind.u64.wrap ((IntKind.u64.wrap y).tdiv 2))) = .int .i64 (wrap64 ((u64 y).tdiv 2)) := by
  have hb := u64_bd y
  have e : IntKind.u64.wrap ((IntKind.u64.wrap y).tdiv 2) = (u64 y).tdiv 2 := by
    show u64 ((u64 y).tdiv 2) = (u64 y).tdiv 2
    rw [Int.tdiv_eq_ediv_of_nonneg hb.1, u64_eq ((u64 y) / 2)]
    omega
  rw [e]
theorem shrT_w {v : Int} (h : I64 v) : Value.int .i64 (wrap64 ((wrap64 (v - bits .and .i64 v 1)).tdiv 2)) = .int .i64 ((v - bits .and .i64 v 1).tdiv 2) := by
  obtain ⟨h1, h2⟩ := h
  have e : wrap64 (v - bits .and .i64 v 1) = v - v % 2 := by rw [i64_and1]; unfold wrap64; omega
  rw [e, i64_and1, show v - v % 2 = v / 2 * 2 by omega, Int.mul_tdiv_cancel _ (by decide)]
  congr 1
  unfold wrap64
  omega
set_option maxHeartbeats 2000000 in
theorem rsh_l4n (g : Bool) (x b : Int) (hx : Rg 4 g x) (hn : b.tmod 32 < 0) (w : World) : Calls Tryz.prog 30 #[.int .i64 9, tyV 4 g, .int .i64 x, .int .i64 b] w fun e w' => e = .returned (.int .i64 (shlV 4 g x (b.tmod 32 + 32))) ∧ Below w.heap.size w w' := by
  have h1 := (tmod_bd b 32 (by omega)).1 (by omega)
  have hz := shl_0 4 g x hx
  have l0 : 0 ≤ b.tmod 32 + 32 := by omega
  have l1 : b.tmod 32 + 32 < 32 := by omega
  have t0 : -32 < b.tmod 32 := h1.1
  have t1 : b.tmod 32 < 32 := h1.2
  clear h1
  have Hz := Lib.hid hz
  have Hx := Lib.hid hx
  clear hz hx
  go_enter Tryz.func30, Tryz.ntmps30
  go_wp2_with fail
  go_loopw [2, 10] (fun v i wr => ∃ k : Nat, (k : Int) ≤ b.tmod 32 + 32 ∧ v = .int .i64 (shlV 4 g x k) ∧ i = .int .i64 (k : Int) ∧ wr.cell? ⟨w.heap.size, 0, none⟩ = some (.int .i64 4) ∧ wr.cell? ⟨w.heap.size, 1, none⟩ = some (.bool g) ∧ w.heap.size < wr.heap.size ∧ Gr w.heap.size w wr) (fun _ i _ => (b.tmod 32 + 32 - intOf i).toNat)
  case atStart => exact ⟨0, by omega, by rw [Hz.out], rfl, by go_simp, by go_simp, by simp, (Gr.refl w).alloc _⟩
  case round =>
    obtain ⟨k, hk, rfl, rfl, c0, c1, hz, hG⟩ := hrel
    by_cases hlt : (k : Int) < b.tmod 32 + 32
    · have hw1 : wrap64 ((k : Int) + 1) = (k : Int) + 1 := by unfold wrap64; omega
      go_wp2_with (go_at_call 19; (refine (rwrapped_any _ _ _ _).mono ?_); rintro e w1 ⟨rfl, hb⟩; obtain ⟨os, n, rfl⟩ := Below.moreE hb; clear hb)
      go_roundw
      case rel => exact ⟨k + 1, by omega, by rw [← shl_step 4 g x k], by simp, by go_simp, by go_simp, by (first | omega | (simp; done) | (simp; omega)), by repeat (first | (with_reducible exact hG) | with_reducible refine Gr.alloc ?_ _ | with_reducible refine Gr.more ?_ _ _ | with_reducible refine Gr.setCell ?_ (by dsimp only; omega) _ | with_reducible refine Gr.drew ?_)⟩
      case measure => simp [intOf]; omega
    · have e : (k : Int) = b.tmod 32 + 32 := by omega
      have E := Lib.hid e
      clear e
      go_wp2_with fail
      refine bodyPost_ret (v := .int .i64 (shlV 4 g x (b.tmod 32 + 32))) (by simp [results, Tryz.results30, go_sem, E.out]) rfl ⟨rfl, hG.below⟩

set_option maxHeartbeats 2000000 in
theorem rsh_t4n (x b : Int) (hx : Rg 4 true x) (hn : b.tmod 32 < 0) (w : World) : Calls Tryz.prog 30 #[.int .i64 10, tyV 4 true, .int .i64 x, .int .i64 b] w fun e w' => e = .returned (.int .i64 (shrV 4 true x (b.tmod 32 + 32))) ∧ Below w.heap.size w w' := by
  have h1 := (tmod_bd b 32 (by omega)).1 (by omega)
  have hz := shr_0 (S := 4) (by omega) true x hx
  have l0 : 0 ≤ b.tmod 32 + 32 := by omega
  have l1 : b.tmod 32 + 32 < 32 := by omega
  have t0 : -32 < b.tmod 32 := h1.1
  have t1 : b.tmod 32 < 32 := h1.2
  clear h1
  have Hz := Lib.hid hz
  have Hx := Lib.hid hx
  clear hz hx
  go_enter Tryz.func30, Tryz.ntmps30
  go_wp2_with fail
  go_loopw [2, 10] (fun v i wr => ∃ k : Nat, (k : Int) ≤ b.tmod 32 + 32 ∧ v = .int .i64 (shrV 4 true x k) ∧ i = .int .i64 (k : Int) ∧ wr.cell? ⟨w.heap.size, 0, none⟩ = some (.int .i64 4) ∧ wr.cell? ⟨w.heap.size, 1, none⟩ = some (.bool true) ∧ w.heap.size < wr.heap.size ∧ Gr w.heap.size w wr) (fun _ i _ => (b.tmod 32 + 32 - intOf i).toNat)
  case atStart => exact ⟨0, by omega, by rw [Hz.out], rfl, by go_simp, by go_simp, by simp, (Gr.refl w).alloc _⟩
  case round =>
    obtain ⟨k, hk, rfl, rfl, c0, c1, hz, hG⟩ := hrel
    by_cases hlt : (k : Int) < b.tmod 32 + 32
    · have hw1 : wrap64 ((k : Int) + 1) = (k : Int) + 1 := by unfold wrap64; omega
      go_wp2
      go_roundw
      case rel => exact ⟨k + 1, by omega, by rw [← shr_step_t (S := 4) (by omega) x Hx.out k]; exact shrT_w (Rg_I64 (shr_Rg (by omega) true x k Hx.out)), by simp, by go_simp, by go_simp, by (first | omega | (simp; done) | (simp; omega)), by repeat (first | (with_reducible exact hG) | with_reducible refine Gr.alloc ?_ _ | with_reducible refine Gr.more ?_ _ _ | with_reducible refine Gr.setCell ?_ (by dsimp only; omega) _ | with_reducible refine Gr.drew ?_)⟩
      case measure => simp [intOf]; omega
    · have e : (k : Int) = b.tmod 32 + 32 := by omega
      have E := Lib.hid e
      clear e
      go_wp2_with fail
      refine bodyPost_ret (v := .int .i64 (shrV 4 true x (b.tmod 32 + 32))) (by simp [results, Tryz.results30, go_sem, E.out]) rfl ⟨rfl, hG.below⟩

set_option maxHeartbeats 2000000 in
theorem rsh_f4n (x b : Int) (hx : Rg 4 false x) (hn : b.tmod 32 < 0) (w : World) : Calls Tryz.prog 30 #[.int .i64 10, tyV 4 false, .int .i64 x, .int .i64 b] w fun e w' => e = .returned (.int .i64 (shrV 4 false x (b.tmod 32 + 32))) ∧ Below w.heap.size w w' := by
  have h1 := (tmod_bd b 32 (by omega)).1 (by omega)
  have hz := shr_0 (S := 4) (by omega) false x hx
  have l0 : 0 ≤ b.tmod 32 + 32 := by omega
  have l1 : b.tmod 32 + 32 < 32 := by omega
  have t0 : -32 < b.tmod 32 := h1.1
  have t1 : b.tmod 32 < 32 := h1.2
  clear h1
  have Hz := Lib.hid hz
  have Hx := Lib.hid hx
  clear hz hx
  go_enter Tryz.func30, Tryz.ntmps30
  go_wp2_with fail
  go_loopw [2, 10] (fun v i wr => ∃ k : Nat, (k : Int) ≤ b.tmod 32 + 32 ∧ v = .int .i64 (shrV 4 false x k) ∧ i = .int .i64 (k : Int) ∧ wr.cell? ⟨w.heap.size, 0, none⟩ = some (.int .i64 4) ∧ wr.cell? ⟨w.heap.size, 1, none⟩ = some (.bool false) ∧ w.heap.size < wr.heap.size ∧ Gr w.heap.size w wr) (fun _ i _ => (b.tmod 32 + 32 - intOf i).toNat)
  case atStart => exact ⟨0, by omega, by rw [Hz.out], rfl, by go_simp, by go_simp, by simp, (Gr.refl w).alloc _⟩
  case round =>
    obtain ⟨k, hk, rfl, rfl, c0, c1, hz, hG⟩ := hrel
    by_cases hlt : (k : Int) < b.tmod 32 + 32
    · have hw1 : wrap64 ((k : Int) + 1) = (k : Int) + 1 := by unfold wrap64; omega
      go_wp2
      go_roundw
      case rel => exact ⟨k + 1, by omega, by rw [← shr_step_f (S := 4) (by omega) x Hx.out k]; exact shrF_w _, by simp, by go_simp, by go_simp, by (first | omega | (simp; done) | (simp; omega)), by repeat (first | (with_reducible exact hG) | with_reducible refine Gr.alloc ?_ _ | with_reducible refine Gr.more ?_ _ _ | with_reducible refine Gr.setCell ?_ (by dsimp only; omega) _ | with_reducible refine Gr.drew ?_)⟩
      case measure => simp [intOf]; omega
    · have e : (k : Int) = b.tmod 32 + 32 := by omega
      have E := Lib.hid e
      clear e
      go_wp2_with fail
      refine bodyPost_ret (v := .int .i64 (shrV 4 false x (b.tmod 32 + 32))) (by simp [results, Tryz.results30, go_sem, E.out]) rfl ⟨rfl, hG.below⟩

set_option maxHeartbeats 2000000 in
theorem rsh_l4p (g : Bool) (x b : Int) (hx : Rg 4 g x) (hn : ¬ b.tmod 32 < 0) (w : World) : Calls Tryz.prog 30 #[.int .i64 9, tyV 4 g, .int .i64 x, .int .i64 b] w fun e w' => e = .returned (.int .i64 (shlV 4 g x (b.tmod 32))) ∧ Below w.heap.size w w' := by
  have h1 := (tmod_bd b 32 (by omega)).1 (by omega)
  have hz := shl_0 4 g x hx
  have l0 : 0 ≤ b.tmod 32 := by omega
  have l1 : b.tmod 32 < 32 := by omega
  have t0 : -32 < b.tmod 32 := h1.1
  have t1 : b.tmod 32 < 32 := h1.2
  clear h1
  have Hz := Lib.hid hz
  have Hx := Lib.hid hx
  clear hz hx
  go_enter Tryz.func30, Tryz.ntmps30
  go_wp2_with fail
  go_loopw [2, 10] (fun v i wr => ∃ k : Nat, (k : Int) ≤ b.tmod 32 ∧ v = .int .i64 (shlV 4 g x k) ∧ i = .int .i64 (k : Int) ∧ wr.cell? ⟨w.heap.size, 0, none⟩ = some (.int .i64 4) ∧ wr.cell? ⟨w.heap.size, 1, none⟩ = some (.bool g) ∧ w.heap.size < wr.heap.size ∧ Gr w.heap.size w wr) (fun _ i _ => (b.tmod 32 - intOf i).toNat)
  case atStart => exact ⟨0, by omega, by rw [Hz.out], rfl, by go_simp, by go_simp, by simp, (Gr.refl w).alloc _⟩
  case round =>
    obtain ⟨k, hk, rfl, rfl, c0, c1, hz, hG⟩ := hrel
    by_cases hlt : (k : Int) < b.tmod 32
    · have hw1 : wrap64 ((k : Int) + 1) = (k : Int) + 1 := by unfold wrap64; omega
      go_wp2_with (go_at_call 19; (refine (rwrapped_any _ _ _ _).mono ?_); rintro e w1 ⟨rfl, hb⟩; obtain ⟨os, n, rfl⟩ := Below.moreE hb; clear hb)
      go_roundw
      case rel => exact ⟨k + 1, by omega, by rw [← shl_step 4 g x k], by simp, by go_simp, by go_simp, by (first | omega | (simp; done) | (simp; omega)), by repeat (first | (with_reducible exact hG) | with_reducible refine Gr.alloc ?_ _ | with_reducible refine Gr.more ?_ _ _ | with_reducible refine Gr.setCell ?_ (by dsimp only; omega) _ | with_reducible refine Gr.drew ?_)⟩
      case measure => simp [intOf]; omega
    · have e : (k : Int) = b.tmod 32 := by omega
      have E := Lib.hid e
      clear e
      go_wp2_with fail
      refine bodyPost_ret (v := .int .i64 (shlV 4 g x (b.tmod 32))) (by simp [results, Tryz.results30, go_sem, E.out]) rfl ⟨rfl, hG.below⟩

set_option maxHeartbeats 2000000 in
theorem rsh_t4p (x b : Int) (hx : Rg 4 true x) (hn : ¬ b.tmod 32 < 0) (w : World) : Calls Tryz.prog 30 #[.int .i64 10, tyV 4 true, .int .i64 x, .int .i64 b] w fun e w' => e = .returned (.int .i64 (shrV 4 true x (b.tmod 32))) ∧ Below w.heap.size w w' := by
  have h1 := (tmod_bd b 32 (by omega)).1 (by omega)
  have hz := shr_0 (S := 4) (by omega) true x hx
  have l0 : 0 ≤ b.tmod 32 := by omega
  have l1 : b.tmod 32 < 32 := by omega
  have t0 : -32 < b.tmod 32 := h1.1
  have t1 : b.tmod 32 < 32 := h1.2
  clear h1
  have Hz := Lib.hid hz
  have Hx := Lib.hid hx
  clear hz hx
  go_enter Tryz.func30, Tryz.ntmps30
  go_wp2_with fail
  go_loopw [2, 10] (fun v i wr => ∃ k : Nat, (k : Int) ≤ b.tmod 32 ∧ v = .int .i64 (shrV 4 true x k) ∧ i = .int .i64 (k : Int) ∧ wr.cell? ⟨w.heap.size, 0, none⟩ = some (.int .i64 4) ∧ wr.cell? ⟨w.heap.size, 1, none⟩ = some (.bool true) ∧ w.heap.size < wr.heap.size ∧ Gr w.heap.size w wr) (fun _ i _ => (b.tmod 32 - intOf i).toNat)
  case atStart => exact ⟨0, by omega, by rw [Hz.out], rfl, by go_simp, by go_simp, by simp, (Gr.refl w).alloc _⟩
  case round =>
    obtain ⟨k, hk, rfl, rfl, c0, c1, hz, hG⟩ := hrel
    by_cases hlt : (k : Int) < b.tmod 32
    · have hw1 : wrap64 ((k : Int) + 1) = (k : Int) + 1 := by unfold wrap64; omega
      go_wp2
      go_roundw
      case rel => exact ⟨k + 1, by omega, by rw [← shr_step_t (S := 4) (by omega) x Hx.out k]; exact shrT_w (Rg_I64 (shr_Rg (by omega) true x k Hx.out)), by simp, by go_simp, by go_simp, by (first | omega | (simp; done) | (simp; omega)), by repeat (first | (with_reducible exact hG) | with_reducible refine Gr.alloc ?_ _ | with_reducible refine Gr.more ?_ _ _ | with_reducible refine Gr.setCell ?_ (by dsimp only; omega) _ | with_reducible refine Gr.drew ?_)⟩
      case measure => simp [intOf]; omega
    · have e : (k : Int) = b.tmod 32 := by omega
      have E := Lib.hid e
      clear e
      go_wp2_with fail
      refine bodyPost_ret (v := .int .i64 (shrV 4 true x (b.tmod 32))) (by simp [results, Tryz.results30, go_sem, E.out]) rfl ⟨rfl, hG.below⟩

set_option maxHeartbeats 2000000 in
theorem rsh_f4p (x b : Int) (hx : Rg 4 false x) (hn : ¬ b.tmod 32 < 0) (w : World) : Calls Tryz.prog 30 #[.int .i64 10, tyV 4 false, .int .i64 x, .int .i64 b] w fun e w' => e = .returned (.int .i64 (shrV 4 false x (b.tmod 32))) ∧ Below w.heap.size w w' := by
  have h1 := (tmod_bd b 32 (by omega)).1 (by omega)
  have hz := shr_0 (S := 4) (by omega) false x hx
  have l0 : 0 ≤ b.tmod 32 := by omega
  have l1 : b.tmod 32 < 32 := by omega
  have t0 : -32 < b.tmod 32 := h1.1
  have t1 : b.tmod 32 < 32 := h1.2
  clear h1
  have Hz := Lib.hid hz
  have Hx := Lib.hid hx
  clear hz hx
  go_enter Tryz.func30, Tryz.ntmps30
  go_wp2_with fail
  go_loopw [2, 10] (fun v i wr => ∃ k : Nat, (k : Int) ≤ b.tmod 32 ∧ v = .int .i64 (shrV 4 false x k) ∧ i = .int .i64 (k : Int) ∧ wr.cell? ⟨w.heap.size, 0, none⟩ = some (.int .i64 4) ∧ wr.cell? ⟨w.heap.size, 1, none⟩ = some (.bool false) ∧ w.heap.size < wr.heap.size ∧ Gr w.heap.size w wr) (fun _ i _ => (b.tmod 32 - intOf i).toNat)
  case atStart => exact ⟨0, by omega, by rw [Hz.out], rfl, by go_simp, by go_simp, by simp, (Gr.refl w).alloc _⟩
  case round =>
    obtain ⟨k, hk, rfl, rfl, c0, c1, hz, hG⟩ := hrel
    by_cases hlt : (k : Int) < b.tmod 32
    · have hw1 : wrap64 ((k : Int) + 1) = (k : Int) + 1 := by unfold wrap64; omega
      go_wp2
      go_roundw
      case rel => exact ⟨k + 1, by omega, by rw [← shr_step_f (S := 4) (by omega) x Hx.out k]; exact shrF_w _, by simp, by go_simp, by go_simp, by (first | omega | (simp; done) | (simp; omega)), by repeat (first | (with_reducible exact hG) | with_reducible refine Gr.alloc ?_ _ | with_reducible refine Gr.more ?_ _ _ | with_reducible refine Gr.setCell ?_ (by dsimp only; omega) _ | with_reducible refine Gr.drew ?_)⟩
      case measure => simp [intOf]; omega
    · have e : (k : Int) = b.tmod 32 := by omega
      have E := Lib.hid e
      clear e
      go_wp2_with fail
      refine bodyPost_ret (v := .int .i64 (shrV 4 false x (b.tmod 32))) (by simp [results, Tryz.results30, go_sem, E.out]) rfl ⟨rfl, hG.below⟩

set_option maxHeartbeats 2000000 in
theorem rsh_l8n (g : Bool) (x b : Int) (hx : Rg 8 g x) (hn : b.tmod 64 < 0) (w : World) : Calls Tryz.prog 30 #[.int .i64 9, tyV 8 g, .int .i64 x, .int .i64 b] w fun e w' => e = .returned (.int .i64 (shlV 8 g x (b.tmod 64 + 64))) ∧ Below w.heap.size w w' := by
  have h1 := (tmod_bd b 64 (by omega)).1 (by omega)
  have hz := shl_0 8 g x hx
  have l0 : 0 ≤ b.tmod 64 + 64 := by omega
  have l1 : b.tmod 64 + 64 < 64 := by omega
  have t0 : -64 < b.tmod 64 := h1.1
  have t1 : b.tmod 64 < 64 := h1.2
  clear h1
  have Hz := Lib.hid hz
  have Hx := Lib.hid hx
  clear hz hx
  go_enter Tryz.func30, Tryz.ntmps30
  go_wp2_with fail
  go_loopw [2, 10] (fun v i wr => ∃ k : Nat, (k : Int) ≤ b.tmod 64 + 64 ∧ v = .int .i64 (shlV 8 g x k) ∧ i = .int .i64 (k : Int) ∧ wr.cell? ⟨w.heap.size, 0, none⟩ = some (.int .i64 8) ∧ wr.cell? ⟨w.heap.size, 1, none⟩ = some (.bool g) ∧ w.heap.size < wr.heap.size ∧ Gr w.heap.size w wr) (fun _ i _ => (b.tmod 64 + 64 - intOf i).toNat)
  case atStart => exact ⟨0, by omega, by rw [Hz.out], rfl, by go_simp, by go_simp, by simp, (Gr.refl w).alloc _⟩
  case round =>
    obtain ⟨k, hk, rfl, rfl, c0, c1, hz, hG⟩ := hrel
    by_cases hlt : (k : Int) < b.tmod 64 + 64
    · have hw1 : wrap64 ((k : Int) + 1) = (k : Int) + 1 := by unfold wrap64; omega
      go_wp2_with (go_at_call 19; (refine (rwrapped_any _ _ _ _).mono ?_); rintro e w1 ⟨rfl, hb⟩; obtain ⟨os, n, rfl⟩ := Below.moreE hb; clear hb)
      go_roundw
      case rel => exact ⟨k + 1, by omega, by rw [← shl_step 8 g x k], by simp, by go_simp, by go_simp, by (first | omega | (simp; done) | (simp; omega)), by repeat (first | (with_reducible exact hG) | with_reducible refine Gr.alloc ?_ _ | with_reducible refine Gr.more ?_ _ _ | with_reducible refine Gr.setCell ?_ (by dsimp only; omega) _ | with_reducible refine Gr.drew ?_)⟩
      case measure => simp [intOf]; omega
    · have e : (k : Int) = b.tmod 64 + 64 := by omega
      have E := Lib.hid e
      clear e
      go_wp2_with fail
      refine bodyPost_ret (v := .int .i64 (shlV 8 g x (b.tmod 64 + 64))) (by simp [results, Tryz.results30, go_sem, E.out]) rfl ⟨rfl, hG.below⟩

set_option maxHeartbeats 2000000 in
theorem rsh_t8n (x b : Int) (hx : Rg 8 true x) (hn : b.tmod 64 < 0) (w : World) : Calls Tryz.prog 30 #[.int .i64 10, tyV 8 true, .int .i64 x, .int .i64 b] w fun e w' => e = .returned (.int .i64 (shrV 8 true x (b.tmod 64 + 64))) ∧ Below w.heap.size w w' := by
  have h1 := (tmod_bd b 64 (by omega)).1 (by omega)
  have hz := shr_0 (S := 8) (by omega) true x hx
  have l0 : 0 ≤ b.tmod 64 + 64 := by omega
  have l1 : b.tmod 64 + 64 < 64 := by omega
  have t0 : -64 < b.tmod 64 := h1.1
  have t1 : b.tmod 64 < 64 := h1.2
  clear h1
  have Hz := Lib.hid hz
  have Hx := Lib.hid hx
  clear hz hx
  go_enter Tryz.func30, Tryz.ntmps30
  go_wp2_with fail
  go_loopw [2, 10] (fun v i wr => ∃ k : Nat, (k : Int) ≤ b.tmod 64 + 64 ∧ v = .int .i64 (shrV 8 true x k) ∧ i = .int .i64 (k : Int) ∧ wr.cell? ⟨w.heap.size, 0, none⟩ = some (.int .i64 8) ∧ wr.cell? ⟨w.heap.size, 1, none⟩ = some (.bool true) ∧ w.heap.size < wr.heap.size ∧ Gr w.heap.size w wr) (fun _ i _ => (b.tmod 64 + 64 - intOf i).toNat)
  case atStart => exact ⟨0, by omega, by rw [Hz.out], rfl, by go_simp, by go_simp, by simp, (Gr.refl w).alloc _⟩
  case round =>
    obtain ⟨k, hk, rfl, rfl, c0, c1, hz, hG⟩ := hrel
    by_cases hlt : (k : Int) < b.tmod 64 + 64
    · have hw1 : wrap64 ((k : Int) + 1) = (k : Int) + 1 := by unfold wrap64; omega
      go_wp2
      go_roundw
      case rel => exact ⟨k + 1, by omega, by rw [← shr_step_t (S := 8) (by omega) x Hx.out k]; exact shrT_w (Rg_I64 (shr_Rg (by omega) true x k Hx.out)), by simp, by go_simp, by go_simp, by (first | omega | (simp; done) | (simp; omega)), by repeat (first | (with_reducible exact hG) | with_reducible refine Gr.alloc ?_ _ | with_reducible refine Gr.more ?_ _ _ | with_reducible refine Gr.setCell ?_ (by dsimp only; omega) _ | with_reducible refine Gr.drew ?_)⟩
      case measure => simp [intOf]; omega
    · have e : (k : Int) = b.tmod 64 + 64 := by omega
      have E := Lib.hid e
      clear e
      go_wp2_with fail
      refine bodyPost_ret (v := .int .i64 (shrV 8 true x (b.tmod 64 + 64))) (by simp [results, Tryz.results30, go_sem, E.out]) rfl ⟨rfl, hG.below⟩

set_option maxHeartbeats 2000000 in
theorem rsh_f8n (x b : Int) (hx : Rg 8 false x) (hn : b.tmod 64 < 0) (w : World) : Calls Tryz.prog 30 #[.int .i64 10, tyV 8 false, .int .i64 x, .int .i64 b] w fun e w' => e = .returned (.int .i64 (shrV 8 false x (b.tmod 64 + 64))) ∧ Below w.heap.size w w' := by
  have h1 := (tmod_bd b 64 (by omega)).1 (by omega)
  have hz := shr_0 (S := 8) (by omega) false x hx
  have l0 : 0 ≤ b.tmod 64 + 64 := by omega
  have l1 : b.tmod 64 + 64 < 64 := by omega
  have t0 : -64 < b.tmod 64 := h1.1
  have t1 : b.tmod 64 < 64 := h1.2
  clear h1
  have Hz := Lib.hid hz
  have Hx := Lib.hid hx
  clear hz hx
  go_enter Tryz.func30, Tryz.ntmps30
  go_wp2_with fail
  go_loopw [2, 10] (fun v i wr => ∃ k : Nat, (k : Int) ≤ b.tmod 64 + 64 ∧ v = .int .i64 (shrV 8 false x k) ∧ i = .int .i64 (k : Int) ∧ wr.cell? ⟨w.heap.size, 0, none⟩ = some (.int .i64 8) ∧ wr.cell? ⟨w.heap.size, 1, none⟩ = some (.bool false) ∧ w.heap.size < wr.heap.size ∧ Gr w.heap.size w wr) (fun _ i _ => (b.tmod 64 + 64 - intOf i).toNat)
  case atStart => exact ⟨0, by omega, by rw [Hz.out], rfl, by go_simp, by go_simp, by simp, (Gr.refl w).alloc _⟩
  case round =>
    obtain ⟨k, hk, rfl, rfl, c0, c1, hz, hG⟩ := hrel
    by_cases hlt : (k : Int) < b.tmod 64 + 64
    · have hw1 : wrap64 ((k : Int) + 1) = (k : Int) + 1 := by unfold wrap64; omega
      go_wp2
      go_roundw
      case rel => exact ⟨k + 1, by omega, by rw [← shr_step_f (S := 8) (by omega) x Hx.out k]; exact shrF_w _, by simp, by go_simp, by go_simp, by (first | omega | (simp; done) | (simp; omega)), by repeat (first | (with_reducible exact hG) | with_reducible refine Gr.alloc ?_ _ | with_reducible refine Gr.more ?_ _ _ | with_reducible refine Gr.setCell ?_ (by dsimp only; omega) _ | with_reducible refine Gr.drew ?_)⟩
      case measure => simp [intOf]; omega
    · have e : (k : Int) = b.tmod 64 + 64 := by omega
      have E := Lib.hid e
      clear e
      go_wp2_with fail
      refine bodyPost_ret (v := .int .i64 (shrV 8 false x (b.tmod 64 + 64))) (by simp [results, Tryz.results30, go_sem, E.out]) rfl ⟨rfl, hG.below⟩

set_option maxHeartbeats 2000000 in
theorem rsh_l8p (g : Bool) (x b : Int) (hx : Rg 8 g x) (hn : ¬ b.tmod 64 < 0) (w : World) : Calls Tryz.prog 30 #[.int .i64 9, tyV 8 g, .int .i64 x, .int .i64 b] w fun e w' => e = .returned (.int .i64 (shlV 8 g x (b.tmod 64))) ∧ Below w.heap.size w w' := by
  have h1 := (tmod_bd b 64 (by omega)).1 (by omega)
  have hz := shl_0 8 g x hx
  have l0 : 0 ≤ b.tmod 64 := by omega
  have l1 : b.tmod 64 < 64 := by omega
  have t0 : -64 < b.tmod 64 := h1.1
  have t1 : b.tmod 64 < 64 := h1.2
  clear h1
  have Hz := Lib.hid hz
  have Hx := Lib.hid hx
  clear hz hx
  go_enter Tryz.func30, Tryz.ntmps30
  go_wp2_with fail
  go_loopw [2, 10] (fun v i wr => ∃ k : Nat, (k : Int) ≤ b.tmod 64 ∧ v = .int .i64 (shlV 8 g x k) ∧ i = .int .i64 (k : Int) ∧ wr.cell? ⟨w.heap.size, 0, none⟩ = some (.int .i64 8) ∧ wr.cell? ⟨w.heap.size, 1, none⟩ = some (.bool g) ∧ w.heap.size < wr.heap.size ∧ Gr w.heap.size w wr) (fun _ i _ => (b.tmod 64 - intOf i).toNat)
  case atStart => exact ⟨0, by omega, by rw [Hz.out], rfl, by go_simp, by go_simp, by simp, (Gr.refl w).alloc _⟩
  case round =>
    obtain ⟨k, hk, rfl, rfl, c0, c1, hz, hG⟩ := hrel
    by_cases hlt : (k : Int) < b.tmod 64
    · have hw1 : wrap64 ((k : Int) + 1) = (k : Int) + 1 := by unfold wrap64; omega
      go_wp2_with (go_at_call 19; (refine (rwrapped_any _ _ _ _).mono ?_); rintro e w1 ⟨rfl, hb⟩; obtain ⟨os, n, rfl⟩ := Below.moreE hb; clear hb)
      go_roundw
      case rel => exact ⟨k + 1, by omega, by rw [← shl_step 8 g x k], by simp, by go_simp, by go_simp, by (first | omega | (simp; done) | (simp; omega)), by repeat (first | (with_reducible exact hG) | with_reducible refine Gr.alloc ?_ _ | with_reducible refine Gr.more ?_ _ _ | with_reducible refine Gr.setCell ?_ (by dsimp only; omega) _ | with_reducible refine Gr.drew ?_)⟩
      case measure => simp [intOf]; omega
    · have e : (k : Int) = b.tmod 64 := by omega
      have E := Lib.hid e
      clear e
      go_wp2_with fail
      refine bodyPost_ret (v := .int .i64 (shlV 8 g x (b.tmod 64))) (by simp [results, Tryz.results30, go_sem, E.out]) rfl ⟨rfl, hG.below⟩

set_option maxHeartbeats 2000000 in
theorem rsh_t8p (x b : Int) (hx : Rg 8 true x) (hn : ¬ b.tmod 64 < 0) (w : World) : Calls Tryz.prog 30 #[.int .i64 10, tyV 8 true, .int .i64 x, .int .i64 b] w fun e w' => e = .returned (.int .i64 (shrV 8 true x (b.tmod 64))) ∧ Below w.heap.size w w' := by
  have h1 := (tmod_bd b 64 (by omega)).1 (by omega)
  have hz := shr_0 (S := 8) (by omega) true x hx
  have l0 : 0 ≤ b.tmod 64 := by omega
  have l1 : b.tmod 64 < 64 := by omega
  have t0 : -64 < b.tmod 64 := h1.1
  have t1 : b.tmod 64 < 64 := h1.2
  clear h1
  have Hz := Lib.hid hz
  have Hx := Lib.hid hx
  clear hz hx
  go_enter Tryz.func30, Tryz.ntmps30
  go_wp2_with fail
  go_loopw [2, 10] (fun v i wr => ∃ k : Nat, (k : Int) ≤ b.tmod 64 ∧ v = .int .i64 (shrV 8 true x k) ∧ i = .int .i64 (k : Int) ∧ wr.cell? ⟨w.heap.size, 0, none⟩ = some (.int .i64 8) ∧ wr.cell? ⟨w.heap.size, 1, none⟩ = some (.bool true) ∧ w.heap.size < wr.heap.size ∧ Gr w.heap.size w wr) (fun _ i _ => (b.tmod 64 - intOf i).toNat)
  case atStart => exact ⟨0, by omega, by rw [Hz.out], rfl, by go_simp, by go_simp, by simp, (Gr.refl w).alloc _⟩
  case round =>
    obtain ⟨k, hk, rfl, rfl, c0, c1, hz, hG⟩ := hrel
    by_cases hlt : (k : Int) < b.tmod 64
    · have hw1 : wrap64 ((k : Int) + 1) = (k : Int) + 1 := by unfold wrap64; omega
      go_wp2
      go_roundw
      case rel => exact ⟨k + 1, by omega, by rw [← shr_step_t (S := 8) (by omega) x Hx.out k]; exact shrT_w (Rg_I64 (shr_Rg (by omega) true x k Hx.out)), by simp, by go_simp, by go_simp, by (first | omega | (simp; done) | (simp; omega)), by repeat (first | (with_reducible exact hG) | with_reducible refine Gr.alloc ?_ _ | with_reducible refine Gr.more ?_ _ _ | with_reducible refine Gr.setCell ?_ (by dsimp only; omega) _ | with_reducible refine Gr.drew ?_)⟩
      case measure => simp [intOf]; omega
    · have e : (k : Int) = b.tmod 64 := by omega
      have E := Lib.hid e
      clear e
      go_wp2_with fail
      refine bodyPost_ret (v := .int .i64 (shrV 8 true x (b.tmod 64))) (by simp [results, Tryz.results30, go_sem, E.out]) rfl ⟨rfl, hG.below⟩

set_option maxHeartbeats 2000000 in
theorem rsh_f8p (x b : Int) (hx : Rg 8 false x) (hn : ¬ b.tmod 64 < 0) (w : World) : Calls Tryz.prog 30 #[.int .i64 10, tyV 8 false, .int .i64 x, .int .i64 b] w fun e w' => e = .returned (.int .i64 (shrV 8 false x (b.tmod 64))) ∧ Below w.heap.size w w' := by
  have h1 := (tmod_bd b 64 (by omega)).1 (by omega)
  have hz := shr_0 (S := 8) (by omega) false x hx
  have l0 : 0 ≤ b.tmod 64 := by omega
  have l1 : b.tmod 64 < 64 := by omega
  have t0 : -64 < b.tmod 64 := h1.1
  have t1 : b.tmod 64 < 64 := h1.2
  clear h1
  have Hz := Lib.hid hz
  have Hx := Lib.hid hx
  clear hz hx
  go_enter Tryz.func30, Tryz.ntmps30
  go_wp2_with fail
  go_loopw [2, 10] (fun v i wr => ∃ k : Nat, (k : Int) ≤ b.tmod 64 ∧ v = .int .i64 (shrV 8 false x k) ∧ i = .int .i64 (k : Int) ∧ wr.cell? ⟨w.heap.size, 0, none⟩ = some (.int .i64 8) ∧ wr.cell? ⟨w.heap.size, 1, none⟩ = some (.bool false) ∧ w.heap.size < wr.heap.size ∧ Gr w.heap.size w wr) (fun _ i _ => (b.tmod 64 - intOf i).toNat)
  case atStart => exact ⟨0, by omega, by rw [Hz.out], rfl, by go_simp, by go_simp, by simp, (Gr.refl w).alloc _⟩
  case round =>
    obtain ⟨k, hk, rfl, rfl, c0, c1, hz, hG⟩ := hrel
    by_cases hlt : (k : Int) < b.tmod 64
    · have hw1 : wrap64 ((k : Int) + 1) = (k : Int) + 1 := by unfold wrap64; omega
      go_wp2
      go_roundw
      case rel => exact ⟨k + 1, by omega, by rw [← shr_step_f (S := 8) (by omega) x Hx.out k]; exact shrF_w _, by simp, by go_simp, by go_simp, by (first | omega | (simp; done) | (simp; omega)), by repeat (first | (with_reducible exact hG) | with_reducible refine Gr.alloc ?_ _ | with_reducible refine Gr.more ?_ _ _ | with_reducible refine Gr.setCell ?_ (by dsimp only; omega) _ | with_reducible refine Gr.drew ?_)⟩
      case measure => simp [intOf]; omega
    · have e : (k : Int) = b.tmod 64 := by omega
      have E := Lib.hid e
      clear e
      go_wp2_with fail
      refine bodyPost_ret (v := .int .i64 (shrV 8 false x (b.tmod 64))) (by simp [results, Tryz.results30, go_sem, E.out]) rfl ⟨rfl, hG.below⟩


/-- The reference's shift: as a value. -/
def shVI (op : Int) (S : Int) (g : Bool) (x n : Int) : Int := if op = 9 then shlV S g x n else shrV S g x n
theorem rshifted_any (op : Int) (ho : op = 9 ∨ op = 10) {S : Int} (hS : S = 4 ∨ S = 8) (g : Bool) (x b : Int) (hx : Rg S g x) (w : World) : Calls Tryz.prog 30 #[.int .i64 op, tyV S g, .int .i64 x, .int .i64 b] w fun e w' => e = .returned (.int .i64 (shVI op S g x (cntI S b))) ∧ Below w.heap.size w w' := by
  have hc := cnt_ref hS b
  rcases ho with rfl | rfl
  · rw [show shVI 9 S g x (cntI S b) = shlV S g x (cntI S b) from rfl, hc]
    rcases hS with rfl | rfl
    · by_cases hn : b.tmod 32 < 0
      · rw [show (8 * (4 : Int)) = 32 by rfl, if_pos hn]; exact rsh_l4n g x b hx hn w
      · rw [show (8 * (4 : Int)) = 32 by rfl, if_neg hn, Int.add_zero]; exact rsh_l4p g x b hx hn w
    · by_cases hn : b.tmod 64 < 0
      · rw [show (8 * (8 : Int)) = 64 by rfl, if_pos hn]; exact rsh_l8n g x b hx hn w
      · rw [show (8 * (8 : Int)) = 64 by rfl, if_neg hn, Int.add_zero]; exact rsh_l8p g x b hx hn w
  · rw [show shVI 10 S g x (cntI S b) = shrV S g x (cntI S b) from rfl, hc]
    rcases hS with rfl | rfl
    · by_cases hn : b.tmod 32 < 0
      · rw [show (8 * (4 : Int)) = 32 by rfl, if_pos hn]
        cases g
        · exact rsh_f4n x b hx hn w
        · exact rsh_t4n x b hx hn w
      · rw [show (8 * (4 : Int)) = 32 by rfl, if_neg hn, Int.add_zero]
        cases g
        · exact rsh_f4p x b hx hn w
        · exact rsh_t4p x b hx hn w
    · by_cases hn : b.tmod 64 < 0
      · rw [show (8 * (8 : Int)) = 64 by rfl, if_pos hn]
        cases g
        · exact rsh_f8n x b hx hn w
        · exact rsh_t8n x b hx hn w
      · rw [show (8 * (8 : Int)) = 64 by rfl, if_neg hn, Int.add_zero]
        cases g
        · exact rsh_f8p x b hx hn w
        · exact rsh_t8p x b hx hn w
end Go.Proofs.YtojcdjpaojgkkaaGreatDoor

namespace Go.Proofs.YtojcdjpaojgkkaaGreatDoor
open Go.RowKit

set_option maxHeartbeats 2000000 in
theorem rar_1 (S : Int) (g : Bool) (x y : Int) (w : World) : Calls Tryz.prog 33 #[.int .i64 1, tyV S g, .int .i64 x, .int .i64 y] w fun e w' => e = .returned (valV S g (wrapI S g (arI 1 g x y)) 0) ∧ Below w.heap.size w w' := by
  go_enter Tryz.func33, Tryz.ntmps33
  go_upto_region 21 with fail
  go_region_held3 (fun w' => w'.cell? ⟨w.heap.size, 0, none⟩ = some (.int .i64 S) ∧ w'.cell? ⟨w.heap.size, 1, none⟩ = some (.bool g)) (exact ⟨by go_simp, by go_simp⟩) (first | (go_at_call 19; (refine (rwrapped_any _ _ _ _).mono ?_); rintro e w1 ⟨rfl, hb⟩; obtain ⟨os, n, rfl⟩ := Below.moreE hb; clear hb))
  go_wp2
  refine bodyPost_ret (v := valV S g (wrapI S g (arI 1 g x y)) 0) ?_ rfl ⟨rfl, (Gr.below (by repeat (first | (with_reducible exact Gr.refl _) | with_reducible refine Gr.alloc ?_ _ | with_reducible refine Gr.more ?_ _ _ | with_reducible refine Gr.setCell ?_ (by dsimp only; omega) _ | with_reducible refine Gr.drew ?_)))⟩
  simp [results, Tryz.results33, go_sem, arI, *]

set_option maxHeartbeats 2000000 in
theorem rar_2 (S : Int) (g : Bool) (x y : Int) (w : World) : Calls Tryz.prog 33 #[.int .i64 2, tyV S g, .int .i64 x, .int .i64 y] w fun e w' => e = .returned (valV S g (wrapI S g (arI 2 g x y)) 0) ∧ Below w.heap.size w w' := by
  go_enter Tryz.func33, Tryz.ntmps33
  go_upto_region 21 with fail
  go_region_held3 (fun w' => w'.cell? ⟨w.heap.size, 0, none⟩ = some (.int .i64 S) ∧ w'.cell? ⟨w.heap.size, 1, none⟩ = some (.bool g)) (exact ⟨by go_simp, by go_simp⟩) (first | (go_at_call 19; (refine (rwrapped_any _ _ _ _).mono ?_); rintro e w1 ⟨rfl, hb⟩; obtain ⟨os, n, rfl⟩ := Below.moreE hb; clear hb))
  go_wp2
  refine bodyPost_ret (v := valV S g (wrapI S g (arI 2 g x y)) 0) ?_ rfl ⟨rfl, (Gr.below (by repeat (first | (with_reducible exact Gr.refl _) | with_reducible refine Gr.alloc ?_ _ | with_reducible refine Gr.more ?_ _ _ | with_reducible refine Gr.setCell ?_ (by dsimp only; omega) _ | with_reducible refine Gr.drew ?_)))⟩
  simp [results, Tryz.results33, go_sem, arI, *]

set_option maxHeartbeats 2000000 in
theorem rar_3 (S : Int) (g : Bool) (x y : Int) (w : World) : Calls Tryz.prog 33 #[.int .i64 3, tyV S g, .int .i64 x, .int .i64 y] w fun e w' => e = .returned (valV S g (wrapI S g (arI 3 g x y)) 0) ∧ Below w.heap.size w w' := by
  go_enter Tryz.func33, Tryz.ntmps33
  go_upto_region 21 with fail
  go_region_held3 (fun w' => w'.cell? ⟨w.heap.size, 0, none⟩ = some (.int .i64 S) ∧ w'.cell? ⟨w.heap.size, 1, none⟩ = some (.bool g)) (exact ⟨by go_simp, by go_simp⟩) (first | (go_at_call 19; (refine (rwrapped_any _ _ _ _).mono ?_); rintro e w1 ⟨rfl, hb⟩; obtain ⟨os, n, rfl⟩ := Below.moreE hb; clear hb))
  go_wp2
  refine bodyPost_ret (v := valV S g (wrapI S g (arI 3 g x y)) 0) ?_ rfl ⟨rfl, (Gr.below (by repeat (first | (with_reducible exact Gr.refl _) | with_reducible refine Gr.alloc ?_ _ | with_reducible refine Gr.more ?_ _ _ | with_reducible refine Gr.setCell ?_ (by dsimp only; omega) _ | with_reducible refine Gr.drew ?_)))⟩
  simp [results, Tryz.results33, go_sem, arI, *]

set_option maxHeartbeats 2000000 in
theorem rar_4 (S : Int) (g : Bool) (x y : Int) (h0 : y ≠ 0) (hu : u64 y ≠ 0) (w : World) : Calls Tryz.prog 33 #[.int .i64 4, tyV S g, .int .i64 x, .int .i64 y] w fun e w' => e = .returned (valV S g (wrapI S g (arI 4 g x y)) 0) ∧ Below w.heap.size w w' := by
  have HQ := fun w => rquotient_any S g x y w h0 hu
  have hy0 : (y == 0) = false := beq_eq_false_iff_ne.2 h0
  clear h0 hu
  go_enter Tryz.func33, Tryz.ntmps33
  go_upto_region 21 with (go_at_call 70; (refine (HQ _).mono ?_); rintro e w1 ⟨rfl, hb⟩; obtain ⟨os, n, rfl⟩ := Below.moreE hb; clear hb)
  go_region_held3 (fun w' => w'.cell? ⟨w.heap.size, 0, none⟩ = some (.int .i64 S) ∧ w'.cell? ⟨w.heap.size, 1, none⟩ = some (.bool g)) (exact ⟨by go_simp, by go_simp⟩) (first | (go_at_call 19; (refine (rwrapped_any _ _ _ _).mono ?_); rintro e w1 ⟨rfl, hb⟩; obtain ⟨os, n, rfl⟩ := Below.moreE hb; clear hb))
  go_wp2
  refine bodyPost_ret (v := valV S g (wrapI S g (arI 4 g x y)) 0) ?_ rfl ⟨rfl, (Gr.below (by repeat (first | (with_reducible exact Gr.refl _) | with_reducible refine Gr.alloc ?_ _ | with_reducible refine Gr.more ?_ _ _ | with_reducible refine Gr.setCell ?_ (by dsimp only; omega) _ | with_reducible refine Gr.drew ?_)))⟩
  simp [results, Tryz.results33, go_sem, arI, *]

set_option maxHeartbeats 2000000 in
theorem rar_5 (S : Int) (g : Bool) (x y : Int) (h0 : y ≠ 0) (hu : u64 y ≠ 0) (w : World) : Calls Tryz.prog 33 #[.int .i64 5, tyV S g, .int .i64 x, .int .i64 y] w fun e w' => e = .returned (valV S g (wrapI S g (arI 5 g x y)) 0) ∧ Below w.heap.size w w' := by
  have HQ := fun w => rquotient_any S g x y w h0 hu
  have hy0 : (y == 0) = false := beq_eq_false_iff_ne.2 h0
  clear h0 hu
  go_enter Tryz.func33, Tryz.ntmps33
  go_upto_region 21 with (go_at_call 70; (refine (HQ _).mono ?_); rintro e w1 ⟨rfl, hb⟩; obtain ⟨os, n, rfl⟩ := Below.moreE hb; clear hb)
  go_region_held3 (fun w' => w'.cell? ⟨w.heap.size, 0, none⟩ = some (.int .i64 S) ∧ w'.cell? ⟨w.heap.size, 1, none⟩ = some (.bool g)) (exact ⟨by go_simp, by go_simp⟩) (first | (go_at_call 19; (refine (rwrapped_any _ _ _ _).mono ?_); rintro e w1 ⟨rfl, hb⟩; obtain ⟨os, n, rfl⟩ := Below.moreE hb; clear hb))
  go_wp2
  refine bodyPost_ret (v := valV S g (wrapI S g (arI 5 g x y)) 0) ?_ rfl ⟨rfl, (Gr.below (by repeat (first | (with_reducible exact Gr.refl _) | with_reducible refine Gr.alloc ?_ _ | with_reducible refine Gr.more ?_ _ _ | with_reducible refine Gr.setCell ?_ (by dsimp only; omega) _ | with_reducible refine Gr.drew ?_)))⟩
  simp [results, Tryz.results33, go_sem, arI, *]

set_option maxHeartbeats 2000000 in
theorem rar_6 (S : Int) (g : Bool) (x y : Int) (w : World) : Calls Tryz.prog 33 #[.int .i64 6, tyV S g, .int .i64 x, .int .i64 y] w fun e w' => e = .returned (valV S g (wrapI S g (arI 6 g x y)) 0) ∧ Below w.heap.size w w' := by
  go_enter Tryz.func33, Tryz.ntmps33
  go_upto_region 21 with fail
  go_region_held3 (fun w' => w'.cell? ⟨w.heap.size, 0, none⟩ = some (.int .i64 S) ∧ w'.cell? ⟨w.heap.size, 1, none⟩ = some (.bool g)) (exact ⟨by go_simp, by go_simp⟩) (first | (go_at_call 19; (refine (rwrapped_any _ _ _ _).mono ?_); rintro e w1 ⟨rfl, hb⟩; obtain ⟨os, n, rfl⟩ := Below.moreE hb; clear hb))
  go_wp2
  refine bodyPost_ret (v := valV S g (wrapI S g (arI 6 g x y)) 0) ?_ rfl ⟨rfl, (Gr.below (by repeat (first | (with_reducible exact Gr.refl _) | with_reducible refine Gr.alloc ?_ _ | with_reducible refine Gr.more ?_ _ _ | with_reducible refine Gr.setCell ?_ (by dsimp only; omega) _ | with_reducible refine Gr.drew ?_)))⟩
  simp [results, Tryz.results33, go_sem, arI, *]

set_option maxHeartbeats 2000000 in
theorem rar_7 (S : Int) (g : Bool) (x y : Int) (w : World) : Calls Tryz.prog 33 #[.int .i64 7, tyV S g, .int .i64 x, .int .i64 y] w fun e w' => e = .returned (valV S g (wrapI S g (arI 7 g x y)) 0) ∧ Below w.heap.size w w' := by
  go_enter Tryz.func33, Tryz.ntmps33
  go_upto_region 21 with fail
  go_region_held3 (fun w' => w'.cell? ⟨w.heap.size, 0, none⟩ = some (.int .i64 S) ∧ w'.cell? ⟨w.heap.size, 1, none⟩ = some (.bool g)) (exact ⟨by go_simp, by go_simp⟩) (first | (go_at_call 19; (refine (rwrapped_any _ _ _ _).mono ?_); rintro e w1 ⟨rfl, hb⟩; obtain ⟨os, n, rfl⟩ := Below.moreE hb; clear hb))
  go_wp2
  refine bodyPost_ret (v := valV S g (wrapI S g (arI 7 g x y)) 0) ?_ rfl ⟨rfl, (Gr.below (by repeat (first | (with_reducible exact Gr.refl _) | with_reducible refine Gr.alloc ?_ _ | with_reducible refine Gr.more ?_ _ _ | with_reducible refine Gr.setCell ?_ (by dsimp only; omega) _ | with_reducible refine Gr.drew ?_)))⟩
  simp [results, Tryz.results33, go_sem, arI, *]

set_option maxHeartbeats 2000000 in
theorem rar_8 (S : Int) (g : Bool) (x y : Int) (w : World) : Calls Tryz.prog 33 #[.int .i64 8, tyV S g, .int .i64 x, .int .i64 y] w fun e w' => e = .returned (valV S g (wrapI S g (arI 8 g x y)) 0) ∧ Below w.heap.size w w' := by
  go_enter Tryz.func33, Tryz.ntmps33
  go_upto_region 21 with fail
  go_region_held3 (fun w' => w'.cell? ⟨w.heap.size, 0, none⟩ = some (.int .i64 S) ∧ w'.cell? ⟨w.heap.size, 1, none⟩ = some (.bool g)) (exact ⟨by go_simp, by go_simp⟩) (first | (go_at_call 19; (refine (rwrapped_any _ _ _ _).mono ?_); rintro e w1 ⟨rfl, hb⟩; obtain ⟨os, n, rfl⟩ := Below.moreE hb; clear hb))
  go_wp2
  refine bodyPost_ret (v := valV S g (wrapI S g (arI 8 g x y)) 0) ?_ rfl ⟨rfl, (Gr.below (by repeat (first | (with_reducible exact Gr.refl _) | with_reducible refine Gr.alloc ?_ _ | with_reducible refine Gr.more ?_ _ _ | with_reducible refine Gr.setCell ?_ (by dsimp only; omega) _ | with_reducible refine Gr.drew ?_)))⟩
  simp [results, Tryz.results33, go_sem, arI, *]

set_option maxHeartbeats 2000000 in
theorem rar_4z (S : Int) (g : Bool) (x : Int) (w : World) : Calls Tryz.prog 33 #[.int .i64 4, tyV S g, .int .i64 x, .int .i64 0] w fun e w' => e = .returned (valV 0 false 0 12) ∧ Below w.heap.size w w' := by
  go_enter Tryz.func33, Tryz.ntmps33
  go_wp2
  refine bodyPost_ret (v := valV 0 false 0 12) ?_ rfl ⟨rfl, (Gr.below (by repeat (first | (with_reducible exact Gr.refl _) | with_reducible refine Gr.alloc ?_ _ | with_reducible refine Gr.more ?_ _ _ | with_reducible refine Gr.setCell ?_ (by dsimp only; omega) _ | with_reducible refine Gr.drew ?_)))⟩
  simp [results, Tryz.results33, go_sem]

set_option maxHeartbeats 2000000 in
theorem rar_5z (S : Int) (g : Bool) (x : Int) (w : World) : Calls Tryz.prog 33 #[.int .i64 5, tyV S g, .int .i64 x, .int .i64 0] w fun e w' => e = .returned (valV 0 false 0 12) ∧ Below w.heap.size w w' := by
  go_enter Tryz.func33, Tryz.ntmps33
  go_wp2
  refine bodyPost_ret (v := valV 0 false 0 12) ?_ rfl ⟨rfl, (Gr.below (by repeat (first | (with_reducible exact Gr.refl _) | with_reducible refine Gr.alloc ?_ _ | with_reducible refine Gr.more ?_ _ _ | with_reducible refine Gr.setCell ?_ (by dsimp only; omega) _ | with_reducible refine Gr.drew ?_)))⟩
  simp [results, Tryz.results33, go_sem]

end Go.Proofs.YtojcdjpaojgkkaaGreatDoor

namespace Go.Proofs.YtojcdjpaojgkkaaGreatDoor
open Go.RowKit

def unD : DataW Unit := .map [(.int .i64 1, .lit (.int .i64 (39 : Nat))), (.int .i64 2, .lit (.int .i64 (40 : Nat))), (.int .i64 3, .lit (.int .i64 (41 : Nat)))]
set_option maxRecDepth 100000 in
set_option maxHeartbeats 1000000 in
theorem unary_any (w : World) : Calls Tryz.prog 15 #[] w fun e w' => e = .returned (.map (some w.heap.size)) ∧ FnMap w' w.heap.size 3 unD ∧ Below w.heap.size w w' := by
  have hmm := @run_makeMap Tryz.prog
  go_enter Tryz.func15, Tryz.ntmps15
  go_wp2_with first | (refine wpList_insert_own (w.alloc (.map #[] 0)) rfl _ _ _ 47 rfl 3 45 intKeyed Tryz.underlying47 fnElem w.heap.size 0 (.map []) rfl (World.ownsMap_made _ _ _ _) (by unfold maxLen; omega) _ _ _ rfl rfl (Maps.keyOf_int_mk Tryz.underlying3 (by decide)) _ [] (fnElem_fn _) ?_; intro w1 h1 g1) | (refine wpList_insert_own w1 rfl _ _ _ 47 rfl 3 45 intKeyed Tryz.underlying47 fnElem w.heap.size 1 _ rfl h1 (by unfold maxLen; omega) _ _ _ rfl rfl (Maps.keyOf_int_mk Tryz.underlying3 (by decide)) _ [] (fnElem_fn _) ?_; intro w2 h2 g2) | (refine wpList_insert_own w2 rfl _ _ _ 47 rfl 3 45 intKeyed Tryz.underlying47 fnElem w.heap.size 2 _ rfl h2 (by unfold maxLen; omega) _ _ _ rfl rfl (Maps.keyOf_int_mk Tryz.underlying3 (by decide)) _ [] (fnElem_fn _) ?_; intro w3 h3 g3)
  go_ret
  have sz0 : w.heap.size < (w.alloc (.map #[] 0)).heap.size := by simp
  have sz1 : w.heap.size < w1.heap.size := Nat.lt_of_lt_of_le sz0 g1.size
  have sz2 : w.heap.size < w2.heap.size := Nat.lt_of_lt_of_le sz1 g2.size
  have sz3 : w.heap.size < w3.heap.size := Nat.lt_of_lt_of_le sz2 g3.size
  exact ⟨rfl, h3, (((((Below.refl _ w).alloc (Nat.le_refl _) _)).grown g1 (by have := sz0; omega) (fun k hk => by cases hk; exact Nat.le_refl _)).grown g2 (by have := sz1; omega) (fun k hk => by cases hk; exact Nat.le_refl _)).grown g3 (by have := sz2; omega) (fun k hk => by cases hk; exact Nat.le_refl _)⟩

def unL : List (Int × Nat) := [(1, 39), (2, 40), (3, 41)]
theorem unary_zero (w : World) : (zeroValue 45).run Tryz.prog w = .ok .nilFunc w := by kernel_rfl
theorem unary_look (op : Int) (hw : (Lit.int .i64 op).wf = true) (fv : Value) (hh : Bool) (e1 : fnV unL op = fv) (e2 : fnH unL op = hh) (w : World) : Calls Tryz.prog 15 #[] w fun e w' => ∃ b : Nat, e = .returned (.map (some b)) ∧
    (∀ w'' : World, w''.heap[b]? = w'.heap[b]? → (Instr.lookup 47 (.map (some b)) (.int .i64 op) true).run Tryz.prog w'' = .ok (.tuple #[fv, .bool hh]) w'') ∧ Below w.heap.size w w' := by
  refine (unary_any w).mono ?_
  rintro e w' ⟨rfl, hm, hb⟩
  refine ⟨_, rfl, fun w'' hw'' => ?_, hb⟩
  rw [fnMap_look (l := unL) (show w'.ownsMap Tryz.prog 3 fnElem w.heap.size _ (fnD unL) from hm) Tryz.underlying3 Tryz.underlying47 unary_zero op hw w'' hw'', e1, e2]

theorem un1_any (v : Int) (w : World) : Calls Tryz.prog 39 #[.int .i64 v] w fun e w' => e = .returned (.int .i64 (wrap64 (-v))) ∧ w = w' := by
  go_enter Tryz.func39, Tryz.ntmps39
  go_wp2
  go_ret
  exact ⟨ret_int (by first | rfl | simp), rfl⟩
theorem un2_any (v : Int) (w : World) : Calls Tryz.prog 40 #[.int .i64 v] w fun e w' => e = .returned (.int .i64 (bits BinOp.xor .i64 (-1) v)) ∧ w = w' := by
  go_enter Tryz.func40, Tryz.ntmps40
  go_wp2
  go_ret
  exact ⟨ret_int (by first | rfl | simp), rfl⟩
theorem un3_any (v : Int) (w : World) : Calls Tryz.prog 41 #[.int .i64 v] w fun e w' => e = .returned (.int .i64 (sel (v == 0) 1 0)) ∧ w = w' := by
  go_enter Tryz.func41, Tryz.ntmps41
  go_wp2_with (go_at_call 27; (refine (truth_sel _ _).mono ?_); rintro e w1 ⟨rfl, rfl⟩)
  go_ret
  exact ⟨ret_int (by first | rfl | simp), rfl⟩
theorem bits_not (v : Int) (h1 : -9223372036854775808 ≤ v) (h2 : v ≤ 9223372036854775807) : bits BinOp.xor .i64 (-1) v = -v - 1 := by
  have e : bits BinOp.xor .i64 (-1) v = IntKind.i64.wrap ((BitVec.ofInt 64 (-1) ^^^ BitVec.ofInt 64 v).toNat : Int) := rfl
  rw [e, show BitVec.ofInt 64 (-1) = BitVec.allOnes 64 by decide, BitVec.allOnes_xor, BitVec.toNat_not, BitVec.toNat_ofInt]
  simp [IntKind.wrap, IntKind.bits, IntKind.signed]
  omega

set_option maxRecDepth 100000 in
set_option maxHeartbeats 2000000 in
theorem bun_bad (op : Int) {s : Int} (v : validB s = false) (g : Bool) (a : Int) (w : World) : Calls Tryz.prog 5 #[.int .i64 op, tyV s g, .int .i64 a] w fun e w' => e = .returned (triV 0 false 0 10) ∧ Below w.heap.size w w' := by
  go_enter Tryz.func5, Tryz.ntmps5
  go_wp2_with (go_at_call 14; (refine (valid_any _ _ _).mono ?_); rintro e w1 ⟨rfl, hb⟩; obtain ⟨os, n, rfl⟩ := Below.moreE hb; clear hb)
  refine bodyPost_ret (v := triV 0 false 0 10) ?_ rfl ⟨rfl, (Gr.below (by repeat (first | (with_reducible exact Gr.refl _) | with_reducible refine Gr.alloc ?_ _ | with_reducible refine Gr.more ?_ _ _ | with_reducible refine Gr.setCell ?_ (by dsimp only; omega) _ | with_reducible refine Gr.drew ?_)))⟩
  simp [results, Tryz.results5, go_sem, triV]
set_option maxRecDepth 100000 in
set_option maxHeartbeats 2000000 in
theorem bun_none (op : Int) (hw : (Lit.int .i64 op).wf = true) (e1 : fnV unL op = .nilFunc) (e2 : fnH unL op = false) {s : Int} (v : validB s = true) (g : Bool) (a : Int) (w : World) : Calls Tryz.prog 5 #[.int .i64 op, tyV s g, .int .i64 a] w fun e w' => e = .returned (triV 0 false 0 11) ∧ Below w.heap.size w w' := by
  have A1 := Lib.hid e1
  have A2 := Lib.hid e2
  clear e1 e2
  go_enter Tryz.func5, Tryz.ntmps5
  go_wp2_with first | (go_at_call 14; (refine (valid_any _ _ _).mono ?_); rintro e w1 ⟨rfl, hb⟩; obtain ⟨os, n, rfl⟩ := Below.moreE hb; clear hb) | (go_at_call 15; (refine (unary_look op hw .nilFunc false A1.out A2.out _).mono ?_); rintro e w1 ⟨bm, rfl, hl, hb⟩; obtain ⟨os, n, rfl⟩ := Below.moreE hb; clear hb)
  refine bodyPost_ret (v := triV 0 false 0 11) ?_ rfl ⟨rfl, (Gr.below (by repeat (first | (with_reducible exact Gr.refl _) | with_reducible refine Gr.alloc ?_ _ | with_reducible refine Gr.more ?_ _ _ | with_reducible refine Gr.setCell ?_ (by dsimp only; omega) _ | with_reducible refine Gr.drew ?_)))⟩
  simp [results, Tryz.results5, go_sem, triV]
end Go.Proofs.YtojcdjpaojgkkaaGreatDoor

namespace Go.Proofs.YtojcdjpaojgkkaaGreatDoor
open Go.RowKit

set_option maxRecDepth 100000 in
set_option maxHeartbeats 4000000 in
theorem run_1 {s : Int} (v : validB s = true) (g : Bool) (a : Int) (w : World) (hq : PR8 w) : Calls Tryz.prog 6 #[.int .i64 1, tyV s g, .int .i64 a] w fun e w' => e = .returned (valV (prS s) (prG s g) (wrapI (prS s) (prG s g) (wrap64 (-(wrapI s g a)))) 0) ∧ Below w.heap.size w w' := by
  have HK := rcheck_ok v g
  have HP := rpromoted_any s g
  obtain ⟨q0, q1, q2, q3, q4, q5, q6, q7⟩ := hq
  have zq := szc q0
  go_enter Tryz.func6, Tryz.ntmps6
  go_upto_region 5 with first | (go_at_call 18; (refine (HK _).mono ?_); rintro e w1 ⟨rfl, hb⟩; obtain ⟨os, n, rfl⟩ := Below.moreE hb; clear hb) | (go_at_call 19; (refine (rwrapped_any _ _ _ _).mono ?_); rintro e w1 ⟨rfl, hb⟩; obtain ⟨os, n, rfl⟩ := Below.moreE hb; clear hb)
  go_cut [8] (fun s8 wx => ∃ B : Nat, s8 = .pointer (some ⟨B, 0, none⟩) ∧ (w.heap.size + 2 ≤ B ∧ B < wx.heap.size) ∧ wx.cell? ⟨B, 0, none⟩ = some (.int .i64 (prS s)) ∧ wx.cell? ⟨B, 1, none⟩ = some (.bool (prG s g)) ∧
    wx.cell? ⟨w.heap.size + 1, 0, none⟩ = some (.int .i64 0) ∧ wx.cell? ⟨w.heap.size + 1, 1, none⟩ = some (.bool false) ∧ wx.cell? ⟨w.heap.size + 1, 2, none⟩ = some (.int .i64 0) ∧ wx.cell? ⟨w.heap.size + 1, 3, none⟩ = some (.int .i64 0) ∧
    wx.frozen? ⟨w.heap.size + 1, 0, none⟩ = false ∧ wx.frozen? ⟨w.heap.size + 1, 1, none⟩ = false ∧ wx.frozen? ⟨w.heap.size + 1, 2, none⟩ = false ∧ wx.frozen? ⟨w.heap.size + 1, 3, none⟩ = false ∧ Below w.heap.size w wx)
  case first =>
    go_wp2_with (go_at_call 20; (refine (HP _ ?hpp).mono ?_; case hpp => exact ⟨by go_simp, by go_simp, by go_simp, by go_simp, by go_simp, by go_simp, by go_simp, by go_simp⟩); rintro e w1 ⟨rfl, hb⟩; obtain ⟨os, n, rfl⟩ := Below.moreE hb; clear hb)
    go_meet
    exact ⟨_, rfl, ⟨by simp <;> omega, by simp <;> omega⟩, by go_simp, by go_simp, by go_simp, by go_simp, by go_simp, by go_simp, by go_simp, by go_simp, by go_simp, by go_simp, (Gr.below (by repeat (first | (with_reducible exact Gr.refl _) | with_reducible refine Gr.alloc ?_ _ | with_reducible refine Gr.more ?_ _ _ | with_reducible refine Gr.setCell ?_ (by dsimp only; omega) _ | with_reducible refine Gr.drew ?_)))⟩
  case rest =>
  obtain ⟨B, rfl, ⟨b0, b1⟩, c0, c1, r0, r1, r2, r3, f0, f1, f2, f3, hB⟩ := hcut
  have hG : Gr w.heap.size w wc := ⟨hB, by omega⟩
  clear q0 q1 q2 q3 q4 q5 q6 q7 zq hB HP HK
  go_upto_region 8 with fail
  go_region_held3 (fun w' => w'.cell? ⟨B, 0, none⟩ = some (.int .i64 (prS s)) ∧ w'.cell? ⟨B, 1, none⟩ = some (.bool (prG s g))) (exact ⟨by go_simp, by go_simp⟩) (first | (go_at_call 19; (refine (rwrapped_any _ _ _ _).mono ?_); rintro e w1 ⟨rfl, hb⟩; obtain ⟨os, n, rfl⟩ := Below.moreE hb; clear hb))
  go_wp2
  refine bodyPost_ret (v := valV (prS s) (prG s g) (wrapI (prS s) (prG s g) (wrap64 (-(wrapI s g a)))) 0) ?_ rfl ⟨rfl, ?_⟩
  · simp [results, Tryz.results6, go_sem, *]
    simp only [IntKind.wrap_i64, wrap64]
  · refine Gr.below ?_
    repeat (first | (with_reducible exact hG) | with_reducible refine Gr.alloc ?_ _ | with_reducible refine Gr.more ?_ _ _ | with_reducible refine Gr.setCell ?_ (by dsimp only; omega) _ | with_reducible refine Gr.drew ?_)

set_option maxRecDepth 100000 in
set_option maxHeartbeats 4000000 in
theorem run_2 {s : Int} (v : validB s = true) (g : Bool) (a : Int) (w : World) (hq : PR8 w) : Calls Tryz.prog 6 #[.int .i64 2, tyV s g, .int .i64 a] w fun e w' => e = .returned (valV (prS s) (prG s g) (wrapI (prS s) (prG s g) (wrap64 (wrap64 (-(wrapI s g a)) - 1))) 0) ∧ Below w.heap.size w w' := by
  have HK := rcheck_ok v g
  have HP := rpromoted_any s g
  obtain ⟨q0, q1, q2, q3, q4, q5, q6, q7⟩ := hq
  have zq := szc q0
  go_enter Tryz.func6, Tryz.ntmps6
  go_upto_region 5 with first | (go_at_call 18; (refine (HK _).mono ?_); rintro e w1 ⟨rfl, hb⟩; obtain ⟨os, n, rfl⟩ := Below.moreE hb; clear hb) | (go_at_call 19; (refine (rwrapped_any _ _ _ _).mono ?_); rintro e w1 ⟨rfl, hb⟩; obtain ⟨os, n, rfl⟩ := Below.moreE hb; clear hb)
  go_cut [8] (fun s8 wx => ∃ B : Nat, s8 = .pointer (some ⟨B, 0, none⟩) ∧ (w.heap.size + 2 ≤ B ∧ B < wx.heap.size) ∧ wx.cell? ⟨B, 0, none⟩ = some (.int .i64 (prS s)) ∧ wx.cell? ⟨B, 1, none⟩ = some (.bool (prG s g)) ∧
    wx.cell? ⟨w.heap.size + 1, 0, none⟩ = some (.int .i64 0) ∧ wx.cell? ⟨w.heap.size + 1, 1, none⟩ = some (.bool false) ∧ wx.cell? ⟨w.heap.size + 1, 2, none⟩ = some (.int .i64 0) ∧ wx.cell? ⟨w.heap.size + 1, 3, none⟩ = some (.int .i64 0) ∧
    wx.frozen? ⟨w.heap.size + 1, 0, none⟩ = false ∧ wx.frozen? ⟨w.heap.size + 1, 1, none⟩ = false ∧ wx.frozen? ⟨w.heap.size + 1, 2, none⟩ = false ∧ wx.frozen? ⟨w.heap.size + 1, 3, none⟩ = false ∧ Below w.heap.size w wx)
  case first =>
    go_wp2_with (go_at_call 20; (refine (HP _ ?hpp).mono ?_; case hpp => exact ⟨by go_simp, by go_simp, by go_simp, by go_simp, by go_simp, by go_simp, by go_simp, by go_simp⟩); rintro e w1 ⟨rfl, hb⟩; obtain ⟨os, n, rfl⟩ := Below.moreE hb; clear hb)
    go_meet
    exact ⟨_, rfl, ⟨by simp <;> omega, by simp <;> omega⟩, by go_simp, by go_simp, by go_simp, by go_simp, by go_simp, by go_simp, by go_simp, by go_simp, by go_simp, by go_simp, (Gr.below (by repeat (first | (with_reducible exact Gr.refl _) | with_reducible refine Gr.alloc ?_ _ | with_reducible refine Gr.more ?_ _ _ | with_reducible refine Gr.setCell ?_ (by dsimp only; omega) _ | with_reducible refine Gr.drew ?_)))⟩
  case rest =>
  obtain ⟨B, rfl, ⟨b0, b1⟩, c0, c1, r0, r1, r2, r3, f0, f1, f2, f3, hB⟩ := hcut
  have hG : Gr w.heap.size w wc := ⟨hB, by omega⟩
  clear q0 q1 q2 q3 q4 q5 q6 q7 zq hB HP HK
  go_upto_region 10 with fail
  go_region_held3 (fun w' => w'.cell? ⟨B, 0, none⟩ = some (.int .i64 (prS s)) ∧ w'.cell? ⟨B, 1, none⟩ = some (.bool (prG s g))) (exact ⟨by go_simp, by go_simp⟩) (first | (go_at_call 19; (refine (rwrapped_any _ _ _ _).mono ?_); rintro e w1 ⟨rfl, hb⟩; obtain ⟨os, n, rfl⟩ := Below.moreE hb; clear hb))
  go_wp2
  refine bodyPost_ret (v := valV (prS s) (prG s g) (wrapI (prS s) (prG s g) (wrap64 (wrap64 (-(wrapI s g a)) - 1))) 0) ?_ rfl ⟨rfl, ?_⟩
  · simp [results, Tryz.results6, go_sem, *]
    simp only [IntKind.wrap_i64, wrap64]
  · refine Gr.below ?_
    repeat (first | (with_reducible exact hG) | with_reducible refine Gr.alloc ?_ _ | with_reducible refine Gr.more ?_ _ _ | with_reducible refine Gr.setCell ?_ (by dsimp only; omega) _ | with_reducible refine Gr.drew ?_)

set_option maxRecDepth 100000 in
set_option maxHeartbeats 4000000 in
theorem run_3 {s : Int} (v : validB s = true) (g : Bool) (a : Int) (w : World) (hq : PR8 w) : Calls Tryz.prog 6 #[.int .i64 3, tyV s g, .int .i64 a] w fun e w' => e = .returned (valV 4 true (sel (wrapI s g a == 0) 1 0) 0) ∧ Below w.heap.size w w' := by
  have HK := rcheck_ok v g
  have HP := rpromoted_any s g
  obtain ⟨q0, q1, q2, q3, q4, q5, q6, q7⟩ := hq
  have zq := szc q0
  cases h0 : (wrapI s g a == 0)
  all_goals
    go_enter Tryz.func6, Tryz.ntmps6
    go_wp2_with first | (go_at_call 18; (refine (HK _).mono ?_); rintro e w1 ⟨rfl, hb⟩; obtain ⟨os, n, rfl⟩ := Below.moreE hb; clear hb) | (go_at_call 19; (refine (rwrapped_any _ _ _ _).mono ?_); rintro e w1 ⟨rfl, hb⟩; obtain ⟨os, n, rfl⟩ := Below.moreE hb; clear hb) | (go_at_call 20; (refine (HP _ ?hpp).mono ?_; case hpp => exact ⟨by go_simp, by go_simp, by go_simp, by go_simp, by go_simp, by go_simp, by go_simp, by go_simp⟩); rintro e w1 ⟨rfl, hb⟩; obtain ⟨os, n, rfl⟩ := Below.moreE hb; clear hb) | (go_at_call 21; (refine (rtruth_any _ _ ?hpp).mono ?_; case hpp => exact ⟨by go_simp, by go_simp⟩); rintro e w1 ⟨rfl, hb⟩; obtain ⟨os, n, rfl⟩ := Below.moreE hb; clear hb)
  · refine bodyPost_ret (v := valV 4 true (sel false 1 0) 0) (by simp [results, Tryz.results6, go_sem, sel]) rfl ⟨rfl, (Gr.below (by repeat (first | (with_reducible exact Gr.refl _) | with_reducible refine Gr.alloc ?_ _ | with_reducible refine Gr.more ?_ _ _ | with_reducible refine Gr.setCell ?_ (by dsimp only; omega) _ | with_reducible refine Gr.drew ?_)))⟩
  · refine bodyPost_ret (v := valV 4 true (sel true 1 0) 0) (by simp [results, Tryz.results6, go_sem, sel]) rfl ⟨rfl, (Gr.below (by repeat (first | (with_reducible exact Gr.refl _) | with_reducible refine Gr.alloc ?_ _ | with_reducible refine Gr.more ?_ _ _ | with_reducible refine Gr.setCell ?_ (by dsimp only; omega) _ | with_reducible refine Gr.drew ?_)))⟩
end Go.Proofs.YtojcdjpaojgkkaaGreatDoor

namespace Go.Proofs.YtojcdjpaojgkkaaGreatDoor
open Go.RowKit

set_option maxRecDepth 100000 in
set_option maxHeartbeats 4000000 in
theorem bun_1 {s : Int} (v : validB s = true) (g : Bool) (a : Int) (w : World) (hp : PI w) : Calls Tryz.prog 5 #[.int .i64 1, tyV s g, .int .i64 a] w fun e w' => e = .returned (triV (prS s) (prG s g) (wrapI (prS s) (prG s g) (wrap64 (-(wrapI s g a)))) 0) ∧ Below w.heap.size w w' := by
  obtain ⟨p0, p1, hsz⟩ := hp
  go_enter Tryz.func5, Tryz.ntmps5
  go_upto_region 6 with first | (go_at_call 14; (refine (valid_any _ _ _).mono ?_); rintro e w1 ⟨rfl, hb⟩; obtain ⟨os, n, rfl⟩ := Below.moreE hb; clear hb) | (go_at_call 15; (refine (unary_look 1 (by decide) (.func (.func 39) #[] #[]) true rfl rfl _).mono ?_); rintro e w1 ⟨bm, rfl, hl, hb⟩; obtain ⟨os, n, rfl⟩ := Below.moreE hb; clear hb)
  clear hl
  go_cut [11] (fun s11 wx => ∃ B : Nat, s11 = .pointer (some ⟨B, 0, none⟩) ∧ (w.heap.size + 2 ≤ B ∧ B < wx.heap.size) ∧ wx.cell? ⟨B, 0, none⟩ = some (.int .i64 (prS s)) ∧ wx.cell? ⟨B, 1, none⟩ = some (.bool (prG s g)) ∧ wx.frozen? ⟨B, 0, none⟩ = false ∧ wx.frozen? ⟨B, 1, none⟩ = false ∧
    wx.cell? ⟨w.heap.size, 0, none⟩ = some (.int .i64 s) ∧ wx.cell? ⟨w.heap.size, 1, none⟩ = some (.bool g) ∧
    wx.cell? ⟨w.heap.size + 1, 0, none⟩ = some (.int .i64 0) ∧ wx.cell? ⟨w.heap.size + 1, 1, none⟩ = some (.bool false) ∧ wx.frozen? ⟨w.heap.size + 1, 0, none⟩ = false ∧ wx.frozen? ⟨w.heap.size + 1, 1, none⟩ = false ∧ Below w.heap.size w wx ∧ wx.cell? ⟨0, 0, none⟩ = some (.int .i64 4) ∧ wx.cell? ⟨0, 1, none⟩ = some (.bool true))
  case first =>
    go_wp2_with (go_at_call 16; (refine (promoted_any _ _ _ ?hpp).mono ?_; case hpp => exact ⟨by go_simp, by go_simp, by go_simp <;> omega⟩); rintro e w1 ⟨rfl, hb⟩; obtain ⟨os, n, rfl⟩ := Below.moreE hb; clear hb)
    go_meet
    exact ⟨_, rfl, ⟨by simp <;> omega, by simp <;> omega⟩, by go_simp, by go_simp, by go_simp, by go_simp, by go_simp, by go_simp, by go_simp, by go_simp, by go_simp, by go_simp, (Gr.below (by repeat (first | (with_reducible exact Gr.refl _) | with_reducible refine Gr.alloc ?_ _ | with_reducible refine Gr.more ?_ _ _ | with_reducible refine Gr.setCell ?_ (by dsimp only; omega) _ | with_reducible refine Gr.drew ?_))), by go_simp, by go_simp⟩
  case rest =>
  obtain ⟨B, rfl, ⟨b0, b1⟩, c0, c1, d0, d1, a0, a1, r0, r1, f0, f1, hB, q0, q1⟩ := hcut
  have hG : Gr w.heap.size w wc := ⟨hB, by omega⟩
  clear p0 p1 hB
  go_upto_region 9 with fail
  go_region_held3 (fun w' => w'.cell? ⟨B, 0, none⟩ = some (.int .i64 (prS s)) ∧ w'.cell? ⟨B, 1, none⟩ = some (.bool (prG s g)) ∧ w'.cell? ⟨w.heap.size, 0, none⟩ = some (.int .i64 s) ∧ w'.cell? ⟨w.heap.size, 1, none⟩ = some (.bool g)) (exact ⟨by go_simp, by go_simp, by go_simp, by go_simp⟩) (first | (go_at_call 17; (refine (wrap_any _ _ _ _).mono ?_); rintro e w1 ⟨rfl, hb⟩; obtain ⟨os, n, rfl⟩ := Below.moreE hb; clear hb) | (go_at_call 39; (refine (un1_any _ _).mono ?_); rintro e w1 ⟨rfl, rfl⟩))
  go_wp2
  refine bodyPost_ret (v := triV (prS s) (prG s g) (wrapI (prS s) (prG s g) (wrap64 (-(wrapI s g a)))) 0) ?_ rfl ⟨rfl, ?_⟩
  · simp [results, Tryz.results5, go_sem, triV, *]
  · refine Gr.below ?_
    repeat (first | (with_reducible exact hG) | with_reducible refine Gr.alloc ?_ _ | with_reducible refine Gr.more ?_ _ _ | with_reducible refine Gr.setCell ?_ (by dsimp only; omega) _ | with_reducible refine Gr.drew ?_)

set_option maxRecDepth 100000 in
set_option maxHeartbeats 4000000 in
theorem bun_2 {s : Int} (v : validB s = true) (g : Bool) (a : Int) (w : World) (hp : PI w) : Calls Tryz.prog 5 #[.int .i64 2, tyV s g, .int .i64 a] w fun e w' => e = .returned (triV (prS s) (prG s g) (wrapI (prS s) (prG s g) (bits BinOp.xor .i64 (-1) (wrapI s g a))) 0) ∧ Below w.heap.size w w' := by
  obtain ⟨p0, p1, hsz⟩ := hp
  go_enter Tryz.func5, Tryz.ntmps5
  go_upto_region 6 with first | (go_at_call 14; (refine (valid_any _ _ _).mono ?_); rintro e w1 ⟨rfl, hb⟩; obtain ⟨os, n, rfl⟩ := Below.moreE hb; clear hb) | (go_at_call 15; (refine (unary_look 2 (by decide) (.func (.func 40) #[] #[]) true rfl rfl _).mono ?_); rintro e w1 ⟨bm, rfl, hl, hb⟩; obtain ⟨os, n, rfl⟩ := Below.moreE hb; clear hb)
  clear hl
  go_cut [11] (fun s11 wx => ∃ B : Nat, s11 = .pointer (some ⟨B, 0, none⟩) ∧ (w.heap.size + 2 ≤ B ∧ B < wx.heap.size) ∧ wx.cell? ⟨B, 0, none⟩ = some (.int .i64 (prS s)) ∧ wx.cell? ⟨B, 1, none⟩ = some (.bool (prG s g)) ∧ wx.frozen? ⟨B, 0, none⟩ = false ∧ wx.frozen? ⟨B, 1, none⟩ = false ∧
    wx.cell? ⟨w.heap.size, 0, none⟩ = some (.int .i64 s) ∧ wx.cell? ⟨w.heap.size, 1, none⟩ = some (.bool g) ∧
    wx.cell? ⟨w.heap.size + 1, 0, none⟩ = some (.int .i64 0) ∧ wx.cell? ⟨w.heap.size + 1, 1, none⟩ = some (.bool false) ∧ wx.frozen? ⟨w.heap.size + 1, 0, none⟩ = false ∧ wx.frozen? ⟨w.heap.size + 1, 1, none⟩ = false ∧ Below w.heap.size w wx ∧ wx.cell? ⟨0, 0, none⟩ = some (.int .i64 4) ∧ wx.cell? ⟨0, 1, none⟩ = some (.bool true))
  case first =>
    go_wp2_with (go_at_call 16; (refine (promoted_any _ _ _ ?hpp).mono ?_; case hpp => exact ⟨by go_simp, by go_simp, by go_simp <;> omega⟩); rintro e w1 ⟨rfl, hb⟩; obtain ⟨os, n, rfl⟩ := Below.moreE hb; clear hb)
    go_meet
    exact ⟨_, rfl, ⟨by simp <;> omega, by simp <;> omega⟩, by go_simp, by go_simp, by go_simp, by go_simp, by go_simp, by go_simp, by go_simp, by go_simp, by go_simp, by go_simp, (Gr.below (by repeat (first | (with_reducible exact Gr.refl _) | with_reducible refine Gr.alloc ?_ _ | with_reducible refine Gr.more ?_ _ _ | with_reducible refine Gr.setCell ?_ (by dsimp only; omega) _ | with_reducible refine Gr.drew ?_))), by go_simp, by go_simp⟩
  case rest =>
  obtain ⟨B, rfl, ⟨b0, b1⟩, c0, c1, d0, d1, a0, a1, r0, r1, f0, f1, hB, q0, q1⟩ := hcut
  have hG : Gr w.heap.size w wc := ⟨hB, by omega⟩
  clear p0 p1 hB
  go_upto_region 9 with fail
  go_region_held3 (fun w' => w'.cell? ⟨B, 0, none⟩ = some (.int .i64 (prS s)) ∧ w'.cell? ⟨B, 1, none⟩ = some (.bool (prG s g)) ∧ w'.cell? ⟨w.heap.size, 0, none⟩ = some (.int .i64 s) ∧ w'.cell? ⟨w.heap.size, 1, none⟩ = some (.bool g)) (exact ⟨by go_simp, by go_simp, by go_simp, by go_simp⟩) (first | (go_at_call 17; (refine (wrap_any _ _ _ _).mono ?_); rintro e w1 ⟨rfl, hb⟩; obtain ⟨os, n, rfl⟩ := Below.moreE hb; clear hb) | (go_at_call 40; (refine (un2_any _ _).mono ?_); rintro e w1 ⟨rfl, rfl⟩))
  go_wp2
  refine bodyPost_ret (v := triV (prS s) (prG s g) (wrapI (prS s) (prG s g) (bits BinOp.xor .i64 (-1) (wrapI s g a))) 0) ?_ rfl ⟨rfl, ?_⟩
  · simp [results, Tryz.results5, go_sem, triV, *]
  · refine Gr.below ?_
    repeat (first | (with_reducible exact hG) | with_reducible refine Gr.alloc ?_ _ | with_reducible refine Gr.more ?_ _ _ | with_reducible refine Gr.setCell ?_ (by dsimp only; omega) _ | with_reducible refine Gr.drew ?_)

set_option maxRecDepth 100000 in
set_option maxHeartbeats 4000000 in
theorem bun_3 {s : Int} (v : validB s = true) (g : Bool) (a : Int) (w : World) (hp : PI w) : Calls Tryz.prog 5 #[.int .i64 3, tyV s g, .int .i64 a] w fun e w' => e = .returned (triV 4 true (wrapI 4 true (sel (wrapI s g a == 0) 1 0)) 0) ∧ Below w.heap.size w w' := by
  obtain ⟨p0, p1, hsz⟩ := hp
  go_enter Tryz.func5, Tryz.ntmps5
  go_upto_region 6 with first | (go_at_call 14; (refine (valid_any _ _ _).mono ?_); rintro e w1 ⟨rfl, hb⟩; obtain ⟨os, n, rfl⟩ := Below.moreE hb; clear hb) | (go_at_call 15; (refine (unary_look 3 (by decide) (.func (.func 41) #[] #[]) true rfl rfl _).mono ?_); rintro e w1 ⟨bm, rfl, hl, hb⟩; obtain ⟨os, n, rfl⟩ := Below.moreE hb; clear hb)
  clear hl
  go_cut [11] (fun s11 wx => ∃ B : Nat, s11 = .pointer (some ⟨B, 0, none⟩) ∧ (w.heap.size + 2 ≤ B ∧ B < wx.heap.size) ∧ wx.cell? ⟨B, 0, none⟩ = some (.int .i64 (prS s)) ∧ wx.cell? ⟨B, 1, none⟩ = some (.bool (prG s g)) ∧ wx.frozen? ⟨B, 0, none⟩ = false ∧ wx.frozen? ⟨B, 1, none⟩ = false ∧
    wx.cell? ⟨w.heap.size, 0, none⟩ = some (.int .i64 s) ∧ wx.cell? ⟨w.heap.size, 1, none⟩ = some (.bool g) ∧
    wx.cell? ⟨w.heap.size + 1, 0, none⟩ = some (.int .i64 0) ∧ wx.cell? ⟨w.heap.size + 1, 1, none⟩ = some (.bool false) ∧ wx.frozen? ⟨w.heap.size + 1, 0, none⟩ = false ∧ wx.frozen? ⟨w.heap.size + 1, 1, none⟩ = false ∧ Below w.heap.size w wx ∧ wx.cell? ⟨0, 0, none⟩ = some (.int .i64 4) ∧ wx.cell? ⟨0, 1, none⟩ = some (.bool true))
  case first =>
    go_wp2_with (go_at_call 16; (refine (promoted_any _ _ _ ?hpp).mono ?_; case hpp => exact ⟨by go_simp, by go_simp, by go_simp <;> omega⟩); rintro e w1 ⟨rfl, hb⟩; obtain ⟨os, n, rfl⟩ := Below.moreE hb; clear hb)
    go_meet
    exact ⟨_, rfl, ⟨by simp <;> omega, by simp <;> omega⟩, by go_simp, by go_simp, by go_simp, by go_simp, by go_simp, by go_simp, by go_simp, by go_simp, by go_simp, by go_simp, (Gr.below (by repeat (first | (with_reducible exact Gr.refl _) | with_reducible refine Gr.alloc ?_ _ | with_reducible refine Gr.more ?_ _ _ | with_reducible refine Gr.setCell ?_ (by dsimp only; omega) _ | with_reducible refine Gr.drew ?_))), by go_simp, by go_simp⟩
  case rest =>
  obtain ⟨B, rfl, ⟨b0, b1⟩, c0, c1, d0, d1, a0, a1, r0, r1, f0, f1, hB, q0, q1⟩ := hcut
  have hG : Gr w.heap.size w wc := ⟨hB, by omega⟩
  clear p0 p1 hB
  go_upto_region 9 with fail
  go_region_held3 (fun w' => w'.cell? ⟨B, 0, none⟩ = some (.int .i64 4) ∧ w'.cell? ⟨B, 1, none⟩ = some (.bool true) ∧ w'.cell? ⟨w.heap.size, 0, none⟩ = some (.int .i64 s) ∧ w'.cell? ⟨w.heap.size, 1, none⟩ = some (.bool g)) (exact ⟨by go_simp, by go_simp, by go_simp, by go_simp⟩) (first | (go_at_call 17; (refine (wrap_any _ _ _ _).mono ?_); rintro e w1 ⟨rfl, hb⟩; obtain ⟨os, n, rfl⟩ := Below.moreE hb; clear hb) | (go_at_call 41; (refine (un3_any _ _).mono ?_); rintro e w1 ⟨rfl, rfl⟩))
  go_wp2
  refine bodyPost_ret (v := triV 4 true (wrapI 4 true (sel (wrapI s g a == 0) 1 0)) 0) ?_ rfl ⟨rfl, ?_⟩
  · simp [results, Tryz.results5, go_sem, triV, *]
  · refine Gr.below ?_
    repeat (first | (with_reducible exact hG) | with_reducible refine Gr.alloc ?_ _ | with_reducible refine Gr.more ?_ _ _ | with_reducible refine Gr.setCell ?_ (by dsimp only; omega) _ | with_reducible refine Gr.drew ?_)
end Go.Proofs.YtojcdjpaojgkkaaGreatDoor

