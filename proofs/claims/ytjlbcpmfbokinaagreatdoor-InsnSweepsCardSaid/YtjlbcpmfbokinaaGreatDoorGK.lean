/-
  Layer 2, the reference: Form, Operands (made by genha.py).
  Layer 2, the reference: fits, Check, Len (made by genhb.py).
  Layer 2, the reference: groups, Encode (made by genhc.py).
-/
import Derived.Test.YtjlbcpmfbokinaaGreatDoorGB
import Derived.Test.YtjlbcpmfbokinaaGreatDoorGA
import Derived.Test.YtjlbcpmfbokinaaGreatDoorIk
set_option linter.unusedSimpArgs false
set_option linter.unusedVariables false
namespace Go.Proofs.YtjlbcpmfbokinaaGreatDoor
open Go.RowKit

/-- The form of a shape, of an operation. -/
def fmS (s : Nat) : Int := [1, 8, 2, 3, 4, 5, 5, 6, 7, 9, 10, 11].getD s 0
def fmO (op : Int) : Int := if knO op then fmS (rowO op).sh else 0
theorem rowO_at {k : Nat} (h : k < 35) : rowO (opAt k).op = opAt k ∧ knO (opAt k).op = true := by
  have e : ∀ k : Fin 35, ixO (opAt k.1).op = k.1 := by decide
  have e1 := e ⟨k, h⟩
  dsimp only at e1
  refine ⟨by unfold rowO; rw [e1], ?_⟩
  unfold knO
  rw [e1]
  exact decide_eq_true h
set_option maxRecDepth 100000 in
theorem form_at : ∀ (k : Nat), k < 35 → ∀ (w : World), Calls Tryz.prog 34 #[.int .i64 (opAt k).op] w fun e w' => e = .returned (.int .i64 (fmS (opAt k).sh)) ∧ w = w'
  | 0, _, w => by
    show Calls Tryz.prog 34 #[.int .i64 1] w _
    go_enter Tryz.func34, Tryz.ntmps34
    go_wp2_with fail
    go_ret
    exact ⟨rfl, rfl⟩
  | 1, _, w => by
    show Calls Tryz.prog 34 #[.int .i64 2] w _
    go_enter Tryz.func34, Tryz.ntmps34
    go_wp2_with fail
    go_ret
    exact ⟨rfl, rfl⟩
  | 2, _, w => by
    show Calls Tryz.prog 34 #[.int .i64 3] w _
    go_enter Tryz.func34, Tryz.ntmps34
    go_wp2_with fail
    go_ret
    exact ⟨rfl, rfl⟩
  | 3, _, w => by
    show Calls Tryz.prog 34 #[.int .i64 4] w _
    go_enter Tryz.func34, Tryz.ntmps34
    go_wp2_with fail
    go_ret
    exact ⟨rfl, rfl⟩
  | 4, _, w => by
    show Calls Tryz.prog 34 #[.int .i64 5] w _
    go_enter Tryz.func34, Tryz.ntmps34
    go_wp2_with fail
    go_ret
    exact ⟨rfl, rfl⟩
  | 5, _, w => by
    show Calls Tryz.prog 34 #[.int .i64 6] w _
    go_enter Tryz.func34, Tryz.ntmps34
    go_wp2_with fail
    go_ret
    exact ⟨rfl, rfl⟩
  | 6, _, w => by
    show Calls Tryz.prog 34 #[.int .i64 7] w _
    go_enter Tryz.func34, Tryz.ntmps34
    go_wp2_with fail
    go_ret
    exact ⟨rfl, rfl⟩
  | 7, _, w => by
    show Calls Tryz.prog 34 #[.int .i64 8] w _
    go_enter Tryz.func34, Tryz.ntmps34
    go_wp2_with fail
    go_ret
    exact ⟨rfl, rfl⟩
  | 8, _, w => by
    show Calls Tryz.prog 34 #[.int .i64 9] w _
    go_enter Tryz.func34, Tryz.ntmps34
    go_wp2_with fail
    go_ret
    exact ⟨rfl, rfl⟩
  | 9, _, w => by
    show Calls Tryz.prog 34 #[.int .i64 10] w _
    go_enter Tryz.func34, Tryz.ntmps34
    go_wp2_with fail
    go_ret
    exact ⟨rfl, rfl⟩
  | 10, _, w => by
    show Calls Tryz.prog 34 #[.int .i64 11] w _
    go_enter Tryz.func34, Tryz.ntmps34
    go_wp2_with fail
    go_ret
    exact ⟨rfl, rfl⟩
  | 11, _, w => by
    show Calls Tryz.prog 34 #[.int .i64 12] w _
    go_enter Tryz.func34, Tryz.ntmps34
    go_wp2_with fail
    go_ret
    exact ⟨rfl, rfl⟩
  | 12, _, w => by
    show Calls Tryz.prog 34 #[.int .i64 13] w _
    go_enter Tryz.func34, Tryz.ntmps34
    go_wp2_with fail
    go_ret
    exact ⟨rfl, rfl⟩
  | 13, _, w => by
    show Calls Tryz.prog 34 #[.int .i64 14] w _
    go_enter Tryz.func34, Tryz.ntmps34
    go_wp2_with fail
    go_ret
    exact ⟨rfl, rfl⟩
  | 14, _, w => by
    show Calls Tryz.prog 34 #[.int .i64 15] w _
    go_enter Tryz.func34, Tryz.ntmps34
    go_wp2_with fail
    go_ret
    exact ⟨rfl, rfl⟩
  | 15, _, w => by
    show Calls Tryz.prog 34 #[.int .i64 16] w _
    go_enter Tryz.func34, Tryz.ntmps34
    go_wp2_with fail
    go_ret
    exact ⟨rfl, rfl⟩
  | 16, _, w => by
    show Calls Tryz.prog 34 #[.int .i64 17] w _
    go_enter Tryz.func34, Tryz.ntmps34
    go_wp2_with fail
    go_ret
    exact ⟨rfl, rfl⟩
  | 17, _, w => by
    show Calls Tryz.prog 34 #[.int .i64 18] w _
    go_enter Tryz.func34, Tryz.ntmps34
    go_wp2_with fail
    go_ret
    exact ⟨rfl, rfl⟩
  | 18, _, w => by
    show Calls Tryz.prog 34 #[.int .i64 19] w _
    go_enter Tryz.func34, Tryz.ntmps34
    go_wp2_with fail
    go_ret
    exact ⟨rfl, rfl⟩
  | 19, _, w => by
    show Calls Tryz.prog 34 #[.int .i64 20] w _
    go_enter Tryz.func34, Tryz.ntmps34
    go_wp2_with fail
    go_ret
    exact ⟨rfl, rfl⟩
  | 20, _, w => by
    show Calls Tryz.prog 34 #[.int .i64 21] w _
    go_enter Tryz.func34, Tryz.ntmps34
    go_wp2_with fail
    go_ret
    exact ⟨rfl, rfl⟩
  | 21, _, w => by
    show Calls Tryz.prog 34 #[.int .i64 22] w _
    go_enter Tryz.func34, Tryz.ntmps34
    go_wp2_with fail
    go_ret
    exact ⟨rfl, rfl⟩
  | 22, _, w => by
    show Calls Tryz.prog 34 #[.int .i64 23] w _
    go_enter Tryz.func34, Tryz.ntmps34
    go_wp2_with fail
    go_ret
    exact ⟨rfl, rfl⟩
  | 23, _, w => by
    show Calls Tryz.prog 34 #[.int .i64 24] w _
    go_enter Tryz.func34, Tryz.ntmps34
    go_wp2_with fail
    go_ret
    exact ⟨rfl, rfl⟩
  | 24, _, w => by
    show Calls Tryz.prog 34 #[.int .i64 25] w _
    go_enter Tryz.func34, Tryz.ntmps34
    go_wp2_with fail
    go_ret
    exact ⟨rfl, rfl⟩
  | 25, _, w => by
    show Calls Tryz.prog 34 #[.int .i64 26] w _
    go_enter Tryz.func34, Tryz.ntmps34
    go_wp2_with fail
    go_ret
    exact ⟨rfl, rfl⟩
  | 26, _, w => by
    show Calls Tryz.prog 34 #[.int .i64 27] w _
    go_enter Tryz.func34, Tryz.ntmps34
    go_wp2_with fail
    go_ret
    exact ⟨rfl, rfl⟩
  | 27, _, w => by
    show Calls Tryz.prog 34 #[.int .i64 28] w _
    go_enter Tryz.func34, Tryz.ntmps34
    go_wp2_with fail
    go_ret
    exact ⟨rfl, rfl⟩
  | 28, _, w => by
    show Calls Tryz.prog 34 #[.int .i64 29] w _
    go_enter Tryz.func34, Tryz.ntmps34
    go_wp2_with fail
    go_ret
    exact ⟨rfl, rfl⟩
  | 29, _, w => by
    show Calls Tryz.prog 34 #[.int .i64 30] w _
    go_enter Tryz.func34, Tryz.ntmps34
    go_wp2_with fail
    go_ret
    exact ⟨rfl, rfl⟩
  | 30, _, w => by
    show Calls Tryz.prog 34 #[.int .i64 31] w _
    go_enter Tryz.func34, Tryz.ntmps34
    go_wp2_with fail
    go_ret
    exact ⟨rfl, rfl⟩
  | 31, _, w => by
    show Calls Tryz.prog 34 #[.int .i64 32] w _
    go_enter Tryz.func34, Tryz.ntmps34
    go_wp2_with fail
    go_ret
    exact ⟨rfl, rfl⟩
  | 32, _, w => by
    show Calls Tryz.prog 34 #[.int .i64 33] w _
    go_enter Tryz.func34, Tryz.ntmps34
    go_wp2_with fail
    go_ret
    exact ⟨rfl, rfl⟩
  | 33, _, w => by
    show Calls Tryz.prog 34 #[.int .i64 34] w _
    go_enter Tryz.func34, Tryz.ntmps34
    go_wp2_with fail
    go_ret
    exact ⟨rfl, rfl⟩
  | 34, _, w => by
    show Calls Tryz.prog 34 #[.int .i64 76] w _
    go_enter Tryz.func34, Tryz.ntmps34
    go_wp2_with fail
    go_ret
    exact ⟨rfl, rfl⟩
  | k + 35, h, _ => absurd h (by omega)
set_option maxRecDepth 100000 in
set_option maxHeartbeats 1000000 in
theorem form_no {op : Int} (h : knO op = false) (w : World) : Calls Tryz.prog 34 #[.int .i64 op] w fun e w' => e = .returned (.int .i64 0) ∧ w = w' := by
  have hr : ¬ ((1 ≤ op ∧ op ≤ 34) ∨ op = 76) := fun e => by rw [(knO_iff op).2 e] at h; cases h
  have n1 : (op == 1) = false := by rw [beq_eq_false_iff_ne]; omega
  have n2 : (op == 2) = false := by rw [beq_eq_false_iff_ne]; omega
  have n3 : (op == 3) = false := by rw [beq_eq_false_iff_ne]; omega
  have n4 : (op == 4) = false := by rw [beq_eq_false_iff_ne]; omega
  have n5 : (op == 5) = false := by rw [beq_eq_false_iff_ne]; omega
  have n6 : (op == 6) = false := by rw [beq_eq_false_iff_ne]; omega
  have n7 : (op == 7) = false := by rw [beq_eq_false_iff_ne]; omega
  have n8 : (op == 8) = false := by rw [beq_eq_false_iff_ne]; omega
  have n9 : (op == 9) = false := by rw [beq_eq_false_iff_ne]; omega
  have n10 : (op == 10) = false := by rw [beq_eq_false_iff_ne]; omega
  have n11 : (op == 11) = false := by rw [beq_eq_false_iff_ne]; omega
  have n12 : (op == 12) = false := by rw [beq_eq_false_iff_ne]; omega
  have n13 : (op == 13) = false := by rw [beq_eq_false_iff_ne]; omega
  have n14 : (op == 14) = false := by rw [beq_eq_false_iff_ne]; omega
  have n15 : (op == 15) = false := by rw [beq_eq_false_iff_ne]; omega
  have n16 : (op == 16) = false := by rw [beq_eq_false_iff_ne]; omega
  have n17 : (op == 17) = false := by rw [beq_eq_false_iff_ne]; omega
  have n18 : (op == 18) = false := by rw [beq_eq_false_iff_ne]; omega
  have n19 : (op == 19) = false := by rw [beq_eq_false_iff_ne]; omega
  have n20 : (op == 20) = false := by rw [beq_eq_false_iff_ne]; omega
  have n21 : (op == 21) = false := by rw [beq_eq_false_iff_ne]; omega
  have n22 : (op == 22) = false := by rw [beq_eq_false_iff_ne]; omega
  have n23 : (op == 23) = false := by rw [beq_eq_false_iff_ne]; omega
  have n24 : (op == 24) = false := by rw [beq_eq_false_iff_ne]; omega
  have n25 : (op == 25) = false := by rw [beq_eq_false_iff_ne]; omega
  have n26 : (op == 26) = false := by rw [beq_eq_false_iff_ne]; omega
  have n27 : (op == 27) = false := by rw [beq_eq_false_iff_ne]; omega
  have n28 : (op == 28) = false := by rw [beq_eq_false_iff_ne]; omega
  have n29 : (op == 29) = false := by rw [beq_eq_false_iff_ne]; omega
  have n30 : (op == 30) = false := by rw [beq_eq_false_iff_ne]; omega
  have n31 : (op == 31) = false := by rw [beq_eq_false_iff_ne]; omega
  have n32 : (op == 32) = false := by rw [beq_eq_false_iff_ne]; omega
  have n33 : (op == 33) = false := by rw [beq_eq_false_iff_ne]; omega
  have n34 : (op == 34) = false := by rw [beq_eq_false_iff_ne]; omega
  have n76 : (op == 76) = false := by rw [beq_eq_false_iff_ne]; omega
  clear h hr
  go_enter Tryz.func34, Tryz.ntmps34
  go_wp2_with fail
  go_ret
  exact ⟨rfl, rfl⟩
theorem form_any (op : Int) (w : World) : Calls Tryz.prog 34 #[.int .i64 op] w fun e w' => e = .returned (.int .i64 (fmO op)) ∧ w = w' := by
  cases h : knO op
  · rw [show fmO op = 0 by unfold fmO; rw [h]; rfl]
    exact form_no h w
  · have hk : ixO op < 35 := of_decide_eq_true h
    have e := form_at (ixO op) hk w
    rw [ixO_hit hk] at e
    rw [show fmO op = fmS (opAt (ixO op)).sh by unfold fmO; rw [h]; rfl]
    exact e
/-- The operands of a form. -/
def opA (f : Int) : Bool := f == 2 || f == 3 || f == 4 || f == 5 || f == 6 || f == 8 || f == 9 || f == 11
def opB (f : Int) : Bool := f == 2 || f == 5 || f == 6 || f == 11
def opI (f : Int) : Int := if f = 3 then 10 else if f = 4 ∨ f = 5 ∨ f = 6 ∨ f = 10 then 1 else if f = 7 ∨ f = 9 then 2 else 0
theorem operands_at : ∀ (k : Nat), k < 12 → ∀ (w : World), Calls Tryz.prog 36 #[.int .i64 (k : Int)] w fun e w' => e = .returned (.tuple #[.bool (opA k), .bool (opB k), .int .i64 (opI k)]) ∧ w = w'
  | 0, _, w => by
    rw [show opA ((0 : Nat) : Int) = false by decide, show opB ((0 : Nat) : Int) = false by decide, show opI ((0 : Nat) : Int) = 0 by decide]
    show Calls Tryz.prog 36 #[.int .i64 0] w _
    go_enter Tryz.func36, Tryz.ntmps36
    go_wp2_with fail
    refine bodyPost_ret (v := .tuple #[.bool false, .bool false, .int .i64 0]) (by simp [results, go_sem, *]) rfl ?_
    exact ⟨rfl, rfl⟩
  | 1, _, w => by
    rw [show opA ((1 : Nat) : Int) = false by decide, show opB ((1 : Nat) : Int) = false by decide, show opI ((1 : Nat) : Int) = 0 by decide]
    show Calls Tryz.prog 36 #[.int .i64 1] w _
    go_enter Tryz.func36, Tryz.ntmps36
    go_wp2_with fail
    refine bodyPost_ret (v := .tuple #[.bool false, .bool false, .int .i64 0]) (by simp [results, go_sem, *]) rfl ?_
    exact ⟨rfl, rfl⟩
  | 2, _, w => by
    rw [show opA ((2 : Nat) : Int) = true by decide, show opB ((2 : Nat) : Int) = true by decide, show opI ((2 : Nat) : Int) = 0 by decide]
    show Calls Tryz.prog 36 #[.int .i64 2] w _
    go_enter Tryz.func36, Tryz.ntmps36
    go_wp2_with fail
    refine bodyPost_ret (v := .tuple #[.bool true, .bool true, .int .i64 0]) (by simp [results, go_sem, *]) rfl ?_
    exact ⟨rfl, rfl⟩
  | 3, _, w => by
    rw [show opA ((3 : Nat) : Int) = true by decide, show opB ((3 : Nat) : Int) = false by decide, show opI ((3 : Nat) : Int) = 10 by decide]
    show Calls Tryz.prog 36 #[.int .i64 3] w _
    go_enter Tryz.func36, Tryz.ntmps36
    go_wp2_with fail
    refine bodyPost_ret (v := .tuple #[.bool true, .bool false, .int .i64 10]) (by simp [results, go_sem, *]) rfl ?_
    exact ⟨rfl, rfl⟩
  | 4, _, w => by
    rw [show opA ((4 : Nat) : Int) = true by decide, show opB ((4 : Nat) : Int) = false by decide, show opI ((4 : Nat) : Int) = 1 by decide]
    show Calls Tryz.prog 36 #[.int .i64 4] w _
    go_enter Tryz.func36, Tryz.ntmps36
    go_wp2_with fail
    refine bodyPost_ret (v := .tuple #[.bool true, .bool false, .int .i64 1]) (by simp [results, go_sem, *]) rfl ?_
    exact ⟨rfl, rfl⟩
  | 5, _, w => by
    rw [show opA ((5 : Nat) : Int) = true by decide, show opB ((5 : Nat) : Int) = true by decide, show opI ((5 : Nat) : Int) = 1 by decide]
    show Calls Tryz.prog 36 #[.int .i64 5] w _
    go_enter Tryz.func36, Tryz.ntmps36
    go_wp2_with fail
    refine bodyPost_ret (v := .tuple #[.bool true, .bool true, .int .i64 1]) (by simp [results, go_sem, *]) rfl ?_
    exact ⟨rfl, rfl⟩
  | 6, _, w => by
    rw [show opA ((6 : Nat) : Int) = true by decide, show opB ((6 : Nat) : Int) = true by decide, show opI ((6 : Nat) : Int) = 1 by decide]
    show Calls Tryz.prog 36 #[.int .i64 6] w _
    go_enter Tryz.func36, Tryz.ntmps36
    go_wp2_with fail
    refine bodyPost_ret (v := .tuple #[.bool true, .bool true, .int .i64 1]) (by simp [results, go_sem, *]) rfl ?_
    exact ⟨rfl, rfl⟩
  | 7, _, w => by
    rw [show opA ((7 : Nat) : Int) = false by decide, show opB ((7 : Nat) : Int) = false by decide, show opI ((7 : Nat) : Int) = 2 by decide]
    show Calls Tryz.prog 36 #[.int .i64 7] w _
    go_enter Tryz.func36, Tryz.ntmps36
    go_wp2_with fail
    refine bodyPost_ret (v := .tuple #[.bool false, .bool false, .int .i64 2]) (by simp [results, go_sem, *]) rfl ?_
    exact ⟨rfl, rfl⟩
  | 8, _, w => by
    rw [show opA ((8 : Nat) : Int) = true by decide, show opB ((8 : Nat) : Int) = false by decide, show opI ((8 : Nat) : Int) = 0 by decide]
    show Calls Tryz.prog 36 #[.int .i64 8] w _
    go_enter Tryz.func36, Tryz.ntmps36
    go_wp2_with fail
    refine bodyPost_ret (v := .tuple #[.bool true, .bool false, .int .i64 0]) (by simp [results, go_sem, *]) rfl ?_
    exact ⟨rfl, rfl⟩
  | 9, _, w => by
    rw [show opA ((9 : Nat) : Int) = true by decide, show opB ((9 : Nat) : Int) = false by decide, show opI ((9 : Nat) : Int) = 2 by decide]
    show Calls Tryz.prog 36 #[.int .i64 9] w _
    go_enter Tryz.func36, Tryz.ntmps36
    go_wp2_with fail
    refine bodyPost_ret (v := .tuple #[.bool true, .bool false, .int .i64 2]) (by simp [results, go_sem, *]) rfl ?_
    exact ⟨rfl, rfl⟩
  | 10, _, w => by
    rw [show opA ((10 : Nat) : Int) = false by decide, show opB ((10 : Nat) : Int) = false by decide, show opI ((10 : Nat) : Int) = 1 by decide]
    show Calls Tryz.prog 36 #[.int .i64 10] w _
    go_enter Tryz.func36, Tryz.ntmps36
    go_wp2_with fail
    refine bodyPost_ret (v := .tuple #[.bool false, .bool false, .int .i64 1]) (by simp [results, go_sem, *]) rfl ?_
    exact ⟨rfl, rfl⟩
  | 11, _, w => by
    rw [show opA ((11 : Nat) : Int) = true by decide, show opB ((11 : Nat) : Int) = true by decide, show opI ((11 : Nat) : Int) = 0 by decide]
    show Calls Tryz.prog 36 #[.int .i64 11] w _
    go_enter Tryz.func36, Tryz.ntmps36
    go_wp2_with fail
    refine bodyPost_ret (v := .tuple #[.bool true, .bool true, .int .i64 0]) (by simp [results, go_sem, *]) rfl ?_
    exact ⟨rfl, rfl⟩
  | k + 12, h, _ => absurd h (by omega)
theorem form_bd (op : Int) : 0 ≤ fmO op ∧ fmO op ≤ 11 := by
  unfold fmO
  split
  · rename_i h
    have : ∀ s : Fin 12, 0 ≤ fmS s.1 ∧ fmS s.1 ≤ 11 := by decide
    exact this ⟨_, (rowO_sh h).1⟩
  · decide
theorem operands_any {f : Int} (h : 0 ≤ f ∧ f ≤ 11) (w : World) : Calls Tryz.prog 36 #[.int .i64 f] w fun e w' => e = .returned (.tuple #[.bool (opA f), .bool (opB f), .int .i64 (opI f)]) ∧ w = w' := by
  have e := operands_at f.toNat (by omega) w
  have e1 : ((f.toNat : Nat) : Int) = f := by omega
  rw [e1] at e
  exact e
/-- What the operands of a shape are. -/
theorem ops_shape : ∀ s : Fin 12, opA (fmS s.1) = decide (1 ≤ rgS s.1) ∧ opB (fmS s.1) = (rgS s.1 == 2) ∧ opI (fmS s.1) = (imS s.1 : Int) := by decide
end Go.Proofs.YtjlbcpmfbokinaaGreatDoor

namespace Go.Proofs.YtjlbcpmfbokinaaGreatDoor
open Go.RowKit

def IB (x : Int) : Prop := -9223372036854775808 ≤ x ∧ x ≤ 9223372036854775807
set_option maxRecDepth 100000 in
set_option maxHeartbeats 2000000 in
theorem rfits_at : ∀ (s : Nat), s < 12 → ∀ (n : Int), IB n → ∀ (w : World), Calls Tryz.prog 35 #[.int .i64 (fmS s), .int .i64 n] w fun e w' => e = .returned (.bool (ftB s n)) ∧ w = w'
  | 0, _, n, hn, w => by
    show Calls Tryz.prog 35 #[.int .i64 1, .int .i64 n] w _
    have OP : ∀ W, Calls Tryz.prog 36 #[.int .i64 1] W fun e w' => e = .returned (.tuple #[.bool false, .bool false, .int .i64 0]) ∧ W = w' := operands_at 1 (by decide)
    by_cases h : n = 0
    · subst h
      rw [show ftB 0 0 = true from rfl]
      clear hn
      go_enter Tryz.func35, Tryz.ntmps35
      go_wp2_with (go_at_call 36; (refine (OP _).mono ?_); rintro e w1 ⟨rfl, rfl⟩)
      go_ret
      exact ⟨rfl, rfl⟩
    · have hE : ftB 0 n = false := by cases hf : ftB 0 n; rfl; exact absurd (show n = 0 by unfold ftB at hf; rw [Bool.and_eq_true_iff] at hf; have h1 := of_decide_eq_true hf.1; have h2 := of_decide_eq_true hf.2; change (0 : Int) ≤ n at h1; change n ≤ (0 : Int) at h2; omega) h
      have h0 : (n == 0) = false := beq_eq_false_iff_ne.2 h
      rw [hE]
      clear hE hn h
      go_enter Tryz.func35, Tryz.ntmps35
      go_wp2_with (go_at_call 36; (refine (OP _).mono ?_); rintro e w1 ⟨rfl, rfl⟩)
      go_ret
      exact ⟨rfl, rfl⟩
  | 1, _, n, hn, w => by
    show Calls Tryz.prog 35 #[.int .i64 8, .int .i64 n] w _
    have OP : ∀ W, Calls Tryz.prog 36 #[.int .i64 8] W fun e w' => e = .returned (.tuple #[.bool true, .bool false, .int .i64 0]) ∧ W = w' := operands_at 8 (by decide)
    by_cases h : n = 0
    · subst h
      rw [show ftB 1 0 = true from rfl]
      clear hn
      go_enter Tryz.func35, Tryz.ntmps35
      go_wp2_with (go_at_call 36; (refine (OP _).mono ?_); rintro e w1 ⟨rfl, rfl⟩)
      go_ret
      exact ⟨rfl, rfl⟩
    · have hE : ftB 1 n = false := by cases hf : ftB 1 n; rfl; exact absurd (show n = 0 by unfold ftB at hf; rw [Bool.and_eq_true_iff] at hf; have h1 := of_decide_eq_true hf.1; have h2 := of_decide_eq_true hf.2; change (0 : Int) ≤ n at h1; change n ≤ (0 : Int) at h2; omega) h
      have h0 : (n == 0) = false := beq_eq_false_iff_ne.2 h
      rw [hE]
      clear hE hn h
      go_enter Tryz.func35, Tryz.ntmps35
      go_wp2_with (go_at_call 36; (refine (OP _).mono ?_); rintro e w1 ⟨rfl, rfl⟩)
      go_ret
      exact ⟨rfl, rfl⟩
  | 2, _, n, hn, w => by
    show Calls Tryz.prog 35 #[.int .i64 2, .int .i64 n] w _
    have OP : ∀ W, Calls Tryz.prog 36 #[.int .i64 2] W fun e w' => e = .returned (.tuple #[.bool true, .bool true, .int .i64 0]) ∧ W = w' := operands_at 2 (by decide)
    by_cases h : n = 0
    · subst h
      rw [show ftB 2 0 = true from rfl]
      clear hn
      go_enter Tryz.func35, Tryz.ntmps35
      go_wp2_with (go_at_call 36; (refine (OP _).mono ?_); rintro e w1 ⟨rfl, rfl⟩)
      go_ret
      exact ⟨rfl, rfl⟩
    · have hE : ftB 2 n = false := by cases hf : ftB 2 n; rfl; exact absurd (show n = 0 by unfold ftB at hf; rw [Bool.and_eq_true_iff] at hf; have h1 := of_decide_eq_true hf.1; have h2 := of_decide_eq_true hf.2; change (0 : Int) ≤ n at h1; change n ≤ (0 : Int) at h2; omega) h
      have h0 : (n == 0) = false := beq_eq_false_iff_ne.2 h
      rw [hE]
      clear hE hn h
      go_enter Tryz.func35, Tryz.ntmps35
      go_wp2_with (go_at_call 36; (refine (OP _).mono ?_); rintro e w1 ⟨rfl, rfl⟩)
      go_ret
      exact ⟨rfl, rfl⟩
  | 3, _, n, hn, w => by
    show Calls Tryz.prog 35 #[.int .i64 3, .int .i64 n] w _
    have OP : ∀ W, Calls Tryz.prog 36 #[.int .i64 3] W fun e w' => e = .returned (.tuple #[.bool true, .bool false, .int .i64 10]) ∧ W = w' := operands_at 3 (by decide)
    have hE : ftB 3 n = true := by unfold ftB; exact Bool.and_eq_true_iff.2 ⟨decide_eq_true hn.1, decide_eq_true hn.2⟩
    rw [hE]
    clear hE hn
    go_enter Tryz.func35, Tryz.ntmps35
    go_wp2_with (go_at_call 36; (refine (OP _).mono ?_); rintro e w1 ⟨rfl, rfl⟩)
    go_ret
    exact ⟨rfl, rfl⟩
  | 4, _, n, hn, w => by
    show Calls Tryz.prog 35 #[.int .i64 4, .int .i64 n] w _
    have OP : ∀ W, Calls Tryz.prog 36 #[.int .i64 4] W fun e w' => e = .returned (.tuple #[.bool true, .bool false, .int .i64 1]) ∧ W = w' := operands_at 4 (by decide)
    by_cases h1 : (-64 : Int) ≤ n
    · by_cases h2 : n ≤ 63
      · have hE : ftB 4 n = true := by unfold ftB; exact Bool.and_eq_true_iff.2 ⟨decide_eq_true h1, decide_eq_true h2⟩
        rw [hE]
        clear hE hn
        go_enter Tryz.func35, Tryz.ntmps35
        go_wp2_with (go_at_call 36; (refine (OP _).mono ?_); rintro e w1 ⟨rfl, rfl⟩)
        go_ret
        exact ⟨rfl, rfl⟩
      · have hE : ftB 4 n = false := by unfold ftB; rw [show decide (n ≤ hiS 4) = false from decide_eq_false h2, Bool.and_false]
        rw [hE]
        clear hE hn
        go_enter Tryz.func35, Tryz.ntmps35
        go_wp2_with (go_at_call 36; (refine (OP _).mono ?_); rintro e w1 ⟨rfl, rfl⟩)
        go_ret
        exact ⟨congrArg (fun b => Ending.returned (.bool b)) (decide_eq_false (by omega)), rfl⟩
    · have hE : ftB 4 n = false := by unfold ftB; rw [show decide (loS 4 ≤ n) = false from decide_eq_false h1]; rfl
      rw [hE]
      clear hE hn
      go_enter Tryz.func35, Tryz.ntmps35
      go_wp2_with (go_at_call 36; (refine (OP _).mono ?_); rintro e w1 ⟨rfl, rfl⟩)
      go_ret
      exact ⟨rfl, rfl⟩
  | 5, _, n, hn, w => by
    show Calls Tryz.prog 35 #[.int .i64 5, .int .i64 n] w _
    have OP : ∀ W, Calls Tryz.prog 36 #[.int .i64 5] W fun e w' => e = .returned (.tuple #[.bool true, .bool true, .int .i64 1]) ∧ W = w' := operands_at 5 (by decide)
    by_cases h1 : (-64 : Int) ≤ n
    · by_cases h2 : n ≤ 63
      · have hE : ftB 5 n = true := by unfold ftB; exact Bool.and_eq_true_iff.2 ⟨decide_eq_true h1, decide_eq_true h2⟩
        rw [hE]
        clear hE hn
        go_enter Tryz.func35, Tryz.ntmps35
        go_wp2_with (go_at_call 36; (refine (OP _).mono ?_); rintro e w1 ⟨rfl, rfl⟩)
        go_ret
        exact ⟨rfl, rfl⟩
      · have hE : ftB 5 n = false := by unfold ftB; rw [show decide (n ≤ hiS 5) = false from decide_eq_false h2, Bool.and_false]
        rw [hE]
        clear hE hn
        go_enter Tryz.func35, Tryz.ntmps35
        go_wp2_with (go_at_call 36; (refine (OP _).mono ?_); rintro e w1 ⟨rfl, rfl⟩)
        go_ret
        exact ⟨congrArg (fun b => Ending.returned (.bool b)) (decide_eq_false (by omega)), rfl⟩
    · have hE : ftB 5 n = false := by unfold ftB; rw [show decide (loS 5 ≤ n) = false from decide_eq_false h1]; rfl
      rw [hE]
      clear hE hn
      go_enter Tryz.func35, Tryz.ntmps35
      go_wp2_with (go_at_call 36; (refine (OP _).mono ?_); rintro e w1 ⟨rfl, rfl⟩)
      go_ret
      exact ⟨rfl, rfl⟩
  | 6, _, n, hn, w => by
    show Calls Tryz.prog 35 #[.int .i64 5, .int .i64 n] w _
    have OP : ∀ W, Calls Tryz.prog 36 #[.int .i64 5] W fun e w' => e = .returned (.tuple #[.bool true, .bool true, .int .i64 1]) ∧ W = w' := operands_at 5 (by decide)
    by_cases h1 : (-64 : Int) ≤ n
    · by_cases h2 : n ≤ 63
      · have hE : ftB 6 n = true := by unfold ftB; exact Bool.and_eq_true_iff.2 ⟨decide_eq_true h1, decide_eq_true h2⟩
        rw [hE]
        clear hE hn
        go_enter Tryz.func35, Tryz.ntmps35
        go_wp2_with (go_at_call 36; (refine (OP _).mono ?_); rintro e w1 ⟨rfl, rfl⟩)
        go_ret
        exact ⟨rfl, rfl⟩
      · have hE : ftB 6 n = false := by unfold ftB; rw [show decide (n ≤ hiS 6) = false from decide_eq_false h2, Bool.and_false]
        rw [hE]
        clear hE hn
        go_enter Tryz.func35, Tryz.ntmps35
        go_wp2_with (go_at_call 36; (refine (OP _).mono ?_); rintro e w1 ⟨rfl, rfl⟩)
        go_ret
        exact ⟨congrArg (fun b => Ending.returned (.bool b)) (decide_eq_false (by omega)), rfl⟩
    · have hE : ftB 6 n = false := by unfold ftB; rw [show decide (loS 6 ≤ n) = false from decide_eq_false h1]; rfl
      rw [hE]
      clear hE hn
      go_enter Tryz.func35, Tryz.ntmps35
      go_wp2_with (go_at_call 36; (refine (OP _).mono ?_); rintro e w1 ⟨rfl, rfl⟩)
      go_ret
      exact ⟨rfl, rfl⟩
  | 7, _, n, hn, w => by
    show Calls Tryz.prog 35 #[.int .i64 6, .int .i64 n] w _
    have OP : ∀ W, Calls Tryz.prog 36 #[.int .i64 6] W fun e w' => e = .returned (.tuple #[.bool true, .bool true, .int .i64 1]) ∧ W = w' := operands_at 6 (by decide)
    by_cases h1 : (-64 : Int) ≤ n
    · by_cases h2 : n ≤ 63
      · have hE : ftB 7 n = true := by unfold ftB; exact Bool.and_eq_true_iff.2 ⟨decide_eq_true h1, decide_eq_true h2⟩
        rw [hE]
        clear hE hn
        go_enter Tryz.func35, Tryz.ntmps35
        go_wp2_with (go_at_call 36; (refine (OP _).mono ?_); rintro e w1 ⟨rfl, rfl⟩)
        go_ret
        exact ⟨rfl, rfl⟩
      · have hE : ftB 7 n = false := by unfold ftB; rw [show decide (n ≤ hiS 7) = false from decide_eq_false h2, Bool.and_false]
        rw [hE]
        clear hE hn
        go_enter Tryz.func35, Tryz.ntmps35
        go_wp2_with (go_at_call 36; (refine (OP _).mono ?_); rintro e w1 ⟨rfl, rfl⟩)
        go_ret
        exact ⟨congrArg (fun b => Ending.returned (.bool b)) (decide_eq_false (by omega)), rfl⟩
    · have hE : ftB 7 n = false := by unfold ftB; rw [show decide (loS 7 ≤ n) = false from decide_eq_false h1]; rfl
      rw [hE]
      clear hE hn
      go_enter Tryz.func35, Tryz.ntmps35
      go_wp2_with (go_at_call 36; (refine (OP _).mono ?_); rintro e w1 ⟨rfl, rfl⟩)
      go_ret
      exact ⟨rfl, rfl⟩
  | 8, _, n, hn, w => by
    show Calls Tryz.prog 35 #[.int .i64 7, .int .i64 n] w _
    have OP : ∀ W, Calls Tryz.prog 36 #[.int .i64 7] W fun e w' => e = .returned (.tuple #[.bool false, .bool false, .int .i64 2]) ∧ W = w' := operands_at 7 (by decide)
    by_cases h1 : (-8192 : Int) ≤ n
    · by_cases h2 : n ≤ 8191
      · have hE : ftB 8 n = true := by unfold ftB; exact Bool.and_eq_true_iff.2 ⟨decide_eq_true h1, decide_eq_true h2⟩
        rw [hE]
        clear hE hn
        go_enter Tryz.func35, Tryz.ntmps35
        go_wp2_with (go_at_call 36; (refine (OP _).mono ?_); rintro e w1 ⟨rfl, rfl⟩)
        go_ret
        exact ⟨rfl, rfl⟩
      · have hE : ftB 8 n = false := by unfold ftB; rw [show decide (n ≤ hiS 8) = false from decide_eq_false h2, Bool.and_false]
        rw [hE]
        clear hE hn
        go_enter Tryz.func35, Tryz.ntmps35
        go_wp2_with (go_at_call 36; (refine (OP _).mono ?_); rintro e w1 ⟨rfl, rfl⟩)
        go_ret
        exact ⟨congrArg (fun b => Ending.returned (.bool b)) (decide_eq_false (by omega)), rfl⟩
    · have hE : ftB 8 n = false := by unfold ftB; rw [show decide (loS 8 ≤ n) = false from decide_eq_false h1]; rfl
      rw [hE]
      clear hE hn
      go_enter Tryz.func35, Tryz.ntmps35
      go_wp2_with (go_at_call 36; (refine (OP _).mono ?_); rintro e w1 ⟨rfl, rfl⟩)
      go_ret
      exact ⟨rfl, rfl⟩
  | 9, _, n, hn, w => by
    show Calls Tryz.prog 35 #[.int .i64 9, .int .i64 n] w _
    have OP : ∀ W, Calls Tryz.prog 36 #[.int .i64 9] W fun e w' => e = .returned (.tuple #[.bool true, .bool false, .int .i64 2]) ∧ W = w' := operands_at 9 (by decide)
    by_cases h1 : (-8192 : Int) ≤ n
    · by_cases h2 : n ≤ 8191
      · have hE : ftB 9 n = true := by unfold ftB; exact Bool.and_eq_true_iff.2 ⟨decide_eq_true h1, decide_eq_true h2⟩
        rw [hE]
        clear hE hn
        go_enter Tryz.func35, Tryz.ntmps35
        go_wp2_with (go_at_call 36; (refine (OP _).mono ?_); rintro e w1 ⟨rfl, rfl⟩)
        go_ret
        exact ⟨rfl, rfl⟩
      · have hE : ftB 9 n = false := by unfold ftB; rw [show decide (n ≤ hiS 9) = false from decide_eq_false h2, Bool.and_false]
        rw [hE]
        clear hE hn
        go_enter Tryz.func35, Tryz.ntmps35
        go_wp2_with (go_at_call 36; (refine (OP _).mono ?_); rintro e w1 ⟨rfl, rfl⟩)
        go_ret
        exact ⟨congrArg (fun b => Ending.returned (.bool b)) (decide_eq_false (by omega)), rfl⟩
    · have hE : ftB 9 n = false := by unfold ftB; rw [show decide (loS 9 ≤ n) = false from decide_eq_false h1]; rfl
      rw [hE]
      clear hE hn
      go_enter Tryz.func35, Tryz.ntmps35
      go_wp2_with (go_at_call 36; (refine (OP _).mono ?_); rintro e w1 ⟨rfl, rfl⟩)
      go_ret
      exact ⟨rfl, rfl⟩
  | 10, _, n, hn, w => by
    show Calls Tryz.prog 35 #[.int .i64 10, .int .i64 n] w _
    have OP : ∀ W, Calls Tryz.prog 36 #[.int .i64 10] W fun e w' => e = .returned (.tuple #[.bool false, .bool false, .int .i64 1]) ∧ W = w' := operands_at 10 (by decide)
    by_cases h1 : (0 : Int) ≤ n
    · by_cases h2 : n ≤ 127
      · have hE : ftB 10 n = true := by unfold ftB; exact Bool.and_eq_true_iff.2 ⟨decide_eq_true h1, decide_eq_true h2⟩
        rw [hE]
        clear hE hn
        go_enter Tryz.func35, Tryz.ntmps35
        go_wp2_with (go_at_call 36; (refine (OP _).mono ?_); rintro e w1 ⟨rfl, rfl⟩)
        go_ret
        exact ⟨rfl, rfl⟩
      · have hE : ftB 10 n = false := by unfold ftB; rw [show decide (n ≤ hiS 10) = false from decide_eq_false h2, Bool.and_false]
        rw [hE]
        clear hE hn
        go_enter Tryz.func35, Tryz.ntmps35
        go_wp2_with (go_at_call 36; (refine (OP _).mono ?_); rintro e w1 ⟨rfl, rfl⟩)
        go_ret
        exact ⟨congrArg (fun b => Ending.returned (.bool b)) (decide_eq_false (by omega)), rfl⟩
    · have hE : ftB 10 n = false := by unfold ftB; rw [show decide (loS 10 ≤ n) = false from decide_eq_false h1]; rfl
      rw [hE]
      clear hE hn
      go_enter Tryz.func35, Tryz.ntmps35
      go_wp2_with (go_at_call 36; (refine (OP _).mono ?_); rintro e w1 ⟨rfl, rfl⟩)
      go_ret
      exact ⟨rfl, rfl⟩
  | 11, _, n, hn, w => by
    show Calls Tryz.prog 35 #[.int .i64 11, .int .i64 n] w _
    have OP : ∀ W, Calls Tryz.prog 36 #[.int .i64 11] W fun e w' => e = .returned (.tuple #[.bool true, .bool true, .int .i64 0]) ∧ W = w' := operands_at 11 (by decide)
    by_cases h : n = 0
    · subst h
      rw [show ftB 11 0 = true from rfl]
      clear hn
      go_enter Tryz.func35, Tryz.ntmps35
      go_wp2_with (go_at_call 36; (refine (OP _).mono ?_); rintro e w1 ⟨rfl, rfl⟩)
      go_ret
      exact ⟨rfl, rfl⟩
    · have hE : ftB 11 n = false := by cases hf : ftB 11 n; rfl; exact absurd (show n = 0 by unfold ftB at hf; rw [Bool.and_eq_true_iff] at hf; have h1 := of_decide_eq_true hf.1; have h2 := of_decide_eq_true hf.2; change (0 : Int) ≤ n at h1; change n ≤ (0 : Int) at h2; omega) h
      have h0 : (n == 0) = false := beq_eq_false_iff_ne.2 h
      rw [hE]
      clear hE hn h
      go_enter Tryz.func35, Tryz.ntmps35
      go_wp2_with (go_at_call 36; (refine (OP _).mono ?_); rintro e w1 ⟨rfl, rfl⟩)
      go_ret
      exact ⟨rfl, rfl⟩
  | s + 12, h, _, _, _ => absurd h (by omega)

theorem irB_T {a : Int} : irB a true = true ↔ 0 ≤ a ∧ a ≤ 7 := by rw [irB_iff]; simp; omega
theorem irB_F {a : Int} : irB a false = true ↔ a = 0 := by rw [irB_iff]; simp
theorem eX_known {op a b n : Int} (hk : knO op = true) : eX op a b n = if (irB a (decide (1 ≤ rgS (rowO op).sh)) && irB b (rgS (rowO op).sh == 2) && ftB (rowO op).sh n) = true then 0 else 20 := by
  unfold eX okX
  rw [hk, Bool.true_and]
theorem eX_no {op a b n : Int} (hk : knO op = false) : eX op a b n = 20 := by
  unfold eX okX
  rw [hk]
  rfl
theorem rcheck_no {op a b n : Int} (hk : knO op = false) (w : World) : Calls Tryz.prog 11 #[inV op a b n] w fun e w' => e = .returned (.int .i64 (eX op a b n)) ∧ Below w.heap.size w w' := by
  have FO : ∀ W, Calls Tryz.prog 34 #[.int .i64 op] W fun e w' => e = .returned (.int .i64 0) ∧ W = w' := fun W => form_no hk W
  rw [eX_no hk]
  clear hk
  go_enter Tryz.func11, Tryz.ntmps11
  go_wp2_with (go_at_call 34; (refine (FO _).mono ?_); rintro e w1 ⟨rfl, rfl⟩)
  go_ret
  exact ⟨rfl, (Gr.below (by repeat (first | (with_reducible exact Gr.refl _) | with_reducible refine Gr.alloc ?_ _ | with_reducible refine Gr.more ?_ _ _ | with_reducible refine Gr.setCell ?_ (by dsimp only; omega) _ | with_reducible refine Gr.drew ?_)))⟩
set_option maxRecDepth 100000 in
set_option maxHeartbeats 2000000 in
theorem rcheck_0 {op a b n f : Int} (c : Bool) (hf : f ≠ 0) (HE : Hid (eX op a b n = if (irB a false && irB b false && c) = true then 0 else 20)) (i : Int) (w : World)
    (FO : ∀ W, Calls Tryz.prog 34 #[.int .i64 op] W fun e w' => e = .returned (.int .i64 f) ∧ W = w')
    (FI : ∀ W, Calls Tryz.prog 35 #[.int .i64 f, .int .i64 n] W fun e w' => e = .returned (.bool c) ∧ W = w')
    (OP : ∀ W, Calls Tryz.prog 36 #[.int .i64 f] W fun e w' => e = .returned (.tuple #[.bool false, .bool false, .int .i64 i]) ∧ W = w') :
    Calls Tryz.prog 11 #[inV op a b n] w fun e w' => e = .returned (.int .i64 (eX op a b n)) ∧ Below w.heap.size w w' := by
  have hf0 : (f == 0) = false := beq_eq_false_iff_ne.2 hf
  clear hf
  cases c
  · have hX : eX op a b n = 20 := by
      rw [HE.out]
      rw [Bool.and_false]; rfl
    rw [hX]
    clear hX HE
    go_enter Tryz.func11, Tryz.ntmps11
    go_wp2_with first | (go_at_call 34; (refine (FO _).mono ?_); rintro e w1 ⟨rfl, rfl⟩) | (go_at_call 35; (refine (FI _).mono ?_); rintro e w1 ⟨rfl, rfl⟩) | (go_at_call 36; (refine (OP _).mono ?_); rintro e w1 ⟨rfl, rfl⟩)
    go_ret
    exact ⟨rfl, (Gr.below (by repeat (first | (with_reducible exact Gr.refl _) | with_reducible refine Gr.alloc ?_ _ | with_reducible refine Gr.more ?_ _ _ | with_reducible refine Gr.setCell ?_ (by dsimp only; omega) _ | with_reducible refine Gr.drew ?_)))⟩
  · by_cases a1 : a = 0
    · subst a1
      by_cases b1 : b = 0
      · subst b1
        have hX : eX op 0 0 n = 0 := by
          rw [HE.out]
          rw [show irB 0 false = true from rfl]; rfl
        rw [hX]
        clear hX HE
        go_enter Tryz.func11, Tryz.ntmps11
        go_wp2_with first | (go_at_call 34; (refine (FO _).mono ?_); rintro e w1 ⟨rfl, rfl⟩) | (go_at_call 35; (refine (FI _).mono ?_); rintro e w1 ⟨rfl, rfl⟩) | (go_at_call 36; (refine (OP _).mono ?_); rintro e w1 ⟨rfl, rfl⟩)
        go_ret
        exact ⟨rfl, (Gr.below (by repeat (first | (with_reducible exact Gr.refl _) | with_reducible refine Gr.alloc ?_ _ | with_reducible refine Gr.more ?_ _ _ | with_reducible refine Gr.setCell ?_ (by dsimp only; omega) _ | with_reducible refine Gr.drew ?_)))⟩
      · have b2 : (b != 0) = true := by simpa using b1
        have hX : eX op 0 b n = 20 := by
          rw [HE.out]
          rw [show irB b false = false from by cases h : irB b false; rfl; exact absurd (irB_F.1 h) b1, Bool.and_false]; rfl
        rw [hX]
        clear hX HE
        go_enter Tryz.func11, Tryz.ntmps11
        go_wp2_with first | (go_at_call 34; (refine (FO _).mono ?_); rintro e w1 ⟨rfl, rfl⟩) | (go_at_call 35; (refine (FI _).mono ?_); rintro e w1 ⟨rfl, rfl⟩) | (go_at_call 36; (refine (OP _).mono ?_); rintro e w1 ⟨rfl, rfl⟩)
        go_ret
        exact ⟨rfl, (Gr.below (by repeat (first | (with_reducible exact Gr.refl _) | with_reducible refine Gr.alloc ?_ _ | with_reducible refine Gr.more ?_ _ _ | with_reducible refine Gr.setCell ?_ (by dsimp only; omega) _ | with_reducible refine Gr.drew ?_)))⟩
    · have a2 : (a != 0) = true := by simpa using a1
      have hX : eX op a b n = 20 := by
        rw [HE.out]
        rw [show irB a false = false from by cases h : irB a false; rfl; exact absurd (irB_F.1 h) a1]; rfl
      rw [hX]
      clear hX HE
      go_enter Tryz.func11, Tryz.ntmps11
      go_wp2_with first | (go_at_call 34; (refine (FO _).mono ?_); rintro e w1 ⟨rfl, rfl⟩) | (go_at_call 35; (refine (FI _).mono ?_); rintro e w1 ⟨rfl, rfl⟩) | (go_at_call 36; (refine (OP _).mono ?_); rintro e w1 ⟨rfl, rfl⟩)
      go_ret
      exact ⟨rfl, (Gr.below (by repeat (first | (with_reducible exact Gr.refl _) | with_reducible refine Gr.alloc ?_ _ | with_reducible refine Gr.more ?_ _ _ | with_reducible refine Gr.setCell ?_ (by dsimp only; omega) _ | with_reducible refine Gr.drew ?_)))⟩
set_option maxRecDepth 100000 in
set_option maxHeartbeats 2000000 in
theorem rcheck_1 {op a b n f : Int} (c : Bool) (hf : f ≠ 0) (HE : Hid (eX op a b n = if (irB a true && irB b false && c) = true then 0 else 20)) (i : Int) (w : World)
    (FO : ∀ W, Calls Tryz.prog 34 #[.int .i64 op] W fun e w' => e = .returned (.int .i64 f) ∧ W = w')
    (FI : ∀ W, Calls Tryz.prog 35 #[.int .i64 f, .int .i64 n] W fun e w' => e = .returned (.bool c) ∧ W = w')
    (OP : ∀ W, Calls Tryz.prog 36 #[.int .i64 f] W fun e w' => e = .returned (.tuple #[.bool true, .bool false, .int .i64 i]) ∧ W = w') :
    Calls Tryz.prog 11 #[inV op a b n] w fun e w' => e = .returned (.int .i64 (eX op a b n)) ∧ Below w.heap.size w w' := by
  have hf0 : (f == 0) = false := beq_eq_false_iff_ne.2 hf
  clear hf
  cases c
  · have hX : eX op a b n = 20 := by
      rw [HE.out]
      rw [Bool.and_false]; rfl
    rw [hX]
    clear hX HE
    go_enter Tryz.func11, Tryz.ntmps11
    go_wp2_with first | (go_at_call 34; (refine (FO _).mono ?_); rintro e w1 ⟨rfl, rfl⟩) | (go_at_call 35; (refine (FI _).mono ?_); rintro e w1 ⟨rfl, rfl⟩) | (go_at_call 36; (refine (OP _).mono ?_); rintro e w1 ⟨rfl, rfl⟩)
    go_ret
    exact ⟨rfl, (Gr.below (by repeat (first | (with_reducible exact Gr.refl _) | with_reducible refine Gr.alloc ?_ _ | with_reducible refine Gr.more ?_ _ _ | with_reducible refine Gr.setCell ?_ (by dsimp only; omega) _ | with_reducible refine Gr.drew ?_)))⟩
  · by_cases a1 : a < 0
    · have hX : eX op a b n = 20 := by
        rw [HE.out]
        rw [show irB a true = false from by cases h : irB a true; rfl; have := irB_T.1 h; omega]; rfl
      rw [hX]
      clear hX HE
      go_enter Tryz.func11, Tryz.ntmps11
      go_wp2_with first | (go_at_call 34; (refine (FO _).mono ?_); rintro e w1 ⟨rfl, rfl⟩) | (go_at_call 35; (refine (FI _).mono ?_); rintro e w1 ⟨rfl, rfl⟩) | (go_at_call 36; (refine (OP _).mono ?_); rintro e w1 ⟨rfl, rfl⟩)
      go_ret
      exact ⟨rfl, (Gr.below (by repeat (first | (with_reducible exact Gr.refl _) | with_reducible refine Gr.alloc ?_ _ | with_reducible refine Gr.more ?_ _ _ | with_reducible refine Gr.setCell ?_ (by dsimp only; omega) _ | with_reducible refine Gr.drew ?_)))⟩
    · by_cases a2 : 7 < a
      · have hX : eX op a b n = 20 := by
          rw [HE.out]
          rw [show irB a true = false from by cases h : irB a true; rfl; have := irB_T.1 h; omega]; rfl
        rw [hX]
        clear hX HE
        go_enter Tryz.func11, Tryz.ntmps11
        go_wp2_with first | (go_at_call 34; (refine (FO _).mono ?_); rintro e w1 ⟨rfl, rfl⟩) | (go_at_call 35; (refine (FI _).mono ?_); rintro e w1 ⟨rfl, rfl⟩) | (go_at_call 36; (refine (OP _).mono ?_); rintro e w1 ⟨rfl, rfl⟩)
        go_ret
        exact ⟨rfl, (Gr.below (by repeat (first | (with_reducible exact Gr.refl _) | with_reducible refine Gr.alloc ?_ _ | with_reducible refine Gr.more ?_ _ _ | with_reducible refine Gr.setCell ?_ (by dsimp only; omega) _ | with_reducible refine Gr.drew ?_)))⟩
      · by_cases b1 : b = 0
        · subst b1
          have hX : eX op a 0 n = 0 := by
            rw [HE.out]
            rw [show irB a true = true from irB_T.2 (by omega)]; rfl
          rw [hX]
          clear hX HE
          go_enter Tryz.func11, Tryz.ntmps11
          go_wp2_with first | (go_at_call 34; (refine (FO _).mono ?_); rintro e w1 ⟨rfl, rfl⟩) | (go_at_call 35; (refine (FI _).mono ?_); rintro e w1 ⟨rfl, rfl⟩) | (go_at_call 36; (refine (OP _).mono ?_); rintro e w1 ⟨rfl, rfl⟩)
          go_ret
          exact ⟨rfl, (Gr.below (by repeat (first | (with_reducible exact Gr.refl _) | with_reducible refine Gr.alloc ?_ _ | with_reducible refine Gr.more ?_ _ _ | with_reducible refine Gr.setCell ?_ (by dsimp only; omega) _ | with_reducible refine Gr.drew ?_)))⟩
        · have b2 : (b != 0) = true := by simpa using b1
          have hX : eX op a b n = 20 := by
            rw [HE.out]
            rw [show irB b false = false from by cases h : irB b false; rfl; exact absurd (irB_F.1 h) b1, Bool.and_false]; rfl
          rw [hX]
          clear hX HE
          go_enter Tryz.func11, Tryz.ntmps11
          go_wp2_with first | (go_at_call 34; (refine (FO _).mono ?_); rintro e w1 ⟨rfl, rfl⟩) | (go_at_call 35; (refine (FI _).mono ?_); rintro e w1 ⟨rfl, rfl⟩) | (go_at_call 36; (refine (OP _).mono ?_); rintro e w1 ⟨rfl, rfl⟩)
          go_ret
          exact ⟨rfl, (Gr.below (by repeat (first | (with_reducible exact Gr.refl _) | with_reducible refine Gr.alloc ?_ _ | with_reducible refine Gr.more ?_ _ _ | with_reducible refine Gr.setCell ?_ (by dsimp only; omega) _ | with_reducible refine Gr.drew ?_)))⟩
set_option maxRecDepth 100000 in
set_option maxHeartbeats 2000000 in
theorem rcheck_2 {op a b n f : Int} (c : Bool) (hf : f ≠ 0) (HE : Hid (eX op a b n = if (irB a true && irB b true && c) = true then 0 else 20)) (i : Int) (w : World)
    (FO : ∀ W, Calls Tryz.prog 34 #[.int .i64 op] W fun e w' => e = .returned (.int .i64 f) ∧ W = w')
    (FI : ∀ W, Calls Tryz.prog 35 #[.int .i64 f, .int .i64 n] W fun e w' => e = .returned (.bool c) ∧ W = w')
    (OP : ∀ W, Calls Tryz.prog 36 #[.int .i64 f] W fun e w' => e = .returned (.tuple #[.bool true, .bool true, .int .i64 i]) ∧ W = w') :
    Calls Tryz.prog 11 #[inV op a b n] w fun e w' => e = .returned (.int .i64 (eX op a b n)) ∧ Below w.heap.size w w' := by
  have hf0 : (f == 0) = false := beq_eq_false_iff_ne.2 hf
  clear hf
  cases c
  · have hX : eX op a b n = 20 := by
      rw [HE.out]
      rw [Bool.and_false]; rfl
    rw [hX]
    clear hX HE
    go_enter Tryz.func11, Tryz.ntmps11
    go_wp2_with first | (go_at_call 34; (refine (FO _).mono ?_); rintro e w1 ⟨rfl, rfl⟩) | (go_at_call 35; (refine (FI _).mono ?_); rintro e w1 ⟨rfl, rfl⟩) | (go_at_call 36; (refine (OP _).mono ?_); rintro e w1 ⟨rfl, rfl⟩)
    go_ret
    exact ⟨rfl, (Gr.below (by repeat (first | (with_reducible exact Gr.refl _) | with_reducible refine Gr.alloc ?_ _ | with_reducible refine Gr.more ?_ _ _ | with_reducible refine Gr.setCell ?_ (by dsimp only; omega) _ | with_reducible refine Gr.drew ?_)))⟩
  · by_cases a1 : a < 0
    · have hX : eX op a b n = 20 := by
        rw [HE.out]
        rw [show irB a true = false from by cases h : irB a true; rfl; have := irB_T.1 h; omega]; rfl
      rw [hX]
      clear hX HE
      go_enter Tryz.func11, Tryz.ntmps11
      go_wp2_with first | (go_at_call 34; (refine (FO _).mono ?_); rintro e w1 ⟨rfl, rfl⟩) | (go_at_call 35; (refine (FI _).mono ?_); rintro e w1 ⟨rfl, rfl⟩) | (go_at_call 36; (refine (OP _).mono ?_); rintro e w1 ⟨rfl, rfl⟩)
      go_ret
      exact ⟨rfl, (Gr.below (by repeat (first | (with_reducible exact Gr.refl _) | with_reducible refine Gr.alloc ?_ _ | with_reducible refine Gr.more ?_ _ _ | with_reducible refine Gr.setCell ?_ (by dsimp only; omega) _ | with_reducible refine Gr.drew ?_)))⟩
    · by_cases a2 : 7 < a
      · have hX : eX op a b n = 20 := by
          rw [HE.out]
          rw [show irB a true = false from by cases h : irB a true; rfl; have := irB_T.1 h; omega]; rfl
        rw [hX]
        clear hX HE
        go_enter Tryz.func11, Tryz.ntmps11
        go_wp2_with first | (go_at_call 34; (refine (FO _).mono ?_); rintro e w1 ⟨rfl, rfl⟩) | (go_at_call 35; (refine (FI _).mono ?_); rintro e w1 ⟨rfl, rfl⟩) | (go_at_call 36; (refine (OP _).mono ?_); rintro e w1 ⟨rfl, rfl⟩)
        go_ret
        exact ⟨rfl, (Gr.below (by repeat (first | (with_reducible exact Gr.refl _) | with_reducible refine Gr.alloc ?_ _ | with_reducible refine Gr.more ?_ _ _ | with_reducible refine Gr.setCell ?_ (by dsimp only; omega) _ | with_reducible refine Gr.drew ?_)))⟩
      · by_cases b1 : b < 0
        · have hX : eX op a b n = 20 := by
            rw [HE.out]
            rw [show irB b true = false from by cases h : irB b true; rfl; have := irB_T.1 h; omega, Bool.and_false]; rfl
          rw [hX]
          clear hX HE
          go_enter Tryz.func11, Tryz.ntmps11
          go_wp2_with first | (go_at_call 34; (refine (FO _).mono ?_); rintro e w1 ⟨rfl, rfl⟩) | (go_at_call 35; (refine (FI _).mono ?_); rintro e w1 ⟨rfl, rfl⟩) | (go_at_call 36; (refine (OP _).mono ?_); rintro e w1 ⟨rfl, rfl⟩)
          go_ret
          exact ⟨rfl, (Gr.below (by repeat (first | (with_reducible exact Gr.refl _) | with_reducible refine Gr.alloc ?_ _ | with_reducible refine Gr.more ?_ _ _ | with_reducible refine Gr.setCell ?_ (by dsimp only; omega) _ | with_reducible refine Gr.drew ?_)))⟩
        · by_cases b2 : 7 < b
          · have hX : eX op a b n = 20 := by
              rw [HE.out]
              rw [show irB b true = false from by cases h : irB b true; rfl; have := irB_T.1 h; omega, Bool.and_false]; rfl
            rw [hX]
            clear hX HE
            go_enter Tryz.func11, Tryz.ntmps11
            go_wp2_with first | (go_at_call 34; (refine (FO _).mono ?_); rintro e w1 ⟨rfl, rfl⟩) | (go_at_call 35; (refine (FI _).mono ?_); rintro e w1 ⟨rfl, rfl⟩) | (go_at_call 36; (refine (OP _).mono ?_); rintro e w1 ⟨rfl, rfl⟩)
            go_ret
            exact ⟨rfl, (Gr.below (by repeat (first | (with_reducible exact Gr.refl _) | with_reducible refine Gr.alloc ?_ _ | with_reducible refine Gr.more ?_ _ _ | with_reducible refine Gr.setCell ?_ (by dsimp only; omega) _ | with_reducible refine Gr.drew ?_)))⟩
          · have hX : eX op a b n = 0 := by
              rw [HE.out]
              rw [show irB b true = true from irB_T.2 (by omega), show irB a true = true from irB_T.2 (by omega)]; rfl
            rw [hX]
            clear hX HE
            go_enter Tryz.func11, Tryz.ntmps11
            go_wp2_with first | (go_at_call 34; (refine (FO _).mono ?_); rintro e w1 ⟨rfl, rfl⟩) | (go_at_call 35; (refine (FI _).mono ?_); rintro e w1 ⟨rfl, rfl⟩) | (go_at_call 36; (refine (OP _).mono ?_); rintro e w1 ⟨rfl, rfl⟩)
            go_ret
            exact ⟨rfl, (Gr.below (by repeat (first | (with_reducible exact Gr.refl _) | with_reducible refine Gr.alloc ?_ _ | with_reducible refine Gr.more ?_ _ _ | with_reducible refine Gr.setCell ?_ (by dsimp only; omega) _ | with_reducible refine Gr.drew ?_)))⟩

theorem fmS_ne : ∀ s : Fin 12, fmS s.1 ≠ 0 := by decide
theorem fmO_known {op : Int} (hk : knO op = true) : fmO op = fmS (rowO op).sh := by unfold fmO; rw [hk]; rfl
theorem rcheck_any {op a b n : Int} (hn : IB n) (w : World) : Calls Tryz.prog 11 #[inV op a b n] w fun e w' => e = .returned (.int .i64 (eX op a b n)) ∧ Below w.heap.size w w' := by
  cases hk : knO op
  · exact rcheck_no hk w
  · have hs := (rowO_sh hk).1
    have FO := fun W => form_any op W
    have FI := fun W => rfits_at _ hs n hn W
    have OP := fun W => operands_any (form_bd op) W
    have HE := eX_known (a := a) (b := b) (n := n) hk
    obtain ⟨o1, o2, o3⟩ := ops_shape ⟨_, hs⟩
    have hf := fmS_ne ⟨_, hs⟩
    dsimp only at o1 o2 o3 hf
    rw [fmO_known hk] at FO OP
    rw [o1, o2] at OP
    rcases regs_of hs with hr | hr | hr
    · rw [hr] at OP HE
      exact rcheck_0 _ hf (Lib.hid HE) _ w FO FI OP
    · rw [hr] at OP HE
      exact rcheck_1 _ hf (Lib.hid HE) _ w FO FI OP
    · rw [hr] at OP HE
      exact rcheck_2 _ hf (Lib.hid HE) _ w FO FI OP
theorem rlen_any {op a b n : Int} (hk : knO op = true) (w : World) : Calls Tryz.prog 14 #[inV op a b n] w fun e w' => e = .returned (.int .i64 (lenS (rowO op).sh : Int)) ∧ Below w.heap.size w w' := by
  have hs := (rowO_sh hk).1
  have FO := fun W => form_any op W
  have OP := fun W => operands_any (form_bd op) W
  obtain ⟨o1, o2, o3⟩ := ops_shape ⟨_, hs⟩
  dsimp only at o1 o2 o3
  rw [fmO_known hk] at FO OP
  rw [o1, o2, o3] at OP
  have hi : imS (rowO op).sh ≤ 10 := (by decide : ∀ s : Fin 12, imS s.1 ≤ 10) ⟨_, hs⟩
  have hL : (lenS (rowO op).sh : Int) = (if rgS (rowO op).sh = 0 then 1 else 2) + (imS (rowO op).sh : Int) := by unfold lenS; split <;> omega
  have w1 : wrap64 (1 + (imS (rowO op).sh : Int)) = 1 + (imS (rowO op).sh : Int) := by unfold wrap64; omega
  have w2 : wrap64 (1 + (imS (rowO op).sh : Int) + 1) = 2 + (imS (rowO op).sh : Int) := by unfold wrap64; omega
  rw [hL]
  generalize fmS (rowO op).sh = f at *
  generalize (imS (rowO op).sh : Int) = m at *
  rcases regs_of hs with hr | hr | hr
  all_goals (
    rw [hr] at OP ⊢
    clear hs hk o1 o2 o3 hi hL hr
    go_enter Tryz.func14, Tryz.ntmps14
    go_wp2_with first | (go_at_call 34; (refine (FO _).mono ?_); rintro e w1 ⟨rfl, rfl⟩) | (go_at_call 36; (refine (OP _).mono ?_); rintro e w1 ⟨rfl, rfl⟩)
    go_ret
    exact ⟨rfl, (Gr.below (by repeat (first | (with_reducible exact Gr.refl _) | with_reducible refine Gr.alloc ?_ _ | with_reducible refine Gr.more ?_ _ _ | with_reducible refine Gr.setCell ?_ (by dsimp only; omega) _ | with_reducible refine Gr.drew ?_)))⟩)
end Go.Proofs.YtjlbcpmfbokinaaGreatDoor

namespace Go.Proofs.YtjlbcpmfbokinaaGreatDoor
open Go.RowKit

set_option maxRecDepth 100000 in
set_option maxHeartbeats 4000000 in
theorem groups_any {k : Nat} (hk : k ≤ 10) (n : Int) (l : List UInt8) (hl : l.length ≤ 2) (B : Nat) (u : Value) (w : World) (hB : B ≤ w.heap.size) (ho : w.ownsRow B 5 1 u l.length (bV l)) :
    Calls Tryz.prog 39 #[u, .int .i64 n, .int .i64 (k : Int)] w fun e w' => ∃ v, e = .returned v ∧ w'.ownsRow B 5 1 v (l.length + k) (bV (l ++ grpL n k)) ∧ Below B w w' := by
  obtain ⟨i0, hi, hz0, hz1, hz2⟩ := info_parts A_infoU8'
  have EB : ∀ x : Int, 0 ≤ x → x < 256 → (((UInt8.ofNat x.toNat).toNat : Nat) : Int) = x := fun x h0 h1 => by rw [u8_toNat (by omega)]; omega
  have EB := Lib.hid EB
  have hk' : (k : Int) ≤ 10 := by omega
  go_enter Tryz.func39, Tryz.ntmps39
  go_wp2_with fail
  go_loopw [0, 1, 7] (fun v r i wr => ∃ (u : Value) (j : Nat), u = v ∧ j ≤ k ∧ i = .int .i64 (j : Int) ∧ r = .int .i64 (n / (128 ^ j : Nat)) ∧ wr.ownsRow B 5 1 u (l.length + j) (bV (l ++ grpL n j)) ∧ B ≤ wr.heap.size ∧ Below B w wr) (fun _ _ i _ => k - (intOf i).toNat)
  case atStart => exact ⟨_, 0, rfl, Nat.zero_le _, rfl, by simp, by simpa [grpL] using ho, hB, Below.refl _ _⟩
  case round =>
    obtain ⟨u, j, rfl, hjk, rfl, rfl, hown, hz, hW⟩ := hrel
    by_cases hlt : j < k
    · have hlt' : (j : Int) < (k : Int) := by omega
      have k9 : j < 10 := by omega
      have HW1 : Hid (wrap64 ((j : Int) + 1) = ((j + 1 : Nat) : Int)) := Lib.hid (by clear hown; unfold wrap64; omega)
      have HY : Hid (n / (128 ^ j : Nat) / 128 = n / (128 ^ (j + 1) : Nat)) := Lib.hid (by rw [Int.ediv_ediv_of_nonneg (Int.natCast_nonneg _), Nat.pow_succ]; push_cast; rfl)
      have HS := Lib.hid (grpL_snoc j n)
      obtain ⟨y, hy⟩ : ∃ y : Int, n / (128 ^ j : Nat) = y := ⟨_, rfl⟩
      rw [hy] at HY HS ⊢
      clear hy ho
      have h7 := and7 y
      have y0 : 0 ≤ y % 128 := by omega
      have y1 : y % 128 < 128 := by omega
      have HE := EB.out (y % 128) y0 (by omega)
      have HN : Hid (bV (l ++ grpL n (j + 1)) = bV (l ++ grpL n j) ++ [.int .u8 (y % 128)]) := by
        refine Lib.hid ?_
        rw [HS.out]
        simp only [bV, List.map_append, List.append_assoc, List.map_cons, List.map_nil]
        rw [HE]
      clear HE HS
      generalize y % 128 = t at *
      go_wp2_with (at_builtin; refine wpList_append_own _ rfl _ _ 37 rfl B 5 i0 (.int .u8 0) 1 1 Tryz.underlying37 hi hz0 hz1 hz2 rfl (by decide) u (l.length + j) (bV (l ++ grpL n j)) rfl (own_al hown _) ⟨wr.heap.size, 0, none⟩ 1 1 [.int .u8 t] rfl ?qc1 ?qc2 ?qc3 ?qc4 ?qc5 ?qc6 ?_)
      case qc1 => rfl
      case qc2 => exact World.news_of_block (World.alloc_heap_new _ _)
      case qc3 => intro u hu; simp at hu; subst hu; rfl
      case qc4 => unfold maxLen; omega
      case qc5 => omega
      case qc6 => simp; omega
      intro v' w5 hown5 hgrow hnil
      have hge : ∀ j, u.ownBlock = some j → B ≤ j := fun j hj => (hown.lt j hj).1
      have hown6 : w5.ownsRow B 5 1 v' (l.length + (j + 1)) (bV (l ++ grpL n (j + 1))) := by
        rw [HN.out, show l.length + (j + 1) = l.length + j + 1 by omega]; exact hown5
      have hB5 : Below B w w5 := (hW.alloc hz _).grown hgrow (by simp; omega) (fun j hj => hge j hj)
      have hz5 : B ≤ w5.heap.size := by have := hgrow.size; simp at this; omega
      clear hown hown5 hgrow hnil hge
      go_wp2_with fail
      exact ⟨⟨_, j + 1, rfl, hlt, by first | (rw [HW1.out]; done) | (push_cast; rfl), by rw [← HY.out], hown6, hz5, hB5⟩, by first | (simp only [intOf, HW1.out]; omega) | (simp only [intOf]; omega)⟩
    · obtain rfl : j = k := by omega
      have hge : ¬ (j : Int) < (j : Int) := by omega
      go_wp2_with fail
      go_ret
      exact ⟨_, rfl, hown, hW⟩

/-- What the reference's Encode answers. -/
def REnc (X : List UInt8) (e : Ending) (w' : World) : Prop := ∃ p c, e = .returned (.slice p X.length c) ∧ SeqAt w' p (bV X)
set_option maxRecDepth 100000 in
set_option maxHeartbeats 4000000 in
theorem rencode_0 {op a b n : Int} (h : okX op a b n = true) (hr : rgS (rowO op).sh = 0) (w : World) : Calls Tryz.prog 22 #[inV op a b n] w fun e w' => REnc (enL op a b n) e w' ∧ Below w.heap.size w w' := by
  obtain ⟨i0, hi, hz0, hz1, hz2⟩ := info_parts A_infoU8'
  obtain ⟨hk, ha, hb, hf⟩ := okX_parts h
  have hs := (rowO_sh hk).1
  have hop := (knO_iff op).1 hk
  have FO := fun W => form_any op W
  have OP := fun W => operands_any (form_bd op) W
  obtain ⟨o1, o2, o3⟩ := ops_shape ⟨_, hs⟩
  dsimp only at o1 o2 o3
  rw [fmO_known hk] at FO OP
  rw [o1, o2, o3, hr] at OP
  have hi10 : imS (rowO op).sh ≤ 10 := (by decide : ∀ s : Fin 12, imS s.1 ≤ 10) ⟨_, hs⟩
  have hEL : enL op a b n = [UInt8.ofNat (128 + op).toNat] ++ grpL n (imS (rowO op).sh) := by
    unfold enL
    rw [show regL (rowO op).sh a b = [] by unfold regL; rw [if_pos hr]]
    rfl
  rw [hr] at ha hb
  have hA := irB_iff.1 ha
  have hB := irB_iff.1 hb
  have hXl : (enL op a b n).length = 1 + imS (rowO op).sh := by rw [hEL]; simp [grpL_len]; try omega
  obtain ⟨X, hX⟩ : ∃ X, enL op a b n = X := ⟨_, rfl⟩
  rw [hX] at hEL hXl ⊢
  generalize imS (rowO op).sh = m at *
  generalize fmS (rowO op).sh = f at *
  have GR := fun W u (l : List UInt8) (h1 : l.length ≤ 2) (h2 : w.heap.size + 1 ≤ W.heap.size) h3 => groups_any hi10 n l h1 (w.heap.size + 1) u W h2 h3
  have EB : ∀ x : Int, 0 ≤ x → x < 256 → (((UInt8.ofNat x.toNat).toNat : Nat) : Int) = x := fun x h0 h1 => by rw [u8_toNat (by omega)]; omega
  have EB := Lib.hid EB
  have HEL := Lib.hid hEL
  have o0 : 0 ≤ op := by omega
  have o9 : op ≤ 76 := by omega
  have E1 := EB.out (128 + op) (by omega) (by omega)
  have hopw : wrap64 (128 + op) = 128 + op := by unfold wrap64; omega
  clear h hk ha hb hf hs hop o1 o2 o3 hEL hA hB hX hr
  have hLIT : ((w.alloc (.cells #[.int .i64 op, .int .i64 a, .int .i64 b, .int .i64 n] 23)).alloc (.cells #[.int .u8 (128 + op)] 5)).ownsRow (w.heap.size + 1) 5 1 (.slice (some ⟨w.heap.size + 1, 0, none⟩) 1 1) 1 [.int .u8 (128 + op)] := by
    have := World.ownsRow_lit (w.alloc (.cells #[.int .i64 op, .int .i64 a, .int .i64 b, .int .i64 n] 23)) (base := w.heap.size + 1) (e := 5) (size := 1) #[.int .u8 (128 + op)] 1 (by simp) (by decide) rfl
    rw [World.size_alloc] at this
    exact this
  have G1 := GR _ _ [UInt8.ofNat (128 + op).toNat] (by simp) (by simp) (show ((w.alloc (.cells #[.int .i64 op, .int .i64 a, .int .i64 b, .int .i64 n] 23)).alloc (.cells #[.int .u8 (128 + op)] 5)).ownsRow (w.heap.size + 1) 5 1 (.slice (some ⟨w.heap.size + 1, 0, none⟩) 1 1) 1 (bV [UInt8.ofNat (128 + op).toNat]) by unfold bV; simp only [List.map_cons, List.map_nil]; rw [E1]; exact hLIT)
  clear E1 hLIT
  go_enter Tryz.func22, Tryz.ntmps22
  go_wp2_with first | (go_at_call 34; (refine (FO _).mono ?_); rintro e w1 ⟨rfl, rfl⟩) | (go_at_call 36; (refine (OP _).mono ?_); rintro e w1 ⟨rfl, rfl⟩) | (go_at_call 39; (refine G1.mono ?_); rintro e w9 ⟨v9, rfl, ho9, hB9⟩)
  go_ret
  obtain ⟨q5, c5, rfl⟩ := own_sl ho9
  have p1 := SeqFar.own ho9
  rw [← HEL.out] at p1
  exact ⟨⟨q5, c5, by rw [hXl]; rfl, p1.1.at⟩, Below.trans (Gr.below (by repeat (first | (with_reducible exact Gr.refl _) | with_reducible refine Gr.alloc ?_ _ | with_reducible refine Gr.more ?_ _ _ | with_reducible refine Gr.setCell ?_ (by dsimp only; omega) _ | with_reducible refine Gr.drew ?_))) (hB9.mono (by simp))⟩
set_option maxRecDepth 100000 in
set_option maxHeartbeats 4000000 in
theorem rencode_1 {op a b n : Int} (h : okX op a b n = true) (hr : rgS (rowO op).sh = 1) (w : World) : Calls Tryz.prog 22 #[inV op a b n] w fun e w' => REnc (enL op a b n) e w' ∧ Below w.heap.size w w' := by
  obtain ⟨i0, hi, hz0, hz1, hz2⟩ := info_parts A_infoU8'
  obtain ⟨hk, ha, hb, hf⟩ := okX_parts h
  have hs := (rowO_sh hk).1
  have hop := (knO_iff op).1 hk
  have FO := fun W => form_any op W
  have OP := fun W => operands_any (form_bd op) W
  obtain ⟨o1, o2, o3⟩ := ops_shape ⟨_, hs⟩
  dsimp only at o1 o2 o3
  rw [fmO_known hk] at FO OP
  rw [o1, o2, o3, hr] at OP
  have hi10 : imS (rowO op).sh ≤ 10 := (by decide : ∀ s : Fin 12, imS s.1 ≤ 10) ⟨_, hs⟩
  have hEL : enL op a b n = [UInt8.ofNat (128 + op).toNat, UInt8.ofNat a.toNat] ++ grpL n (imS (rowO op).sh) := by
    unfold enL
    rw [show regL (rowO op).sh a b = [UInt8.ofNat a.toNat] by unfold regL; rw [if_neg (by omega), if_pos hr]]
    rfl
  rw [hr] at ha hb
  have hA := irB_iff.1 ha
  have hB := irB_iff.1 hb
  have hXl : (enL op a b n).length = 2 + imS (rowO op).sh := by rw [hEL]; simp [grpL_len]; try omega
  obtain ⟨X, hX⟩ : ∃ X, enL op a b n = X := ⟨_, rfl⟩
  rw [hX] at hEL hXl ⊢
  generalize imS (rowO op).sh = m at *
  generalize fmS (rowO op).sh = f at *
  have GR := fun W u (l : List UInt8) (h1 : l.length ≤ 2) (h2 : w.heap.size + 1 ≤ W.heap.size) h3 => groups_any hi10 n l h1 (w.heap.size + 1) u W h2 h3
  have EB : ∀ x : Int, 0 ≤ x → x < 256 → (((UInt8.ofNat x.toNat).toNat : Nat) : Int) = x := fun x h0 h1 => by rw [u8_toNat (by omega)]; omega
  have EB := Lib.hid EB
  have HEL := Lib.hid hEL
  have o0 : 0 ≤ op := by omega
  have o9 : op ≤ 76 := by omega
  have E1 := EB.out (128 + op) (by omega) (by omega)
  have hopw : wrap64 (128 + op) = 128 + op := by unfold wrap64; omega
  have xa : 0 ≤ a ∧ a ≤ 7 := by omega
  obtain ⟨xa0, xa1⟩ := xa
  clear h hk ha hb hf hs hop o1 o2 o3 hEL hA hB hX hr
  have hLIT : ((w.alloc (.cells #[.int .i64 op, .int .i64 a, .int .i64 b, .int .i64 n] 23)).alloc (.cells #[.int .u8 (128 + op)] 5)).ownsRow (w.heap.size + 1) 5 1 (.slice (some ⟨w.heap.size + 1, 0, none⟩) 1 1) 1 [.int .u8 (128 + op)] := by
    have := World.ownsRow_lit (w.alloc (.cells #[.int .i64 op, .int .i64 a, .int .i64 b, .int .i64 n] 23)) (base := w.heap.size + 1) (e := 5) (size := 1) #[.int .u8 (128 + op)] 1 (by simp) (by decide) rfl
    rw [World.size_alloc] at this
    exact this
  have hx0 : 0 ≤ a := by omega
  have hx1 : a < 256 := by omega
  have E2 := EB.out a hx0 hx1
  go_enter Tryz.func22, Tryz.ntmps22
  go_wp2_with first | (go_at_call 34; (refine (FO _).mono ?_); rintro e w1 ⟨rfl, rfl⟩) | (go_at_call 36; (refine (OP _).mono ?_); rintro e w1 ⟨rfl, rfl⟩) | (at_builtin; refine wpList_append_own _ rfl _ _ 37 rfl (w.heap.size + 1) 5 i0 (.int .u8 0) 1 1 Tryz.underlying37 hi hz0 hz1 hz2 rfl (by decide) (.slice (some ⟨w.heap.size + 1, 0, none⟩) 1 1) 1 [.int .u8 (128 + op)] rfl (own_al hLIT _) ⟨w.heap.size + 1 + 1, 0, none⟩ 1 1 [.int .u8 a] rfl ?qa1 ?qa2 ?qa3 ?qa4 ?qa5 ?qa6 ?_)
  case qa1 => rfl
  case qa2 => exact World.news_of_block (by have := World.alloc_heap_new (((w.alloc (.cells #[.int .i64 op, .int .i64 a, .int .i64 b, .int .i64 n] 23))).alloc (.cells #[.int .u8 (128 + op)] 5)) (.cells #[.int .u8 a] 5); simpa using this)
  case qa3 => intro u hu; simp at hu; subst hu; rfl
  case qa4 => decide
  case qa5 => decide
  case qa6 => first | (simp; done) | (simp; omega)
  intro v0 w5 ho5 hgrow hnil
  have hn0 : ∀ b, b < w.heap.size + 1 → some b ≠ (Value.slice (some ⟨w.heap.size + 1, 0, none⟩) 1 1).ownBlock := fun b hb => by simp [Value.ownBlock]; omega
  have e3 : w5.cell? ⟨w.heap.size, 3, none⟩ = some (.int .i64 n) := grown_cell hgrow (by go_simp) (hn0 _ (by omega))
  have B5 : Below w.heap.size w w5 := (((Below.refl w.heap.size w).alloc (Nat.le_refl _) _).alloc (by simp) _ |>.alloc (by simp; omega) _).grown hgrow (by simp; omega) (fun j hj => by simp [Value.ownBlock] at hj; omega)
  have z5 : w.heap.size + 1 ≤ w5.heap.size := by have := hgrow.size; simp at this; omega
  have G1 := GR w5 v0 [UInt8.ofNat (128 + op).toNat, UInt8.ofNat a.toNat] (by simp) z5 (by
    have e : bV [UInt8.ofNat (128 + op).toNat, UInt8.ofNat a.toNat] = [.int .u8 (128 + op)] ++ [.int .u8 a] := by
      simp only [bV, List.map_cons, List.map_nil]
      rw [E1, E2]; rfl
    rw [e]; exact ho5)
  clear ho5 hgrow hnil hn0 hLIT E1 E2
  go_wp2_with (go_at_call 39; (refine G1.mono ?_); rintro e w9 ⟨v9, rfl, ho9, hB9⟩)
  go_ret
  obtain ⟨q5, c5, rfl⟩ := own_sl ho9
  have p1 := SeqFar.own ho9
  rw [← HEL.out] at p1
  exact ⟨⟨q5, c5, by rw [hXl]; rfl, p1.1.at⟩, B5.trans (hB9.mono (by omega))⟩
set_option maxRecDepth 100000 in
set_option maxHeartbeats 4000000 in
theorem rencode_2 {op a b n : Int} (h : okX op a b n = true) (hr : rgS (rowO op).sh = 2) (w : World) : Calls Tryz.prog 22 #[inV op a b n] w fun e w' => REnc (enL op a b n) e w' ∧ Below w.heap.size w w' := by
  obtain ⟨i0, hi, hz0, hz1, hz2⟩ := info_parts A_infoU8'
  obtain ⟨hk, ha, hb, hf⟩ := okX_parts h
  have hs := (rowO_sh hk).1
  have hop := (knO_iff op).1 hk
  have FO := fun W => form_any op W
  have OP := fun W => operands_any (form_bd op) W
  obtain ⟨o1, o2, o3⟩ := ops_shape ⟨_, hs⟩
  dsimp only at o1 o2 o3
  rw [fmO_known hk] at FO OP
  rw [o1, o2, o3, hr] at OP
  have hi10 : imS (rowO op).sh ≤ 10 := (by decide : ∀ s : Fin 12, imS s.1 ≤ 10) ⟨_, hs⟩
  have hEL : enL op a b n = [UInt8.ofNat (128 + op).toNat, UInt8.ofNat (8 * a + b).toNat] ++ grpL n (imS (rowO op).sh) := by
    unfold enL
    rw [show regL (rowO op).sh a b = [UInt8.ofNat (8 * a + b).toNat] by unfold regL; rw [if_neg (by omega), if_neg (by omega)]]
    rfl
  rw [hr] at ha hb
  have hA := irB_iff.1 ha
  have hB := irB_iff.1 hb
  have hXl : (enL op a b n).length = 2 + imS (rowO op).sh := by rw [hEL]; simp [grpL_len]; try omega
  obtain ⟨X, hX⟩ : ∃ X, enL op a b n = X := ⟨_, rfl⟩
  rw [hX] at hEL hXl ⊢
  generalize imS (rowO op).sh = m at *
  generalize fmS (rowO op).sh = f at *
  have GR := fun W u (l : List UInt8) (h1 : l.length ≤ 2) (h2 : w.heap.size + 1 ≤ W.heap.size) h3 => groups_any hi10 n l h1 (w.heap.size + 1) u W h2 h3
  have EB : ∀ x : Int, 0 ≤ x → x < 256 → (((UInt8.ofNat x.toNat).toNat : Nat) : Int) = x := fun x h0 h1 => by rw [u8_toNat (by omega)]; omega
  have EB := Lib.hid EB
  have HEL := Lib.hid hEL
  have o0 : 0 ≤ op := by omega
  have o9 : op ≤ 76 := by omega
  have E1 := EB.out (128 + op) (by omega) (by omega)
  have hopw : wrap64 (128 + op) = 128 + op := by unfold wrap64; omega
  have xa : 0 ≤ a ∧ a ≤ 7 := by omega
  have xb : 0 ≤ b ∧ b ≤ 7 := by omega
  obtain ⟨xa0, xa1⟩ := xa
  obtain ⟨xb0, xb1⟩ := xb
  clear h hk ha hb hf hs hop o1 o2 o3 hEL hA hB hX hr
  have hLIT : ((w.alloc (.cells #[.int .i64 op, .int .i64 a, .int .i64 b, .int .i64 n] 23)).alloc (.cells #[.int .u8 (128 + op)] 5)).ownsRow (w.heap.size + 1) 5 1 (.slice (some ⟨w.heap.size + 1, 0, none⟩) 1 1) 1 [.int .u8 (128 + op)] := by
    have := World.ownsRow_lit (w.alloc (.cells #[.int .i64 op, .int .i64 a, .int .i64 b, .int .i64 n] 23)) (base := w.heap.size + 1) (e := 5) (size := 1) #[.int .u8 (128 + op)] 1 (by simp) (by decide) rfl
    rw [World.size_alloc] at this
    exact this
  have hx0 : 0 ≤ (8 * a + b) := by omega
  have hx1 : (8 * a + b) < 256 := by omega
  have E2 := EB.out (8 * a + b) hx0 hx1
  go_enter Tryz.func22, Tryz.ntmps22
  go_wp2_with first | (go_at_call 34; (refine (FO _).mono ?_); rintro e w1 ⟨rfl, rfl⟩) | (go_at_call 36; (refine (OP _).mono ?_); rintro e w1 ⟨rfl, rfl⟩) | (at_builtin; refine wpList_append_own _ rfl _ _ 37 rfl (w.heap.size + 1) 5 i0 (.int .u8 0) 1 1 Tryz.underlying37 hi hz0 hz1 hz2 rfl (by decide) (.slice (some ⟨w.heap.size + 1, 0, none⟩) 1 1) 1 [.int .u8 (128 + op)] rfl (own_al hLIT _) ⟨w.heap.size + 1 + 1, 0, none⟩ 1 1 [.int .u8 (8 * a + b)] rfl ?qa1 ?qa2 ?qa3 ?qa4 ?qa5 ?qa6 ?_)
  case qa1 => rfl
  case qa2 => exact World.news_of_block (by have := World.alloc_heap_new (((w.alloc (.cells #[.int .i64 op, .int .i64 a, .int .i64 b, .int .i64 n] 23))).alloc (.cells #[.int .u8 (128 + op)] 5)) (.cells #[.int .u8 (8 * a + b)] 5); simpa using this)
  case qa3 => intro u hu; simp at hu; subst hu; rfl
  case qa4 => decide
  case qa5 => decide
  case qa6 => first | (simp; done) | (simp; omega)
  intro v0 w5 ho5 hgrow hnil
  have hn0 : ∀ b, b < w.heap.size + 1 → some b ≠ (Value.slice (some ⟨w.heap.size + 1, 0, none⟩) 1 1).ownBlock := fun b hb => by simp [Value.ownBlock]; omega
  have e3 : w5.cell? ⟨w.heap.size, 3, none⟩ = some (.int .i64 n) := grown_cell hgrow (by go_simp) (hn0 _ (by omega))
  have B5 : Below w.heap.size w w5 := (((Below.refl w.heap.size w).alloc (Nat.le_refl _) _).alloc (by simp) _ |>.alloc (by simp; omega) _).grown hgrow (by simp; omega) (fun j hj => by simp [Value.ownBlock] at hj; omega)
  have z5 : w.heap.size + 1 ≤ w5.heap.size := by have := hgrow.size; simp at this; omega
  have G1 := GR w5 v0 [UInt8.ofNat (128 + op).toNat, UInt8.ofNat (8 * a + b).toNat] (by simp) z5 (by
    have e : bV [UInt8.ofNat (128 + op).toNat, UInt8.ofNat (8 * a + b).toNat] = [.int .u8 (128 + op)] ++ [.int .u8 (8 * a + b)] := by
      simp only [bV, List.map_cons, List.map_nil]
      rw [E1, E2]; rfl
    rw [e]; exact ho5)
  clear ho5 hgrow hnil hn0 hLIT E1 E2
  go_wp2_with (go_at_call 39; (refine G1.mono ?_); rintro e w9 ⟨v9, rfl, ho9, hB9⟩)
  go_ret
  obtain ⟨q5, c5, rfl⟩ := own_sl ho9
  have p1 := SeqFar.own ho9
  rw [← HEL.out] at p1
  exact ⟨⟨q5, c5, by rw [hXl]; rfl, p1.1.at⟩, B5.trans (hB9.mono (by omega))⟩
theorem rencode_ok {op a b n : Int} (h : okX op a b n = true) (w : World) : Calls Tryz.prog 22 #[inV op a b n] w fun e w' => REnc (enL op a b n) e w' ∧ Below w.heap.size w w' := by
  rcases regs_of (rowO_sh (okX_parts h).1).1 with hr | hr | hr
  · exact rencode_0 h hr w
  · exact rencode_1 h hr w
  · exact rencode_2 h hr w
end Go.Proofs.YtjlbcpmfbokinaaGreatDoor
