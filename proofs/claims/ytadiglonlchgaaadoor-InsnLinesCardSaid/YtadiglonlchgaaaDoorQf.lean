/-
  Layer 2, contracts: Print in general: the texts of operands.
-/
import Derived.Test.YtadiglonlchgaaaDoorJx
namespace Go.Proofs.YtadiglonlchgaaaDoor
open Go.RowKit Go.Shelf

/-- A number with its sign. -/
def sgT (n : Int) : ByteArray := if n < 0 then itB n else ⟨#[43]⟩ ++ itB n
def rgT (n : Int) : ByteArray := ⟨#[114]⟩ ++ itB n
/-- The text of an operand: 0 A, 1 B, 2 a number, 3 an address, 4 [B], 5 a target. -/
def otB (o : Int) (a b n : Int) : ByteArray :=
  if o = 0 then rgT a else if o = 1 then rgT b else if o = 2 then itB n else if o = 5 then ⟨#[46]⟩ ++ sgT n
  else if o = 3 ∧ n ≠ 0 then ⟨#[91]⟩ ++ rgT b ++ sgT n ++ ⟨#[93]⟩ else ⟨#[91]⟩ ++ rgT b ++ ⟨#[93]⟩
theorem sgT_len (n : Int) (h0 : -9223372036854775808 ≤ n) (h1 : n ≤ 9223372036854775807) : (sgT n).size ≤ 22 := by
  have := itB_len n h0 h1
  unfold sgT
  split
  · omega
  · rw [ByteArray.size_append]; show 1 + _ ≤ _; omega
theorem rgT_len (n : Int) (h0 : -9223372036854775808 ≤ n) (h1 : n ≤ 9223372036854775807) : (rgT n).size ≤ 22 := by
  have := itB_len n h0 h1
  unfold rgT
  rw [ByteArray.size_append]; show 1 + _ ≤ _; omega
theorem otB_len (o a b n : Int) (ha : -9223372036854775808 ≤ a ∧ a ≤ 9223372036854775807) (hb : -9223372036854775808 ≤ b ∧ b ≤ 9223372036854775807) (hn : -9223372036854775808 ≤ n ∧ n ≤ 9223372036854775807) : (otB o a b n).size ≤ 46 := by
  have l1 := rgT_len a ha.1 ha.2
  have l2 := rgT_len b hb.1 hb.2
  have l3 := itB_len n hn.1 hn.2
  have l4 := sgT_len n hn.1 hn.2
  have k1 : (⟨#[46]⟩ : ByteArray).size = 1 := rfl
  have k2 : (⟨#[91]⟩ : ByteArray).size = 1 := rfl
  have k3 : (⟨#[93]⟩ : ByteArray).size = 1 := rfl
  unfold otB
  repeat' split
  all_goals (try simp only [ByteArray.size_append]); omega
theorem sgnText (n : Int) (h0 : -9223372036854775808 ≤ n) (h1 : n ≤ 9223372036854775807) (w : World) (hP : PT w) : Calls Tryd.prog 34 #[.int .i64 n] w fun e w' => e = .returned (.string (sgT n)) ∧ Below w.heap.size w w' := by
  by_cases hn : n < 0
  · rw [show sgT n = itB n from if_pos hn]
    exact sgnText_neg n h0 hn w hP
  · rw [show sgT n = ⟨#[43]⟩ ++ itB n from if_neg hn]
    have H : ∀ W, Below w.heap.size w W → Calls Tryd.prog 33 #[.int .i64 n, .int .i64 10] W fun e w' => e = .returned (.string (itB n)) ∧ Below W.heap.size W w' := fun W g => format_any n h0 h1 W (hP.up g)
    have hl := itB_len n h0 h1
    have hcs : ¬ (9223372036854775807 < 1 + (itB n).size) := by omega
    generalize itB n = t at *
    go_enter Tryd.func34, Tryd.ntmps34
    go_wp2_with (go_at_call 33; (refine (H _ (Below.refl _ _)).mono ?_); rintro e w1 ⟨rfl, hL1⟩)
    go_ret
    exact ⟨rfl, hL1⟩
theorem regTextB (n : Int) (h0 : -9223372036854775808 ≤ n) (h1 : n ≤ 9223372036854775807) (w : World) (hP : PT w) : Calls Tryd.prog 32 #[.int .i64 n] w fun e w' => e = .returned (.string (rgT n)) ∧ Below w.heap.size w w' := regText n h0 h1 w hP
set_option maxRecDepth 100000 in
set_option maxHeartbeats 1000000 in
theorem opText_0 (op a b n : Int) (h0 : -9223372036854775808 ≤ a) (h1 : a ≤ 9223372036854775807) (w : World) (hP : PT w) : Calls Tryd.prog 22 #[.int .i64 0, inV op a b n] w fun e w' => e = .returned (.string (rgT a)) ∧ Below w.heap.size w w' := by
  have H : ∀ W, Below w.heap.size w W → Calls Tryd.prog 32 #[.int .i64 a] W fun e w' => e = .returned (.string (rgT a)) ∧ Below W.heap.size W w' := fun W g => regTextB a h0 h1 W (hP.up g)
  generalize rgT a = t at *
  go_enter Tryd.func22, Tryd.ntmps22
  go_wp2_with (go_at_call 32; (refine (H _ (Gr.below (by repeat (first | (with_reducible exact Gr.refl _) | with_reducible refine Gr.alloc ?_ _ | with_reducible refine Gr.more ?_ _ _ | with_reducible refine Gr.setCell ?_ (by dsimp only; omega) _ | with_reducible refine Gr.drew ?_)))).mono ?_); rintro e w1 ⟨rfl, hb⟩; obtain ⟨os, n', rfl⟩ := Below.moreE hb; clear hb)
  go_ret
  exact ⟨rfl, (Gr.below (by repeat (first | (with_reducible exact Gr.refl _) | with_reducible refine Gr.alloc ?_ _ | with_reducible refine Gr.more ?_ _ _ | with_reducible refine Gr.setCell ?_ (by dsimp only; omega) _ | with_reducible refine Gr.drew ?_)))⟩
set_option maxRecDepth 100000 in
set_option maxHeartbeats 1000000 in
theorem opText_1 (op a b n : Int) (h0 : -9223372036854775808 ≤ b) (h1 : b ≤ 9223372036854775807) (w : World) (hP : PT w) : Calls Tryd.prog 22 #[.int .i64 1, inV op a b n] w fun e w' => e = .returned (.string (rgT b)) ∧ Below w.heap.size w w' := by
  have H : ∀ W, Below w.heap.size w W → Calls Tryd.prog 32 #[.int .i64 b] W fun e w' => e = .returned (.string (rgT b)) ∧ Below W.heap.size W w' := fun W g => regTextB b h0 h1 W (hP.up g)
  generalize rgT b = t at *
  go_enter Tryd.func22, Tryd.ntmps22
  go_wp2_with (go_at_call 32; (refine (H _ (Gr.below (by repeat (first | (with_reducible exact Gr.refl _) | with_reducible refine Gr.alloc ?_ _ | with_reducible refine Gr.more ?_ _ _ | with_reducible refine Gr.setCell ?_ (by dsimp only; omega) _ | with_reducible refine Gr.drew ?_)))).mono ?_); rintro e w1 ⟨rfl, hb⟩; obtain ⟨os, n', rfl⟩ := Below.moreE hb; clear hb)
  go_ret
  exact ⟨rfl, (Gr.below (by repeat (first | (with_reducible exact Gr.refl _) | with_reducible refine Gr.alloc ?_ _ | with_reducible refine Gr.more ?_ _ _ | with_reducible refine Gr.setCell ?_ (by dsimp only; omega) _ | with_reducible refine Gr.drew ?_)))⟩
set_option maxRecDepth 100000 in
set_option maxHeartbeats 1000000 in
theorem opText_2 (op a b n : Int) (h0 : -9223372036854775808 ≤ n) (h1 : n ≤ 9223372036854775807) (w : World) (hP : PT w) : Calls Tryd.prog 22 #[.int .i64 2, inV op a b n] w fun e w' => e = .returned (.string (itB n)) ∧ Below w.heap.size w w' := by
  have H : ∀ W, Below w.heap.size w W → Calls Tryd.prog 33 #[.int .i64 n, .int .i64 10] W fun e w' => e = .returned (.string (itB n)) ∧ Below W.heap.size W w' := fun W g => format_any n h0 h1 W (hP.up g)
  generalize itB n = t at *
  go_enter Tryd.func22, Tryd.ntmps22
  go_wp2_with (go_at_call 33; (refine (H _ (Gr.below (by repeat (first | (with_reducible exact Gr.refl _) | with_reducible refine Gr.alloc ?_ _ | with_reducible refine Gr.more ?_ _ _ | with_reducible refine Gr.setCell ?_ (by dsimp only; omega) _ | with_reducible refine Gr.drew ?_)))).mono ?_); rintro e w1 ⟨rfl, hb⟩; obtain ⟨os, n', rfl⟩ := Below.moreE hb; clear hb)
  go_ret
  exact ⟨rfl, (Gr.below (by repeat (first | (with_reducible exact Gr.refl _) | with_reducible refine Gr.alloc ?_ _ | with_reducible refine Gr.more ?_ _ _ | with_reducible refine Gr.setCell ?_ (by dsimp only; omega) _ | with_reducible refine Gr.drew ?_)))⟩
set_option maxRecDepth 100000 in
set_option maxHeartbeats 1000000 in
theorem opText_5 (op a b n : Int) (h0 : -9223372036854775808 ≤ n) (h1 : n ≤ 9223372036854775807) (w : World) (hP : PT w) : Calls Tryd.prog 22 #[.int .i64 5, inV op a b n] w fun e w' => e = .returned (.string (⟨#[46]⟩ ++ sgT n)) ∧ Below w.heap.size w w' := by
  have H : ∀ W, Below w.heap.size w W → Calls Tryd.prog 34 #[.int .i64 n] W fun e w' => e = .returned (.string (sgT n)) ∧ Below W.heap.size W w' := fun W g => sgnText n h0 h1 W (hP.up g)
  have l := sgT_len n h0 h1
  generalize sgT n = t at *
  have s1 : ¬ (9223372036854775807 < 1 + t.size) := by omega
  go_enter Tryd.func22, Tryd.ntmps22
  go_wp2_with (go_at_call 34; (refine (H _ (Gr.below (by repeat (first | (with_reducible exact Gr.refl _) | with_reducible refine Gr.alloc ?_ _ | with_reducible refine Gr.more ?_ _ _ | with_reducible refine Gr.setCell ?_ (by dsimp only; omega) _ | with_reducible refine Gr.drew ?_)))).mono ?_); rintro e w1 ⟨rfl, hb⟩; obtain ⟨os, n', rfl⟩ := Below.moreE hb; clear hb)
  go_ret
  exact ⟨rfl, (Gr.below (by repeat (first | (with_reducible exact Gr.refl _) | with_reducible refine Gr.alloc ?_ _ | with_reducible refine Gr.more ?_ _ _ | with_reducible refine Gr.setCell ?_ (by dsimp only; omega) _ | with_reducible refine Gr.drew ?_)))⟩
set_option maxRecDepth 100000 in
set_option maxHeartbeats 2000000 in
theorem opText_3n (op a b n : Int) (hb0 : -9223372036854775808 ≤ b) (hb1 : b ≤ 9223372036854775807) (hn : n ≠ 0) (h0 : -9223372036854775808 ≤ n) (h1 : n ≤ 9223372036854775807) (w : World) (hP : PT w) : Calls Tryd.prog 22 #[.int .i64 3, inV op a b n] w fun e w' => e = .returned (.string (⟨#[91]⟩ ++ rgT b ++ sgT n ++ ⟨#[93]⟩)) ∧ Below w.heap.size w w' := by
  have H1 : ∀ W, Below w.heap.size w W → Calls Tryd.prog 32 #[.int .i64 b] W fun e w' => e = .returned (.string (rgT b)) ∧ Below W.heap.size W w' := fun W g => regTextB b hb0 hb1 W (hP.up g)
  have H2 : ∀ W, Below w.heap.size w W → Calls Tryd.prog 34 #[.int .i64 n] W fun e w' => e = .returned (.string (sgT n)) ∧ Below W.heap.size W w' := fun W g => sgnText n h0 h1 W (hP.up g)
  have l3 := rgT_len b hb0 hb1
  have l2 := sgT_len n h0 h1
  have hne : (n != 0) = true := by rw [bne_iff_ne]; exact hn
  generalize rgT b = t at *
  generalize sgT n = u at *
  have s1 : ¬ (9223372036854775807 < 1 + t.size) := by omega
  have s2' : ¬ (9223372036854775807 < 1 + t.size + u.size) := by omega
  have s3' : ¬ (9223372036854775807 < 1 + t.size + u.size + 1) := by omega
  go_enter Tryd.func22, Tryd.ntmps22
  go_upto_region 12 with fail
  go_region_held3 (fun w' => w'.cell? ⟨w.heap.size, 2, none⟩ = some (.int .i64 b) ∧ w'.cell? ⟨w.heap.size, 3, none⟩ = some (.int .i64 n)) (exact ⟨by go_simp, by go_simp⟩)
    ((first | (go_at_call 32; (refine (H1 _ (Gr.below (by repeat (first | (with_reducible exact Gr.refl _) | with_reducible refine Gr.alloc ?_ _ | with_reducible refine Gr.more ?_ _ _ | with_reducible refine Gr.setCell ?_ (by dsimp only; omega) _ | with_reducible refine Gr.drew ?_)))).mono ?_); rintro e w1 ⟨rfl, hb⟩; obtain ⟨os, n', rfl⟩ := Below.moreE hb; clear hb) | (go_at_call 34; (refine (H2 _ (Gr.below (by repeat (first | (with_reducible exact Gr.refl _) | with_reducible refine Gr.alloc ?_ _ | with_reducible refine Gr.more ?_ _ _ | with_reducible refine Gr.setCell ?_ (by dsimp only; omega) _ | with_reducible refine Gr.drew ?_)))).mono ?_); rintro e w1 ⟨rfl, hb⟩; obtain ⟨os, n', rfl⟩ := Below.moreE hb; clear hb)))
  all_goals (
    go_wp2_with fail
    go_ret
    exact ⟨rfl, (Gr.below (by repeat (first | (with_reducible exact Gr.refl _) | with_reducible refine Gr.alloc ?_ _ | with_reducible refine Gr.more ?_ _ _ | with_reducible refine Gr.setCell ?_ (by dsimp only; omega) _ | with_reducible refine Gr.drew ?_)))⟩)
set_option maxRecDepth 100000 in
set_option maxHeartbeats 2000000 in
theorem opText_3z (op a b : Int) (hb0 : -9223372036854775808 ≤ b) (hb1 : b ≤ 9223372036854775807) (w : World) (hP : PT w) : Calls Tryd.prog 22 #[.int .i64 3, inV op a b 0] w fun e w' => e = .returned (.string (⟨#[91]⟩ ++ rgT b ++ ⟨#[93]⟩)) ∧ Below w.heap.size w w' := by
  have H1 : ∀ W, Below w.heap.size w W → Calls Tryd.prog 32 #[.int .i64 b] W fun e w' => e = .returned (.string (rgT b)) ∧ Below W.heap.size W w' := fun W g => regTextB b hb0 hb1 W (hP.up g)
  have l3 := rgT_len b hb0 hb1
  generalize rgT b = t at *
  have s1 : ¬ (9223372036854775807 < 1 + t.size) := by omega
  have s2 : ¬ (9223372036854775807 < 1 + t.size + 1) := by omega
  go_enter Tryd.func22, Tryd.ntmps22
  go_wp2_with (go_at_call 32; (refine (H1 _ (Gr.below (by repeat (first | (with_reducible exact Gr.refl _) | with_reducible refine Gr.alloc ?_ _ | with_reducible refine Gr.more ?_ _ _ | with_reducible refine Gr.setCell ?_ (by dsimp only; omega) _ | with_reducible refine Gr.drew ?_)))).mono ?_); rintro e w1 ⟨rfl, hb⟩; obtain ⟨os, n', rfl⟩ := Below.moreE hb; clear hb)
  go_ret
  exact ⟨rfl, (Gr.below (by repeat (first | (with_reducible exact Gr.refl _) | with_reducible refine Gr.alloc ?_ _ | with_reducible refine Gr.more ?_ _ _ | with_reducible refine Gr.setCell ?_ (by dsimp only; omega) _ | with_reducible refine Gr.drew ?_)))⟩
set_option maxRecDepth 100000 in
set_option maxHeartbeats 2000000 in
theorem opText_4 (op a b n : Int) (hb0 : -9223372036854775808 ≤ b) (hb1 : b ≤ 9223372036854775807) (w : World) (hP : PT w) : Calls Tryd.prog 22 #[.int .i64 4, inV op a b n] w fun e w' => e = .returned (.string (⟨#[91]⟩ ++ rgT b ++ ⟨#[93]⟩)) ∧ Below w.heap.size w w' := by
  have H1 : ∀ W, Below w.heap.size w W → Calls Tryd.prog 32 #[.int .i64 b] W fun e w' => e = .returned (.string (rgT b)) ∧ Below W.heap.size W w' := fun W g => regTextB b hb0 hb1 W (hP.up g)
  have l3 := rgT_len b hb0 hb1
  generalize rgT b = t at *
  have s1 : ¬ (9223372036854775807 < 1 + t.size) := by omega
  have s2 : ¬ (9223372036854775807 < 1 + t.size + 1) := by omega
  go_enter Tryd.func22, Tryd.ntmps22
  go_wp2_with (go_at_call 32; (refine (H1 _ (Gr.below (by repeat (first | (with_reducible exact Gr.refl _) | with_reducible refine Gr.alloc ?_ _ | with_reducible refine Gr.more ?_ _ _ | with_reducible refine Gr.setCell ?_ (by dsimp only; omega) _ | with_reducible refine Gr.drew ?_)))).mono ?_); rintro e w1 ⟨rfl, hb⟩; obtain ⟨os, n', rfl⟩ := Below.moreE hb; clear hb)
  go_ret
  exact ⟨rfl, (Gr.below (by repeat (first | (with_reducible exact Gr.refl _) | with_reducible refine Gr.alloc ?_ _ | with_reducible refine Gr.more ?_ _ _ | with_reducible refine Gr.setCell ?_ (by dsimp only; omega) _ | with_reducible refine Gr.drew ?_)))⟩
theorem opText_any (o op a b n : Int) (ho : 0 ≤ o ∧ o ≤ 5) (ha : -9223372036854775808 ≤ a ∧ a ≤ 9223372036854775807) (hb : -9223372036854775808 ≤ b ∧ b ≤ 9223372036854775807) (hn : -9223372036854775808 ≤ n ∧ n ≤ 9223372036854775807) (w : World) (hP : PT w) :
    Calls Tryd.prog 22 #[.int .i64 o, inV op a b n] w fun e w' => e = .returned (.string (otB o a b n)) ∧ Below w.heap.size w w' := by
  rcases (by omega : o = 0 ∨ o = 1 ∨ o = 2 ∨ o = 3 ∨ o = 4 ∨ o = 5) with rfl | rfl | rfl | rfl | rfl | rfl
  · exact opText_0 op a b n ha.1 ha.2 w hP
  · exact opText_1 op a b n hb.1 hb.2 w hP
  · exact opText_2 op a b n hn.1 hn.2 w hP
  · by_cases h : n = 0
    · subst h
      exact opText_3z op a b hb.1 hb.2 w hP
    · rw [show otB 3 a b n = ⟨#[91]⟩ ++ rgT b ++ sgT n ++ ⟨#[93]⟩ by unfold otB; simp [h]]
      exact opText_3n op a b n hb.1 hb.2 h hn.1 hn.2 w hP
  · exact opText_4 op a b n hb.1 hb.2 w hP
  · exact opText_5 op a b n hn.1 hn.2 w hP
end Go.Proofs.YtadiglonlchgaaaDoor
