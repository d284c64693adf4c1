import Derived.Test.YtojcdjpaojgkkaaGreatDoorWc
import Derived.Test.YtojcdjpaojgkkaaGreatDoorMaps
namespace Go.Proofs.YtojcdjpaojgkkaaGreatDoor
open Go.RowKit
open Go.Maps (Keyed)

theorem intKeyed : Keyed Tryz.prog 3 := Go.Maps.int_keyed Tryz.underlying3
def FnMap (w : World) (b n : Nat) (D : DataW Unit) : Prop := w.ownsMap Tryz.prog 3 fnElem b n D

def shD : DataW Unit := .map [(.int .i64 9, .lit (.int .i64 (58 : Nat))), (.int .i64 10, .lit (.int .i64 (59 : Nat)))]

set_option maxRecDepth 100000 in
set_option maxHeartbeats 1000000 in
theorem shifts_any (w : World) : Calls Tryz.prog 24 #[] w fun e w' => e = .returned (.map (some w.heap.size)) ∧ FnMap w' w.heap.size 2 shD ∧ Below w.heap.size w w' := by
  have hmm := @run_makeMap Tryz.prog
  go_enter Tryz.func24, Tryz.ntmps24
  go_wp2_with first | (refine wpList_insert_own (w.alloc (.map #[] 0)) rfl _ _ _ 60 rfl 3 58 intKeyed Tryz.underlying60 fnElem w.heap.size 0 (.map []) rfl (World.ownsMap_made _ _ _ _) (by unfold maxLen; omega) _ _ _ rfl rfl (Maps.keyOf_int_mk Tryz.underlying3 (by decide)) _ [] (fnElem_fn _) ?_; intro w1 h1 g1) | (refine wpList_insert_own w1 rfl _ _ _ 60 rfl 3 58 intKeyed Tryz.underlying60 fnElem w.heap.size 1 _ rfl h1 (by unfold maxLen; omega) _ _ _ rfl rfl (Maps.keyOf_int_mk Tryz.underlying3 (by decide)) _ [] (fnElem_fn _) ?_; intro w2 h2 g2)
  go_ret
  have sz0 : w.heap.size < (w.alloc (.map #[] 0)).heap.size := by simp
  have sz1 : w.heap.size < w1.heap.size := Nat.lt_of_lt_of_le sz0 g1.size
  have sz2 : w.heap.size < w2.heap.size := Nat.lt_of_lt_of_le sz1 g2.size
  exact ⟨rfl, h2, ((((Below.refl _ w).alloc (Nat.le_refl _) _)).grown g1 (by have := sz0; omega) (fun k hk => by cases hk; exact Nat.le_refl _)).grown g2 (by have := sz1; omega) (fun k hk => by cases hk; exact Nat.le_refl _)⟩

def arD : DataW Unit := .map [(.int .i64 1, .lit (.int .i64 (49 : Nat))), (.int .i64 2, .lit (.int .i64 (50 : Nat))), (.int .i64 3, .lit (.int .i64 (51 : Nat))), (.int .i64 4, .lit (.int .i64 (52 : Nat))), (.int .i64 5, .lit (.int .i64 (53 : Nat))), (.int .i64 6, .lit (.int .i64 (54 : Nat))), (.int .i64 7, .lit (.int .i64 (55 : Nat))), (.int .i64 8, .lit (.int .i64 (56 : Nat)))]

set_option maxRecDepth 100000 in
set_option maxHeartbeats 1000000 in
theorem arithmetic_any (w : World) : Calls Tryz.prog 22 #[] w fun e w' => e = .returned (.map (some w.heap.size)) ∧ FnMap w' w.heap.size 8 arD ∧ Below w.heap.size w w' := by
  have hmm := @run_makeMap Tryz.prog
  go_enter Tryz.func22, Tryz.ntmps22
  go_wp2_with first | (refine wpList_insert_own (w.alloc (.map #[] 0)) rfl _ _ _ 55 rfl 3 53 intKeyed Tryz.underlying55 fnElem w.heap.size 0 (.map []) rfl (World.ownsMap_made _ _ _ _) (by unfold maxLen; omega) _ _ _ rfl rfl (Maps.keyOf_int_mk Tryz.underlying3 (by decide)) _ [] (fnElem_fn _) ?_; intro w1 h1 g1) | (refine wpList_insert_own w1 rfl _ _ _ 55 rfl 3 53 intKeyed Tryz.underlying55 fnElem w.heap.size 1 _ rfl h1 (by unfold maxLen; omega) _ _ _ rfl rfl (Maps.keyOf_int_mk Tryz.underlying3 (by decide)) _ [] (fnElem_fn _) ?_; intro w2 h2 g2) | (refine wpList_insert_own w2 rfl _ _ _ 55 rfl 3 53 intKeyed Tryz.underlying55 fnElem w.heap.size 2 _ rfl h2 (by unfold maxLen; omega) _ _ _ rfl rfl (Maps.keyOf_int_mk Tryz.underlying3 (by decide)) _ [] (fnElem_fn _) ?_; intro w3 h3 g3) | (refine wpList_insert_own w3 rfl _ _ _ 55 rfl 3 53 intKeyed Tryz.underlying55 fnElem w.heap.size 3 _ rfl h3 (by unfold maxLen; omega) _ _ _ rfl rfl (Maps.keyOf_int_mk Tryz.underlying3 (by decide)) _ [] (fnElem_fn _) ?_; intro w4 h4 g4) | (refine wpList_insert_own w4 rfl _ _ _ 55 rfl 3 53 intKeyed Tryz.underlying55 fnElem w.heap.size 4 _ rfl h4 (by unfold maxLen; omega) _ _ _ rfl rfl (Maps.keyOf_int_mk Tryz.underlying3 (by decide)) _ [] (fnElem_fn _) ?_; intro w5 h5 g5) | (refine wpList_insert_own w5 rfl _ _ _ 55 rfl 3 53 intKeyed Tryz.underlying55 fnElem w.heap.size 5 _ rfl h5 (by unfold maxLen; omega) _ _ _ rfl rfl (Maps.keyOf_int_mk Tryz.underlying3 (by decide)) _ [] (fnElem_fn _) ?_; intro w6 h6 g6) | (refine wpList_insert_own w6 rfl _ _ _ 55 rfl 3 53 intKeyed Tryz.underlying55 fnElem w.heap.size 6 _ rfl h6 (by unfold maxLen; omega) _ _ _ rfl rfl (Maps.keyOf_int_mk Tryz.underlying3 (by decide)) _ [] (fnElem_fn _) ?_; intro w7 h7 g7) | (refine wpList_insert_own w7 rfl _ _ _ 55 rfl 3 53 intKeyed Tryz.underlying55 fnElem w.heap.size 7 _ rfl h7 (by unfold maxLen; omega) _ _ _ rfl rfl (Maps.keyOf_int_mk Tryz.underlying3 (by decide)) _ [] (fnElem_fn _) ?_; intro w8 h8 g8)
  go_ret
  have sz0 : w.heap.size < (w.alloc (.map #[] 0)).heap.size := by simp
  have sz1 : w.heap.size < w1.heap.size := Nat.lt_of_lt_of_le sz0 g1.size
  have sz2 : w.heap.size < w2.heap.size := Nat.lt_of_lt_of_le sz1 g2.size
  have sz3 : w.heap.size < w3.heap.size := Nat.lt_of_lt_of_le sz2 g3.size
  have sz4 : w.heap.size < w4.heap.size := Nat.lt_of_lt_of_le sz3 g4.size
  have sz5 : w.heap.size < w5.heap.size := Nat.lt_of_lt_of_le sz4 g5.size
  have sz6 : w.heap.size < w6.heap.size := Nat.lt_of_lt_of_le sz5 g6.size
  have sz7 : w.heap.size < w7.heap.size := Nat.lt_of_lt_of_le sz6 g7.size
  have sz8 : w.heap.size < w8.heap.size := Nat.lt_of_lt_of_le sz7 g8.size
  exact ⟨rfl, h8, ((((((((((Below.refl _ w).alloc (Nat.le_refl _) _)).grown g1 (by have := sz0; omega) (fun k hk => by cases hk; exact Nat.le_refl _)).grown g2 (by have := sz1; omega) (fun k hk => by cases hk; exact Nat.le_refl _)).grown g3 (by have := sz2; omega) (fun k hk => by cases hk; exact Nat.le_refl _)).grown g4 (by have := sz3; omega) (fun k hk => by cases hk; exact Nat.le_refl _)).grown g5 (by have := sz4; omega) (fun k hk => by cases hk; exact Nat.le_refl _)).grown g6 (by have := sz5; omega) (fun k hk => by cases hk; exact Nat.le_refl _)).grown g7 (by have := sz6; omega) (fun k hk => by cases hk; exact Nat.le_refl _)).grown g8 (by have := sz7; omega) (fun k hk => by cases hk; exact Nat.le_refl _)⟩

def reD : DataW Unit := .map [(.int .i64 11, .lit (.int .i64 (61 : Nat))), (.int .i64 12, .lit (.int .i64 (62 : Nat))), (.int .i64 13, .lit (.int .i64 (63 : Nat))), (.int .i64 14, .lit (.int .i64 (64 : Nat))), (.int .i64 15, .lit (.int .i64 (65 : Nat))), (.int .i64 16, .lit (.int .i64 (66 : Nat)))]

set_option maxRecDepth 100000 in
set_option maxHeartbeats 1000000 in
theorem relations_any (w : World) : Calls Tryz.prog 26 #[] w fun e w' => e = .returned (.map (some w.heap.size)) ∧ FnMap w' w.heap.size 6 reD ∧ Below w.heap.size w w' := by
  have hmm := @run_makeMap Tryz.prog
  go_enter Tryz.func26, Tryz.ntmps26
  go_wp2_with first | (refine wpList_insert_own (w.alloc (.map #[] 0)) rfl _ _ _ 65 rfl 3 63 intKeyed Tryz.underlying65 fnElem w.heap.size 0 (.map []) rfl (World.ownsMap_made _ _ _ _) (by unfold maxLen; omega) _ _ _ rfl rfl (Maps.keyOf_int_mk Tryz.underlying3 (by decide)) _ [] (fnElem_fn _) ?_; intro w1 h1 g1) | (refine wpList_insert_own w1 rfl _ _ _ 65 rfl 3 63 intKeyed Tryz.underlying65 fnElem w.heap.size 1 _ rfl h1 (by unfold maxLen; omega) _ _ _ rfl rfl (Maps.keyOf_int_mk Tryz.underlying3 (by decide)) _ [] (fnElem_fn _) ?_; intro w2 h2 g2) | (refine wpList_insert_own w2 rfl _ _ _ 65 rfl 3 63 intKeyed Tryz.underlying65 fnElem w.heap.size 2 _ rfl h2 (by unfold maxLen; omega) _ _ _ rfl rfl (Maps.keyOf_int_mk Tryz.underlying3 (by decide)) _ [] (fnElem_fn _) ?_; intro w3 h3 g3) | (refine wpList_insert_own w3 rfl _ _ _ 65 rfl 3 63 intKeyed Tryz.underlying65 fnElem w.heap.size 3 _ rfl h3 (by unfold maxLen; omega) _ _ _ rfl rfl (Maps.keyOf_int_mk Tryz.underlying3 (by decide)) _ [] (fnElem_fn _) ?_; intro w4 h4 g4) | (refine wpList_insert_own w4 rfl _ _ _ 65 rfl 3 63 intKeyed Tryz.underlying65 fnElem w.heap.size 4 _ rfl h4 (by unfold maxLen; omega) _ _ _ rfl rfl (Maps.keyOf_int_mk Tryz.underlying3 (by decide)) _ [] (fnElem_fn _) ?_; intro w5 h5 g5) | (refine wpList_insert_own w5 rfl _ _ _ 65 rfl 3 63 intKeyed Tryz.underlying65 fnElem w.heap.size 5 _ rfl h5 (by unfold maxLen; omega) _ _ _ rfl rfl (Maps.keyOf_int_mk Tryz.underlying3 (by decide)) _ [] (fnElem_fn _) ?_; intro w6 h6 g6)
  go_ret
  have sz0 : w.heap.size < (w.alloc (.map #[] 0)).heap.size := by simp
  have sz1 : w.heap.size < w1.heap.size := Nat.lt_of_lt_of_le sz0 g1.size
  have sz2 : w.heap.size < w2.heap.size := Nat.lt_of_lt_of_le sz1 g2.size
  have sz3 : w.heap.size < w3.heap.size := Nat.lt_of_lt_of_le sz2 g3.size
  have sz4 : w.heap.size < w4.heap.size := Nat.lt_of_lt_of_le sz3 g4.size
  have sz5 : w.heap.size < w5.heap.size := Nat.lt_of_lt_of_le sz4 g5.size
  have sz6 : w.heap.size < w6.heap.size := Nat.lt_of_lt_of_le sz5 g6.size
  exact ⟨rfl, h6, ((((((((Below.refl _ w).alloc (Nat.le_refl _) _)).grown g1 (by have := sz0; omega) (fun k hk => by cases hk; exact Nat.le_refl _)).grown g2 (by have := sz1; omega) (fun k hk => by cases hk; exact Nat.le_refl _)).grown g3 (by have := sz2; omega) (fun k hk => by cases hk; exact Nat.le_refl _)).grown g4 (by have := sz3; omega) (fun k hk => by cases hk; exact Nat.le_refl _)).grown g5 (by have := sz4; omega) (fun k hk => by cases hk; exact Nat.le_refl _)).grown g6 (by have := sz5; omega) (fun k hk => by cases hk; exact Nat.le_refl _)⟩
end Go.Proofs.YtojcdjpaojgkkaaGreatDoor
