/-
  The reference of layer 1: Order, Compare, FromBytes.
  The reference of layer 1: Bytes.
  The reference of layer 1: Parse.
  The law BitsForms: its regions, and the law.
  The law BitsForms.
-/
import Derived.Test.YtbdkacfddbiclaaDoorUb
import Derived.Test.YtbdkacfddbiclaaDoorF0
import Derived.Test.YtbdkacfddbiclaaDoorLo
import Derived.Test.YtbdkacfddbiclaaDoorTa
import Derived.Test.YtbdkacfddbiclaaDoorF2
import Derived.Test.YtbdkacfddbiclaaDoorF1
import Derived.Laws.IdiomStrings
namespace Go.Proofs.YtbdkacfddbiclaaDoor
open Go.RowKit

theorem u64_lt {a b : Int} (a1 : -9223372036854775808 ≤ a) (a2 : a ≤ 9223372036854775807) (b1 : -9223372036854775808 ≤ b) (b2 : b ≤ 9223372036854775807) : (u64 a < u64 b) ↔ ((0 ≤ a ∧ b < 0) ∨ ((a < 0 ↔ b < 0) ∧ a < b)) := by
  rw [u64_eq, u64_eq]; omega
theorem ord_lt {a b : Int} (h : u64 a < u64 b) : ordI false a b = -1 := by simp [ordI, cmpI, h]
theorem ord_gt {a b : Int} (h : u64 b < u64 a) : ordI false a b = 1 := by
  have : ¬ u64 a < u64 b := by omega
  simp [ordI, cmpI, h, this]
theorem ord_eq {a b : Int} (h : a = b) : ordI false a b = 0 := by subst h; simp [ordI, cmpI]
set_option maxHeartbeats 4000000 in
theorem rorder_any (s : Int) (g : Bool) (a b : Int) (ha : I64 a) (hb : I64 b) (w : World) : Calls Tryd.prog 50 #[tyV s g, .int .i64 a, .int .i64 b] w fun e w' => e = .returned (.int .i64 (ordI g a b)) ∧ Below w.heap.size w w' := by
  obtain ⟨a1, a2⟩ := ha
  obtain ⟨b1, b2⟩ := hb
  cases g
  · by_cases sa : a < 0
    · by_cases sb : b < 0
      · by_cases h1 : a < b
        · have e := ord_lt ((u64_lt a1 a2 b1 b2).2 (by omega))
          clear a1 a2 b1 b2
          rw [e]
          clear e
          go_enter Tryd.func50, Tryd.ntmps50
          go_wp2
          go_ret
          exact ⟨ret_int (by first | rfl | simp), (Below.refl _ _).alloc (Nat.le_refl _) _⟩
        · by_cases h2 : b < a
          · have e := ord_gt ((u64_lt b1 b2 a1 a2).2 (by omega))
            clear a1 a2 b1 b2
            rw [e]
            clear e
            go_enter Tryd.func50, Tryd.ntmps50
            go_wp2
            go_ret
            exact ⟨ret_int (by first | rfl | simp), (Below.refl _ _).alloc (Nat.le_refl _) _⟩
          · have e := ord_eq (a := a) (b := b) (by omega)
            clear a1 a2 b1 b2
            rw [e]
            clear e
            go_enter Tryd.func50, Tryd.ntmps50
            go_wp2
            go_ret
            exact ⟨ret_int (by first | rfl | simp), (Below.refl _ _).alloc (Nat.le_refl _) _⟩
      · have h1 : a < b := by omega
        have h2 : ¬ b < a := by omega
        have e := ord_gt ((u64_lt b1 b2 a1 a2).2 (by omega))
        clear a1 a2 b1 b2
        rw [e]
        clear e
        go_enter Tryd.func50, Tryd.ntmps50
        go_wp2
        go_ret
        exact ⟨ret_int (by first | rfl | simp), (Below.refl _ _).alloc (Nat.le_refl _) _⟩
    · by_cases sb : b < 0
      · have h1 : b < a := by omega
        have h2 : ¬ a < b := by omega
        have e := ord_lt ((u64_lt a1 a2 b1 b2).2 (by omega))
        clear a1 a2 b1 b2
        rw [e]
        clear e
        go_enter Tryd.func50, Tryd.ntmps50
        go_wp2
        go_ret
        exact ⟨ret_int (by first | rfl | simp), (Below.refl _ _).alloc (Nat.le_refl _) _⟩
      · by_cases h1 : a < b
        · have e := ord_lt ((u64_lt a1 a2 b1 b2).2 (by omega))
          clear a1 a2 b1 b2
          rw [e]
          clear e
          go_enter Tryd.func50, Tryd.ntmps50
          go_wp2
          go_ret
          exact ⟨ret_int (by first | rfl | simp), (Below.refl _ _).alloc (Nat.le_refl _) _⟩
        · by_cases h2 : b < a
          · have e := ord_gt ((u64_lt b1 b2 a1 a2).2 (by omega))
            clear a1 a2 b1 b2
            rw [e]
            clear e
            go_enter Tryd.func50, Tryd.ntmps50
            go_wp2
            go_ret
            exact ⟨ret_int (by first | rfl | simp), (Below.refl _ _).alloc (Nat.le_refl _) _⟩
          · have e := ord_eq (a := a) (b := b) (by omega)
            clear a1 a2 b1 b2
            rw [e]
            clear e
            go_enter Tryd.func50, Tryd.ntmps50
            go_wp2
            go_ret
            exact ⟨ret_int (by first | rfl | simp), (Below.refl _ _).alloc (Nat.le_refl _) _⟩
  · by_cases h1 : a < b
    · have e : ordI true a b = -1 := by simp [ordI, cmpI, h1]
      rw [e]
      go_enter Tryd.func50, Tryd.ntmps50
      go_wp2
      go_ret
      exact ⟨ret_int (by first | rfl | simp), (Below.refl _ _).alloc (Nat.le_refl _) _⟩
    · by_cases h2 : b < a
      · have e : ordI true a b = 1 := by simp [ordI, cmpI, h1, h2]
        rw [e]
        go_enter Tryd.func50, Tryd.ntmps50
        go_wp2
        go_ret
        exact ⟨ret_int (by first | rfl | simp), (Below.refl _ _).alloc (Nat.le_refl _) _⟩
      · have e : ordI true a b = 0 := by simp [ordI, cmpI, h1, h2]
        rw [e]
        go_enter Tryd.func50, Tryd.ntmps50
        go_wp2
        go_ret
        exact ⟨ret_int (by first | rfl | simp), (Below.refl _ _).alloc (Nat.le_refl _) _⟩

set_option maxHeartbeats 2000000 in
theorem rcompare_ok {s : Int} (v : validB s = true) (g : Bool) {a b : Int} (ha : I64 a) (hb : I64 b) : RetM 26 #[tyV s g, .int .i64 a, .int .i64 b] (ordI g (wrapI s g a) (wrapI s g b)) 0 := fun w => by
  have HK := rcheck_ok v g
  have HO := rorder_any s g (wrapI s g a) (wrapI s g b) (Rg_I64 (Rg_wrap s g a ha)) (Rg_I64 (Rg_wrap s g b hb))
  go_enter Tryd.func26, Tryd.ntmps26
  go_upto_region 4 with (go_at_call 24; (refine (HK _).mono ?_); rintro e w1 ⟨rfl, hb⟩; obtain ⟨os, n, rfl⟩ := Below.moreE hb; clear hb)
  go_region_held3 (fun w' => w'.cell? ⟨w.heap.size, 0, none⟩ = some (.int .i64 s) ∧ w'.cell? ⟨w.heap.size, 1, none⟩ = some (.bool g)) (exact ⟨by go_simp, by go_simp⟩) (first | (go_at_call 42; (refine (rwrapped_any _ _ _ _).mono ?_); rintro e w1 ⟨rfl, hb⟩; obtain ⟨os, n, rfl⟩ := Below.moreE hb; clear hb) | (go_at_call 50; (refine (HO _).mono ?_); rintro e w1 ⟨rfl, hb⟩; obtain ⟨os, n, rfl⟩ := Below.moreE hb; clear hb))
  go_wp2
  refine bodyPost_ret (v := .tuple #[.int .i64 (ordI g (wrapI s g a) (wrapI s g b)), .int .i64 0]) (by simp [results, Tryd.results26, go_sem]) rfl ⟨rfl, (Gr.below (by repeat (first | (with_reducible exact Gr.refl _) | with_reducible refine Gr.alloc ?_ _ | with_reducible refine Gr.more ?_ _ _ | with_reducible refine Gr.setCell ?_ (by dsimp only; omega) _ | with_reducible refine Gr.drew ?_)))⟩
theorem rcompare_bad {s : Int} (v : validB s = false) (g : Bool) (a b : Int) : RetM 26 #[tyV s g, .int .i64 a, .int .i64 b] 0 10 := fun w => by
  have HK := rcheck_bad v g
  go_enter Tryd.func26, Tryd.ntmps26
  go_wp2_with (go_at_call 24; (refine (HK _).mono ?_); rintro e w1 ⟨rfl, hb⟩; obtain ⟨os, n, rfl⟩ := Below.moreE hb; clear hb)
  refine bodyPost_ret (v := .tuple #[.int .i64 0, .int .i64 10]) (by simp [results, Tryd.results26, go_sem]) rfl ⟨rfl, (Gr.below (by repeat (first | (with_reducible exact Gr.refl _) | with_reducible refine Gr.alloc ?_ _ | with_reducible refine Gr.more ?_ _ _ | with_reducible refine Gr.setCell ?_ (by dsimp only; omega) _ | with_reducible refine Gr.drew ?_)))⟩

theorem fbN_drop (l : List UInt8) (j : Nat) (h : j < l.length) : fbN (l.drop j) = l[j].toNat + 256 * fbN (l.drop (j + 1)) := by
  rw [List.drop_eq_getElem_cons h]
  rfl
theorem horner (N c : Nat) : wrap64 (wrap64 (256 * wrap64 (N : Int)) + (c : Int)) = wrap64 ((c + 256 * N : Nat) : Int) := by
  unfold wrap64; omega
set_option maxRecDepth 100000 in
set_option maxHeartbeats 2000000 in
theorem rfrom_loop {s : Int} (v : validB s = true) (g : Bool) (l : List UInt8) (hl : (l.length : Int) = s) (b cap : Nat) (w : World) (hb : BS w b l) : Calls Tryd.prog 30 #[tyV s g, .slice (some ⟨b, 0, none⟩) l.length cap] w fun e w' => e = .returned (.tuple #[.int .i64 (fbV s g l), .int .i64 0]) ∧ Below w.heap.size w w' := by
  have h8 : l.length ≤ 8 := by rcases (valid_iff s).1 v with rfl | rfl | rfl | rfl <;> omega
  have h1 : 1 ≤ l.length := by rcases (valid_iff s).1 v with rfl | rfl | rfl | rfl <;> omega
  have HK := rcheck_ok v g
  go_enter Tryd.func30, Tryd.ntmps30
  go_upto_region 6 with (go_at_call 24; (refine (HK _).mono ?_); rintro e w1 ⟨rfl, hb⟩; obtain ⟨os, n, rfl⟩ := Below.moreE hb; clear hb)
  go_cut [7] (fun s7 wx => s7 = .int .i64 0 ∧ wx.cell? ⟨w.heap.size, 0, none⟩ = some (.int .i64 s) ∧ wx.cell? ⟨w.heap.size, 1, none⟩ = some (.bool g) ∧ Gr w.heap.size w wx)
  case first =>
    go_wp2_with fail
    go_meet
    exact ⟨rfl, by go_simp, by go_simp, by repeat (first | (with_reducible exact Gr.refl _) | with_reducible refine Gr.alloc ?_ _ | with_reducible refine Gr.more ?_ _ _ | with_reducible refine Gr.setCell ?_ (by dsimp only; omega) _ | with_reducible refine Gr.drew ?_)⟩
  case rest =>
  obtain ⟨rfl, a1, b1, hG⟩ := hcut
  have hbc := BS.up hG hb
  have hw0 : wrap64 ((l.length : Int) - 1) = (l.length : Int) - 1 := by unfold wrap64; omega
  clear hl
  go_wp2_with fail
  go_loopw [7, 8] (fun a i wr => ∃ (K : Nat) (x : Int), K ≤ l.length ∧ x = (K : Int) - 1 ∧ a = .int .i64 (wrap64 ((fbN (l.drop K) : Nat) : Int)) ∧ i = .int .i64 x ∧ BS wr b l ∧ wr.cell? ⟨w.heap.size, 0, none⟩ = some (.int .i64 s) ∧ wr.cell? ⟨w.heap.size, 1, none⟩ = some (.bool g) ∧ Gr w.heap.size w wr) (fun _ i _ => (intOf i + 1).toNat)
  case atStart => exact ⟨l.length, (l.length : Int) - 1, by omega, rfl, by simp [fbN, wrap64], by first | rfl | simp [hw0] | simp, hbc, a1, b1, hG⟩
  case round =>
    clear hbc a1 b1 hG
    obtain ⟨K, x, hK, hx, rfl, rfl, hB, a1, b1, hG⟩ := hrel
    cases K with
    | zero =>
      obtain rfl : x = -1 := by omega
      clear hx
      have e : l.drop 0 = l := rfl
      rw [e]
      go_wp2_with (go_at_call 42; (refine (rwrapped_any _ _ _ _).mono ?_); rintro e w1 ⟨rfl, hb⟩; obtain ⟨os, n, rfl⟩ := Below.moreE hb; clear hb)
      refine bodyPost_ret (v := .tuple #[.int .i64 (fbV s g l), .int .i64 0]) (by simp [results, Tryd.results30, go_sem, fbV]) rfl ⟨rfl, (hG.more _ _).below⟩
    | succ j =>
      obtain rfl : x = (j : Int) := by omega
      clear hx
      have hj : j < l.length := by omega
      have hc := hB j hj
      have hji : (j : Int) < (l.length : Int) := by omega
      have hj0 : (0 : Int) ≤ (j : Int) := by omega
      have hw1 : wrap64 ((j : Int) - 1) = (j : Int) - 1 := by unfold wrap64; omega
      have e2 : wrap64 (l[j].toNat : Int) = (l[j].toNat : Int) := by have := l[j].toNat_lt; unfold wrap64; omega
      have hstep := horner (fbN (l.drop (j + 1))) l[j].toNat
      rw [← fbN_drop l j hj] at hstep
      have Hs := Lib.hid hstep
      clear hstep
      go_wp2_with fail
      go_roundw
      case rel => exact ⟨j, (j : Int) - 1, by omega, rfl, by rw [← Hs.out], by first | rfl | simp [hw1], hB, a1, b1, hG⟩
      case measure => simp [intOf]
theorem rfrom_short {s : Int} (v : validB s = true) (g : Bool) (n : Nat) (hl : ¬ (n : Int) = s) (p : Option Addr) (cap : Nat) (w : World) : Calls Tryd.prog 30 #[tyV s g, .slice p n cap] w fun e w' => e = .returned (.tuple #[.int .i64 0, .int .i64 1]) ∧ Below w.heap.size w w' := by
  have HK := rcheck_ok v g
  have hl' : ((n : Int) != s) = true := bne_iff_ne.2 hl
  go_enter Tryd.func30, Tryd.ntmps30
  go_wp2_with (go_at_call 24; (refine (HK _).mono ?_); rintro e w1 ⟨rfl, hb⟩; obtain ⟨os, n, rfl⟩ := Below.moreE hb; clear hb)
  refine bodyPost_ret (v := .tuple #[.int .i64 0, .int .i64 1]) (by simp [results, Tryd.results30, go_sem]) rfl ⟨rfl, (Gr.below (by repeat (first | (with_reducible exact Gr.refl _) | with_reducible refine Gr.alloc ?_ _ | with_reducible refine Gr.more ?_ _ _ | with_reducible refine Gr.setCell ?_ (by dsimp only; omega) _ | with_reducible refine Gr.drew ?_)))⟩
theorem rfrom_bad {s : Int} (v : validB s = false) (g : Bool) (n : Nat) (p : Option Addr) (cap : Nat) (w : World) : Calls Tryd.prog 30 #[tyV s g, .slice p n cap] w fun e w' => e = .returned (.tuple #[.int .i64 0, .int .i64 10]) ∧ Below w.heap.size w w' := by
  have HK := rcheck_bad v g
  go_enter Tryd.func30, Tryd.ntmps30
  go_wp2_with (go_at_call 24; (refine (HK _).mono ?_); rintro e w1 ⟨rfl, hb⟩; obtain ⟨os, n, rfl⟩ := Below.moreE hb; clear hb)
  refine bodyPost_ret (v := .tuple #[.int .i64 0, .int .i64 10]) (by simp [results, Tryd.results30, go_sem]) rfl ⟨rfl, (Gr.below (by repeat (first | (with_reducible exact Gr.refl _) | with_reducible refine Gr.alloc ?_ _ | with_reducible refine Gr.more ?_ _ _ | with_reducible refine Gr.setCell ?_ (by dsimp only; omega) _ | with_reducible refine Gr.drew ?_)))⟩
end Go.Proofs.YtbdkacfddbiclaaDoor

namespace Go.Proofs.YtbdkacfddbiclaaDoor
open Go.RowKit

theorem byte_and (v : Int) (k : Nat) (hk : k ≤ 7) : IntKind.u8.wrap (bits .and .i64 (v / 256 ^ k) 255) = ((btV v k).toNat : Int) := by
  have h := byte_of v k hk
  have e : (2 : Int) ^ (8 * (k : Int)).toNat = 256 ^ k := by
    rw [show (8 * (k : Int)).toNat = 8 * k by omega, Int.pow_mul]
    rfl
  rw [e] at h
  rw [← h]
  have hm : (BitVec.ofInt 64 255).toNat = 2 ^ 8 - 1 := by decide
  have key : (BitVec.ofInt 64 (v / 256 ^ k) &&& BitVec.ofInt 64 255).toNat = ((v / 256 ^ k) % ((2 ^ 64 : Nat) : Int)).toNat % 2 ^ 8 := by
    rw [BitVec.toNat_and, BitVec.toNat_ofInt, hm, Nat.and_two_pow_sub_one_eq_mod]
  have hb : bits .and .i64 (v / 256 ^ k) 255 = (v / 256 ^ k) % 256 := by
    show IntKind.i64.wrap ((BitVec.ofInt 64 (v / 256 ^ k) &&& BitVec.ofInt 64 255).toNat : Nat) = _
    rw [key, IntKind.wrap_i64]
    generalize v / 256 ^ k = y
    omega
  have w8 : ∀ n : Int, IntKind.u8.wrap n = n % 256 := fun n => by simp [IntKind.wrap, IntKind.bits, IntKind.signed]
  rw [hb, w8, w8]
  omega
theorem and_255 (y : Int) : bits .and .i64 y 255 = y % 256 := by
  have hm : (BitVec.ofInt 64 255).toNat = 2 ^ 8 - 1 := by decide
  have key : (BitVec.ofInt 64 y &&& BitVec.ofInt 64 255).toNat = (y % ((2 ^ 64 : Nat) : Int)).toNat % 2 ^ 8 := by
    rw [BitVec.toNat_and, BitVec.toNat_ofInt, hm, Nat.and_two_pow_sub_one_eq_mod]
  show IntKind.i64.wrap ((BitVec.ofInt 64 y &&& BitVec.ofInt 64 255).toNat : Nat) = _
  rw [key, IntKind.wrap_i64]
  omega
theorem next_y (v : Int) (k : Nat) (hv : I64 v) : wrap64 ((wrap64 (v / 256 ^ k - bits .and .i64 (v / 256 ^ k) 255)).tdiv 256) = v / 256 ^ (k + 1) := by
  have e : v / 256 ^ (k + 1) = v / 256 ^ k / 256 := by
    rw [Int.pow_succ, Int.ediv_ediv_of_nonneg (Int.le_of_lt (Int.pow_pos (by decide)))]
  rw [e, and_255]
  obtain ⟨h1, h2⟩ := hv
  have p : (0 : Int) < 256 ^ k := Int.pow_pos (by decide)
  have b1 : v / 256 ^ k ≤ 9223372036854775807 := by
    by_cases h0 : 0 ≤ v
    · exact Int.le_trans (Int.ediv_le_self _ h0) h2
    · have := Int.ediv_neg_of_neg_of_pos (show v < 0 by omega) p
      omega
  have b2 : -9223372036854775808 ≤ v / 256 ^ k := by
    refine (Int.le_ediv_iff_mul_le p).2 ?_
    have : (-9223372036854775808 : Int) * 256 ^ k ≤ -9223372036854775808 * 1 := Int.mul_le_mul_of_nonpos_left (by omega) (by omega)
    omega
  generalize v / 256 ^ k = y at *
  have e2 : wrap64 (y - y % 256) = y - y % 256 := by unfold wrap64; omega
  have e3 : (y - y % 256).tdiv 256 = y / 256 := by
    have : y - y % 256 = (y / 256) * 256 := by omega
    rw [this]
    exact Int.mul_tdiv_cancel _ (by decide)
  rw [e2, e3]
  unfold wrap64; omega
theorem bs_of_own {W : World} {base : Nat} {e : TypeId} {v : Value} {l : List UInt8} (h : W.ownsRow base e 1 v l.length (cellsB l)) (hl : 0 < l.length) : ∃ g cap, v = .slice (some ⟨g, 0, none⟩) l.length cap ∧ base ≤ g ∧ BS W g l := by
  obtain ⟨_, h | ⟨g, cap, cur, rfl, hb, hh, hn, _, hs, ht⟩⟩ := h
  · omega
  · refine ⟨g, cap, rfl, hb, fun j hj => ?_⟩
    have h1 : (cellsB l)[j]? = some (.int .u8 (l[j].toNat : Int)) := by simp [cellsB, hj]
    rw [← ht, List.getElem?_take_of_lt (by omega)] at h1
    simp [World.cell?, hh]
    simpa using h1

set_option maxRecDepth 100000 in
set_option maxHeartbeats 4000000 in
theorem rbytes_ok {s : Int} (v : validB s = true) (g : Bool) (x : Int) (hx : I64 x) (w : World) : Calls Tryd.prog 28 #[tyV s g, .int .i64 x] w fun e w' => ∃ b cap, e = .returned (.tuple #[.slice (some ⟨b, 0, none⟩) s.toNat cap, .int .i64 0]) ∧ w.heap.size ≤ b ∧ BS w' b (btL x s.toNat) ∧ Below w.heap.size w w' := by
  have h8 : 1 ≤ s ∧ s ≤ 8 := by rcases (valid_iff s).1 v with rfl | rfl | rfl | rfl <;> omega
  obtain ⟨h1, h8⟩ := h8
  obtain ⟨i0, hi, hz0, hz1, hz2⟩ := info_parts info8
  have HK := rcheck_ok v g
  go_enter Tryd.func28, Tryd.ntmps28
  go_upto_region 5 with (go_at_call 24; (refine (HK _).mono ?_); rintro e w1 ⟨rfl, hb⟩; obtain ⟨os, n, rfl⟩ := Below.moreE hb; clear hb)
  go_cut [8] (fun s8 wx => s8 = .int .i64 0 ∧ wx.cell? ⟨w.heap.size, 0, none⟩ = some (.int .i64 s) ∧ wx.cell? ⟨w.heap.size, 1, none⟩ = some (.bool g) ∧ w.heap.size + 1 ≤ wx.heap.size ∧ Gr w.heap.size w wx)
  case first =>
    go_wp2_with fail
    go_meet
    exact ⟨rfl, by go_simp, by go_simp, by (first | omega | (simp; done) | (simp; omega)), by repeat (first | (with_reducible exact Gr.refl _) | with_reducible refine Gr.alloc ?_ _ | with_reducible refine Gr.more ?_ _ _ | with_reducible refine Gr.setCell ?_ (by dsimp only; omega) _ | with_reducible refine Gr.drew ?_)⟩
  case rest =>
  obtain ⟨rfl, c0, c1, hz, hG⟩ := hcut
  go_wp2_with fail
  go_loopw [1, 7, 8] (fun y sl i wr => ∃ K : Nat, (K : Int) ≤ s ∧ y = .int .i64 (x / 256 ^ K) ∧ i = .int .i64 (K : Int) ∧ wr.ownsRow (w.heap.size + 1) 5 1 sl K (cellsB (btL x K)) ∧ wr.cell? ⟨w.heap.size, 0, none⟩ = some (.int .i64 s) ∧ wr.cell? ⟨w.heap.size, 1, none⟩ = some (.bool g) ∧ w.heap.size + 1 ≤ wr.heap.size ∧ Gr w.heap.size w wr) (fun _ _ i _ => (s - intOf i).toNat)
  case atStart => exact ⟨0, by omega, by simp, rfl, World.ownsRow_nil _ _ _ _, c0, c1, hz, hG⟩
  case round =>
    clear c0 c1 hz hG
    obtain ⟨K, hK, rfl, rfl, hown, c0, c1, hz, hG⟩ := hrel
    by_cases hk : (K : Int) < s
    · have hw1 : wrap64 ((K : Int) + 1) = (K : Int) + 1 := by unfold wrap64; omega
      have hB := Lib.hid (byte_and x K (by omega))
      have hN := Lib.hid (next_y x K hx)
      generalize hy : x / 256 ^ K = y at hB hN
      go_wp2_with (at_builtin; refine wpList_append_own_at _ rfl _ _ 39 rfl (w.heap.size + 1) 5 i0 (.int .u8 0) 1 1 Tryd.underlying39 hi hz0 hz1 hz2 rfl (by decide) _ _ _ rfl (hown.alloc _) ⟨wr.heap.size, 0, none⟩ 1 1 [.int .u8 _] rfl rfl (cell_one_new _ _ _) (by intro u hu; simp at hu; subst hu; rfl) (by unfold maxLen; omega) (by omega) (by simp; omega) ?_; intro v' w2 hown2 hg _ hat)
      have hbel : Below (w.heap.size + 1) wr w2 := ((Below.refl _ _).alloc (by omega) _).grown hg (by simp; omega) (fun k hk' => (hown.lt k hk').1)
      have hN' := hN.out
      have hB' := hB.out
      rw [show IntKind.u8.wrap (bits .and .i64 y 255) = bits .and .i64 y 255 % 256 from by simp [IntKind.wrap, IntKind.bits, IntKind.signed]] at hB'
      rw [hB'] at hown2
      have ec : cellsB (btL x K) ++ [.int .u8 ((btV x K).toNat : Int)] = cellsB (btL x (K + 1)) := by rw [btL_succ]; simp [cellsB]
      rw [ec] at hown2
      refine ⟨⟨K + 1, by omega, by rw [hN'], by simp, hown2, (hbel.cell (p := ⟨w.heap.size, 0, none⟩) (by simp)).trans c0, (hbel.cell (p := ⟨w.heap.size, 1, none⟩) (by simp)).trans c1, Nat.le_trans hz hbel.size, ⟨hG.below.trans (hbel.mono (by omega)), Nat.le_trans hG.size hbel.size⟩⟩, by simp [intOf]; omega⟩
    · have hKs : (K : Int) = s := by omega
      obtain rfl : K = s.toNat := by omega
      have hown' : wr.ownsRow (w.heap.size + 1) 5 1 u7 (btL x s.toNat).length (cellsB (btL x s.toNat)) := by rw [btL_length]; exact hown
      obtain ⟨b, cap, rfl, hb, hbs⟩ := bs_of_own hown' (by rw [btL_length]; omega)
      rw [btL_length]
      clear hKs
      go_wp2_with fail
      refine bodyPost_ret (v := .tuple #[.slice (some ⟨b, 0, none⟩) s.toNat cap, .int .i64 0]) (by simp [results, Tryd.results28, go_sem]) rfl (by first | exact ⟨b, cap, rfl, by omega, hbs, hG.below⟩ | exact ⟨b, ⟨cap, rfl⟩, by omega, hbs, hG.below⟩)
end Go.Proofs.YtbdkacfddbiclaaDoor

namespace Go.Proofs.YtbdkacfddbiclaaDoor
open Go.RowKit

/-- number, Wrapped, Text, Digits by name. -/
theorem rnum_ret (b : Int) (hb : b = 10 ∨ b = 16) (t : ByteArray) (l : List UInt8) (hl : t.data.toList = l) (hsz : t.size ≤ 1000) : RetU t b (nuV b l) (puOK b l) := fun w => rnumber_any b hb t l hl (by omega) w
theorem rwrapped_ret (s : Int) (g : Bool) (v : Int) : RetV 42 #[tyV s g, .int .i64 v] (wrapI s g v) := fun w => rwrapped_any s g v w
theorem rdig_ret (u : Int) (u0 : 0 ≤ u) (u1 : u ≤ 18446744073709551615) : RetG u ⟨(decD u.toNat).toArray⟩ := fun w => by
  have h := digits_any u.toNat (by omega) w
  rw [show ((u.toNat : Nat) : Int) = u by omega] at h
  exact h
theorem nuV_bd (b : Int) (hb : 0 ≤ b) (l : List UInt8) : 0 ≤ nuV b l ∧ nuV b l ≤ 18446744073709551615 := by
  unfold nuV
  split
  · next h =>
    unfold puOK at h
    simp only [Bool.and_eq_true, decide_eq_true_eq] at h
    exact ⟨valI_nn b hb l, h.2⟩
  · omega
theorem par_len {s : Int} (vs : validB s = true) (g : Bool) {l : List UInt8} (h : parOK s g l = true) : l.length ≤ 20 := by
  cases hx : hexL l
  · have b := par_both vs g l h hx
    rw [← b.2]
    obtain ⟨e, m0, m1⟩ := mag_eq g (parN l) (by rw [parN_dec hx]; exact nmV_I64 _ _)
    unfold textL
    rw [List.length_append]
    cases hn : negB g (parN l)
    · have := decD_most 19 (magI g (parN l)).toNat (by
        have : (10 : Nat) ^ (19 + 1) = 100000000000000000000 := by decide
        rw [this]; omega)
      simpa using this
    · rw [hn, if_pos rfl] at e
      have hI := nmV_I64 (minL l) (valI 10 (restM l))
      rw [← parN_dec hx] at hI
      obtain ⟨i1, i2⟩ := hI
      have := decD_most 18 (magI g (parN l)).toNat (by
        have : (10 : Nat) ^ (18 + 1) = 10000000000000000000 := by decide
        rw [this]; omega)
      simp; omega
  · unfold parOK at h
    rw [hx, if_pos rfl] at h
    simp only [Bool.and_eq_true] at h
    have h1 := h.1
    unfold hexOK at h1
    simp only [Bool.and_eq_true, decide_eq_true_eq] at h1
    have h2 := h1.1
    have hr : restH l = l.drop 2 := by
      unfold restH Lib.trimPrefix
      unfold hexL at hx
      rw [if_pos hx]
      rfl
    rw [hr, List.length_drop] at h2
    omega
theorem neg_v (u : Int) : wrap64 (-wrap64 u) = nmV true u := by
  show _ = wrap64 (u64 (-u))
  rw [u64_eq]; unfold wrap64; omega
theorem pos_v (u : Int) : wrap64 u = nmV false u := rfl
theorem tl_of {a : ByteArray} {l : List UInt8} (h : a.data.toList = l) : a.toList = l := by rw [ByteArray.toList_eq]; exact h
theorem nu_of {b : Int} {l : List UInt8} (h : puOK b l = true) : nuV b l = valI b l := by unfold nuV; rw [if_pos h]

theorem str_backk (s : ByteArray) : (⟨s.data.toList.toArray⟩ : ByteArray) = s := by
  cases s; simp
/-- What the two ways, accepting and rejecting, ask of a decimal number. -/
theorem dec_cases {s : Int} (vs : validB s = true) (g : Bool) {l : List UInt8} (hx : hexL l = false) (t : ByteArray) (ht : t.data.toList = l) :
    (parOK s g l = true ∧ puOK 10 (restM l) = true ∧ wrapI s g (nmV (minL l) (nuV 10 (restM l))) = nmV (minL l) (nuV 10 (restM l)) ∧ (⟨(textL g (wrapI s g (nmV (minL l) (nuV 10 (restM l))))).toArray⟩ : ByteArray) = t ∧ parN l = nmV (minL l) (nuV 10 (restM l))) ∨
    (parOK s g l = false ∧ (puOK 10 (restM l) = false ∨ (puOK 10 (restM l) = true ∧ (wrapI s g (nmV (minL l) (nuV 10 (restM l))) != nmV (minL l) (nuV 10 (restM l))) = true) ∨ (puOK 10 (restM l) = true ∧ wrapI s g (nmV (minL l) (nuV 10 (restM l))) = nmV (minL l) (nuV 10 (restM l)) ∧ ¬ (⟨(textL g (wrapI s g (nmV (minL l) (nuV 10 (restM l))))).toArray⟩ : ByteArray).toList = t.toList))) := by
  cases h : parOK s g l
  · refine .inr ⟨rfl, ?_⟩
    cases hp : puOK 10 (restM l)
    · exact .inl rfl
    · by_cases hw : wrapI s g (nmV (minL l) (nuV 10 (restM l))) = nmV (minL l) (nuV 10 (restM l))
      · refine .inr (.inr ⟨rfl, hw, ?_⟩)
        rw [hw, tl_of (l := textL g (nmV (minL l) (nuV 10 (restM l)))) rfl, tl_of ht]
        exact dec_no vs g h _ (nmV_I64 _ _) hw
      · exact .inr (.inl ⟨rfl, bne_iff_ne.2 hw⟩)
  · obtain ⟨h1, h2, h3⟩ := dec_yes vs g hx h
    rw [← nu_of h1] at h2 h3
    refine .inl ⟨rfl, h1, h2, ?_, by rw [parN_dec hx, nu_of h1]⟩
    rw [h2, h3, ← ht, str_backk]
theorem ext_list (t : ByteArray) (l : List UInt8) (ht : t.data.toList = l) (k : Nat) : (t.extract k t.size).data.toList = l.drop k := by
  subst ht
  have e : t.size = t.data.toList.length := by simp
  rw [e]
  simp only [ByteArray.data_extract, Array.toList_extract, List.extract]
  rw [List.take_of_length_le]
  simp
theorem ext_len (t : ByteArray) (k : Nat) (h : ¬ 20 < t.size) : (t.extract k t.size).size ≤ 1000 := by
  have e : (t.extract k t.size).size = (t.extract k t.size).data.toList.length := Array.length_toList.symm
  rw [e, ext_list t _ rfl k, List.length_drop, Array.length_toList]
  have : t.data.size = t.size := rfl
  omega
set_option maxHeartbeats 1000000 in
theorem rp_n {s : Int} (vs : validB s = true) (g : Bool) (t : ByteArray) (l : List UInt8) (ht : t.data.toList = l) (h20 : ¬ 20 < t.size) (h0 : ¬ 0 < t.size) (hx : hexL l = false) (hm : minL l = false) (t' : ByteArray) (ht' : t = t') (hr : t'.data.toList = restM l) (hsz : t'.size ≤ 1000) : RetM 34 #[tyV s g, .string t] (sel (parOK s g l) (parN l) 0) (sel (parOK s g l) 0 13) := by
  have key := dec_cases vs g hx t ht
  rw [hm] at key
  have HN := rnum_ret 10 (.inl rfl) t' (restM l) hr hsz
  generalize nuV 10 (restM l) = u at *
  have HW := rwrapped_ret s g (nmV false u)
  have HT := rtext_ok vs g (nmV false u) (nmV_I64 _ _)
  subst ht'
  change RetV _ _ _ at HW
  rcases key with ⟨h1, h2, h3, h4, h5⟩ | ⟨h1, h2⟩
  · rw [h1, sel_t, sel_t, h5]
    rw [h2] at HN
    rw [h3] at HW h4
    rw [h3, h4] at HT
    exact rparse_acc_n s vs g t h20 h0 u HN HW HT
  · rw [h1, sel_f, sel_f]
    exact rparse_rej_n s vs g t h20 h0 u _ HN _ HW _ HT h2
set_option maxHeartbeats 1000000 in
theorem rp_a {s : Int} (vs : validB s = true) (g : Bool) (t : ByteArray) (l : List UInt8) (ht : t.data.toList = l) (h20 : ¬ 20 < t.size) (h0 : 0 < t.size) (hm' : ((t[0].toNat : Int) == 45) = false) (h2' : ¬ 2 < t.size) (hx : hexL l = false) (hm : minL l = false) (t' : ByteArray) (ht' : t = t') (hr : t'.data.toList = restM l) (hsz : t'.size ≤ 1000) : RetM 34 #[tyV s g, .string t] (sel (parOK s g l) (parN l) 0) (sel (parOK s g l) 0 13) := by
  have key := dec_cases vs g hx t ht
  rw [hm] at key
  have HN := rnum_ret 10 (.inl rfl) t' (restM l) hr hsz
  generalize nuV 10 (restM l) = u at *
  have HW := rwrapped_ret s g (nmV false u)
  have HT := rtext_ok vs g (nmV false u) (nmV_I64 _ _)
  subst ht'
  change RetV _ _ _ at HW
  rcases key with ⟨h1, h2, h3, h4, h5⟩ | ⟨h1, h2⟩
  · rw [h1, sel_t, sel_t, h5]
    rw [h2] at HN
    rw [h3] at HW h4
    rw [h3, h4] at HT
    exact rparse_acc_a s vs g t h20 h0 hm' h2' u HN HW HT
  · rw [h1, sel_f, sel_f]
    exact rparse_rej_a s vs g t h20 h0 hm' h2' u _ HN _ HW _ HT h2
set_option maxHeartbeats 1000000 in
theorem rp_b {s : Int} (vs : validB s = true) (g : Bool) (t : ByteArray) (l : List UInt8) (ht : t.data.toList = l) (h20 : ¬ 20 < t.size) (h2' : 2 < t.size) (hm' : ((t[0].toNat : Int) == 45) = false) (hz' : ((t[0].toNat : Int) == 48) = false) (hx : hexL l = false) (hm : minL l = false) (t' : ByteArray) (ht' : t = t') (hr : t'.data.toList = restM l) (hsz : t'.size ≤ 1000) : RetM 34 #[tyV s g, .string t] (sel (parOK s g l) (parN l) 0) (sel (parOK s g l) 0 13) := by
  have key := dec_cases vs g hx t ht
  rw [hm] at key
  have HN := rnum_ret 10 (.inl rfl) t' (restM l) hr hsz
  generalize nuV 10 (restM l) = u at *
  have HW := rwrapped_ret s g (nmV false u)
  have HT := rtext_ok vs g (nmV false u) (nmV_I64 _ _)
  subst ht'
  change RetV _ _ _ at HW
  rcases key with ⟨h1, h2, h3, h4, h5⟩ | ⟨h1, h2⟩
  · rw [h1, sel_t, sel_t, h5]
    rw [h2] at HN
    rw [h3] at HW h4
    rw [h3, h4] at HT
    exact rparse_acc_b s vs g t h20 h2' hm' hz' u HN HW HT
  · rw [h1, sel_f, sel_f]
    exact rparse_rej_b s vs g t h20 h2' hm' hz' u _ HN _ HW _ HT h2
set_option maxHeartbeats 1000000 in
theorem rp_c {s : Int} (vs : validB s = true) (g : Bool) (t : ByteArray) (l : List UInt8) (ht : t.data.toList = l) (h20 : ¬ 20 < t.size) (h2' : 2 < t.size) (hm' : ((t[0].toNat : Int) == 45) = false) (hz' : ((t[0].toNat : Int) == 48) = true) (hx' : ((t[1].toNat : Int) == 120) = false) (hx : hexL l = false) (hm : minL l = false) (t' : ByteArray) (ht' : t = t') (hr : t'.data.toList = restM l) (hsz : t'.size ≤ 1000) : RetM 34 #[tyV s g, .string t] (sel (parOK s g l) (parN l) 0) (sel (parOK s g l) 0 13) := by
  have key := dec_cases vs g hx t ht
  rw [hm] at key
  have HN := rnum_ret 10 (.inl rfl) t' (restM l) hr hsz
  generalize nuV 10 (restM l) = u at *
  have HW := rwrapped_ret s g (nmV false u)
  have HT := rtext_ok vs g (nmV false u) (nmV_I64 _ _)
  subst ht'
  change RetV _ _ _ at HW
  rcases key with ⟨h1, h2, h3, h4, h5⟩ | ⟨h1, h2⟩
  · rw [h1, sel_t, sel_t, h5]
    rw [h2] at HN
    rw [h3] at HW h4
    rw [h3, h4] at HT
    exact rparse_acc_c s vs g t h20 h2' hm' hz' hx' u HN HW HT
  · rw [h1, sel_f, sel_f]
    exact rparse_rej_c s vs g t h20 h2' hm' hz' hx' u _ HN _ HW _ HT h2
set_option maxHeartbeats 1000000 in
theorem rp_m {s : Int} (vs : validB s = true) (g : Bool) (t : ByteArray) (l : List UInt8) (ht : t.data.toList = l) (h20 : ¬ 20 < t.size) (h0 : 0 < t.size) (hm' : ((t[0].toNat : Int) == 45) = true) (hz' : ((t[0].toNat : Int) == 48) = false) (h2' : ¬ 2 < t.size) (hx : hexL l = false) (hm : minL l = true) (t' : ByteArray) (ht' : t.extract 1 t.size = t') (hr : t'.data.toList = restM l) (hsz : t'.size ≤ 1000) : RetM 34 #[tyV s g, .string t] (sel (parOK s g l) (parN l) 0) (sel (parOK s g l) 0 13) := by
  have key := dec_cases vs g hx t ht
  rw [hm] at key
  have HN := rnum_ret 10 (.inl rfl) t' (restM l) hr hsz
  generalize nuV 10 (restM l) = u at *
  have HW := rwrapped_ret s g (nmV true u)
  have HT := rtext_ok vs g (nmV true u) (nmV_I64 _ _)
  subst ht'
  rw [← neg_v] at key HW HT
  rcases key with ⟨h1, h2, h3, h4, h5⟩ | ⟨h1, h2⟩
  · rw [h1, sel_t, sel_t, h5]
    rw [h2] at HN
    rw [h3] at HW h4
    rw [h3, h4] at HT
    exact rparse_acc_m s vs g t h20 h0 hm' hz' h2' u HN HW HT
  · rw [h1, sel_f, sel_f]
    exact rparse_rej_m s vs g t h20 h0 hm' hz' h2' u _ HN _ HW _ HT h2
set_option maxHeartbeats 1000000 in
theorem rp_o {s : Int} (vs : validB s = true) (g : Bool) (t : ByteArray) (l : List UInt8) (ht : t.data.toList = l) (h20 : ¬ 20 < t.size) (h2' : 2 < t.size) (hm' : ((t[0].toNat : Int) == 45) = true) (hz' : ((t[0].toNat : Int) == 48) = false) (hx : hexL l = false) (hm : minL l = true) (t' : ByteArray) (ht' : t.extract 1 t.size = t') (hr : t'.data.toList = restM l) (hsz : t'.size ≤ 1000) : RetM 34 #[tyV s g, .string t] (sel (parOK s g l) (parN l) 0) (sel (parOK s g l) 0 13) := by
  have key := dec_cases vs g hx t ht
  rw [hm] at key
  have HN := rnum_ret 10 (.inl rfl) t' (restM l) hr hsz
  generalize nuV 10 (restM l) = u at *
  have HW := rwrapped_ret s g (nmV true u)
  have HT := rtext_ok vs g (nmV true u) (nmV_I64 _ _)
  subst ht'
  rw [← neg_v] at key HW HT
  rcases key with ⟨h1, h2, h3, h4, h5⟩ | ⟨h1, h2⟩
  · rw [h1, sel_t, sel_t, h5]
    rw [h2] at HN
    rw [h3] at HW h4
    rw [h3, h4] at HT
    exact rparse_acc_o s vs g t h20 h2' hm' hz' u HN HW HT
  · rw [h1, sel_f, sel_f]
    exact rparse_rej_o s vs g t h20 h2' hm' hz' u _ HN _ HW _ HT h2
set_option maxHeartbeats 1000000 in
theorem rp_h {s : Int} (vs : validB s = true) (g : Bool) (t : ByteArray) (l : List UInt8) (ht : t.data.toList = l) (h20 : ¬ 20 < t.size) (h2' : 2 < t.size) (hm' : ((t[0].toNat : Int) == 45) = false) (hz' : ((t[0].toNat : Int) == 48) = true) (hx' : ((t[1].toNat : Int) == 120) = true) (hx : hexL l = true) (hr : restH l = l.drop 2) : RetM 34 #[tyV s g, .string t] (sel (parOK s g l) (parN l) 0) (sel (parOK s g l) 0 13) := by
  have hlen : l.length = t.size := by rw [← ht]; exact Array.length_toList
  have hl := ext_list t l ht 2
  have hsz := ext_len t 2 h20
  have HN := rnum_ret 16 (.inr rfl) _ _ hl hsz
  have eO : parOK s g l = (hexOK (l.drop 2) && nmOK s g false (valI 16 (l.drop 2))) := by unfold parOK; rw [hx, if_pos rfl, hr]
  have eN : parN l = nmV false (valI 16 (l.drop 2)) := by unfold parN; rw [hx, if_pos rfl, hr]
  have bd := nuV_bd 16 (by omega) (l.drop 2)
  have h16 : (l.drop 2).length = t.size - 2 := by rw [List.length_drop, hlen]
  have hnu : puOK 16 (l.drop 2) = true → nuV 16 (l.drop 2) = valI 16 (l.drop 2) := nu_of
  rw [eO, eN]
  clear eO eN hl hr hx ht
  generalize l.drop 2 = r at *
  generalize hu : nuV 16 r = u at *
  have HW := rwrapped_ret s g (wrap64 u)
  have HT := rtext_ok vs g (wrap64 u) (w64_I64 _)
  have HG := rdig_ret u bd.1 bd.2
  cases ho : puOK 16 r
  · have : hexOK r = false := by simp [hexOK, ho]
    rw [this, Bool.false_and, sel_f, sel_f]
    exact rparse_rej_h s vs g t h20 h2' hm' hz' hx' u _ HN _ HW _ HT _ HG (.inl ho)
  · rw [← hnu ho]
    by_cases h18 : 18 < t.size
    · have : hexOK r = false := by simp [hexOK]; omega
      rw [this, Bool.false_and, sel_f, sel_f]
      exact rparse_rej_h s vs g t h20 h2' hm' hz' hx' u _ HN _ HW _ HT _ HG (.inr (.inl ⟨ho, h18⟩))
    · have : hexOK r = true := by simp [hexOK, ho]; omega
      rw [this, Bool.true_and]
      cases hn : nmOK s g false u
      · rw [sel_f, sel_f]
        by_cases hw : wrapI s g (wrap64 u) = wrap64 u
        · refine rparse_rej_h s vs g t h20 h2' hm' hz' hx' u _ HN _ HW _ HT _ HG (.inr (.inr (.inr ⟨ho, h18, hw, ?_⟩)))
          rw [hw, tl_of (l := textL g (wrap64 u)) rfl, tl_of (l := decD u.toNat) rfl]
          exact hex_no vs g u bd.1 bd.2 hn hw
        · exact rparse_rej_h s vs g t h20 h2' hm' hz' hx' u _ HN _ HW _ HT _ HG (.inr (.inr (.inl ⟨ho, h18, bne_iff_ne.2 hw⟩)))
      · obtain ⟨y1, y2⟩ := hex_yes vs g u bd.1 bd.2 hn
        rw [sel_t, sel_t]
        rw [ho] at HN
        rw [y1] at HW HT
        rw [y2] at HT
        exact rparse_acc_h s vs g t h20 h2' hm' hz' hx' u HN h18 HW _ HG HT

theorem c_eq (a k : UInt8) : ((a.toNat : Int) == (k.toNat : Int)) = (a == k) := by
  rw [Bool.eq_iff_iff, beq_iff_eq, beq_iff_eq]
  constructor
  · intro h; exact UInt8.toNat_inj.1 (by omega)
  · rintro rfl; rfl
theorem min_cons (a : UInt8) (l : List UInt8) : minL (a :: l) = (a == 45) := by
  simp [minL, Lib.hasPrefix, List.isPrefixOf]
  rw [Bool.eq_iff_iff, beq_iff_eq, beq_iff_eq]
  exact eq_comm
theorem hex_cons (a b : UInt8) (l : List UInt8) : hexL (a :: b :: l) = (a == 48 && b == 120) := by
  simp [hexL, Lib.hasPrefix, List.isPrefixOf]
  rw [Bool.eq_iff_iff, Bool.and_eq_true, Bool.and_eq_true, beq_iff_eq, beq_iff_eq, beq_iff_eq, beq_iff_eq]
  exact ⟨fun h => ⟨h.1.symm, h.2.symm⟩, fun h => ⟨h.1.symm, h.2.symm⟩⟩
theorem rest_cons (l : List UInt8) : restM (45 :: l) = l := by simp [restM, Lib.trimPrefix, Lib.hasPrefix, List.isPrefixOf]
theorem restH_cons (l : List UInt8) : restH (48 :: 120 :: l) = l := by simp [restH, Lib.trimPrefix, Lib.hasPrefix, List.isPrefixOf]

theorem rparse_ok {s : Int} (vs : validB s = true) (g : Bool) (t : ByteArray) : RetM 34 #[tyV s g, .string t] (sel (parOK s g t.data.toList) (parN t.data.toList) 0) (sel (parOK s g t.data.toList) 0 13) := by
  by_cases h20 : 20 < t.size
  · cases h : parOK s g t.data.toList
    · rw [sel_f, sel_f]; exact rparse_long vs g t h20
    · have := par_len vs g h
      rw [Array.length_toList] at this
      exact absurd this (by show ¬ t.size ≤ 20; omega)
  · obtain ⟨⟨l⟩⟩ := t
    have hs : (⟨⟨l⟩⟩ : ByteArray).size = l.length := rfl
    match l, h20, hs with
    | [], h20, _ => exact rp_n vs g ⟨⟨[]⟩⟩ [] rfl h20 (by decide) rfl rfl _ rfl (by rw [rest_of_not rfl]) (by decide)
    | [a], h20, _ =>
      have hx : hexL [a] = false := by simp [hexL, Lib.hasPrefix, List.isPrefixOf]
      cases hm : (a == 45)
      · exact rp_a vs g ⟨⟨[a]⟩⟩ [a] rfl h20 (by show 0 < 1; omega) ((c_eq a 45).trans hm) (by show ¬ 2 < 1; omega) hx ((min_cons a []).trans hm) _ rfl (by rw [rest_of_not ((min_cons a []).trans hm)]) (by show 1 ≤ 1000; omega)
      · obtain rfl : a = 45 := by simpa using hm
        exact rp_m vs g ⟨⟨[45]⟩⟩ [45] rfl h20 (by show 0 < 1; omega) rfl rfl (by show ¬ 2 < 1; omega) hx rfl _ rfl (by rw [ext_list _ [45] rfl 1, rest_cons]; rfl) (by decide)
    | [a, b], h20, _ =>
      cases hm : (a == 45)
      · cases hx : hexL [a, b]
        · exact rp_a vs g ⟨⟨[a, b]⟩⟩ [a, b] rfl h20 (by show 0 < 2; omega) ((c_eq a 45).trans hm) (by show ¬ 2 < 2; omega) hx ((min_cons a [b]).trans hm) _ rfl (by rw [rest_of_not ((min_cons a [b]).trans hm)]) (by show 2 ≤ 1000; omega)
        · rw [hex_cons, Bool.and_eq_true, beq_iff_eq, beq_iff_eq] at hx
          obtain ⟨rfl, rfl⟩ := hx
          have hpo : parOK s g [48, 120] = false := by
            unfold parOK
            rw [show hexL [48, 120] = true from rfl, if_pos rfl, restH_cons]
            rfl
          have HN := rnum_ret 10 (.inl rfl) ⟨⟨[48, 120]⟩⟩ [48, 120] rfl (by decide)
          show RetM _ _ (sel (parOK s g [48, 120]) _ 0) (sel (parOK s g [48, 120]) 0 13)
          rw [hpo, sel_f, sel_f]
          exact rparse_rej_a s vs g ⟨⟨[48, 120]⟩⟩ h20 (by decide) rfl (by decide) _ _ HN _ (rwrapped_ret s g _) _ (rtext_ok vs g _ (w64_I64 _)) (.inl rfl)
      · obtain rfl : a = 45 := by simpa using hm
        exact rp_m vs g ⟨⟨[45, b]⟩⟩ [45, b] rfl h20 (by show 0 < 2; omega) rfl rfl (by show ¬ 2 < 2; omega) (by rw [hex_cons]; rfl) rfl _ rfl (by rw [ext_list _ [45, b] rfl 1, rest_cons]; rfl) (ext_len _ 1 h20)
    | a :: b :: c :: r, h20, hs =>
      have h2 : 2 < (⟨⟨a :: b :: c :: r⟩⟩ : ByteArray).size := by rw [hs]; simp
      have hz20 : (a :: b :: c :: r).length ≤ 20 := by omega
      cases hm : (a == 45)
      · have hmin := (min_cons a (b :: c :: r)).trans hm
        cases hz : (a == 48)
        · exact rp_b vs g _ (a :: b :: c :: r) rfl h20 h2 ((c_eq a 45).trans hm) ((c_eq a 48).trans hz) (by rw [hex_cons, hz]; rfl) hmin _ rfl (by rw [rest_of_not hmin]) (by omega)
        · cases hx : (b == 120)
          · exact rp_c vs g _ (a :: b :: c :: r) rfl h20 h2 ((c_eq a 45).trans hm) ((c_eq a 48).trans hz) ((c_eq b 120).trans hx) (by rw [hex_cons, hz, hx]; rfl) hmin _ rfl (by rw [rest_of_not hmin]) (by omega)
          · refine rp_h vs g _ (a :: b :: c :: r) rfl h20 h2 ((c_eq a 45).trans hm) ((c_eq a 48).trans hz) ((c_eq b 120).trans hx) (by rw [hex_cons, hz, hx]; rfl) ?_
            obtain rfl : a = 48 := by simpa using hz
            obtain rfl : b = 120 := by simpa using hx
            rw [restH_cons]
            rfl
      · obtain rfl : a = 45 := by simpa using hm
        exact rp_o vs g _ (45 :: b :: c :: r) rfl h20 h2 rfl rfl (by rw [hex_cons]; rfl) rfl _ rfl (by rw [ext_list _ (45 :: b :: c :: r) rfl 1, rest_cons]; rfl) (ext_len _ 1 h20)
end Go.Proofs.YtbdkacfddbiclaaDoor

namespace Go.Proofs.YtbdkacfddbiclaaDoor
open Go.RowKit

/-- Calls of FromBytes, the program's and the reference's. -/
@[reducible] def RetFF (f : Nat) (s : Int) (g : Bool) (z : Nat) (l : List UInt8) (x e : Int) : Prop :=
  ∀ (w : World) (b cap : Nat), BS w b l → Calls Tryd.prog f #[tyV s g, .slice (some ⟨b, 0, none⟩) z cap] w fun r w' => r = .returned (.tuple #[.int .i64 x, .int .i64 e]) ∧ Below w.heap.size w w'
/-- Calls of the reference's Bytes; of Bytes of a type that is none. -/
@[reducible] def RetRy (s : Int) (g : Bool) (v : Int) (z : Nat) (l : List UInt8) : Prop :=
  ∀ w : World, Calls Tryd.prog 28 #[tyV s g, .int .i64 v] w fun e w' => ∃ b cap, e = .returned (.tuple #[.slice (some ⟨b, 0, none⟩) z cap, .int .i64 0]) ∧ w.heap.size ≤ b ∧ BS w' b l ∧ Below w.heap.size w w'
@[reducible] def RetNo (f : Nat) (s : Int) (g : Bool) (v : Int) : Prop :=
  ∀ w : World, Calls Tryd.prog f #[tyV s g, .int .i64 v] w fun e w' => e = .returned (.tuple #[.slice none 0 0, .int .i64 10]) ∧ Below w.heap.size w w'

theorem conv_nil (w : World) : (convert 39 9 (.slice none 0 0)).run Tryd.prog w = .ok (.string ⟨#[]⟩) w := by
  rw [run_convert_bytes_string w 39 9 5 none 0 0 Tryd.underlying39 Tryd.underlying5 Tryd.underlying9]
  simp [Conv.bytesToString]
  rfl

/-- Region 2 of law.BitsForms. -/
noncomputable def forms_r2_code : Code := ((Tryd.f4.body).bind (Code.findR 2)).getD .skip
set_option maxRecDepth 100000 in
set_option maxHeartbeats 4000000 in
theorem forms_r2 {Q : Exit → Act → World → Prop} {u0 u1 u2 u5 u6 u7 u8 u9 u10 u11 u12 u13 u14 u15 u16 u17 u18 u19 u20 u21 u22 u23 u24 u25 u26 u27 u28 u29 u30 u31 u32 u33 u34 u35 u36 u37 u38 u39 u40 u41 u42 u43 u44 u45 u46 u47 u48 u49 u50 u51 u52 u53 u54 u55 u56 u57 u58 u59 u60 u61 u62 u63 u64 u65 u66 u67 u68 u69 u70 u71 u72 u73 u74 u75 u76 u77 u78 u79 u80 u81 u82 u83 u84 u85 u86 u87 u88 u89 u90 u91 u92 u93 u94 u95 u96 u97 u98 u99 u100 u101 u102 u103 u104 u105 u106 u107 u108 u109 u110 u111 u112 u113 u114 u115 u116 u117 u118 u119 u120 u121 u122 u123 u124 u125 u126 u127 u128 u129 u130 u131 u132 u133 u134 u135 u136 u137 u138 u139 u140 u141 u142 u143 u144 u145 u146 u147 u148 u149 u150 u151 u152 u153 : Value} {W : World} {a m : Nat} {s i j x e : Int} {g : Bool}  (ha : BoxT W a s g) (hl : Box2 W m i j) (HX : RetM 25 #[tyV s g, .int .i64 i, .int .i64 j] x e) (hQ : ∀ (v30 v31 v32 v33 v34 v35 v29 v36 v37 : Value) (W' : World), Gr W.heap.size W W' → Q .normal ⟨#[u0, u1, u2, .pointer (some ⟨a, 0, none⟩), .pointer (some ⟨m, 0, none⟩), u5, u6, u7, .int .i64 x, .int .i64 e, u10, u11, u12, u13, u14, u15, u16, u17, u18, u19, u20, u21, u22, u23, u24, u25, u26, u27, u28, v29, v30, v31, v32, v33, v34, v35, v36, v37, u38, u39, u40, u41, u42, u43, u44, u45, u46, u47, u48, u49, u50, u51, u52, u53, u54, u55, u56, u57, u58, u59, u60, u61, u62, u63, u64, u65, u66, u67, u68, u69, u70, u71, u72, u73, u74, u75, u76, u77, u78, u79, u80, u81, u82, u83, u84, u85, u86, u87, u88, u89, u90, u91, u92, u93, u94, u95, u96, u97, u98, u99, u100, u101, u102, u103, u104, u105, u106, u107, u108, u109, u110, u111, u112, u113, u114, u115, u116, u117, u118, u119, u120, u121, u122, u123, u124, u125, u126, u127, u128, u129, u130, u131, u132, u133, u134, u135, u136, u137, u138, u139, u140, u141, u142, u143, u144, u145, u146, u147, u148, u149, u150, u151, u152, u153], []⟩ W') : Code.wp Tryd.prog forms_r2_code Q ⟨#[u0, u1, u2, .pointer (some ⟨a, 0, none⟩), .pointer (some ⟨m, 0, none⟩), u5, u6, u7, u8, u9, u10, u11, u12, u13, u14, u15, u16, u17, u18, u19, u20, u21, u22, u23, u24, u25, u26, u27, u28, u29, u30, u31, u32, u33, u34, u35, u36, u37, u38, u39, u40, u41, u42, u43, u44, u45, u46, u47, u48, u49, u50, u51, u52, u53, u54, u55, u56, u57, u58, u59, u60, u61, u62, u63, u64, u65, u66, u67, u68, u69, u70, u71, u72, u73, u74, u75, u76, u77, u78, u79, u80, u81, u82, u83, u84, u85, u86, u87, u88, u89, u90, u91, u92, u93, u94, u95, u96, u97, u98, u99, u100, u101, u102, u103, u104, u105, u106, u107, u108, u109, u110, u111, u112, u113, u114, u115, u116, u117, u118, u119, u120, u121, u122, u123, u124, u125, u126, u127, u128, u129, u130, u131, u132, u133, u134, u135, u136, u137, u138, u139, u140, u141, u142, u143, u144, u145, u146, u147, u148, u149, u150, u151, u152, u153], []⟩ W := by
  obtain ⟨l0, l1⟩ := hl
  have zl := szc l0
  obtain ⟨hax, hay⟩ := ha
  have zha := szc hax
  conv => arg 2; whnf
  go_wp2_with first | (go_at_call 25; (with_reducible refine (HX _).mono ?_); rintro e w1 ⟨rfl, hb⟩; obtain ⟨os, n, rfl⟩ := Below.moreE hb; clear hb)
  all_goals
    first | exact (by repeat (first | (with_reducible exact Gr.refl _) | with_reducible refine Gr.alloc ?_ _ | with_reducible refine Gr.more ?_ _ _ | with_reducible refine Gr.setCell ?_ (by dsimp only; omega) _ | with_reducible refine Gr.drew ?_)) | exact hQ _ _ _ _ _ _ _ _ _ _ (by repeat (first | (with_reducible exact Gr.refl _) | with_reducible refine Gr.alloc ?_ _ | with_reducible refine Gr.more ?_ _ _ | with_reducible refine Gr.setCell ?_ (by dsimp only; omega) _ | with_reducible refine Gr.drew ?_)) 

/-- Region 3 of law.BitsForms. -/
noncomputable def forms_r3_code : Code := ((Tryd.f4.body).bind (Code.findR 3)).getD .skip
set_option maxRecDepth 100000 in
set_option maxHeartbeats 4000000 in
theorem forms_r3 {Q : Exit → Act → World → Prop} {u0 u1 u2 u5 u6 u7 u8 u9 u10 u11 u12 u13 u14 u15 u16 u17 u18 u19 u20 u21 u22 u23 u24 u25 u26 u27 u28 u29 u30 u31 u32 u33 u34 u35 u36 u37 u38 u39 u40 u41 u42 u43 u44 u45 u46 u47 u48 u49 u50 u51 u52 u53 u54 u55 u56 u57 u58 u59 u60 u61 u62 u63 u64 u65 u66 u67 u68 u69 u70 u71 u72 u73 u74 u75 u76 u77 u78 u79 u80 u81 u82 u83 u84 u85 u86 u87 u88 u89 u90 u91 u92 u93 u94 u95 u96 u97 u98 u99 u100 u101 u102 u103 u104 u105 u106 u107 u108 u109 u110 u111 u112 u113 u114 u115 u116 u117 u118 u119 u120 u121 u122 u123 u124 u125 u126 u127 u128 u129 u130 u131 u132 u133 u134 u135 u136 u137 u138 u139 u140 u141 u142 u143 u144 u145 u146 u147 u148 u149 u150 u151 u152 u153 : Value} {W : World} {a m : Nat} {s i j x e : Int} {g : Bool}  (ha : BoxT W a s g) (hl : Box2 W m i j) (HX : RetM 26 #[tyV s g, .int .i64 i, .int .i64 j] x e) (hQ : ∀ (v39 v40 v41 v42 v43 v44 v38 v45 v46 : Value) (W' : World), Gr W.heap.size W W' → Q .normal ⟨#[u0, u1, u2, .pointer (some ⟨a, 0, none⟩), .pointer (some ⟨m, 0, none⟩), u5, u6, u7, u8, u9, .int .i64 x, .int .i64 e, u12, u13, u14, u15, u16, u17, u18, u19, u20, u21, u22, u23, u24, u25, u26, u27, u28, u29, u30, u31, u32, u33, u34, u35, u36, u37, v38, v39, v40, v41, v42, v43, v44, v45, v46, u47, u48, u49, u50, u51, u52, u53, u54, u55, u56, u57, u58, u59, u60, u61, u62, u63, u64, u65, u66, u67, u68, u69, u70, u71, u72, u73, u74, u75, u76, u77, u78, u79, u80, u81, u82, u83, u84, u85, u86, u87, u88, u89, u90, u91, u92, u93, u94, u95, u96, u97, u98, u99, u100, u101, u102, u103, u104, u105, u106, u107, u108, u109, u110, u111, u112, u113, u114, u115, u116, u117, u118, u119, u120, u121, u122, u123, u124, u125, u126, u127, u128, u129, u130, u131, u132, u133, u134, u135, u136, u137, u138, u139, u140, u141, u142, u143, u144, u145, u146, u147, u148, u149, u150, u151, u152, u153], []⟩ W') : Code.wp Tryd.prog forms_r3_code Q ⟨#[u0, u1, u2, .pointer (some ⟨a, 0, none⟩), .pointer (some ⟨m, 0, none⟩), u5, u6, u7, u8, u9, u10, u11, u12, u13, u14, u15, u16, u17, u18, u19, u20, u21, u22, u23, u24, u25, u26, u27, u28, u29, u30, u31, u32, u33, u34, u35, u36, u37, u38, u39, u40, u41, u42, u43, u44, u45, u46, u47, u48, u49, u50, u51, u52, u53, u54, u55, u56, u57, u58, u59, u60, u61, u62, u63, u64, u65, u66, u67, u68, u69, u70, u71, u72, u73, u74, u75, u76, u77, u78, u79, u80, u81, u82, u83, u84, u85, u86, u87, u88, u89, u90, u91, u92, u93, u94, u95, u96, u97, u98, u99, u100, u101, u102, u103, u104, u105, u106, u107, u108, u109, u110, u111, u112, u113, u114, u115, u116, u117, u118, u119, u120, u121, u122, u123, u124, u125, u126, u127, u128, u129, u130, u131, u132, u133, u134, u135, u136, u137, u138, u139, u140, u141, u142, u143, u144, u145, u146, u147, u148, u149, u150, u151, u152, u153], []⟩ W := by
  obtain ⟨l0, l1⟩ := hl
  have zl := szc l0
  obtain ⟨hax, hay⟩ := ha
  have zha := szc hax
  conv => arg 2; whnf
  go_wp2_with first | (go_at_call 26; (with_reducible refine (HX _).mono ?_); rintro e w1 ⟨rfl, hb⟩; obtain ⟨os, n, rfl⟩ := Below.moreE hb; clear hb)
  all_goals
    first | exact (by repeat (first | (with_reducible exact Gr.refl _) | with_reducible refine Gr.alloc ?_ _ | with_reducible refine Gr.more ?_ _ _ | with_reducible refine Gr.setCell ?_ (by dsimp only; omega) _ | with_reducible refine Gr.drew ?_)) | exact hQ _ _ _ _ _ _ _ _ _ _ (by repeat (first | (with_reducible exact Gr.refl _) | with_reducible refine Gr.alloc ?_ _ | with_reducible refine Gr.more ?_ _ _ | with_reducible refine Gr.setCell ?_ (by dsimp only; omega) _ | with_reducible refine Gr.drew ?_)) 

/-- Region 4 of law.BitsForms. -/
noncomputable def forms_r4_code : Code := ((Tryd.f4.body).bind (Code.findR 4)).getD .skip
set_option maxRecDepth 100000 in
set_option maxHeartbeats 4000000 in
theorem forms_r4 {Q : Exit → Act → World → Prop} {u0 u1 u2 u5 u6 u7 u8 u9 u10 u11 u12 u13 u14 u15 u16 u17 u18 u19 u20 u21 u22 u23 u24 u25 u26 u27 u28 u29 u30 u31 u32 u33 u34 u35 u36 u37 u38 u39 u40 u41 u42 u43 u44 u45 u46 u47 u48 u49 u50 u51 u52 u53 u54 u55 u56 u57 u58 u59 u60 u61 u62 u63 u64 u65 u66 u67 u68 u69 u70 u71 u72 u73 u74 u75 u76 u77 u78 u79 u80 u81 u82 u83 u84 u85 u86 u87 u88 u89 u90 u91 u92 u93 u94 u95 u96 u97 u98 u99 u100 u101 u102 u103 u104 u105 u106 u107 u108 u109 u110 u111 u112 u113 u114 u115 u116 u117 u118 u119 u120 u121 u122 u123 u124 u125 u126 u127 u128 u129 u130 u131 u132 u133 u134 u135 u136 u137 u138 u139 u140 u141 u142 u143 u144 u145 u146 u147 u148 u149 u150 u151 u152 u153 : Value} {W : World} {a m z : Nat} {l : List UInt8} {s i j : Int} {g : Bool}  (ha : BoxT W a s g) (hl : Box2 W m i j) (HX : RetBy s g i z l) (hQ : ∀ (v48 v49 v50 v51 v47 v52 v53 : Value) (b12 : Nat) (W' : World), Gr W.heap.size W W' → BS W' b12 l → Q .normal ⟨#[u0, u1, u2, .pointer (some ⟨a, 0, none⟩), .pointer (some ⟨m, 0, none⟩), u5, u6, u7, u8, u9, u10, u11, .slice (some ⟨b12, 0, none⟩) z z, .int .i64 0, u14, u15, u16, u17, u18, u19, u20, u21, u22, u23, u24, u25, u26, u27, u28, u29, u30, u31, u32, u33, u34, u35, u36, u37, u38, u39, u40, u41, u42, u43, u44, u45, u46, v47, v48, v49, v50, v51, v52, v53, u54, u55, u56, u57, u58, u59, u60, u61, u62, u63, u64, u65, u66, u67, u68, u69, u70, u71, u72, u73, u74, u75, u76, u77, u78, u79, u80, u81, u82, u83, u84, u85, u86, u87, u88, u89, u90, u91, u92, u93, u94, u95, u96, u97, u98, u99, u100, u101, u102, u103, u104, u105, u106, u107, u108, u109, u110, u111, u112, u113, u114, u115, u116, u117, u118, u119, u120, u121, u122, u123, u124, u125, u126, u127, u128, u129, u130, u131, u132, u133, u134, u135, u136, u137, u138, u139, u140, u141, u142, u143, u144, u145, u146, u147, u148, u149, u150, u151, u152, u153], []⟩ W') : Code.wp Tryd.prog forms_r4_code Q ⟨#[u0, u1, u2, .pointer (some ⟨a, 0, none⟩), .pointer (some ⟨m, 0, none⟩), u5, u6, u7, u8, u9, u10, u11, u12, u13, u14, u15, u16, u17, u18, u19, u20, u21, u22, u23, u24, u25, u26, u27, u28, u29, u30, u31, u32, u33, u34, u35, u36, u37, u38, u39, u40, u41, u42, u43, u44, u45, u46, u47, u48, u49, u50, u51, u52, u53, u54, u55, u56, u57, u58, u59, u60, u61, u62, u63, u64, u65, u66, u67, u68, u69, u70, u71, u72, u73, u74, u75, u76, u77, u78, u79, u80, u81, u82, u83, u84, u85, u86, u87, u88, u89, u90, u91, u92, u93, u94, u95, u96, u97, u98, u99, u100, u101, u102, u103, u104, u105, u106, u107, u108, u109, u110, u111, u112, u113, u114, u115, u116, u117, u118, u119, u120, u121, u122, u123, u124, u125, u126, u127, u128, u129, u130, u131, u132, u133, u134, u135, u136, u137, u138, u139, u140, u141, u142, u143, u144, u145, u146, u147, u148, u149, u150, u151, u152, u153], []⟩ W := by
  obtain ⟨l0, l1⟩ := hl
  have zl := szc l0
  obtain ⟨hax, hay⟩ := ha
  have zha := szc hax
  conv => arg 2; whnf
  go_wp2_with first | (go_at_call 27; (with_reducible refine (HX _).mono ?_); rintro e w1 ⟨b, rfl, hb0, hbs, hb⟩; obtain ⟨os, n, rfl⟩ := Below.moreE hb; clear hb)
  all_goals
    exact hQ _ _ _ _ _ _ _ _ _ (by repeat (first | (with_reducible exact Gr.refl _) | with_reducible refine Gr.alloc ?_ _ | with_reducible refine Gr.more ?_ _ _ | with_reducible refine Gr.setCell ?_ (by dsimp only; omega) _ | with_reducible refine Gr.drew ?_)) (by assumption)

/-- Region 5 of law.BitsForms. -/
noncomputable def forms_r5_code : Code := ((Tryd.f4.body).bind (Code.findR 5)).getD .skip
set_option maxRecDepth 100000 in
set_option maxHeartbeats 4000000 in
theorem forms_r5 {Q : Exit → Act → World → Prop} {u0 u1 u2 u5 u6 u7 u8 u9 u10 u11 u12 u13 u14 u15 u16 u17 u18 u19 u20 u21 u22 u23 u24 u25 u26 u27 u28 u29 u30 u31 u32 u33 u34 u35 u36 u37 u38 u39 u40 u41 u42 u43 u44 u45 u46 u47 u48 u49 u50 u51 u52 u53 u54 u55 u56 u57 u58 u59 u60 u61 u62 u63 u64 u65 u66 u67 u68 u69 u70 u71 u72 u73 u74 u75 u76 u77 u78 u79 u80 u81 u82 u83 u84 u85 u86 u87 u88 u89 u90 u91 u92 u93 u94 u95 u96 u97 u98 u99 u100 u101 u102 u103 u104 u105 u106 u107 u108 u109 u110 u111 u112 u113 u114 u115 u116 u117 u118 u119 u120 u121 u122 u123 u124 u125 u126 u127 u128 u129 u130 u131 u132 u133 u134 u135 u136 u137 u138 u139 u140 u141 u142 u143 u144 u145 u146 u147 u148 u149 u150 u151 u152 u153 : Value} {W : World} {a m z : Nat} {l : List UInt8} {s i j : Int} {g : Bool}  (ha : BoxT W a s g) (hl : Box2 W m i j) (HX : RetRy s g i z l) (hQ : ∀ (v55 v56 v57 v58 v54 v59 v60 : Value) (b14 c14 : Nat) (W' : World), Gr W.heap.size W W' → BS W' b14 l → Q .normal ⟨#[u0, u1, u2, .pointer (some ⟨a, 0, none⟩), .pointer (some ⟨m, 0, none⟩), u5, u6, u7, u8, u9, u10, u11, u12, u13, .slice (some ⟨b14, 0, none⟩) z c14, .int .i64 0, u16, u17, u18, u19, u20, u21, u22, u23, u24, u25, u26, u27, u28, u29, u30, u31, u32, u33, u34, u35, u36, u37, u38, u39, u40, u41, u42, u43, u44, u45, u46, u47, u48, u49, u50, u51, u52, u53, v54, v55, v56, v57, v58, v59, v60, u61, u62, u63, u64, u65, u66, u67, u68, u69, u70, u71, u72, u73, u74, u75, u76, u77, u78, u79, u80, u81, u82, u83, u84, u85, u86, u87, u88, u89, u90, u91, u92, u93, u94, u95, u96, u97, u98, u99, u100, u101, u102, u103, u104, u105, u106, u107, u108, u109, u110, u111, u112, u113, u114, u115, u116, u117, u118, u119, u120, u121, u122, u123, u124, u125, u126, u127, u128, u129, u130, u131, u132, u133, u134, u135, u136, u137, u138, u139, u140, u141, u142, u143, u144, u145, u146, u147, u148, u149, u150, u151, u152, u153], []⟩ W') : Code.wp Tryd.prog forms_r5_code Q ⟨#[u0, u1, u2, .pointer (some ⟨a, 0, none⟩), .pointer (some ⟨m, 0, none⟩), u5, u6, u7, u8, u9, u10, u11, u12, u13, u14, u15, u16, u17, u18, u19, u20, u21, u22, u23, u24, u25, u26, u27, u28, u29, u30, u31, u32, u33, u34, u35, u36, u37, u38, u39, u40, u41, u42, u43, u44, u45, u46, u47, u48, u49, u50, u51, u52, u53, u54, u55, u56, u57, u58, u59, u60, u61, u62, u63, u64, u65, u66, u67, u68, u69, u70, u71, u72, u73, u74, u75, u76, u77, u78, u79, u80, u81, u82, u83, u84, u85, u86, u87, u88, u89, u90, u91, u92, u93, u94, u95, u96, u97, u98, u99, u100, u101, u102, u103, u104, u105, u106, u107, u108, u109, u110, u111, u112, u113, u114, u115, u116, u117, u118, u119, u120, u121, u122, u123, u124, u125, u126, u127, u128, u129, u130, u131, u132, u133, u134, u135, u136, u137, u138, u139, u140, u141, u142, u143, u144, u145, u146, u147, u148, u149, u150, u151, u152, u153], []⟩ W := by
  obtain ⟨l0, l1⟩ := hl
  have zl := szc l0
  obtain ⟨hax, hay⟩ := ha
  have zha := szc hax
  conv => arg 2; whnf
  go_wp2_with first | (go_at_call 28; (with_reducible refine (HX _).mono ?_); rintro e w1 ⟨b, cap, rfl, hb0, hbs, hb⟩; obtain ⟨os, n, rfl⟩ := Below.moreE hb; clear hb)
  all_goals
    exact hQ _ _ _ _ _ _ _ _ _ _ (by repeat (first | (with_reducible exact Gr.refl _) | with_reducible refine Gr.alloc ?_ _ | with_reducible refine Gr.more ?_ _ _ | with_reducible refine Gr.setCell ?_ (by dsimp only; omega) _ | with_reducible refine Gr.drew ?_)) (by assumption)

/-- Region 4 of law.BitsForms. -/
noncomputable def forms_r4n_code : Code := ((Tryd.f4.body).bind (Code.findR 4)).getD .skip
set_option maxRecDepth 100000 in
set_option maxHeartbeats 4000000 in
theorem forms_r4n {Q : Exit → Act → World → Prop} {u0 u1 u2 u5 u6 u7 u8 u9 u10 u11 u12 u13 u14 u15 u16 u17 u18 u19 u20 u21 u22 u23 u24 u25 u26 u27 u28 u29 u30 u31 u32 u33 u34 u35 u36 u37 u38 u39 u40 u41 u42 u43 u44 u45 u46 u47 u48 u49 u50 u51 u52 u53 u54 u55 u56 u57 u58 u59 u60 u61 u62 u63 u64 u65 u66 u67 u68 u69 u70 u71 u72 u73 u74 u75 u76 u77 u78 u79 u80 u81 u82 u83 u84 u85 u86 u87 u88 u89 u90 u91 u92 u93 u94 u95 u96 u97 u98 u99 u100 u101 u102 u103 u104 u105 u106 u107 u108 u109 u110 u111 u112 u113 u114 u115 u116 u117 u118 u119 u120 u121 u122 u123 u124 u125 u126 u127 u128 u129 u130 u131 u132 u133 u134 u135 u136 u137 u138 u139 u140 u141 u142 u143 u144 u145 u146 u147 u148 u149 u150 u151 u152 u153 : Value} {W : World} {a m : Nat} {s i j : Int} {g : Bool}  (ha : BoxT W a s g) (hl : Box2 W m i j) (HX : RetNo 27 s g i) (hQ : ∀ (v48 v49 v50 v51 v47 v52 v53 : Value) (W' : World), Gr W.heap.size W W' → Q .normal ⟨#[u0, u1, u2, .pointer (some ⟨a, 0, none⟩), .pointer (some ⟨m, 0, none⟩), u5, u6, u7, u8, u9, u10, u11, .slice none 0 0, .int .i64 10, u14, u15, u16, u17, u18, u19, u20, u21, u22, u23, u24, u25, u26, u27, u28, u29, u30, u31, u32, u33, u34, u35, u36, u37, u38, u39, u40, u41, u42, u43, u44, u45, u46, v47, v48, v49, v50, v51, v52, v53, u54, u55, u56, u57, u58, u59, u60, u61, u62, u63, u64, u65, u66, u67, u68, u69, u70, u71, u72, u73, u74, u75, u76, u77, u78, u79, u80, u81, u82, u83, u84, u85, u86, u87, u88, u89, u90, u91, u92, u93, u94, u95, u96, u97, u98, u99, u100, u101, u102, u103, u104, u105, u106, u107, u108, u109, u110, u111, u112, u113, u114, u115, u116, u117, u118, u119, u120, u121, u122, u123, u124, u125, u126, u127, u128, u129, u130, u131, u132, u133, u134, u135, u136, u137, u138, u139, u140, u141, u142, u143, u144, u145, u146, u147, u148, u149, u150, u151, u152, u153], []⟩ W') : Code.wp Tryd.prog forms_r4n_code Q ⟨#[u0, u1, u2, .pointer (some ⟨a, 0, none⟩), .pointer (some ⟨m, 0, none⟩), u5, u6, u7, u8, u9, u10, u11, u12, u13, u14, u15, u16, u17, u18, u19, u20, u21, u22, u23, u24, u25, u26, u27, u28, u29, u30, u31, u32, u33, u34, u35, u36, u37, u38, u39, u40, u41, u42, u43, u44, u45, u46, u47, u48, u49, u50, u51, u52, u53, u54, u55, u56, u57, u58, u59, u60, u61, u62, u63, u64, u65, u66, u67, u68, u69, u70, u71, u72, u73, u74, u75, u76, u77, u78, u79, u80, u81, u82, u83, u84, u85, u86, u87, u88, u89, u90, u91, u92, u93, u94, u95, u96, u97, u98, u99, u100, u101, u102, u103, u104, u105, u106, u107, u108, u109, u110, u111, u112, u113, u114, u115, u116, u117, u118, u119, u120, u121, u122, u123, u124, u125, u126, u127, u128, u129, u130, u131, u132, u133, u134, u135, u136, u137, u138, u139, u140, u141, u142, u143, u144, u145, u146, u147, u148, u149, u150, u151, u152, u153], []⟩ W := by
  obtain ⟨l0, l1⟩ := hl
  have zl := szc l0
  obtain ⟨hax, hay⟩ := ha
  have zha := szc hax
  conv => arg 2; whnf
  go_wp2_with first | (go_at_call 27; (with_reducible refine (HX _).mono ?_); rintro e w1 ⟨rfl, hb⟩; obtain ⟨os, n, rfl⟩ := Below.moreE hb; clear hb)
  all_goals
    first | exact (by repeat (first | (with_reducible exact Gr.refl _) | with_reducible refine Gr.alloc ?_ _ | with_reducible refine Gr.more ?_ _ _ | with_reducible refine Gr.setCell ?_ (by dsimp only; omega) _ | with_reducible refine Gr.drew ?_)) | exact hQ _ _ _ _ _ _ _ _ (by repeat (first | (with_reducible exact Gr.refl _) | with_reducible refine Gr.alloc ?_ _ | with_reducible refine Gr.more ?_ _ _ | with_reducible refine Gr.setCell ?_ (by dsimp only; omega) _ | with_reducible refine Gr.drew ?_)) 

/-- Region 5 of law.BitsForms. -/
noncomputable def forms_r5n_code : Code := ((Tryd.f4.body).bind (Code.findR 5)).getD .skip
set_option maxRecDepth 100000 in
set_option maxHeartbeats 4000000 in
theorem forms_r5n {Q : Exit → Act → World → Prop} {u0 u1 u2 u5 u6 u7 u8 u9 u10 u11 u12 u13 u14 u15 u16 u17 u18 u19 u20 u21 u22 u23 u24 u25 u26 u27 u28 u29 u30 u31 u32 u33 u34 u35 u36 u37 u38 u39 u40 u41 u42 u43 u44 u45 u46 u47 u48 u49 u50 u51 u52 u53 u54 u55 u56 u57 u58 u59 u60 u61 u62 u63 u64 u65 u66 u67 u68 u69 u70 u71 u72 u73 u74 u75 u76 u77 u78 u79 u80 u81 u82 u83 u84 u85 u86 u87 u88 u89 u90 u91 u92 u93 u94 u95 u96 u97 u98 u99 u100 u101 u102 u103 u104 u105 u106 u107 u108 u109 u110 u111 u112 u113 u114 u115 u116 u117 u118 u119 u120 u121 u122 u123 u124 u125 u126 u127 u128 u129 u130 u131 u132 u133 u134 u135 u136 u137 u138 u139 u140 u141 u142 u143 u144 u145 u146 u147 u148 u149 u150 u151 u152 u153 : Value} {W : World} {a m : Nat} {s i j : Int} {g : Bool}  (ha : BoxT W a s g) (hl : Box2 W m i j) (HX : RetNo 28 s g i) (hQ : ∀ (v55 v56 v57 v58 v54 v59 v60 : Value) (W' : World), Gr W.heap.size W W' → Q .normal ⟨#[u0, u1, u2, .pointer (some ⟨a, 0, none⟩), .pointer (some ⟨m, 0, none⟩), u5, u6, u7, u8, u9, u10, u11, u12, u13, .slice none 0 0, .int .i64 10, u16, u17, u18, u19, u20, u21, u22, u23, u24, u25, u26, u27, u28, u29, u30, u31, u32, u33, u34, u35, u36, u37, u38, u39, u40, u41, u42, u43, u44, u45, u46, u47, u48, u49, u50, u51, u52, u53, v54, v55, v56, v57, v58, v59, v60, u61, u62, u63, u64, u65, u66, u67, u68, u69, u70, u71, u72, u73, u74, u75, u76, u77, u78, u79, u80, u81, u82, u83, u84, u85, u86, u87, u88, u89, u90, u91, u92, u93, u94, u95, u96, u97, u98, u99, u100, u101, u102, u103, u104, u105, u106, u107, u108, u109, u110, u111, u112, u113, u114, u115, u116, u117, u118, u119, u120, u121, u122, u123, u124, u125, u126, u127, u128, u129, u130, u131, u132, u133, u134, u135, u136, u137, u138, u139, u140, u141, u142, u143, u144, u145, u146, u147, u148, u149, u150, u151, u152, u153], []⟩ W') : Code.wp Tryd.prog forms_r5n_code Q ⟨#[u0, u1, u2, .pointer (some ⟨a, 0, none⟩), .pointer (some ⟨m, 0, none⟩), u5, u6, u7, u8, u9, u10, u11, u12, u13, u14, u15, u16, u17, u18, u19, u20, u21, u22, u23, u24, u25, u26, u27, u28, u29, u30, u31, u32, u33, u34, u35, u36, u37, u38, u39, u40, u41, u42, u43, u44, u45, u46, u47, u48, u49, u50, u51, u52, u53, u54, u55, u56, u57, u58, u59, u60, u61, u62, u63, u64, u65, u66, u67, u68, u69, u70, u71, u72, u73, u74, u75, u76, u77, u78, u79, u80, u81, u82, u83, u84, u85, u86, u87, u88, u89, u90, u91, u92, u93, u94, u95, u96, u97, u98, u99, u100, u101, u102, u103, u104, u105, u106, u107, u108, u109, u110, u111, u112, u113, u114, u115, u116, u117, u118, u119, u120, u121, u122, u123, u124, u125, u126, u127, u128, u129, u130, u131, u132, u133, u134, u135, u136, u137, u138, u139, u140, u141, u142, u143, u144, u145, u146, u147, u148, u149, u150, u151, u152, u153], []⟩ W := by
  obtain ⟨l0, l1⟩ := hl
  have zl := szc l0
  obtain ⟨hax, hay⟩ := ha
  have zha := szc hax
  conv => arg 2; whnf
  go_wp2_with first | (go_at_call 28; (with_reducible refine (HX _).mono ?_); rintro e w1 ⟨rfl, hb⟩; obtain ⟨os, n, rfl⟩ := Below.moreE hb; clear hb)
  all_goals
    first | exact (by repeat (first | (with_reducible exact Gr.refl _) | with_reducible refine Gr.alloc ?_ _ | with_reducible refine Gr.more ?_ _ _ | with_reducible refine Gr.setCell ?_ (by dsimp only; omega) _ | with_reducible refine Gr.drew ?_)) | exact hQ _ _ _ _ _ _ _ _ (by repeat (first | (with_reducible exact Gr.refl _) | with_reducible refine Gr.alloc ?_ _ | with_reducible refine Gr.more ?_ _ _ | with_reducible refine Gr.setCell ?_ (by dsimp only; omega) _ | with_reducible refine Gr.drew ?_)) 

/-- Region 6 of law.BitsForms. -/
noncomputable def forms_r6_code : Code := ((Tryd.f4.body).bind (Code.findR 6)).getD .skip
set_option maxRecDepth 100000 in
set_option maxHeartbeats 4000000 in
theorem forms_r6 {Q : Exit → Act → World → Prop} {u0 u1 u4 u5 u6 u7 u8 u9 u10 u11 u12 u13 u14 u15 u16 u17 u18 u19 u20 u21 u22 u23 u24 u25 u26 u27 u28 u29 u30 u31 u32 u33 u34 u35 u36 u37 u38 u39 u40 u41 u42 u43 u44 u45 u46 u47 u48 u49 u50 u51 u52 u53 u54 u55 u56 u57 u58 u59 u60 u61 u62 u63 u64 u65 u66 u67 u68 u69 u70 u71 u72 u73 u74 u75 u76 u77 u78 u79 u80 u81 u82 u83 u84 u85 u86 u87 u88 u89 u90 u91 u92 u93 u94 u95 u96 u97 u98 u99 u100 u101 u102 u103 u104 u105 u106 u107 u108 u109 u110 u111 u112 u113 u114 u115 u116 u117 u118 u119 u120 u121 u122 u123 u124 u125 u126 u127 u128 u129 u130 u131 u132 u133 u134 u135 u136 u137 u138 u139 u140 u141 u142 u143 u144 u145 u146 u147 u148 u149 u150 u151 u152 u153 : Value} {W : World} {a : Nat} {t : ByteArray} {s x e : Int} {g : Bool}  (ha : BoxT W a s g) (HX : RetFF 29 s g t.size t.data.toList x e) (hQ : ∀ (v62 v63 v64 v65 v61 v66 v67 : Value) (W' : World), Gr W.heap.size W W' → Q .normal ⟨#[u0, u1, .string t, .pointer (some ⟨a, 0, none⟩), u4, u5, u6, u7, u8, u9, u10, u11, u12, u13, u14, u15, .int .i64 x, .int .i64 e, u18, u19, u20, u21, u22, u23, u24, u25, u26, u27, u28, u29, u30, u31, u32, u33, u34, u35, u36, u37, u38, u39, u40, u41, u42, u43, u44, u45, u46, u47, u48, u49, u50, u51, u52, u53, u54, u55, u56, u57, u58, u59, u60, v61, v62, v63, v64, v65, v66, v67, u68, u69, u70, u71, u72, u73, u74, u75, u76, u77, u78, u79, u80, u81, u82, u83, u84, u85, u86, u87, u88, u89, u90, u91, u92, u93, u94, u95, u96, u97, u98, u99, u100, u101, u102, u103, u104, u105, u106, u107, u108, u109, u110, u111, u112, u113, u114, u115, u116, u117, u118, u119, u120, u121, u122, u123, u124, u125, u126, u127, u128, u129, u130, u131, u132, u133, u134, u135, u136, u137, u138, u139, u140, u141, u142, u143, u144, u145, u146, u147, u148, u149, u150, u151, u152, u153], []⟩ W') : Code.wp Tryd.prog forms_r6_code Q ⟨#[u0, u1, .string t, .pointer (some ⟨a, 0, none⟩), u4, u5, u6, u7, u8, u9, u10, u11, u12, u13, u14, u15, u16, u17, u18, u19, u20, u21, u22, u23, u24, u25, u26, u27, u28, u29, u30, u31, u32, u33, u34, u35, u36, u37, u38, u39, u40, u41, u42, u43, u44, u45, u46, u47, u48, u49, u50, u51, u52, u53, u54, u55, u56, u57, u58, u59, u60, u61, u62, u63, u64, u65, u66, u67, u68, u69, u70, u71, u72, u73, u74, u75, u76, u77, u78, u79, u80, u81, u82, u83, u84, u85, u86, u87, u88, u89, u90, u91, u92, u93, u94, u95, u96, u97, u98, u99, u100, u101, u102, u103, u104, u105, u106, u107, u108, u109, u110, u111, u112, u113, u114, u115, u116, u117, u118, u119, u120, u121, u122, u123, u124, u125, u126, u127, u128, u129, u130, u131, u132, u133, u134, u135, u136, u137, u138, u139, u140, u141, u142, u143, u144, u145, u146, u147, u148, u149, u150, u151, u152, u153], []⟩ W := by
  obtain ⟨hax, hay⟩ := ha
  have zha := szc hax
  have kc := fun w : World => Lib.run_convert_string_bytes (P := Tryd.prog) w 9 39 5 t Tryd.underlying9 Tryd.underlying39 Tryd.underlying5
  have o1 := Lib.bytesWorld_old W 5 t ⟨a, 0, none⟩ zha
  have o2 := Lib.bytesWorld_old W 5 t ⟨a, 1, none⟩ zha
  conv => arg 2; whnf
  go_wp2_with first | (go_at_call 29; (with_reducible refine (HX _ _ _ ?hbs).mono ?_); (try case hbs => exact bs_bytes _ _ _); rintro e w1 ⟨rfl, hb⟩; obtain ⟨os, n, rfl⟩ := Below.moreE hb; clear hb)
  all_goals
    first | exact (by repeat (first | (with_reducible exact Gr.refl _) | with_reducible refine gr_bytes ?_ _ _ | with_reducible refine Gr.alloc ?_ _ | with_reducible refine Gr.more ?_ _ _ | with_reducible refine Gr.setCell ?_ (by dsimp only; omega) _ | with_reducible refine Gr.drew ?_)) | exact hQ _ _ _ _ _ _ _ _ (by repeat (first | (with_reducible exact Gr.refl _) | with_reducible refine gr_bytes ?_ _ _ | with_reducible refine Gr.alloc ?_ _ | with_reducible refine Gr.more ?_ _ _ | with_reducible refine Gr.setCell ?_ (by dsimp only; omega) _ | with_reducible refine Gr.drew ?_)) 

/-- Region 7 of law.BitsForms. -/
noncomputable def forms_r7_code : Code := ((Tryd.f4.body).bind (Code.findR 7)).getD .skip
set_option maxRecDepth 100000 in
set_option maxHeartbeats 4000000 in
theorem forms_r7 {Q : Exit → Act → World → Prop} {u0 u1 u4 u5 u6 u7 u8 u9 u10 u11 u12 u13 u14 u15 u16 u17 u18 u19 u20 u21 u22 u23 u24 u25 u26 u27 u28 u29 u30 u31 u32 u33 u34 u35 u36 u37 u38 u39 u40 u41 u42 u43 u44 u45 u46 u47 u48 u49 u50 u51 u52 u53 u54 u55 u56 u57 u58 u59 u60 u61 u62 u63 u64 u65 u66 u67 u68 u69 u70 u71 u72 u73 u74 u75 u76 u77 u78 u79 u80 u81 u82 u83 u84 u85 u86 u87 u88 u89 u90 u91 u92 u93 u94 u95 u96 u97 u98 u99 u100 u101 u102 u103 u104 u105 u106 u107 u108 u109 u110 u111 u112 u113 u114 u115 u116 u117 u118 u119 u120 u121 u122 u123 u124 u125 u126 u127 u128 u129 u130 u131 u132 u133 u134 u135 u136 u137 u138 u139 u140 u141 u142 u143 u144 u145 u146 u147 u148 u149 u150 u151 u152 u153 : Value} {W : World} {a : Nat} {t : ByteArray} {s x e : Int} {g : Bool}  (ha : BoxT W a s g) (HX : RetFF 30 s g t.size t.data.toList x e) (hQ : ∀ (v69 v70 v71 v72 v68 v73 v74 : Value) (W' : World), Gr W.heap.size W W' → Q .normal ⟨#[u0, u1, .string t, .pointer (some ⟨a, 0, none⟩), u4, u5, u6, u7, u8, u9, u10, u11, u12, u13, u14, u15, u16, u17, .int .i64 x, .int .i64 e, u20, u21, u22, u23, u24, u25, u26, u27, u28, u29, u30, u31, u32, u33, u34, u35, u36, u37, u38, u39, u40, u41, u42, u43, u44, u45, u46, u47, u48, u49, u50, u51, u52, u53, u54, u55, u56, u57, u58, u59, u60, u61, u62, u63, u64, u65, u66, u67, v68, v69, v70, v71, v72, v73, v74, u75, u76, u77, u78, u79, u80, u81, u82, u83, u84, u85, u86, u87, u88, u89, u90, u91, u92, u93, u94, u95, u96, u97, u98, u99, u100, u101, u102, u103, u104, u105, u106, u107, u108, u109, u110, u111, u112, u113, u114, u115, u116, u117, u118, u119, u120, u121, u122, u123, u124, u125, u126, u127, u128, u129, u130, u131, u132, u133, u134, u135, u136, u137, u138, u139, u140, u141, u142, u143, u144, u145, u146, u147, u148, u149, u150, u151, u152, u153], []⟩ W') : Code.wp Tryd.prog forms_r7_code Q ⟨#[u0, u1, .string t, .pointer (some ⟨a, 0, none⟩), u4, u5, u6, u7, u8, u9, u10, u11, u12, u13, u14, u15, u16, u17, u18, u19, u20, u21, u22, u23, u24, u25, u26, u27, u28, u29, u30, u31, u32, u33, u34, u35, u36, u37, u38, u39, u40, u41, u42, u43, u44, u45, u46, u47, u48, u49, u50, u51, u52, u53, u54, u55, u56, u57, u58, u59, u60, u61, u62, u63, u64, u65, u66, u67, u68, u69, u70, u71, u72, u73, u74, u75, u76, u77, u78, u79, u80, u81, u82, u83, u84, u85, u86, u87, u88, u89, u90, u91, u92, u93, u94, u95, u96, u97, u98, u99, u100, u101, u102, u103, u104, u105, u106, u107, u108, u109, u110, u111, u112, u113, u114, u115, u116, u117, u118, u119, u120, u121, u122, u123, u124, u125, u126, u127, u128, u129, u130, u131, u132, u133, u134, u135, u136, u137, u138, u139, u140, u141, u142, u143, u144, u145, u146, u147, u148, u149, u150, u151, u152, u153], []⟩ W := by
  obtain ⟨hax, hay⟩ := ha
  have zha := szc hax
  have kc := fun w : World => Lib.run_convert_string_bytes (P := Tryd.prog) w 9 39 5 t Tryd.underlying9 Tryd.underlying39 Tryd.underlying5
  have o1 := Lib.bytesWorld_old W 5 t ⟨a, 0, none⟩ zha
  have o2 := Lib.bytesWorld_old W 5 t ⟨a, 1, none⟩ zha
  conv => arg 2; whnf
  go_wp2_with first | (go_at_call 30; (with_reducible refine (HX _ _ _ ?hbs).mono ?_); (try case hbs => exact bs_bytes _ _ _); rintro e w1 ⟨rfl, hb⟩; obtain ⟨os, n, rfl⟩ := Below.moreE hb; clear hb)
  all_goals
    first | exact (by repeat (first | (with_reducible exact Gr.refl _) | with_reducible refine gr_bytes ?_ _ _ | with_reducible refine Gr.alloc ?_ _ | with_reducible refine Gr.more ?_ _ _ | with_reducible refine Gr.setCell ?_ (by dsimp only; omega) _ | with_reducible refine Gr.drew ?_)) | exact hQ _ _ _ _ _ _ _ _ (by repeat (first | (with_reducible exact Gr.refl _) | with_reducible refine gr_bytes ?_ _ _ | with_reducible refine Gr.alloc ?_ _ | with_reducible refine Gr.more ?_ _ _ | with_reducible refine Gr.setCell ?_ (by dsimp only; omega) _ | with_reducible refine Gr.drew ?_)) 

/-- Region 8 of law.BitsForms. -/
noncomputable def forms_r8_code : Code := ((Tryd.f4.body).bind (Code.findR 8)).getD .skip
set_option maxRecDepth 100000 in
set_option maxHeartbeats 4000000 in
theorem forms_r8 {Q : Exit → Act → World → Prop} {u0 u1 u2 u5 u6 u7 u8 u9 u10 u11 u12 u13 u14 u15 u16 u17 u18 u19 u20 u21 u22 u23 u24 u25 u26 u27 u28 u29 u30 u31 u32 u33 u34 u35 u36 u37 u38 u39 u40 u41 u42 u43 u44 u45 u46 u47 u48 u49 u50 u51 u52 u53 u54 u55 u56 u57 u58 u59 u60 u61 u62 u63 u64 u65 u66 u67 u68 u69 u70 u71 u72 u73 u74 u75 u76 u77 u78 u79 u80 u81 u82 u83 u84 u85 u86 u87 u88 u89 u90 u91 u92 u93 u94 u95 u96 u97 u98 u99 u100 u101 u102 u103 u104 u105 u106 u107 u108 u109 u110 u111 u112 u113 u114 u115 u116 u117 u118 u119 u120 u121 u122 u123 u124 u125 u126 u127 u128 u129 u130 u131 u132 u133 u134 u135 u136 u137 u138 u139 u140 u141 u142 u143 u144 u145 u146 u147 u148 u149 u150 u151 u152 u153 : Value} {W : World} {a m : Nat} {d : ByteArray} {s i j e : Int} {g : Bool}  (ha : BoxT W a s g) (hl : Box2 W m i j) (HX : RetS 31 #[tyV s g, .int .i64 i] d e) (hQ : ∀ (v76 v77 v78 v79 v75 v80 v81 : Value) (W' : World), Gr W.heap.size W W' → Q .normal ⟨#[u0, u1, u2, .pointer (some ⟨a, 0, none⟩), .pointer (some ⟨m, 0, none⟩), u5, u6, u7, u8, u9, u10, u11, u12, u13, u14, u15, u16, u17, u18, u19, .string d, .int .i64 e, u22, u23, u24, u25, u26, u27, u28, u29, u30, u31, u32, u33, u34, u35, u36, u37, u38, u39, u40, u41, u42, u43, u44, u45, u46, u47, u48, u49, u50, u51, u52, u53, u54, u55, u56, u57, u58, u59, u60, u61, u62, u63, u64, u65, u66, u67, u68, u69, u70, u71, u72, u73, u74, v75, v76, v77, v78, v79, v80, v81, u82, u83, u84, u85, u86, u87, u88, u89, u90, u91, u92, u93, u94, u95, u96, u97, u98, u99, u100, u101, u102, u103, u104, u105, u106, u107, u108, u109, u110, u111, u112, u113, u114, u115, u116, u117, u118, u119, u120, u121, u122, u123, u124, u125, u126, u127, u128, u129, u130, u131, u132, u133, u134, u135, u136, u137, u138, u139, u140, u141, u142, u143, u144, u145, u146, u147, u148, u149, u150, u151, u152, u153], []⟩ W') : Code.wp Tryd.prog forms_r8_code Q ⟨#[u0, u1, u2, .pointer (some ⟨a, 0, none⟩), .pointer (some ⟨m, 0, none⟩), u5, u6, u7, u8, u9, u10, u11, u12, u13, u14, u15, u16, u17, u18, u19, u20, u21, u22, u23, u24, u25, u26, u27, u28, u29, u30, u31, u32, u33, u34, u35, u36, u37, u38, u39, u40, u41, u42, u43, u44, u45, u46, u47, u48, u49, u50, u51, u52, u53, u54, u55, u56, u57, u58, u59, u60, u61, u62, u63, u64, u65, u66, u67, u68, u69, u70, u71, u72, u73, u74, u75, u76, u77, u78, u79, u80, u81, u82, u83, u84, u85, u86, u87, u88, u89, u90, u91, u92, u93, u94, u95, u96, u97, u98, u99, u100, u101, u102, u103, u104, u105, u106, u107, u108, u109, u110, u111, u112, u113, u114, u115, u116, u117, u118, u119, u120, u121, u122, u123, u124, u125, u126, u127, u128, u129, u130, u131, u132, u133, u134, u135, u136, u137, u138, u139, u140, u141, u142, u143, u144, u145, u146, u147, u148, u149, u150, u151, u152, u153], []⟩ W := by
  obtain ⟨l0, l1⟩ := hl
  have zl := szc l0
  obtain ⟨hax, hay⟩ := ha
  have zha := szc hax
  conv => arg 2; whnf
  go_wp2_with first | (go_at_call 31; (with_reducible refine (HX _).mono ?_); rintro e w1 ⟨rfl, hb⟩; obtain ⟨os, n, rfl⟩ := Below.moreE hb; clear hb)
  all_goals
    first | exact (by repeat (first | (with_reducible exact Gr.refl _) | with_reducible refine Gr.alloc ?_ _ | with_reducible refine Gr.more ?_ _ _ | with_reducible refine Gr.setCell ?_ (by dsimp only; omega) _ | with_reducible refine Gr.drew ?_)) | exact hQ _ _ _ _ _ _ _ _ (by repeat (first | (with_reducible exact Gr.refl _) | with_reducible refine Gr.alloc ?_ _ | with_reducible refine Gr.more ?_ _ _ | with_reducible refine Gr.setCell ?_ (by dsimp only; omega) _ | with_reducible refine Gr.drew ?_)) 

/-- Region 9 of law.BitsForms. -/
noncomputable def forms_r9_code : Code := ((Tryd.f4.body).bind (Code.findR 9)).getD .skip
set_option maxRecDepth 100000 in
set_option maxHeartbeats 4000000 in
theorem forms_r9 {Q : Exit → Act → World → Prop} {u0 u1 u2 u5 u6 u7 u8 u9 u10 u11 u12 u13 u14 u15 u16 u17 u18 u19 u20 u21 u22 u23 u24 u25 u26 u27 u28 u29 u30 u31 u32 u33 u34 u35 u36 u37 u38 u39 u40 u41 u42 u43 u44 u45 u46 u47 u48 u49 u50 u51 u52 u53 u54 u55 u56 u57 u58 u59 u60 u61 u62 u63 u64 u65 u66 u67 u68 u69 u70 u71 u72 u73 u74 u75 u76 u77 u78 u79 u80 u81 u82 u83 u84 u85 u86 u87 u88 u89 u90 u91 u92 u93 u94 u95 u96 u97 u98 u99 u100 u101 u102 u103 u104 u105 u106 u107 u108 u109 u110 u111 u112 u113 u114 u115 u116 u117 u118 u119 u120 u121 u122 u123 u124 u125 u126 u127 u128 u129 u130 u131 u132 u133 u134 u135 u136 u137 u138 u139 u140 u141 u142 u143 u144 u145 u146 u147 u148 u149 u150 u151 u152 u153 : Value} {W : World} {a m : Nat} {d : ByteArray} {s i j e : Int} {g : Bool}  (ha : BoxT W a s g) (hl : Box2 W m i j) (HX : RetS 32 #[tyV s g, .int .i64 i] d e) (hQ : ∀ (v83 v84 v85 v86 v82 v87 v88 : Value) (W' : World), Gr W.heap.size W W' → Q .normal ⟨#[u0, u1, u2, .pointer (some ⟨a, 0, none⟩), .pointer (some ⟨m, 0, none⟩), u5, u6, u7, u8, u9, u10, u11, u12, u13, u14, u15, u16, u17, u18, u19, u20, u21, .string d, .int .i64 e, u24, u25, u26, u27, u28, u29, u30, u31, u32, u33, u34, u35, u36, u37, u38, u39, u40, u41, u42, u43, u44, u45, u46, u47, u48, u49, u50, u51, u52, u53, u54, u55, u56, u57, u58, u59, u60, u61, u62, u63, u64, u65, u66, u67, u68, u69, u70, u71, u72, u73, u74, u75, u76, u77, u78, u79, u80, u81, v82, v83, v84, v85, v86, v87, v88, u89, u90, u91, u92, u93, u94, u95, u96, u97, u98, u99, u100, u101, u102, u103, u104, u105, u106, u107, u108, u109, u110, u111, u112, u113, u114, u115, u116, u117, u118, u119, u120, u121, u122, u123, u124, u125, u126, u127, u128, u129, u130, u131, u132, u133, u134, u135, u136, u137, u138, u139, u140, u141, u142, u143, u144, u145, u146, u147, u148, u149, u150, u151, u152, u153], []⟩ W') : Code.wp Tryd.prog forms_r9_code Q ⟨#[u0, u1, u2, .pointer (some ⟨a, 0, none⟩), .pointer (some ⟨m, 0, none⟩), u5, u6, u7, u8, u9, u10, u11, u12, u13, u14, u15, u16, u17, u18, u19, u20, u21, u22, u23, u24, u25, u26, u27, u28, u29, u30, u31, u32, u33, u34, u35, u36, u37, u38, u39, u40, u41, u42, u43, u44, u45, u46, u47, u48, u49, u50, u51, u52, u53, u54, u55, u56, u57, u58, u59, u60, u61, u62, u63, u64, u65, u66, u67, u68, u69, u70, u71, u72, u73, u74, u75, u76, u77, u78, u79, u80, u81, u82, u83, u84, u85, u86, u87, u88, u89, u90, u91, u92, u93, u94, u95, u96, u97, u98, u99, u100, u101, u102, u103, u104, u105, u106, u107, u108, u109, u110, u111, u112, u113, u114, u115, u116, u117, u118, u119, u120, u121, u122, u123, u124, u125, u126, u127, u128, u129, u130, u131, u132, u133, u134, u135, u136, u137, u138, u139, u140, u141, u142, u143, u144, u145, u146, u147, u148, u149, u150, u151, u152, u153], []⟩ W := by
  obtain ⟨l0, l1⟩ := hl
  have zl := szc l0
  obtain ⟨hax, hay⟩ := ha
  have zha := szc hax
  conv => arg 2; whnf
  go_wp2_with first | (go_at_call 32; (with_reducible refine (HX _).mono ?_); rintro e w1 ⟨rfl, hb⟩; obtain ⟨os, n, rfl⟩ := Below.moreE hb; clear hb)
  all_goals
    first | exact (by repeat (first | (with_reducible exact Gr.refl _) | with_reducible refine Gr.alloc ?_ _ | with_reducible refine Gr.more ?_ _ _ | with_reducible refine Gr.setCell ?_ (by dsimp only; omega) _ | with_reducible refine Gr.drew ?_)) | exact hQ _ _ _ _ _ _ _ _ (by repeat (first | (with_reducible exact Gr.refl _) | with_reducible refine Gr.alloc ?_ _ | with_reducible refine Gr.more ?_ _ _ | with_reducible refine Gr.setCell ?_ (by dsimp only; omega) _ | with_reducible refine Gr.drew ?_)) 

/-- Region 10 of law.BitsForms. -/
noncomputable def forms_r10_code : Code := ((Tryd.f4.body).bind (Code.findR 10)).getD .skip
set_option maxRecDepth 100000 in
set_option maxHeartbeats 4000000 in
theorem forms_r10 {Q : Exit → Act → World → Prop} {u0 u1 u4 u5 u6 u7 u8 u9 u10 u11 u12 u13 u14 u15 u16 u17 u18 u19 u20 u21 u22 u23 u24 u25 u26 u27 u28 u29 u30 u31 u32 u33 u34 u35 u36 u37 u38 u39 u40 u41 u42 u43 u44 u45 u46 u47 u48 u49 u50 u51 u52 u53 u54 u55 u56 u57 u58 u59 u60 u61 u62 u63 u64 u65 u66 u67 u68 u69 u70 u71 u72 u73 u74 u75 u76 u77 u78 u79 u80 u81 u82 u83 u84 u85 u86 u87 u88 u89 u90 u91 u92 u93 u94 u95 u96 u97 u98 u99 u100 u101 u102 u103 u104 u105 u106 u107 u108 u109 u110 u111 u112 u113 u114 u115 u116 u117 u118 u119 u120 u121 u122 u123 u124 u125 u126 u127 u128 u129 u130 u131 u132 u133 u134 u135 u136 u137 u138 u139 u140 u141 u142 u143 u144 u145 u146 u147 u148 u149 u150 u151 u152 u153 : Value} {W : World} {a : Nat} {t : ByteArray} {s x e : Int} {g : Bool}  (hE : EV W) (ha : BoxT W a s g) (HX : RetP 33 #[tyV s g, .string t] x e) (hQ : ∀ (v90 v91 v92 v89 v93 v94 : Value) (W' : World), Gr W.heap.size W W' → Q .normal ⟨#[u0, u1, .string t, .pointer (some ⟨a, 0, none⟩), u4, u5, u6, u7, u8, u9, u10, u11, u12, u13, u14, u15, u16, u17, u18, u19, u20, u21, u22, u23, .int .i64 x, .int .i64 e, u26, u27, u28, u29, u30, u31, u32, u33, u34, u35, u36, u37, u38, u39, u40, u41, u42, u43, u44, u45, u46, u47, u48, u49, u50, u51, u52, u53, u54, u55, u56, u57, u58, u59, u60, u61, u62, u63, u64, u65, u66, u67, u68, u69, u70, u71, u72, u73, u74, u75, u76, u77, u78, u79, u80, u81, u82, u83, u84, u85, u86, u87, u88, v89, v90, v91, v92, v93, v94, u95, u96, u97, u98, u99, u100, u101, u102, u103, u104, u105, u106, u107, u108, u109, u110, u111, u112, u113, u114, u115, u116, u117, u118, u119, u120, u121, u122, u123, u124, u125, u126, u127, u128, u129, u130, u131, u132, u133, u134, u135, u136, u137, u138, u139, u140, u141, u142, u143, u144, u145, u146, u147, u148, u149, u150, u151, u152, u153], []⟩ W') : Code.wp Tryd.prog forms_r10_code Q ⟨#[u0, u1, .string t, .pointer (some ⟨a, 0, none⟩), u4, u5, u6, u7, u8, u9, u10, u11, u12, u13, u14, u15, u16, u17, u18, u19, u20, u21, u22, u23, u24, u25, u26, u27, u28, u29, u30, u31, u32, u33, u34, u35, u36, u37, u38, u39, u40, u41, u42, u43, u44, u45, u46, u47, u48, u49, u50, u51, u52, u53, u54, u55, u56, u57, u58, u59, u60, u61, u62, u63, u64, u65, u66, u67, u68, u69, u70, u71, u72, u73, u74, u75, u76, u77, u78, u79, u80, u81, u82, u83, u84, u85, u86, u87, u88, u89, u90, u91, u92, u93, u94, u95, u96, u97, u98, u99, u100, u101, u102, u103, u104, u105, u106, u107, u108, u109, u110, u111, u112, u113, u114, u115, u116, u117, u118, u119, u120, u121, u122, u123, u124, u125, u126, u127, u128, u129, u130, u131, u132, u133, u134, u135, u136, u137, u138, u139, u140, u141, u142, u143, u144, u145, u146, u147, u148, u149, u150, u151, u152, u153], []⟩ W := by
  obtain ⟨hax, hay⟩ := ha
  have zha := szc hax
  conv => arg 2; whnf
  go_wp2_with first | (go_at_call 33; (with_reducible refine (HX _ ?hqq).mono ?_); (try case hqq => exact hE); rintro e w1 ⟨rfl, hb⟩; obtain ⟨os, n, rfl⟩ := Below.moreE hb; clear hb)
  all_goals
    first | exact (by repeat (first | (with_reducible exact Gr.refl _) | with_reducible refine Gr.alloc ?_ _ | with_reducible refine Gr.more ?_ _ _ | with_reducible refine Gr.setCell ?_ (by dsimp only; omega) _ | with_reducible refine Gr.drew ?_)) | exact hQ _ _ _ _ _ _ _ (by repeat (first | (with_reducible exact Gr.refl _) | with_reducible refine Gr.alloc ?_ _ | with_reducible refine Gr.more ?_ _ _ | with_reducible refine Gr.setCell ?_ (by dsimp only; omega) _ | with_reducible refine Gr.drew ?_)) 

/-- Region 11 of law.BitsForms. -/
noncomputable def forms_r11_code : Code := ((Tryd.f4.body).bind (Code.findR 11)).getD .skip
set_option maxRecDepth 100000 in
set_option maxHeartbeats 4000000 in
theorem forms_r11 {Q : Exit → Act → World → Prop} {u0 u1 u4 u5 u6 u7 u8 u9 u10 u11 u12 u13 u14 u15 u16 u17 u18 u19 u20 u21 u22 u23 u24 u25 u26 u27 u28 u29 u30 u31 u32 u33 u34 u35 u36 u37 u38 u39 u40 u41 u42 u43 u44 u45 u46 u47 u48 u49 u50 u51 u52 u53 u54 u55 u56 u57 u58 u59 u60 u61 u62 u63 u64 u65 u66 u67 u68 u69 u70 u71 u72 u73 u74 u75 u76 u77 u78 u79 u80 u81 u82 u83 u84 u85 u86 u87 u88 u89 u90 u91 u92 u93 u94 u95 u96 u97 u98 u99 u100 u101 u102 u103 u104 u105 u106 u107 u108 u109 u110 u111 u112 u113 u114 u115 u116 u117 u118 u119 u120 u121 u122 u123 u124 u125 u126 u127 u128 u129 u130 u131 u132 u133 u134 u135 u136 u137 u138 u139 u140 u141 u142 u143 u144 u145 u146 u147 u148 u149 u150 u151 u152 u153 : Value} {W : World} {a : Nat} {t : ByteArray} {s x e : Int} {g : Bool}  (ha : BoxT W a s g) (HX : RetM 34 #[tyV s g, .string t] x e) (hQ : ∀ (v96 v97 v98 v95 v99 v100 : Value) (W' : World), Gr W.heap.size W W' → Q .normal ⟨#[u0, u1, .string t, .pointer (some ⟨a, 0, none⟩), u4, u5, u6, u7, u8, u9, u10, u11, u12, u13, u14, u15, u16, u17, u18, u19, u20, u21, u22, u23, u24, u25, .int .i64 x, .int .i64 e, u28, u29, u30, u31, u32, u33, u34, u35, u36, u37, u38, u39, u40, u41, u42, u43, u44, u45, u46, u47, u48, u49, u50, u51, u52, u53, u54, u55, u56, u57, u58, u59, u60, u61, u62, u63, u64, u65, u66, u67, u68, u69, u70, u71, u72, u73, u74, u75, u76, u77, u78, u79, u80, u81, u82, u83, u84, u85, u86, u87, u88, u89, u90, u91, u92, u93, u94, v95, v96, v97, v98, v99, v100, u101, u102, u103, u104, u105, u106, u107, u108, u109, u110, u111, u112, u113, u114, u115, u116, u117, u118, u119, u120, u121, u122, u123, u124, u125, u126, u127, u128, u129, u130, u131, u132, u133, u134, u135, u136, u137, u138, u139, u140, u141, u142, u143, u144, u145, u146, u147, u148, u149, u150, u151, u152, u153], []⟩ W') : Code.wp Tryd.prog forms_r11_code Q ⟨#[u0, u1, .string t, .pointer (some ⟨a, 0, none⟩), u4, u5, u6, u7, u8, u9, u10, u11, u12, u13, u14, u15, u16, u17, u18, u19, u20, u21, u22, u23, u24, u25, u26, u27, u28, u29, u30, u31, u32, u33, u34, u35, u36, u37, u38, u39, u40, u41, u42, u43, u44, u45, u46, u47, u48, u49, u50, u51, u52, u53, u54, u55, u56, u57, u58, u59, u60, u61, u62, u63, u64, u65, u66, u67, u68, u69, u70, u71, u72, u73, u74, u75, u76, u77, u78, u79, u80, u81, u82, u83, u84, u85, u86, u87, u88, u89, u90, u91, u92, u93, u94, u95, u96, u97, u98, u99, u100, u101, u102, u103, u104, u105, u106, u107, u108, u109, u110, u111, u112, u113, u114, u115, u116, u117, u118, u119, u120, u121, u122, u123, u124, u125, u126, u127, u128, u129, u130, u131, u132, u133, u134, u135, u136, u137, u138, u139, u140, u141, u142, u143, u144, u145, u146, u147, u148, u149, u150, u151, u152, u153], []⟩ W := by
  obtain ⟨hax, hay⟩ := ha
  have zha := szc hax
  conv => arg 2; whnf
  go_wp2_with first | (go_at_call 34; (with_reducible refine (HX _).mono ?_); rintro e w1 ⟨rfl, hb⟩; obtain ⟨os, n, rfl⟩ := Below.moreE hb; clear hb)
  all_goals
    first | exact (by repeat (first | (with_reducible exact Gr.refl _) | with_reducible refine Gr.alloc ?_ _ | with_reducible refine Gr.more ?_ _ _ | with_reducible refine Gr.setCell ?_ (by dsimp only; omega) _ | with_reducible refine Gr.drew ?_)) | exact hQ _ _ _ _ _ _ _ (by repeat (first | (with_reducible exact Gr.refl _) | with_reducible refine Gr.alloc ?_ _ | with_reducible refine Gr.more ?_ _ _ | with_reducible refine Gr.setCell ?_ (by dsimp only; omega) _ | with_reducible refine Gr.drew ?_)) 

/-- Region 12 of law.BitsForms. -/
noncomputable def forms_r12_code : Code := ((Tryd.f4.body).bind (Code.findR 12)).getD .skip
set_option maxRecDepth 100000 in
set_option maxHeartbeats 16000000 in
theorem forms_r12 {Q : Exit → Act → World → Prop} {u0 u1 u2 u3 u4 u5 u6 u28 u29 u30 u31 u32 u33 u34 u35 u36 u37 u38 u39 u40 u41 u42 u43 u44 u45 u46 u47 u48 u49 u50 u51 u52 u53 u54 u55 u56 u57 u58 u59 u60 u61 u62 u63 u64 u65 u66 u67 u68 u69 u70 u71 u72 u73 u74 u75 u76 u77 u78 u79 u80 u81 u82 u83 u84 u85 u86 u87 u88 u89 u90 u91 u92 u93 u94 u95 u96 u97 u98 u99 u100 u101 u102 u103 u104 u105 u106 u107 u108 u109 u110 u111 u112 u113 u114 u115 u116 u117 u118 u119 u120 u121 u122 u123 u124 u125 u126 u127 u128 u129 u130 u131 u132 u133 u134 u135 u136 u137 u138 u139 u140 u141 u142 u143 u144 u145 u146 u147 u148 u149 u150 u151 u152 u153 : Value} {W : World} {c d0 k0 z : Nat} {l : List UInt8} {d : ByteArray} {x e y f p k : Int}  (hk1 : BS W c l) (hk2 : BS W d0 l) (hz : l.length = z) (hQ : ∀ (v101 v102 v103 v104 v105 v106 v107 v108 v109 v110 v111 v112 v113 v114 v115 v116 v117 v118 v119 v120 v121 v122 v123 v124 v125 v126 v127 v128 v129 v130 v131 v132 v133 v134 v135 v136 v137 v138 v139 v140 v141 v142 v143 v144 v145 v146 v147 v148 v149 v150 v151 v152 v153 : Value) (W' : World), Gr W.heap.size W W' → Q .normal ⟨#[u0, u1, u2, u3, u4, u5, .bool true, .bool true, .int .i64 x, .int .i64 e, .int .i64 x, .int .i64 e, .slice (some ⟨c, 0, none⟩) z z, .int .i64 e, .slice (some ⟨d0, 0, none⟩) z k0, .int .i64 e, .int .i64 y, .int .i64 f, .int .i64 y, .int .i64 f, .string d, .int .i64 e, .string d, .int .i64 e, .int .i64 p, .int .i64 k, .int .i64 p, .int .i64 k, u28, u29, u30, u31, u32, u33, u34, u35, u36, u37, u38, u39, u40, u41, u42, u43, u44, u45, u46, u47, u48, u49, u50, u51, u52, u53, u54, u55, u56, u57, u58, u59, u60, u61, u62, u63, u64, u65, u66, u67, u68, u69, u70, u71, u72, u73, u74, u75, u76, u77, u78, u79, u80, u81, u82, u83, u84, u85, u86, u87, u88, u89, u90, u91, u92, u93, u94, u95, u96, u97, u98, u99, u100, v101, v102, v103, v104, v105, v106, v107, v108, v109, v110, v111, v112, v113, v114, v115, v116, v117, v118, v119, v120, v121, v122, v123, v124, v125, v126, v127, v128, v129, v130, v131, v132, v133, v134, v135, v136, v137, v138, v139, v140, v141, v142, v143, v144, v145, v146, v147, v148, v149, v150, v151, v152, v153], []⟩ W') : Code.wp Tryd.prog forms_r12_code Q ⟨#[u0, u1, u2, u3, u4, u5, u6, .bool true, .int .i64 x, .int .i64 e, .int .i64 x, .int .i64 e, .slice (some ⟨c, 0, none⟩) z z, .int .i64 e, .slice (some ⟨d0, 0, none⟩) z k0, .int .i64 e, .int .i64 y, .int .i64 f, .int .i64 y, .int .i64 f, .string d, .int .i64 e, .string d, .int .i64 e, .int .i64 p, .int .i64 k, .int .i64 p, .int .i64 k, u28, u29, u30, u31, u32, u33, u34, u35, u36, u37, u38, u39, u40, u41, u42, u43, u44, u45, u46, u47, u48, u49, u50, u51, u52, u53, u54, u55, u56, u57, u58, u59, u60, u61, u62, u63, u64, u65, u66, u67, u68, u69, u70, u71, u72, u73, u74, u75, u76, u77, u78, u79, u80, u81, u82, u83, u84, u85, u86, u87, u88, u89, u90, u91, u92, u93, u94, u95, u96, u97, u98, u99, u100, u101, u102, u103, u104, u105, u106, u107, u108, u109, u110, u111, u112, u113, u114, u115, u116, u117, u118, u119, u120, u121, u122, u123, u124, u125, u126, u127, u128, u129, u130, u131, u132, u133, u134, u135, u136, u137, u138, u139, u140, u141, u142, u143, u144, u145, u146, u147, u148, u149, u150, u151, u152, u153], []⟩ W := by
  have k1 : (convert 39 9 (.slice (some ⟨c, 0, none⟩) z z)).run Tryd.prog W = .ok (.string ⟨l.toArray⟩) W := by
    have h := run_convert_bytes_back (P := Tryd.prog) W 39 9 5 ⟨c, 0, none⟩ z l Tryd.underlying39 Tryd.underlying5 Tryd.underlying9 (fun j hj => by rw [show (⟨c, 0, none⟩ : Addr).add j = ⟨c, j, none⟩ by unfold Addr.add; split <;> simp_all]; exact hk1 j hj)
    rw [hz] at h
    exact h
  have k2 : (convert 39 9 (.slice (some ⟨d0, 0, none⟩) z k0)).run Tryd.prog W = .ok (.string ⟨l.toArray⟩) W := by
    have h := run_convert_bytes_back (P := Tryd.prog) W 39 9 5 ⟨d0, 0, none⟩ k0 l Tryd.underlying39 Tryd.underlying5 Tryd.underlying9 (fun j hj => by rw [show (⟨d0, 0, none⟩ : Addr).add j = ⟨d0, j, none⟩ by unfold Addr.add; split <;> simp_all]; exact hk2 j hj)
    rw [hz] at h
    exact h
  conv => arg 2; whnf
  go_wp2_with fail
  all_goals
    first | exact (by repeat (first | (with_reducible exact Gr.refl _) | with_reducible refine Gr.alloc ?_ _ | with_reducible refine Gr.more ?_ _ _ | with_reducible refine Gr.setCell ?_ (by dsimp only; omega) _ | with_reducible refine Gr.drew ?_)) | exact hQ _ _ _ _ _ _ _ _ _ _ _ _ _ _ _ _ _ _ _ _ _ _ _ _ _ _ _ _ _ _ _ _ _ _ _ _ _ _ _ _ _ _ _ _ _ _ _ _ _ _ _ _ _ _ (by repeat (first | (with_reducible exact Gr.refl _) | with_reducible refine Gr.alloc ?_ _ | with_reducible refine Gr.more ?_ _ _ | with_reducible refine Gr.setCell ?_ (by dsimp only; omega) _ | with_reducible refine Gr.drew ?_)) 

/-- Region 12 of law.BitsForms. -/
noncomputable def forms_r12n_code : Code := ((Tryd.f4.body).bind (Code.findR 12)).getD .skip
set_option maxRecDepth 100000 in
set_option maxHeartbeats 16000000 in
theorem forms_r12n {Q : Exit → Act → World → Prop} {u0 u1 u2 u3 u4 u5 u6 u28 u29 u30 u31 u32 u33 u34 u35 u36 u37 u38 u39 u40 u41 u42 u43 u44 u45 u46 u47 u48 u49 u50 u51 u52 u53 u54 u55 u56 u57 u58 u59 u60 u61 u62 u63 u64 u65 u66 u67 u68 u69 u70 u71 u72 u73 u74 u75 u76 u77 u78 u79 u80 u81 u82 u83 u84 u85 u86 u87 u88 u89 u90 u91 u92 u93 u94 u95 u96 u97 u98 u99 u100 u101 u102 u103 u104 u105 u106 u107 u108 u109 u110 u111 u112 u113 u114 u115 u116 u117 u118 u119 u120 u121 u122 u123 u124 u125 u126 u127 u128 u129 u130 u131 u132 u133 u134 u135 u136 u137 u138 u139 u140 u141 u142 u143 u144 u145 u146 u147 u148 u149 u150 u151 u152 u153 : Value} {W : World} {d : ByteArray} {x e y f p k : Int}   (hQ : ∀ (v101 v102 v103 v104 v105 v106 v107 v108 v109 v110 v111 v112 v113 v114 v115 v116 v117 v118 v119 v120 v121 v122 v123 v124 v125 v126 v127 v128 v129 v130 v131 v132 v133 v134 v135 v136 v137 v138 v139 v140 v141 v142 v143 v144 v145 v146 v147 v148 v149 v150 v151 v152 v153 : Value) (W' : World), Gr W.heap.size W W' → Q .normal ⟨#[u0, u1, u2, u3, u4, u5, .bool true, .bool true, .int .i64 x, .int .i64 e, .int .i64 x, .int .i64 e, .slice none 0 0, .int .i64 e, .slice none 0 0, .int .i64 e, .int .i64 y, .int .i64 f, .int .i64 y, .int .i64 f, .string d, .int .i64 e, .string d, .int .i64 e, .int .i64 p, .int .i64 k, .int .i64 p, .int .i64 k, u28, u29, u30, u31, u32, u33, u34, u35, u36, u37, u38, u39, u40, u41, u42, u43, u44, u45, u46, u47, u48, u49, u50, u51, u52, u53, u54, u55, u56, u57, u58, u59, u60, u61, u62, u63, u64, u65, u66, u67, u68, u69, u70, u71, u72, u73, u74, u75, u76, u77, u78, u79, u80, u81, u82, u83, u84, u85, u86, u87, u88, u89, u90, u91, u92, u93, u94, u95, u96, u97, u98, u99, u100, v101, v102, v103, v104, v105, v106, v107, v108, v109, v110, v111, v112, v113, v114, v115, v116, v117, v118, v119, v120, v121, v122, v123, v124, v125, v126, v127, v128, v129, v130, v131, v132, v133, v134, v135, v136, v137, v138, v139, v140, v141, v142, v143, v144, v145, v146, v147, v148, v149, v150, v151, v152, v153], []⟩ W') : Code.wp Tryd.prog forms_r12n_code Q ⟨#[u0, u1, u2, u3, u4, u5, u6, .bool true, .int .i64 x, .int .i64 e, .int .i64 x, .int .i64 e, .slice none 0 0, .int .i64 e, .slice none 0 0, .int .i64 e, .int .i64 y, .int .i64 f, .int .i64 y, .int .i64 f, .string d, .int .i64 e, .string d, .int .i64 e, .int .i64 p, .int .i64 k, .int .i64 p, .int .i64 k, u28, u29, u30, u31, u32, u33, u34, u35, u36, u37, u38, u39, u40, u41, u42, u43, u44, u45, u46, u47, u48, u49, u50, u51, u52, u53, u54, u55, u56, u57, u58, u59, u60, u61, u62, u63, u64, u65, u66, u67, u68, u69, u70, u71, u72, u73, u74, u75, u76, u77, u78, u79, u80, u81, u82, u83, u84, u85, u86, u87, u88, u89, u90, u91, u92, u93, u94, u95, u96, u97, u98, u99, u100, u101, u102, u103, u104, u105, u106, u107, u108, u109, u110, u111, u112, u113, u114, u115, u116, u117, u118, u119, u120, u121, u122, u123, u124, u125, u126, u127, u128, u129, u130, u131, u132, u133, u134, u135, u136, u137, u138, u139, u140, u141, u142, u143, u144, u145, u146, u147, u148, u149, u150, u151, u152, u153], []⟩ W := by
  have kn := conv_nil
  conv => arg 2; whnf
  go_wp2_with fail
  all_goals
    first | exact (by repeat (first | (with_reducible exact Gr.refl _) | with_reducible refine Gr.alloc ?_ _ | with_reducible refine Gr.more ?_ _ _ | with_reducible refine Gr.setCell ?_ (by dsimp only; omega) _ | with_reducible refine Gr.drew ?_)) | exact hQ _ _ _ _ _ _ _ _ _ _ _ _ _ _ _ _ _ _ _ _ _ _ _ _ _ _ _ _ _ _ _ _ _ _ _ _ _ _ _ _ _ _ _ _ _ _ _ _ _ _ _ _ _ _ (by repeat (first | (with_reducible exact Gr.refl _) | with_reducible refine Gr.alloc ?_ _ | with_reducible refine Gr.more ?_ _ _ | with_reducible refine Gr.setCell ?_ (by dsimp only; omega) _ | with_reducible refine Gr.drew ?_)) 

/-- What the law holds all along. -/
structure KF (w W : World) (s : Int) (g : Bool) (i j : Int) : Prop where
  a : BoxT W w.heap.size s g
  l : Box2 W (w.heap.size + 1) i j
  E : EV W
  hB : Below w.heap.size w W
  hz : w.heap.size + 2 ≤ W.heap.size
theorem KF.up {w W W' : World} (gr : Gr W.heap.size W W') {s : Int} {g : Bool} {i j : Int} (h : KF w W s g i j) : KF w W' s g i j := by
  have hz := h.hz
  exact ⟨h.a.up gr, h.l.up gr, EV.up gr h.E, h.hB.trans (gr.below.mono (by omega)), Nat.le_trans hz gr.size⟩

set_option maxRecDepth 100000 in
set_option maxHeartbeats 16000000 in
theorem forms_good (s : Int) (g : Bool) (i j : Int) (t : ByteArray) (x : Int) (H2 : RetM 25 #[tyV s g, .int .i64 i, .int .i64 j] x 0) (H3 : RetM 26 #[tyV s g, .int .i64 i, .int .i64 j] x 0) (z : Nat) (l : List UInt8) (hz : l.length = z) (H4 : RetBy s g i z l) (H5 : RetRy s g i z l) (y f : Int) (H6 : RetFF 29 s g t.size t.data.toList y f) (H7 : RetFF 30 s g t.size t.data.toList y f) (d : ByteArray) (H8 : RetS 31 #[tyV s g, .int .i64 i] d 0) (H9 : RetS 32 #[tyV s g, .int .i64 i] d 0) (p k : Int) (H10 : RetP 33 #[tyV s g, .string t] p k) (H11 : RetM 34 #[tyV s g, .string t] p k) (w : World) (hp : PI w) (hE : EV w) : Calls Tryd.prog 4 #[tyV s g, .agg #[.int .i64 i, .int .i64 j], .string t] w fun e w' => e = .returned (.bool true) ∧ Below w.heap.size w w' := by
  obtain ⟨p0, p1, hsz⟩ := hp
  obtain ⟨⟨es, e0, hes⟩, ⟨er, e1, her⟩, hsE⟩ := hE
  have Hes := Lib.hid hes
  have Her := Lib.hid her
  clear hes her
  go_enter Tryd.func4, Tryd.ntmps4
  go_upto_region 1 with fail
  go_cut [7] (fun s7 wx => s7 = .bool true ∧ KF w wx s g i j)
  case first =>
    go_wp2_with (go_at_call 12; (refine (sane_any _ ?hpp ?hqq).mono ?_); (try case hpp => exact ⟨by go_simp, by go_simp, by go_simp <;> omega⟩); (try case hqq => exact ⟨⟨es, by go_simp, Hes.out⟩, ⟨er, by go_simp, Her.out⟩, by go_simp <;> omega⟩); rintro e w1 ⟨rfl, hb⟩; obtain ⟨os, n, rfl⟩ := Below.moreE hb; clear hb)
    go_meet
    exact ⟨rfl, ⟨by go_simp, by go_simp⟩, ⟨by go_simp, by go_simp⟩, ⟨⟨es, by go_simp, Hes.out⟩, ⟨er, by go_simp, Her.out⟩, by (first | omega | (simp; done) | (simp; omega))⟩, (Gr.below (by repeat (first | (with_reducible exact Gr.refl _) | (with_reducible exact Gr.refl _) | with_reducible refine Gr.alloc ?_ _ | with_reducible refine Gr.more ?_ _ _ | with_reducible refine Gr.setCell ?_ (by dsimp only; omega) _ | with_reducible refine Gr.drew ?_))), by (first | omega | (simp; done) | (simp; omega))⟩
  case rest =>
  clear hsz p0 p1 e0 e1 Hes Her
  obtain ⟨rfl, hK⟩ := hcut
  go_upto_region 2 with fail
  refine forms_r2 hK.a hK.l H2 ?_
  intro _ _ _ _ _ _ _ _ _ W2 g2
  replace hK := KF.up g2 hK
  go_upto_region 3 with fail
  refine forms_r3 hK.a hK.l H3 ?_
  intro _ _ _ _ _ _ _ _ _ W3 g3
  replace hK := KF.up g3 hK
  go_upto_region 4 with fail
  refine forms_r4 hK.a hK.l H4 ?_
  intro _ _ _ _ _ _ _ b12 W4 g4 hs12
  replace hK := KF.up g4 hK
  go_upto_region 5 with fail
  refine forms_r5 hK.a hK.l H5 ?_
  intro _ _ _ _ _ _ _ b14 c14 W5 g5 hs14
  replace hK := KF.up g5 hK
  replace hs12 := BS.up g5 hs12
  go_upto_region 6 with fail
  refine forms_r6 hK.a H6 ?_
  intro _ _ _ _ _ _ _ W6 g6
  replace hK := KF.up g6 hK
  replace hs12 := BS.up g6 hs12
  replace hs14 := BS.up g6 hs14
  go_upto_region 7 with fail
  refine forms_r7 hK.a H7 ?_
  intro _ _ _ _ _ _ _ W7 g7
  replace hK := KF.up g7 hK
  replace hs12 := BS.up g7 hs12
  replace hs14 := BS.up g7 hs14
  go_upto_region 8 with fail
  refine forms_r8 hK.a hK.l H8 ?_
  intro _ _ _ _ _ _ _ W8 g8
  replace hK := KF.up g8 hK
  replace hs12 := BS.up g8 hs12
  replace hs14 := BS.up g8 hs14
  go_upto_region 9 with fail
  refine forms_r9 hK.a hK.l H9 ?_
  intro _ _ _ _ _ _ _ W9 g9
  replace hK := KF.up g9 hK
  replace hs12 := BS.up g9 hs12
  replace hs14 := BS.up g9 hs14
  go_upto_region 10 with fail
  refine forms_r10 hK.E hK.a H10 ?_
  intro _ _ _ _ _ _ W10 g10
  replace hK := KF.up g10 hK
  replace hs12 := BS.up g10 hs12
  replace hs14 := BS.up g10 hs14
  go_upto_region 11 with fail
  refine forms_r11 hK.a H11 ?_
  intro _ _ _ _ _ _ W11 g11
  replace hK := KF.up g11 hK
  replace hs12 := BS.up g11 hs12
  replace hs14 := BS.up g11 hs14
  go_upto_region 12 with fail
  refine forms_r12 hs12 hs14 hz ?_
  intro _ _ _ _ _ _ _ _ _ _ _ _ _ _ _ _ _ _ _ _ _ _ _ _ _ _ _ _ _ _ _ _ _ _ _ _ _ _ _ _ _ _ _ _ _ _ _ _ _ _ _ _ _ W12 g12
  replace hK := KF.up g12 hK
  go_wp2_with fail
  refine bodyPost_ret (v := .bool true) (by simp [results, Tryd.results4, go_sem]) rfl ⟨rfl, hK.hB⟩

set_option maxRecDepth 100000 in
set_option maxHeartbeats 16000000 in
theorem forms_bad (s : Int) (g : Bool) (i j : Int) (t : ByteArray) (x : Int) (H2 : RetM 25 #[tyV s g, .int .i64 i, .int .i64 j] x 10) (H3 : RetM 26 #[tyV s g, .int .i64 i, .int .i64 j] x 10) (H4 : RetNo 27 s g i) (H5 : RetNo 28 s g i) (y f : Int) (H6 : RetFF 29 s g t.size t.data.toList y f) (H7 : RetFF 30 s g t.size t.data.toList y f) (d : ByteArray) (H8 : RetS 31 #[tyV s g, .int .i64 i] d 10) (H9 : RetS 32 #[tyV s g, .int .i64 i] d 10) (p k : Int) (H10 : RetP 33 #[tyV s g, .string t] p k) (H11 : RetM 34 #[tyV s g, .string t] p k) (w : World) (hp : PI w) (hE : EV w) : Calls Tryd.prog 4 #[tyV s g, .agg #[.int .i64 i, .int .i64 j], .string t] w fun e w' => e = .returned (.bool true) ∧ Below w.heap.size w w' := by
  obtain ⟨p0, p1, hsz⟩ := hp
  obtain ⟨⟨es, e0, hes⟩, ⟨er, e1, her⟩, hsE⟩ := hE
  have Hes := Lib.hid hes
  have Her := Lib.hid her
  clear hes her
  go_enter Tryd.func4, Tryd.ntmps4
  go_upto_region 1 with fail
  go_cut [7] (fun s7 wx => s7 = .bool true ∧ KF w wx s g i j)
  case first =>
    go_wp2_with (go_at_call 12; (refine (sane_any _ ?hpp ?hqq).mono ?_); (try case hpp => exact ⟨by go_simp, by go_simp, by go_simp <;> omega⟩); (try case hqq => exact ⟨⟨es, by go_simp, Hes.out⟩, ⟨er, by go_simp, Her.out⟩, by go_simp <;> omega⟩); rintro e w1 ⟨rfl, hb⟩; obtain ⟨os, n, rfl⟩ := Below.moreE hb; clear hb)
    go_meet
    exact ⟨rfl, ⟨by go_simp, by go_simp⟩, ⟨by go_simp, by go_simp⟩, ⟨⟨es, by go_simp, Hes.out⟩, ⟨er, by go_simp, Her.out⟩, by (first | omega | (simp; done) | (simp; omega))⟩, (Gr.below (by repeat (first | (with_reducible exact Gr.refl _) | (with_reducible exact Gr.refl _) | with_reducible refine Gr.alloc ?_ _ | with_reducible refine Gr.more ?_ _ _ | with_reducible refine Gr.setCell ?_ (by dsimp only; omega) _ | with_reducible refine Gr.drew ?_))), by (first | omega | (simp; done) | (simp; omega))⟩
  case rest =>
  clear hsz p0 p1 e0 e1 Hes Her
  obtain ⟨rfl, hK⟩ := hcut
  go_upto_region 2 with fail
  refine forms_r2 hK.a hK.l H2 ?_
  intro _ _ _ _ _ _ _ _ _ W2 g2
  replace hK := KF.up g2 hK
  go_upto_region 3 with fail
  refine forms_r3 hK.a hK.l H3 ?_
  intro _ _ _ _ _ _ _ _ _ W3 g3
  replace hK := KF.up g3 hK
  go_upto_region 4 with fail
  refine forms_r4n hK.a hK.l H4 ?_
  intro _ _ _ _ _ _ _ W4 g4
  replace hK := KF.up g4 hK
  go_upto_region 5 with fail
  refine forms_r5n hK.a hK.l H5 ?_
  intro _ _ _ _ _ _ _ W5 g5
  replace hK := KF.up g5 hK
  go_upto_region 6 with fail
  refine forms_r6 hK.a H6 ?_
  intro _ _ _ _ _ _ _ W6 g6
  replace hK := KF.up g6 hK
  go_upto_region 7 with fail
  refine forms_r7 hK.a H7 ?_
  intro _ _ _ _ _ _ _ W7 g7
  replace hK := KF.up g7 hK
  go_upto_region 8 with fail
  refine forms_r8 hK.a hK.l H8 ?_
  intro _ _ _ _ _ _ _ W8 g8
  replace hK := KF.up g8 hK
  go_upto_region 9 with fail
  refine forms_r9 hK.a hK.l H9 ?_
  intro _ _ _ _ _ _ _ W9 g9
  replace hK := KF.up g9 hK
  go_upto_region 10 with fail
  refine forms_r10 hK.E hK.a H10 ?_
  intro _ _ _ _ _ _ W10 g10
  replace hK := KF.up g10 hK
  go_upto_region 11 with fail
  refine forms_r11 hK.a H11 ?_
  intro _ _ _ _ _ _ W11 g11
  replace hK := KF.up g11 hK
  go_upto_region 12 with fail
  refine forms_r12n ?_
  intro _ _ _ _ _ _ _ _ _ _ _ _ _ _ _ _ _ _ _ _ _ _ _ _ _ _ _ _ _ _ _ _ _ _ _ _ _ _ _ _ _ _ _ _ _ _ _ _ _ _ _ _ _ W12 g12
  replace hK := KF.up g12 hK
  go_wp2_with fail
  refine bodyPost_ret (v := .bool true) (by simp [results, Tryd.results4, go_sem]) rfl ⟨rfl, hK.hB⟩

end Go.Proofs.YtbdkacfddbiclaaDoor

namespace Go.Proofs.YtbdkacfddbiclaaDoor
open Go.RowKit

theorem bbytes_bad {s : Int} (v : validB s = false) (g : Bool) (x : Int) : RetNo 27 s g x := fun w => by
  have hv := valid_any s g
  rw [v] at hv
  go_enter Tryd.func27, Tryd.ntmps27
  go_wp2_with (go_at_call 40; (refine (hv _).mono ?_); rintro e w1 ⟨rfl, hb⟩; obtain ⟨os, n, rfl⟩ := Below.moreE hb; clear hb)
  refine bodyPost_ret (v := .tuple #[.slice none 0 0, .int .i64 10]) (by simp [results, Tryd.results27, go_sem]) rfl ⟨rfl, (Gr.below (by repeat (first | (with_reducible exact Gr.refl _) | with_reducible refine Gr.alloc ?_ _ | with_reducible refine Gr.more ?_ _ _ | with_reducible refine Gr.setCell ?_ (by dsimp only; omega) _ | with_reducible refine Gr.drew ?_)))⟩
theorem rbytes_bad {s : Int} (v : validB s = false) (g : Bool) (x : Int) : RetNo 28 s g x := fun w => by
  have HK := rcheck_bad v g
  go_enter Tryd.func28, Tryd.ntmps28
  go_wp2_with (go_at_call 24; (refine (HK _).mono ?_); rintro e w1 ⟨rfl, hb⟩; obtain ⟨os, n, rfl⟩ := Below.moreE hb; clear hb)
  refine bodyPost_ret (v := .tuple #[.slice none 0 0, .int .i64 10]) (by simp [results, Tryd.results28, go_sem]) rfl ⟨rfl, (Gr.below (by repeat (first | (with_reducible exact Gr.refl _) | with_reducible refine Gr.alloc ?_ _ | with_reducible refine Gr.more ?_ _ _ | with_reducible refine Gr.setCell ?_ (by dsimp only; omega) _ | with_reducible refine Gr.drew ?_)))⟩
theorem bfrom_bad {s : Int} (v : validB s = false) (g : Bool) (n : Nat) (p : Option Addr) (cap : Nat) (w : World) : Calls Tryd.prog 29 #[tyV s g, .slice p n cap] w fun e w' => e = .returned (.tuple #[.int .i64 0, .int .i64 10]) ∧ Below w.heap.size w w' := by
  have hv := valid_any s g
  rw [v] at hv
  go_enter Tryd.func29, Tryd.ntmps29
  go_wp2_with (go_at_call 40; (refine (hv _).mono ?_); rintro e w1 ⟨rfl, hb⟩; obtain ⟨os, n, rfl⟩ := Below.moreE hb; clear hb)
  refine bodyPost_ret (v := .tuple #[.int .i64 0, .int .i64 10]) (by simp [results, Tryd.results29, go_sem]) rfl ⟨rfl, (Gr.below (by repeat (first | (with_reducible exact Gr.refl _) | with_reducible refine Gr.alloc ?_ _ | with_reducible refine Gr.more ?_ _ _ | with_reducible refine Gr.setCell ?_ (by dsimp only; omega) _ | with_reducible refine Gr.drew ?_)))⟩
theorem rtext_bad {s : Int} (v : validB s = false) (g : Bool) (x : Int) : RetS 32 #[tyV s g, .int .i64 x] ⟨#[]⟩ 10 := fun w => by
  have HK := rcheck_bad v g
  go_enter Tryd.func32, Tryd.ntmps32
  go_wp2_with (go_at_call 24; (refine (HK _).mono ?_); rintro e w1 ⟨rfl, hb⟩; obtain ⟨os, n, rfl⟩ := Below.moreE hb; clear hb)
  refine bodyPost_ret (v := .tuple #[.string ⟨#[]⟩, .int .i64 10]) (by simp [results, Tryd.results32, go_sem]) rfl ⟨rfl, (Gr.below (by repeat (first | (with_reducible exact Gr.refl _) | with_reducible refine Gr.alloc ?_ _ | with_reducible refine Gr.more ?_ _ _ | with_reducible refine Gr.setCell ?_ (by dsimp only; omega) _ | with_reducible refine Gr.drew ?_)))⟩
theorem btext_bad {s : Int} (v : validB s = false) (g : Bool) (x : Int) : RetS 31 #[tyV s g, .int .i64 x] ⟨#[]⟩ 10 := fun w => by
  have h := btext_any s g x w
  rw [show eT s = 10 by simp [eT, v], if_neg (by rw [v]; simp)] at h
  exact h
theorem bcompare_ok {s : Int} (v : validB s = true) (g : Bool) (a b : Int) : RetM 25 #[tyV s g, .int .i64 a, .int .i64 b] (ordI g (wrapI s g a) (wrapI s g b)) 0 := fun w => by
  have h := bcompare_any s g a b w
  rw [show eT s = 0 by simp [eT, v], v, sel_t] at h
  exact h
theorem bcompare_bad {s : Int} (v : validB s = false) (g : Bool) (a b : Int) : RetM 25 #[tyV s g, .int .i64 a, .int .i64 b] 0 10 := fun w => by
  have h := bcompare_any s g a b w
  rw [show eT s = 10 by simp [eT, v], v, sel_f] at h
  exact h

theorem law_forms (s : Int) (g : Bool) (i j : Int) (hi : I64 i) (hj : I64 j) (t : ByteArray) (ht : t.size ≤ 140737488351232) (w : World) (hp : PI w) (hE : EV w) :
    Calls Tryd.prog 4 #[tyV s g, .agg #[.int .i64 i, .int .i64 j], .string t] w fun e w' => e = .returned (.bool true) ∧ Below w.heap.size w w' := by
  have hlen : t.data.toList.length = t.size := Array.length_toList
  cases v : validB s
  · have HP : RetP 33 #[tyV s g, .string t] 0 10 := fun w hE => by
      have h := bparse_any s g t w ht hE
      rw [v] at h
      exact h
    exact forms_bad s g i j t _ (bcompare_bad v g i j) (rcompare_bad v g i j) (bbytes_bad v g i) (rbytes_bad v g i) 0 10 (fun w b cap _ => bfrom_bad v g t.size _ cap w) (fun w b cap _ => rfrom_bad v g t.size _ cap w) _ (btext_bad v g i) (rtext_bad v g i) _ _ HP (rparse_bad v g t) w hp hE
  · have HP : RetP 33 #[tyV s g, .string t] (sel (parOK s g t.data.toList) (parN t.data.toList) 0) (sel (parOK s g t.data.toList) 0 13) := fun w hE => by
      have h := bparse_any s g t w ht hE
      rw [v] at h
      exact h
    have hF : ∃ y f : Int, RetFF 29 s g t.size t.data.toList y f ∧ RetFF 30 s g t.size t.data.toList y f := by
      by_cases hl : (t.size : Int) = s
      · refine ⟨fbV s g t.data.toList, 0, fun w b cap hb => ?_, fun w b cap hb => ?_⟩
        · have h := from_loop v g t.data.toList (by rw [hlen]; exact hl) b cap w hb
          rw [hlen] at h
          exact h
        · have h := rfrom_loop v g t.data.toList (by rw [hlen]; exact hl) b cap w hb
          rw [hlen] at h
          exact h
      · exact ⟨0, 1, fun w b cap _ => from_short v g t.size hl _ cap w, fun w b cap _ => rfrom_short v g t.size hl _ cap w⟩
    obtain ⟨y, f, H6, H7⟩ := hF
    exact forms_good s g i j t _ (bcompare_ok v g i j) (rcompare_ok v g hi hj) s.toNat (btL i s.toNat) (btL_length i s.toNat) (fun w => bytes_ok v g i w) (fun w => rbytes_ok v g i hi w) y f H6 H7 _ (ltext_ok v i) (rtext_ok v g i hi) _ _ HP (rparse_ok v g t) w hp hE
end Go.Proofs.YtbdkacfddbiclaaDoor

