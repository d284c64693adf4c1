/-
  Contracts of layer 1: Bytes, FromBytes.
-/
import Derived.Test.YtbdkacfddbiclaaDoorBk2
import Derived.Test.YtbdkacfddbiclaaDoorReg
import Derived.Lib.ConvBytes
namespace Go.Proofs.YtbdkacfddbiclaaDoor
open Go.RowKit

/-- The bytes of a block. -/
def BS (W : World) (b : Nat) (l : List UInt8) : Prop := ∀ (j : Nat) (h : j < l.length), W.cell? ⟨b, j, none⟩ = some (.int .u8 (l[j].toNat : Int))
theorem BS.up {W W' : World} (gr : Gr W.heap.size W W') {b : Nat} {l : List UInt8} (h : BS W b l) : BS W' b l := fun j hj => grC gr (h j hj)

set_option maxHeartbeats 2000000 in
theorem from_loop {s : Int} (v : validB s = true) (g : Bool) (l : List UInt8) (hl : (l.length : Int) = s) (b cap : Nat) (w : World) (hb : BS w b l) : Calls Tryd.prog 29 #[tyV s g, .slice (some ⟨b, 0, none⟩) l.length cap] w fun e w' => e = .returned (.tuple #[.int .i64 (fbV s g l), .int .i64 0]) ∧ Below w.heap.size w w' := by
  have h8 : l.length ≤ 8 := by rcases (valid_iff s).1 v with rfl | rfl | rfl | rfl <;> omega
  have hv0 := valid_any s g
  rw [v] at hv0
  have hb2 : BS (w.alloc (.cells #[.int .i64 s, .bool g] 23)) b l := BS.up ((Gr.refl w).alloc _) hb
  go_enter Tryd.func29, Tryd.ntmps29
  go_upto_region 3 with (go_at_call 40; (refine (hv0 _).mono ?_); rintro e w1 ⟨rfl, hb⟩; obtain ⟨os, n, rfl⟩ := Below.moreE hb; clear hb)
  go_upto_region 5 with fail
  go_cut [6] (fun s6 wx => s6 = .int .i64 0 ∧ wx.cell? ⟨w.heap.size, 0, none⟩ = some (.int .i64 s) ∧ wx.cell? ⟨w.heap.size, 1, none⟩ = some (.bool g) ∧ w.heap.size < wx.heap.size ∧ Gr w.heap.size w wx)
  case first =>
    go_wp2_with fail
    go_meet
    exact ⟨rfl, by go_simp, by go_simp, by (first | omega | (simp; done) | (simp; omega)), by repeat (first | (with_reducible exact Gr.refl _) | with_reducible refine Gr.alloc ?_ _ | with_reducible refine Gr.more ?_ _ _ | with_reducible refine Gr.setCell ?_ (by dsimp only; omega) _ | with_reducible refine Gr.drew ?_)⟩
  case rest =>
  clear hb2
  obtain ⟨rfl, a1, b1, hz, hG⟩ := hcut
  have hbc := BS.up hG hb
  go_wp2_with fail
  go_loopw [6, 19] (fun a i wr => ∃ K : Nat, K ≤ l.length ∧ a = .int .i64 (wrap64 ((fbN (l.take K) : Nat) : Int)) ∧ i = .int .i64 (K : Int) ∧ BS wr b l ∧ wr.cell? ⟨w.heap.size, 0, none⟩ = some (.int .i64 s) ∧ wr.cell? ⟨w.heap.size, 1, none⟩ = some (.bool g) ∧ Gr w.heap.size w wr) (fun _ i _ => l.length - (intOf i).toNat)
  case atStart => exact ⟨0, by omega, by simp [fbN, wrap64], rfl, hbc, a1, b1, hG⟩
  case round =>
    clear hbc a1 b1 hz hG
    obtain ⟨K, hK, rfl, rfl, hB, a1, b1, hG⟩ := hrel
    by_cases hk : K < l.length
    · have hc := hB K hk
      have hki : (K : Int) < (l.length : Int) := by omega
      have hk0 : (0 : Int) ≤ (K : Int) := by omega
      have hw8 : wrap64 (8 * (K : Int)) = 8 * (K : Int) := by unfold wrap64; omega
      have h80 : (0 : Int) ≤ 8 * (K : Int) := by omega
      have h83 : 8 * (K : Int) ≤ 63 := by omega
      have hw1 : wrap64 ((K : Int) + 1) = (K : Int) + 1 := by unfold wrap64; omega
      have hN := fbN_lt (l.take K)
      rw [List.length_take, Nat.min_eq_left hK] at hN
      have hstep := or_step (fbN (l.take K)) l[K].toNat K hN l[K].toNat_lt (by omega)
      rw [← fbN_take l K hk] at hstep
      have e1 : (8 * (K : Int)).toNat = 8 * K := by omega
      have e2 : wrap64 (l[K].toNat : Int) = (l[K].toNat : Int) := by have := l[K].toNat_lt; unfold wrap64; omega
      go_wp2_with fail
      go_roundw
      case rel => exact ⟨K + 1, hk, by rw [← hstep, e1], by simp, hB, a1, b1, hG⟩
      case measure => simp [intOf]; omega
    · obtain rfl : K = l.length := by omega
      have hki : ¬ (l.length : Int) < (l.length : Int) := by omega
      have e : l.take l.length = l := List.take_length
      rw [e]
      go_wp2_with (go_at_call 48; (refine (wrap_any _ _ _ _).mono ?_); rintro e w1 ⟨rfl, hb⟩; obtain ⟨os, n, rfl⟩ := Below.moreE hb; clear hb)
      refine bodyPost_ret (v := .tuple #[.int .i64 (fbV s g l), .int .i64 0]) (by simp [results, Tryd.results29, go_sem, fbV]) rfl ⟨rfl, (hG.more _ _).below⟩
theorem from_short {s : Int} (v : validB s = true) (g : Bool) (n : Nat) (hl : ¬ (n : Int) = s) (p : Option Addr) (cap : Nat) (w : World) : Calls Tryd.prog 29 #[tyV s g, .slice p n cap] w fun e w' => e = .returned (.tuple #[.int .i64 0, .int .i64 1]) ∧ Below w.heap.size w w' := by
  have hv0 := valid_any s g
  rw [v] at hv0
  have hl' : ((n : Int) != s) = true := bne_iff_ne.2 hl
  go_enter Tryd.func29, Tryd.ntmps29
  go_wp2_with (go_at_call 40; (refine (hv0 _).mono ?_); rintro e w1 ⟨rfl, hb⟩; obtain ⟨os, n, rfl⟩ := Below.moreE hb; clear hb)
  refine bodyPost_ret (v := .tuple #[.int .i64 0, .int .i64 1]) (by simp [results, Tryd.results29, go_sem]) rfl ⟨rfl, (Gr.below (by repeat (first | (with_reducible exact Gr.refl _) | with_reducible refine Gr.alloc ?_ _ | with_reducible refine Gr.more ?_ _ _ | with_reducible refine Gr.setCell ?_ (by dsimp only; omega) _ | with_reducible refine Gr.drew ?_)))⟩

/-- The bytes of a block, the first K of a value's, the others zero. -/
def BZ (W : World) (b : Nat) (v : Int) (n K : Nat) : Prop := ∀ j : Nat, j < n → W.cell? ⟨b, j, none⟩ = some (.int .u8 (if j < K then ((btV v j).toNat : Int) else 0)) ∧ W.frozen? ⟨b, j, none⟩ = false
theorem bz_step {W : World} {b : Nat} {v : Int} {n K : Nat} (h : BZ W b v n K) (hk : K < n) (h7 : K ≤ 7) : BZ (W.setCell ⟨b, K, none⟩ (.int .u8 (IntKind.u8.wrap (v / 2 ^ (8 * (K : Int)).toNat)))) b v n (K + 1) := by
  intro j hj
  obtain ⟨hc, hf⟩ := h j hj
  refine ⟨?_, by rw [World.frozen?_setCell]; exact hf⟩
  by_cases e : j = K
  · subst e
    rw [World.cell?_setCell_same (h := hc), byte_of v j h7, if_pos (by omega)]
  · have hne : (⟨b, K, none⟩ : Addr) ≠ ⟨b, j, none⟩ := by intro h; injection h; omega
    rw [World.cell?_setCell_other (h := hne), hc]
    by_cases h1 : j < K
    · rw [if_pos h1, if_pos (by omega)]
    · rw [if_neg h1, if_neg (by omega)]
theorem bs_of_bz {W : World} {b : Nat} {v : Int} {n : Nat} (h : BZ W b v n n) : BS W b (btL v n) := by
  intro j hj
  have hj' : j < n := by simpa [btL] using hj
  rw [(h j hj').1, if_pos hj', btL_get]
set_option maxRecDepth 100000 in
set_option maxHeartbeats 2000000 in
theorem bytes_1 (g : Bool) (x : Int) (w : World) : Calls Tryd.prog 27 #[tyV 1 g, .int .i64 x] w fun e w' => ∃ b, e = .returned (.tuple #[.slice (some ⟨b, 0, none⟩) 1 1, .int .i64 0]) ∧ w.heap.size ≤ b ∧ BS w' b (btL x 1) ∧ Below w.heap.size w w' := by
  have hv0 := valid_any 1 g
  rw [show validB 1 = true from rfl] at hv0
  have hmk : ∀ w : World, (Instr.makeSlice 39 (.int .i64 1) (.int .i64 1)).run Tryd.prog w = .ok (.slice (some ⟨w.heap.size, 0, none⟩) 1 1) (w.alloc (.cells #[.int .u8 0] 5)) := fun _ => by kernel_rfl
  go_enter Tryd.func27, Tryd.ntmps27
  go_upto_region 3 with (go_at_call 40; (refine (hv0 _).mono ?_); rintro e w1 ⟨rfl, hb⟩; obtain ⟨os, n, rfl⟩ := Below.moreE hb; clear hb)
  go_cut [6] (fun s6 wx => ∃ B : Nat, s6 = .slice (some ⟨B, 0, none⟩) 1 1 ∧ w.heap.size ≤ B ∧ B < wx.heap.size ∧ BZ wx B x 1 0 ∧ Gr w.heap.size w wx)
  case first =>
    go_wp2_with fail
    go_meet
    refine ⟨_, rfl, by (first | omega | (simp; done) | (simp; omega)), by (first | omega | (simp; done) | (simp; omega)), ?_, by repeat (first | (with_reducible exact Gr.refl _) | (with_reducible exact hG) | with_reducible refine Gr.alloc ?_ _ | with_reducible refine Gr.more ?_ _ _ | with_reducible refine Gr.setCell ?_ (by dsimp only; omega) _ | with_reducible refine Gr.drew ?_)⟩
    intro j hj
    have hj' : j = 0 := by omega
    rcases hj' with rfl
    all_goals exact ⟨by go_simp, by go_simp⟩
  case rest =>
  clear hmk
  obtain ⟨B, rfl, lB, uB, hB, hG⟩ := hcut
  go_wp2_with fail
  go_loopw [16] (fun i wr => ∃ K : Nat, K ≤ 1 ∧ i = .int .i64 (K : Int) ∧ BZ wr B x 1 K ∧ Gr w.heap.size w wr) (fun i _ => 1 - (intOf i).toNat)
  case atStart => exact ⟨0, by omega, rfl, hB, hG⟩
  case round =>
    clear hB hG uB
    obtain ⟨K, hK, rfl, hB, hG⟩ := hrel
    by_cases hk : K < 1
    · obtain ⟨hc, hf⟩ := hB K hk
      have hki : (K : Int) < 1 := by omega
      have hk0 : (0 : Int) ≤ (K : Int) := by omega
      have hw8 : wrap64 (8 * (K : Int)) = 8 * (K : Int) := by unfold wrap64; omega
      have h80 : (0 : Int) ≤ 8 * (K : Int) := by omega
      have h83 : 8 * (K : Int) ≤ 63 := by omega
      have hw1 : wrap64 ((K : Int) + 1) = (K : Int) + 1 := by unfold wrap64; omega
      have hst := bz_step hB hk (by omega)
      go_wp2_with fail
      go_roundw
      case rel => exact ⟨K + 1, hk, by first | rfl | simp | simp [hw1], by first | exact hst | simpa using hst, by repeat (first | (with_reducible exact Gr.refl _) | (with_reducible exact hG) | with_reducible refine Gr.alloc ?_ _ | with_reducible refine Gr.more ?_ _ _ | with_reducible refine Gr.setCell ?_ (by dsimp only; omega) _ | with_reducible refine Gr.drew ?_)⟩
      case measure => simp [intOf]; omega
    · obtain rfl : K = 1 := by omega
      have hki : ¬ ((1 : Nat) : Int) < 1 := by omega
      go_wp2_with fail
      refine bodyPost_ret (v := .tuple #[.slice (some ⟨B, 0, none⟩) 1 1, .int .i64 0]) (by simp [results, Tryd.results27, go_sem]) rfl ⟨B, rfl, lB, bs_of_bz hB, hG.below⟩
set_option maxRecDepth 100000 in
set_option maxHeartbeats 2000000 in
theorem bytes_2 (g : Bool) (x : Int) (w : World) : Calls Tryd.prog 27 #[tyV 2 g, .int .i64 x] w fun e w' => ∃ b, e = .returned (.tuple #[.slice (some ⟨b, 0, none⟩) 2 2, .int .i64 0]) ∧ w.heap.size ≤ b ∧ BS w' b (btL x 2) ∧ Below w.heap.size w w' := by
  have hv0 := valid_any 2 g
  rw [show validB 2 = true from rfl] at hv0
  have hmk : ∀ w : World, (Instr.makeSlice 39 (.int .i64 2) (.int .i64 2)).run Tryd.prog w = .ok (.slice (some ⟨w.heap.size, 0, none⟩) 2 2) (w.alloc (.cells #[.int .u8 0, .int .u8 0] 5)) := fun _ => by kernel_rfl
  go_enter Tryd.func27, Tryd.ntmps27
  go_upto_region 3 with (go_at_call 40; (refine (hv0 _).mono ?_); rintro e w1 ⟨rfl, hb⟩; obtain ⟨os, n, rfl⟩ := Below.moreE hb; clear hb)
  go_cut [6] (fun s6 wx => ∃ B : Nat, s6 = .slice (some ⟨B, 0, none⟩) 2 2 ∧ w.heap.size ≤ B ∧ B < wx.heap.size ∧ BZ wx B x 2 0 ∧ Gr w.heap.size w wx)
  case first =>
    go_wp2_with fail
    go_meet
    refine ⟨_, rfl, by (first | omega | (simp; done) | (simp; omega)), by (first | omega | (simp; done) | (simp; omega)), ?_, by repeat (first | (with_reducible exact Gr.refl _) | (with_reducible exact hG) | with_reducible refine Gr.alloc ?_ _ | with_reducible refine Gr.more ?_ _ _ | with_reducible refine Gr.setCell ?_ (by dsimp only; omega) _ | with_reducible refine Gr.drew ?_)⟩
    intro j hj
    have hj' : j = 0 ∨ j = 1 := by omega
    rcases hj' with rfl | rfl
    all_goals exact ⟨by go_simp, by go_simp⟩
  case rest =>
  clear hmk
  obtain ⟨B, rfl, lB, uB, hB, hG⟩ := hcut
  go_wp2_with fail
  go_loopw [16] (fun i wr => ∃ K : Nat, K ≤ 2 ∧ i = .int .i64 (K : Int) ∧ BZ wr B x 2 K ∧ Gr w.heap.size w wr) (fun i _ => 2 - (intOf i).toNat)
  case atStart => exact ⟨0, by omega, rfl, hB, hG⟩
  case round =>
    clear hB hG uB
    obtain ⟨K, hK, rfl, hB, hG⟩ := hrel
    by_cases hk : K < 2
    · obtain ⟨hc, hf⟩ := hB K hk
      have hki : (K : Int) < 2 := by omega
      have hk0 : (0 : Int) ≤ (K : Int) := by omega
      have hw8 : wrap64 (8 * (K : Int)) = 8 * (K : Int) := by unfold wrap64; omega
      have h80 : (0 : Int) ≤ 8 * (K : Int) := by omega
      have h83 : 8 * (K : Int) ≤ 63 := by omega
      have hw1 : wrap64 ((K : Int) + 1) = (K : Int) + 1 := by unfold wrap64; omega
      have hst := bz_step hB hk (by omega)
      go_wp2_with fail
      go_roundw
      case rel => exact ⟨K + 1, hk, by first | rfl | simp | simp [hw1], by first | exact hst | simpa using hst, by repeat (first | (with_reducible exact Gr.refl _) | (with_reducible exact hG) | with_reducible refine Gr.alloc ?_ _ | with_reducible refine Gr.more ?_ _ _ | with_reducible refine Gr.setCell ?_ (by dsimp only; omega) _ | with_reducible refine Gr.drew ?_)⟩
      case measure => simp [intOf]; omega
    · obtain rfl : K = 2 := by omega
      have hki : ¬ ((2 : Nat) : Int) < 2 := by omega
      go_wp2_with fail
      refine bodyPost_ret (v := .tuple #[.slice (some ⟨B, 0, none⟩) 2 2, .int .i64 0]) (by simp [results, Tryd.results27, go_sem]) rfl ⟨B, rfl, lB, bs_of_bz hB, hG.below⟩
set_option maxRecDepth 100000 in
set_option maxHeartbeats 2000000 in
theorem bytes_4 (g : Bool) (x : Int) (w : World) : Calls Tryd.prog 27 #[tyV 4 g, .int .i64 x] w fun e w' => ∃ b, e = .returned (.tuple #[.slice (some ⟨b, 0, none⟩) 4 4, .int .i64 0]) ∧ w.heap.size ≤ b ∧ BS w' b (btL x 4) ∧ Below w.heap.size w w' := by
  have hv0 := valid_any 4 g
  rw [show validB 4 = true from rfl] at hv0
  have hmk : ∀ w : World, (Instr.makeSlice 39 (.int .i64 4) (.int .i64 4)).run Tryd.prog w = .ok (.slice (some ⟨w.heap.size, 0, none⟩) 4 4) (w.alloc (.cells #[.int .u8 0, .int .u8 0, .int .u8 0, .int .u8 0] 5)) := fun _ => by kernel_rfl
  go_enter Tryd.func27, Tryd.ntmps27
  go_upto_region 3 with (go_at_call 40; (refine (hv0 _).mono ?_); rintro e w1 ⟨rfl, hb⟩; obtain ⟨os, n, rfl⟩ := Below.moreE hb; clear hb)
  go_cut [6] (fun s6 wx => ∃ B : Nat, s6 = .slice (some ⟨B, 0, none⟩) 4 4 ∧ w.heap.size ≤ B ∧ B < wx.heap.size ∧ BZ wx B x 4 0 ∧ Gr w.heap.size w wx)
  case first =>
    go_wp2_with fail
    go_meet
    refine ⟨_, rfl, by (first | omega | (simp; done) | (simp; omega)), by (first | omega | (simp; done) | (simp; omega)), ?_, by repeat (first | (with_reducible exact Gr.refl _) | (with_reducible exact hG) | with_reducible refine Gr.alloc ?_ _ | with_reducible refine Gr.more ?_ _ _ | with_reducible refine Gr.setCell ?_ (by dsimp only; omega) _ | with_reducible refine Gr.drew ?_)⟩
    intro j hj
    have hj' : j = 0 ∨ j = 1 ∨ j = 2 ∨ j = 3 := by omega
    rcases hj' with rfl | rfl | rfl | rfl
    all_goals exact ⟨by go_simp, by go_simp⟩
  case rest =>
  clear hmk
  obtain ⟨B, rfl, lB, uB, hB, hG⟩ := hcut
  go_wp2_with fail
  go_loopw [16] (fun i wr => ∃ K : Nat, K ≤ 4 ∧ i = .int .i64 (K : Int) ∧ BZ wr B x 4 K ∧ Gr w.heap.size w wr) (fun i _ => 4 - (intOf i).toNat)
  case atStart => exact ⟨0, by omega, rfl, hB, hG⟩
  case round =>
    clear hB hG uB
    obtain ⟨K, hK, rfl, hB, hG⟩ := hrel
    by_cases hk : K < 4
    · obtain ⟨hc, hf⟩ := hB K hk
      have hki : (K : Int) < 4 := by omega
      have hk0 : (0 : Int) ≤ (K : Int) := by omega
      have hw8 : wrap64 (8 * (K : Int)) = 8 * (K : Int) := by unfold wrap64; omega
      have h80 : (0 : Int) ≤ 8 * (K : Int) := by omega
      have h83 : 8 * (K : Int) ≤ 63 := by omega
      have hw1 : wrap64 ((K : Int) + 1) = (K : Int) + 1 := by unfold wrap64; omega
      have hst := bz_step hB hk (by omega)
      go_wp2_with fail
      go_roundw
      case rel => exact ⟨K + 1, hk, by first | rfl | simp | simp [hw1], by first | exact hst | simpa using hst, by repeat (first | (with_reducible exact Gr.refl _) | (with_reducible exact hG) | with_reducible refine Gr.alloc ?_ _ | with_reducible refine Gr.more ?_ _ _ | with_reducible refine Gr.setCell ?_ (by dsimp only; omega) _ | with_reducible refine Gr.drew ?_)⟩
      case measure => simp [intOf]; omega
    · obtain rfl : K = 4 := by omega
      have hki : ¬ ((4 : Nat) : Int) < 4 := by omega
      go_wp2_with fail
      refine bodyPost_ret (v := .tuple #[.slice (some ⟨B, 0, none⟩) 4 4, .int .i64 0]) (by simp [results, Tryd.results27, go_sem]) rfl ⟨B, rfl, lB, bs_of_bz hB, hG.below⟩
set_option maxRecDepth 100000 in
set_option maxHeartbeats 2000000 in
theorem bytes_8 (g : Bool) (x : Int) (w : World) : Calls Tryd.prog 27 #[tyV 8 g, .int .i64 x] w fun e w' => ∃ b, e = .returned (.tuple #[.slice (some ⟨b, 0, none⟩) 8 8, .int .i64 0]) ∧ w.heap.size ≤ b ∧ BS w' b (btL x 8) ∧ Below w.heap.size w w' := by
  have hv0 := valid_any 8 g
  rw [show validB 8 = true from rfl] at hv0
  have hmk : ∀ w : World, (Instr.makeSlice 39 (.int .i64 8) (.int .i64 8)).run Tryd.prog w = .ok (.slice (some ⟨w.heap.size, 0, none⟩) 8 8) (w.alloc (.cells #[.int .u8 0, .int .u8 0, .int .u8 0, .int .u8 0, .int .u8 0, .int .u8 0, .int .u8 0, .int .u8 0] 5)) := fun _ => by kernel_rfl
  go_enter Tryd.func27, Tryd.ntmps27
  go_upto_region 3 with (go_at_call 40; (refine (hv0 _).mono ?_); rintro e w1 ⟨rfl, hb⟩; obtain ⟨os, n, rfl⟩ := Below.moreE hb; clear hb)
  go_cut [6] (fun s6 wx => ∃ B : Nat, s6 = .slice (some ⟨B, 0, none⟩) 8 8 ∧ w.heap.size ≤ B ∧ B < wx.heap.size ∧ BZ wx B x 8 0 ∧ Gr w.heap.size w wx)
  case first =>
    go_wp2_with fail
    go_meet
    refine ⟨_, rfl, by (first | omega | (simp; done) | (simp; omega)), by (first | omega | (simp; done) | (simp; omega)), ?_, by repeat (first | (with_reducible exact Gr.refl _) | (with_reducible exact hG) | with_reducible refine Gr.alloc ?_ _ | with_reducible refine Gr.more ?_ _ _ | with_reducible refine Gr.setCell ?_ (by dsimp only; omega) _ | with_reducible refine Gr.drew ?_)⟩
    intro j hj
    have hj' : j = 0 ∨ j = 1 ∨ j = 2 ∨ j = 3 ∨ j = 4 ∨ j = 5 ∨ j = 6 ∨ j = 7 := by omega
    rcases hj' with rfl | rfl | rfl | rfl | rfl | rfl | rfl | rfl
    all_goals exact ⟨by go_simp, by go_simp⟩
  case rest =>
  clear hmk
  obtain ⟨B, rfl, lB, uB, hB, hG⟩ := hcut
  go_wp2_with fail
  go_loopw [16] (fun i wr => ∃ K : Nat, K ≤ 8 ∧ i = .int .i64 (K : Int) ∧ BZ wr B x 8 K ∧ Gr w.heap.size w wr) (fun i _ => 8 - (intOf i).toNat)
  case atStart => exact ⟨0, by omega, rfl, hB, hG⟩
  case round =>
    clear hB hG uB
    obtain ⟨K, hK, rfl, hB, hG⟩ := hrel
    by_cases hk : K < 8
    · obtain ⟨hc, hf⟩ := hB K hk
      have hki : (K : Int) < 8 := by omega
      have hk0 : (0 : Int) ≤ (K : Int) := by omega
      have hw8 : wrap64 (8 * (K : Int)) = 8 * (K : Int) := by unfold wrap64; omega
      have h80 : (0 : Int) ≤ 8 * (K : Int) := by omega
      have h83 : 8 * (K : Int) ≤ 63 := by omega
      have hw1 : wrap64 ((K : Int) + 1) = (K : Int) + 1 := by unfold wrap64; omega
      have hst := bz_step hB hk (by omega)
      go_wp2_with fail
      go_roundw
      case rel => exact ⟨K + 1, hk, by first | rfl | simp | simp [hw1], by first | exact hst | simpa using hst, by repeat (first | (with_reducible exact Gr.refl _) | (with_reducible exact hG) | with_reducible refine Gr.alloc ?_ _ | with_reducible refine Gr.more ?_ _ _ | with_reducible refine Gr.setCell ?_ (by dsimp only; omega) _ | with_reducible refine Gr.drew ?_)⟩
      case measure => simp [intOf]; omega
    · obtain rfl : K = 8 := by omega
      have hki : ¬ ((8 : Nat) : Int) < 8 := by omega
      go_wp2_with fail
      refine bodyPost_ret (v := .tuple #[.slice (some ⟨B, 0, none⟩) 8 8, .int .i64 0]) (by simp [results, Tryd.results27, go_sem]) rfl ⟨B, rfl, lB, bs_of_bz hB, hG.below⟩
theorem bytes_ok {s : Int} (v : validB s = true) (g : Bool) (x : Int) (w : World) : Calls Tryd.prog 27 #[tyV s g, .int .i64 x] w fun e w' => ∃ b, e = .returned (.tuple #[.slice (some ⟨b, 0, none⟩) s.toNat s.toNat, .int .i64 0]) ∧ w.heap.size ≤ b ∧ BS w' b (btL x s.toNat) ∧ Below w.heap.size w w' := by
  rcases (valid_iff s).1 v with rfl | rfl | rfl | rfl
  · exact bytes_1 g x w
  · exact bytes_2 g x w
  · exact bytes_4 g x w
  · exact bytes_8 g x w
end Go.Proofs.YtbdkacfddbiclaaDoor
