/-
  Plain mathematics of layer 1: bytes of a value, and back.
  Contracts of layer 1: Bytes, FromBytes.
  The law BitsBack: its regions.
-/
import Derived.Test.YtbdkacfddbiclaaDoorLk
import Derived.Test.YtbdkacfddbiclaaDoorReg
import Derived.Lib.ConvBytes
import Derived.Test.YtbdkacfddbiclaaDoorPf
import Derived.Laws.IdiomStrings
namespace Go.Proofs.YtbdkacfddbiclaaDoor
open Go.RowKit

/-- The number of bytes, least significant first. -/
def fbN : List UInt8 → Nat
  | [] => 0
  | c :: l => c.toNat + 256 * fbN l
theorem fbN_lt (l : List UInt8) : fbN l < 256 ^ l.length := by
  induction l with
  | nil => simp [fbN]
  | cons c l ih =>
    have h := c.toNat_lt
    simp only [fbN, List.length_cons, Nat.pow_succ]
    omega
theorem fbN_snoc (l : List UInt8) (c : UInt8) : fbN (l ++ [c]) = fbN l + c.toNat * 256 ^ l.length := by
  induction l with
  | nil => simp [fbN]
  | cons a l ih =>
    simp only [List.cons_append, fbN, ih, List.length_cons, Nat.pow_succ]
    rw [Nat.mul_add, ← Nat.mul_assoc 256, Nat.mul_comm 256 c.toNat, Nat.mul_assoc, Nat.mul_comm 256 (256 ^ _)]
    omega
theorem fbN_take (l : List UInt8) (k : Nat) (h : k < l.length) : fbN (l.take (k + 1)) = fbN (l.take k) + l[k].toNat * 256 ^ k := by
  rw [List.take_succ_eq_append_getElem h, fbN_snoc, List.length_take, Nat.min_eq_left (by omega)]

theorem un_w64 (n : Nat) (h : n < 18446744073709551616) : un (wrap64 n) = n := by unfold un wrap64; omega
theorem pow256 (k : Nat) : (256 : Nat) ^ k = 2 ^ (8 * k) := by rw [Nat.pow_mul]
/-- A byte is laid above the others. -/
theorem or_step (N c k : Nat) (hN : N < 256 ^ k) (hc : c < 256) (hk : k ≤ 7) : bits .or .i64 (wrap64 N) (wrap64 ((c : Int) * 2 ^ (8 * (k : Int)).toNat)) = wrap64 ((N + c * 256 ^ k : Nat) : Int) := by
  have hp : (256 : Nat) ^ k ≤ 256 ^ 7 := Nat.pow_le_pow_right (by decide) hk
  have hm : c * 256 ^ k ≤ 255 * 256 ^ k := Nat.mul_le_mul_right _ (by omega)
  have e7 : (256 : Nat) ^ 7 = 72057594037927936 := by decide
  have e1 : (c : Int) * 2 ^ (8 * (k : Int)).toNat = ((c * 256 ^ k : Nat) : Int) := by
    rw [show (8 * (k : Int)).toNat = 8 * k by omega, pow256]
    simp
  rw [e1, bits7, un_w64 _ (by omega), un_w64 _ (by omega)]
  congr 2
  show N ||| c * 256 ^ k = _
  rw [Nat.or_comm, Nat.add_comm, Nat.mul_comm, pow256]
  rw [pow256] at hN
  exact (Nat.two_pow_add_eq_or_of_lt hN c).symm

/-- A byte of a value. -/
def btV (v : Int) (k : Nat) : UInt8 := UInt8.ofNat (un v / 256 ^ k % 256)
def btL (v : Int) (n : Nat) : List UInt8 := (List.range n).map (btV v)
theorem btL_length (v : Int) (n : Nat) : (btL v n).length = n := by simp [btL]
theorem btL_get (v : Int) (n k : Nat) (h : k < (btL v n).length) : (btL v n)[k] = btV v k := by simp [btL]
theorem btL_succ (v : Int) (n : Nat) : btL v (n + 1) = btL v n ++ [btV v n] := by simp [btL, List.range_succ]
theorem btL_fbN (v : Int) (n : Nat) : fbN (btL v n) = un v % 256 ^ n := by
  induction n with
  | zero => simp [btL, fbN, Nat.mod_one]
  | succ n ih =>
    rw [btL_succ, fbN_snoc, ih, btL_length]
    have e : (btV v n).toNat = un v / 256 ^ n % 256 := by
      unfold btV
      have : un v / 256 ^ n % 256 < 256 := Nat.mod_lt _ (by decide)
      simp
    rw [e, Nat.pow_succ, Nat.mod_mul, Nat.mul_comm (256 ^ n)]
/-- What a shift and a conversion make of a value is its byte. -/
theorem byte_of (v : Int) (k : Nat) (hk : k ≤ 7) : IntKind.u8.wrap (v / 2 ^ (8 * (k : Int)).toNat) = ((btV v k).toNat : Int) := by
  have e : (btV v k).toNat = un v / 256 ^ k % 256 := by
    unfold btV
    have : un v / 256 ^ k % 256 < 256 := Nat.mod_lt _ (by decide)
    simp
  have w8 : ∀ n : Int, IntKind.u8.wrap n = n % 256 := fun n => by simp [IntKind.wrap, IntKind.bits, IntKind.signed]
  rw [e, w8, show (8 * (k : Int)).toNat = 8 * k by omega]
  have hk' : k = 0 ∨ k = 1 ∨ k = 2 ∨ k = 3 ∨ k = 4 ∨ k = 5 ∨ k = 6 ∨ k = 7 := by omega
  rcases hk' with rfl | rfl | rfl | rfl | rfl | rfl | rfl | rfl <;> simp [un] <;> omega

/-- The value of bytes. -/
def fbV (s : Int) (g : Bool) (l : List UInt8) : Int := wrapI s g (wrap64 (fbN l))
theorem Cg_nat_mod (s : Int) (n : Nat) : Cg (Ms s) ((n % 256 ^ (Ew s / 8) : Nat) : Int) (n : Int) := by
  have e : (256 : Nat) ^ (Ew s / 8) = 2 ^ Ew s := by
    unfold Ew
    split
    · rfl
    · split
      · rfl
      · split <;> rfl
  rw [e, Ms_pow]
  exact Cg_of_mod (Nat.mod_mod _ _)
/-- The bytes of a value make the value. -/
theorem fb_bt {s : Int} (hv : validB s = true) (g : Bool) (v : Int) (h : I64 v) : fbV s g (btL v s.toNat) = wrapI s g v := by
  refine Rg_one (Rg_wrap _ _ _ (w64_I64 _)) (Rg_wrap _ _ _ h) ?_
  refine (w_Cg s g _).trans ((w64_Cg s _).trans ?_)
  rw [btL_fbN]
  have e : s.toNat = Ew s / 8 := by rcases (valid_iff s).1 hv with rfl | rfl | rfl | rfl <;> rfl
  rw [e]
  exact (Cg_nat_mod s (un v)).trans ((un_Cg s v).trans (w_Cg s g v).symm)
theorem fbN_inj (l : List UInt8) : ∀ l' : List UInt8, l.length = l'.length → fbN l = fbN l' → l = l' := by
  induction l with
  | nil => intro l' h _; exact (List.length_eq_zero_iff.1 h.symm).symm
  | cons c l ih =>
    intro l' h e
    cases l' with
    | nil => simp at h
    | cons c' l' =>
      have h1 := c.toNat_lt
      have h2 := c'.toNat_lt
      simp only [fbN] at e
      have e1 : c.toNat = c'.toNat := by omega
      rw [ih l' (by simpa using h) (by omega), UInt8.toNat_inj.1 e1]
/-- The bytes of the value of bytes are the bytes. -/
theorem bt_fb {s : Int} (hv : validB s = true) (g : Bool) (l : List UInt8) (hl : l.length = s.toNat) : btL (fbV s g l) s.toNat = l := by
  refine fbN_inj _ _ (by rw [btL_length, hl]) ?_
  rw [btL_fbN]
  have hN := fbN_lt l
  rw [hl] at hN
  have e : s.toNat = Ew s / 8 := by rcases (valid_iff s).1 hv with rfl | rfl | rfl | rfl <;> rfl
  have h256 : (256 : Nat) ^ (Ew s / 8) = 2 ^ Ew s := by
    unfold Ew
    split
    · rfl
    · split
      · rfl
      · split <;> rfl
  have c : Cg (Ms s) (un (fbV s g l) : Int) (fbN l : Int) := (un_Cg s _).trans ((w_Cg s g _).trans (w64_Cg s _))
  rw [Ms_pow] at c
  have m := Cg_mod c
  rw [e] at hN ⊢
  rw [h256] at hN ⊢
  rw [m, Nat.mod_eq_of_lt hN]
end Go.Proofs.YtbdkacfddbiclaaDoor

namespace Go.Proofs.YtbdkacfddbiclaaDoor
open Go.RowKit

/-- The bytes of a block. -/
def BS (W : World) (b : Nat) (l : List UInt8) : Prop := ∀ (j : Nat) (h : j < l.length), W.cell? ⟨b, j, none⟩ = some (.int .u8 (l[j].toNat : Int))
theorem BS.up {W W' : World} (gr : Gr W.heap.size W W') {b : Nat} {l : List UInt8} (h : BS W b l) : BS W' b l := fun j hj => grC gr (h j hj)

set_option maxHeartbeats 2000000 in
theorem from_loop {s : Int} (v : validB s = true) (g : Bool) (l : List UInt8) (hl : (l.length : Int) = s) (b cap : Nat) (w : World) (hb : BS w b l) : Calls Tryd.prog 29 #[tyV s g, .slice (some ⟨b, 0, none⟩) l.length cap] w fun e w' => e = .returned (.tuple #[.int .i64 (fbV s g l), .int .i64 0]) ∧ Below w.heap.size w w' := by
  have h8 : l.length ≤ 8 := by rcases (valid_iff s).1 v with rfl | rfl | rfl | rfl <;> omega
  have hv0 := valid_any s g
  rw [v] at hv0
  have hb2 : BS (w.alloc (.cells #[.int .i64 s, .bool g] 23)) b l := BS.up ((Gr.refl w).alloc _) hb
  go_enter Tryd.func29, Tryd.ntmps29
  go_upto_region 3 with (go_at_call 40; (refine (hv0 _).mono ?_); rintro e w1 ⟨rfl, hb⟩; obtain ⟨os, n, rfl⟩ := Below.moreE hb; clear hb)
  go_upto_region 5 with fail
  go_cut [6] (fun s6 wx => s6 = .int .i64 0 ∧ wx.cell? ⟨w.heap.size, 0, none⟩ = some (.int .i64 s) ∧ wx.cell? ⟨w.heap.size, 1, none⟩ = some (.bool g) ∧ w.heap.size < wx.heap.size ∧ Gr w.heap.size w wx)
  case first =>
    go_wp2_with fail
    go_meet
    exact ⟨rfl, by go_simp, by go_simp, by (first | omega | (simp; done) | (simp; omega)), by repeat (first | (with_reducible exact Gr.refl _) | with_reducible refine Gr.alloc ?_ _ | with_reducible refine Gr.more ?_ _ _ | with_reducible refine Gr.setCell ?_ (by dsimp only; omega) _ | with_reducible refine Gr.drew ?_)⟩
  case rest =>
  clear hb2
  obtain ⟨rfl, a1, b1, hz, hG⟩ := hcut
  have hbc := BS.up hG hb
  go_wp2_with fail
  go_loopw [6, 19] (fun a i wr => ∃ K : Nat, K ≤ l.length ∧ a = .int .i64 (wrap64 ((fbN (l.take K) : Nat) : Int)) ∧ i = .int .i64 (K : Int) ∧ BS wr b l ∧ wr.cell? ⟨w.heap.size, 0, none⟩ = some (.int .i64 s) ∧ wr.cell? ⟨w.heap.size, 1, none⟩ = some (.bool g) ∧ Gr w.heap.size w wr) (fun _ i _ => l.length - (intOf i).toNat)
  case atStart => exact ⟨0, by omega, by simp [fbN, wrap64], rfl, hbc, a1, b1, hG⟩
  case round =>
    clear hbc a1 b1 hz hG
    obtain ⟨K, hK, rfl, rfl, hB, a1, b1, hG⟩ := hrel
    by_cases hk : K < l.length
    · have hc := hB K hk
      have hki : (K : Int) < (l.length : Int) := by omega
      have hk0 : (0 : Int) ≤ (K : Int) := by omega
      have hw8 : wrap64 (8 * (K : Int)) = 8 * (K : Int) := by unfold wrap64; omega
      have h80 : (0 : Int) ≤ 8 * (K : Int) := by omega
      have h83 : 8 * (K : Int) ≤ 63 := by omega
      have hw1 : wrap64 ((K : Int) + 1) = (K : Int) + 1 := by unfold wrap64; omega
      have hN := fbN_lt (l.take K)
      rw [List.length_take, Nat.min_eq_left hK] at hN
      have hstep := or_step (fbN (l.take K)) l[K].toNat K hN l[K].toNat_lt (by omega)
      rw [← fbN_take l K hk] at hstep
      have e1 : (8 * (K : Int)).toNat = 8 * K := by omega
      have e2 : wrap64 (l[K].toNat : Int) = (l[K].toNat : Int) := by have := l[K].toNat_lt; unfold wrap64; omega
      go_wp2_with fail
      go_roundw
      case rel => exact ⟨K + 1, hk, by rw [← hstep, e1], by simp, hB, a1, b1, hG⟩
      case measure => simp [intOf]; omega
    · obtain rfl : K = l.length := by omega
      have hki : ¬ (l.length : Int) < (l.length : Int) := by omega
      have e : l.take l.length = l := List.take_length
      rw [e]
      go_wp2_with (go_at_call 48; (refine (wrap_any _ _ _ _).mono ?_); rintro e w1 ⟨rfl, hb⟩; obtain ⟨os, n, rfl⟩ := Below.moreE hb; clear hb)
      refine bodyPost_ret (v := .tuple #[.int .i64 (fbV s g l), .int .i64 0]) (by simp [results, Tryd.results29, go_sem, fbV]) rfl ⟨rfl, (hG.more _ _).below⟩
theorem from_short {s : Int} (v : validB s = true) (g : Bool) (n : Nat) (hl : ¬ (n : Int) = s) (p : Option Addr) (cap : Nat) (w : World) : Calls Tryd.prog 29 #[tyV s g, .slice p n cap] w fun e w' => e = .returned (.tuple #[.int .i64 0, .int .i64 1]) ∧ Below w.heap.size w w' := by
  have hv0 := valid_any s g
  rw [v] at hv0
  have hl' : ((n : Int) != s) = true := bne_iff_ne.2 hl
  go_enter Tryd.func29, Tryd.ntmps29
  go_wp2_with (go_at_call 40; (refine (hv0 _).mono ?_); rintro e w1 ⟨rfl, hb⟩; obtain ⟨os, n, rfl⟩ := Below.moreE hb; clear hb)
  refine bodyPost_ret (v := .tuple #[.int .i64 0, .int .i64 1]) (by simp [results, Tryd.results29, go_sem]) rfl ⟨rfl, (Gr.below (by repeat (first | (with_reducible exact Gr.refl _) | with_reducible refine Gr.alloc ?_ _ | with_reducible refine Gr.more ?_ _ _ | with_reducible refine Gr.setCell ?_ (by dsimp only; omega) _ | with_reducible refine Gr.drew ?_)))⟩

/-- The bytes of a block, the first K of a value's, the others zero. -/
def BZ (W : World) (b : Nat) (v : Int) (n K : Nat) : Prop := ∀ j : Nat, j < n → W.cell? ⟨b, j, none⟩ = some (.int .u8 (if j < K then ((btV v j).toNat : Int) else 0)) ∧ W.frozen? ⟨b, j, none⟩ = false
theorem bz_step {W : World} {b : Nat} {v : Int} {n K : Nat} (h : BZ W b v n K) (hk : K < n) (h7 : K ≤ 7) : BZ (W.setCell ⟨b, K, none⟩ (.int .u8 (IntKind.u8.wrap (v / 2 ^ (8 * (K : Int)).toNat)))) b v n (K + 1) := by
  intro j hj
  obtain ⟨hc, hf⟩ := h j hj
  refine ⟨?_, by rw [World.frozen?_setCell]; exact hf⟩
  by_cases e : j = K
  · subst e
    rw [World.cell?_setCell_same (h := hc), byte_of v j h7, if_pos (by omega)]
  · have hne : (⟨b, K, none⟩ : Addr) ≠ ⟨b, j, none⟩ := by intro h; injection h; omega
    rw [World.cell?_setCell_other (h := hne), hc]
    by_cases h1 : j < K
    · rw [if_pos h1, if_pos (by omega)]
    · rw [if_neg h1, if_neg (by omega)]
theorem bs_of_bz {W : World} {b : Nat} {v : Int} {n : Nat} (h : BZ W b v n n) : BS W b (btL v n) := by
  intro j hj
  have hj' : j < n := by simpa [btL] using hj
  rw [(h j hj').1, if_pos hj', btL_get]
set_option maxRecDepth 100000 in
set_option maxHeartbeats 2000000 in
theorem bytes_1 (g : Bool) (x : Int) (w : World) : Calls Tryd.prog 27 #[tyV 1 g, .int .i64 x] w fun e w' => ∃ b, e = .returned (.tuple #[.slice (some ⟨b, 0, none⟩) 1 1, .int .i64 0]) ∧ w.heap.size ≤ b ∧ BS w' b (btL x 1) ∧ Below w.heap.size w w' := by
  have hv0 := valid_any 1 g
  rw [show validB 1 = true from rfl] at hv0
  have hmk : ∀ w : World, (Instr.makeSlice 39 (.int .i64 1) (.int .i64 1)).run Tryd.prog w = .ok (.slice (some ⟨w.heap.size, 0, none⟩) 1 1) (w.alloc (.cells #[.int .u8 0] 5)) := fun _ => by kernel_rfl
  go_enter Tryd.func27, Tryd.ntmps27
  go_upto_region 3 with (go_at_call 40; (refine (hv0 _).mono ?_); rintro e w1 ⟨rfl, hb⟩; obtain ⟨os, n, rfl⟩ := Below.moreE hb; clear hb)
  go_cut [6] (fun s6 wx => ∃ B : Nat, s6 = .slice (some ⟨B, 0, none⟩) 1 1 ∧ w.heap.size ≤ B ∧ B < wx.heap.size ∧ BZ wx B x 1 0 ∧ Gr w.heap.size w wx)
  case first =>
    go_wp2_with fail
    go_meet
    refine ⟨_, rfl, by (first | omega | (simp; done) | (simp; omega)), by (first | omega | (simp; done) | (simp; omega)), ?_, by repeat (first | (with_reducible exact Gr.refl _) | (with_reducible exact hG) | with_reducible refine Gr.alloc ?_ _ | with_reducible refine Gr.more ?_ _ _ | with_reducible refine Gr.setCell ?_ (by dsimp only; omega) _ | with_reducible refine Gr.drew ?_)⟩
    intro j hj
    have hj' : j = 0 := by omega
    rcases hj' with rfl
    all_goals exact ⟨by go_simp, by go_simp⟩
  case rest =>
  clear hmk
  obtain ⟨B, rfl, lB, uB, hB, hG⟩ := hcut
  go_wp2_with fail
  go_loopw [16] (fun i wr => ∃ K : Nat, K ≤ 1 ∧ i = .int .i64 (K : Int) ∧ BZ wr B x 1 K ∧ Gr w.heap.size w wr) (fun i _ => 1 - (intOf i).toNat)
  case atStart => exact ⟨0, by omega, rfl, hB, hG⟩
  case round =>
    clear hB hG uB
    obtain ⟨K, hK, rfl, hB, hG⟩ := hrel
    by_cases hk : K < 1
    · obtain ⟨hc, hf⟩ := hB K hk
      have hki : (K : Int) < 1 := by omega
      have hk0 : (0 : Int) ≤ (K : Int) := by omega
      have hw8 : wrap64 (8 * (K : Int)) = 8 * (K : Int) := by unfold wrap64; omega
      have h80 : (0 : Int) ≤ 8 * (K : Int) := by omega
      have h83 : 8 * (K : Int) ≤ 63 := by omega
      have hw1 : wrap64 ((K : Int) + 1) = (K : Int) + 1 := by unfold wrap64; omega
      have hst := bz_step hB hk (by omega)
      go_wp2_with fail
      go_roundw
      case rel => exact ⟨K + 1, hk, by first | rfl | simp | simp [hw1], by first | exact hst | simpa using hst, by repeat (first | (with_reducible exact Gr.refl _) | (with_reducible exact hG) | with_reducible refine Gr.alloc ?_ _ | with_reducible refine Gr.more ?_ _ _ | with_reducible refine Gr.setCell ?_ (by dsimp only; omega) _ | with_reducible refine Gr.drew ?_)⟩
      case measure => simp [intOf]; omega
    · obtain rfl : K = 1 := by omega
      have hki : ¬ ((1 : Nat) : Int) < 1 := by omega
      go_wp2_with fail
      refine bodyPost_ret (v := .tuple #[.slice (some ⟨B, 0, none⟩) 1 1, .int .i64 0]) (by simp [results, Tryd.results27, go_sem]) rfl ⟨B, rfl, lB, bs_of_bz hB, hG.below⟩
set_option maxRecDepth 100000 in
set_option maxHeartbeats 2000000 in
theorem bytes_2 (g : Bool) (x : Int) (w : World) : Calls Tryd.prog 27 #[tyV 2 g, .int .i64 x] w fun e w' => ∃ b, e = .returned (.tuple #[.slice (some ⟨b, 0, none⟩) 2 2, .int .i64 0]) ∧ w.heap.size ≤ b ∧ BS w' b (btL x 2) ∧ Below w.heap.size w w' := by
  have hv0 := valid_any 2 g
  rw [show validB 2 = true from rfl] at hv0
  have hmk : ∀ w : World, (Instr.makeSlice 39 (.int .i64 2) (.int .i64 2)).run Tryd.prog w = .ok (.slice (some ⟨w.heap.size, 0, none⟩) 2 2) (w.alloc (.cells #[.int .u8 0, .int .u8 0] 5)) := fun _ => by kernel_rfl
  go_enter Tryd.func27, Tryd.ntmps27
  go_upto_region 3 with (go_at_call 40; (refine (hv0 _).mono ?_); rintro e w1 ⟨rfl, hb⟩; obtain ⟨os, n, rfl⟩ := Below.moreE hb; clear hb)
  go_cut [6] (fun s6 wx => ∃ B : Nat, s6 = .slice (some ⟨B, 0, none⟩) 2 2 ∧ w.heap.size ≤ B ∧ B < wx.heap.size ∧ BZ wx B x 2 0 ∧ Gr w.heap.size w wx)
  case first =>
    go_wp2_with fail
    go_meet
    refine ⟨_, rfl, by (first | omega | (simp; done) | (simp; omega)), by (first | omega | (simp; done) | (simp; omega)), ?_, by repeat (first | (with_reducible exact Gr.refl _) | (with_reducible exact hG) | with_reducible refine Gr.alloc ?_ _ | with_reducible refine Gr.more ?_ _ _ | with_reducible refine Gr.setCell ?_ (by dsimp only; omega) _ | with_reducible refine Gr.drew ?_)⟩
    intro j hj
    have hj' : j = 0 ∨ j = 1 := by omega
    rcases hj' with rfl | rfl
    all_goals exact ⟨by go_simp, by go_simp⟩
  case rest =>
  clear hmk
  obtain ⟨B, rfl, lB, uB, hB, hG⟩ := hcut
  go_wp2_with fail
  go_loopw [16] (fun i wr => ∃ K : Nat, K ≤ 2 ∧ i = .int .i64 (K : Int) ∧ BZ wr B x 2 K ∧ Gr w.heap.size w wr) (fun i _ => 2 - (intOf i).toNat)
  case atStart => exact ⟨0, by omega, rfl, hB, hG⟩
  case round =>
    clear hB hG uB
    obtain ⟨K, hK, rfl, hB, hG⟩ := hrel
    by_cases hk : K < 2
    · obtain ⟨hc, hf⟩ := hB K hk
      have hki : (K : Int) < 2 := by omega
      have hk0 : (0 : Int) ≤ (K : Int) := by omega
      have hw8 : wrap64 (8 * (K : Int)) = 8 * (K : Int) := by unfold wrap64; omega
      have h80 : (0 : Int) ≤ 8 * (K : Int) := by omega
      have h83 : 8 * (K : Int) ≤ 63 := by omega
      have hw1 : wrap64 ((K : Int) + 1) = (K : Int) + 1 := by unfold wrap64; omega
      have hst := bz_step hB hk (by omega)
      go_wp2_with fail
      go_roundw
      case rel => exact ⟨K + 1, hk, by first | rfl | simp | simp [hw1], by first | exact hst | simpa using hst, by repeat (first | (with_reducible exact Gr.refl _) | (with_reducible exact hG) | with_reducible refine Gr.alloc ?_ _ | with_reducible refine Gr.more ?_ _ _ | with_reducible refine Gr.setCell ?_ (by dsimp only; omega) _ | with_reducible refine Gr.drew ?_)⟩
      case measure => simp [intOf]; omega
    · obtain rfl : K = 2 := by omega
      have hki : ¬ ((2 : Nat) : Int) < 2 := by omega
      go_wp2_with fail
      refine bodyPost_ret (v := .tuple #[.slice (some ⟨B, 0, none⟩) 2 2, .int .i64 0]) (by simp [results, Tryd.results27, go_sem]) rfl ⟨B, rfl, lB, bs_of_bz hB, hG.below⟩
set_option maxRecDepth 100000 in
set_option maxHeartbeats 2000000 in
theorem bytes_4 (g : Bool) (x : Int) (w : World) : Calls Tryd.prog 27 #[tyV 4 g, .int .i64 x] w fun e w' => ∃ b, e = .returned (.tuple #[.slice (some ⟨b, 0, none⟩) 4 4, .int .i64 0]) ∧ w.heap.size ≤ b ∧ BS w' b (btL x 4) ∧ Below w.heap.size w w' := by
  have hv0 := valid_any 4 g
  rw [show validB 4 = true from rfl] at hv0
  have hmk : ∀ w : World, (Instr.makeSlice 39 (.int .i64 4) (.int .i64 4)).run Tryd.prog w = .ok (.slice (some ⟨w.heap.size, 0, none⟩) 4 4) (w.alloc (.cells #[.int .u8 0, .int .u8 0, .int .u8 0, .int .u8 0] 5)) := fun _ => by kernel_rfl
  go_enter Tryd.func27, Tryd.ntmps27
  go_upto_region 3 with (go_at_call 40; (refine (hv0 _).mono ?_); rintro e w1 ⟨rfl, hb⟩; obtain ⟨os, n, rfl⟩ := Below.moreE hb; clear hb)
  go_cut [6] (fun s6 wx => ∃ B : Nat, s6 = .slice (some ⟨B, 0, none⟩) 4 4 ∧ w.heap.size ≤ B ∧ B < wx.heap.size ∧ BZ wx B x 4 0 ∧ Gr w.heap.size w wx)
  case first =>
    go_wp2_with fail
    go_meet
    refine ⟨_, rfl, by (first | omega | (simp; done) | (simp; omega)), by (first | omega | (simp; done) | (simp; omega)), ?_, by repeat (first | (with_reducible exact Gr.refl _) | (with_reducible exact hG) | with_reducible refine Gr.alloc ?_ _ | with_reducible refine Gr.more ?_ _ _ | with_reducible refine Gr.setCell ?_ (by dsimp only; omega) _ | with_reducible refine Gr.drew ?_)⟩
    intro j hj
    have hj' : j = 0 ∨ j = 1 ∨ j = 2 ∨ j = 3 := by omega
    rcases hj' with rfl | rfl | rfl | rfl
    all_goals exact ⟨by go_simp, by go_simp⟩
  case rest =>
  clear hmk
  obtain ⟨B, rfl, lB, uB, hB, hG⟩ := hcut
  go_wp2_with fail
  go_loopw [16] (fun i wr => ∃ K : Nat, K ≤ 4 ∧ i = .int .i64 (K : Int) ∧ BZ wr B x 4 K ∧ Gr w.heap.size w wr) (fun i _ => 4 - (intOf i).toNat)
  case atStart => exact ⟨0, by omega, rfl, hB, hG⟩
  case round =>
    clear hB hG uB
    obtain ⟨K, hK, rfl, hB, hG⟩ := hrel
    by_cases hk : K < 4
    · obtain ⟨hc, hf⟩ := hB K hk
      have hki : (K : Int) < 4 := by omega
      have hk0 : (0 : Int) ≤ (K : Int) := by omega
      have hw8 : wrap64 (8 * (K : Int)) = 8 * (K : Int) := by unfold wrap64; omega
      have h80 : (0 : Int) ≤ 8 * (K : Int) := by omega
      have h83 : 8 * (K : Int) ≤ 63 := by omega
      have hw1 : wrap64 ((K : Int) + 1) = (K : Int) + 1 := by unfold wrap64; omega
      have hst := bz_step hB hk (by omega)
      go_wp2_with fail
      go_roundw
      case rel => exact ⟨K + 1, hk, by first | rfl | simp | simp [hw1], by first | exact hst | simpa using hst, by repeat (first | (with_reducible exact Gr.refl _) | (with_reducible exact hG) | with_reducible refine Gr.alloc ?_ _ | with_reducible refine Gr.more ?_ _ _ | with_reducible refine Gr.setCell ?_ (by dsimp only; omega) _ | with_reducible refine Gr.drew ?_)⟩
      case measure => simp [intOf]; omega
    · obtain rfl : K = 4 := by omega
      have hki : ¬ ((4 : Nat) : Int) < 4 := by omega
      go_wp2_with fail
      refine bodyPost_ret (v := .tuple #[.slice (some ⟨B, 0, none⟩) 4 4, .int .i64 0]) (by simp [results, Tryd.results27, go_sem]) rfl ⟨B, rfl, lB, bs_of_bz hB, hG.below⟩
set_option maxRecDepth 100000 in
set_option maxHeartbeats 2000000 in
theorem bytes_8 (g : Bool) (x : Int) (w : World) : Calls Tryd.prog 27 #[tyV 8 g, .int .i64 x] w fun e w' => ∃ b, e = .returned (.tuple #[.slice (some ⟨b, 0, none⟩) 8 8, .int .i64 0]) ∧ w.heap.size ≤ b ∧ BS w' b (btL x 8) ∧ Below w.heap.size w w' := by
  have hv0 := valid_any 8 g
  rw [show validB 8 = true from rfl] at hv0
  have hmk : ∀ w : World, (Instr.makeSlice 39 (.int .i64 8) (.int .i64 8)).run Tryd.prog w = .ok (.slice (some ⟨w.heap.size, 0, none⟩) 8 8) (w.alloc (.cells #[.int .u8 0, .int .u8 0, .int .u8 0, .int .u8 0, .int .u8 0, .int .u8 0, .int .u8 0, .int .u8 0] 5)) := fun _ => by kernel_rfl
  go_enter Tryd.func27, Tryd.ntmps27
  go_upto_region 3 with (go_at_call 40; (refine (hv0 _).mono ?_); rintro e w1 ⟨rfl, hb⟩; obtain ⟨os, n, rfl⟩ := Below.moreE hb; clear hb)
  go_cut [6] (fun s6 wx => ∃ B : Nat, s6 = .slice (some ⟨B, 0, none⟩) 8 8 ∧ w.heap.size ≤ B ∧ B < wx.heap.size ∧ BZ wx B x 8 0 ∧ Gr w.heap.size w wx)
  case first =>
    go_wp2_with fail
    go_meet
    refine ⟨_, rfl, by (first | omega | (simp; done) | (simp; omega)), by (first | omega | (simp; done) | (simp; omega)), ?_, by repeat (first | (with_reducible exact Gr.refl _) | (with_reducible exact hG) | with_reducible refine Gr.alloc ?_ _ | with_reducible refine Gr.more ?_ _ _ | with_reducible refine Gr.setCell ?_ (by dsimp only; omega) _ | with_reducible refine Gr.drew ?_)⟩
    intro j hj
    have hj' : j = 0 ∨ j = 1 ∨ j = 2 ∨ j = 3 ∨ j = 4 ∨ j = 5 ∨ j = 6 ∨ j = 7 := by omega
    rcases hj' with rfl | rfl | rfl | rfl | rfl | rfl | rfl | rfl
    all_goals exact ⟨by go_simp, by go_simp⟩
  case rest =>
  clear hmk
  obtain ⟨B, rfl, lB, uB, hB, hG⟩ := hcut
  go_wp2_with fail
  go_loopw [16] (fun i wr => ∃ K : Nat, K ≤ 8 ∧ i = .int .i64 (K : Int) ∧ BZ wr B x 8 K ∧ Gr w.heap.size w wr) (fun i _ => 8 - (intOf i).toNat)
  case atStart => exact ⟨0, by omega, rfl, hB, hG⟩
  case round =>
    clear hB hG uB
    obtain ⟨K, hK, rfl, hB, hG⟩ := hrel
    by_cases hk : K < 8
    · obtain ⟨hc, hf⟩ := hB K hk
      have hki : (K : Int) < 8 := by omega
      have hk0 : (0 : Int) ≤ (K : Int) := by omega
      have hw8 : wrap64 (8 * (K : Int)) = 8 * (K : Int) := by unfold wrap64; omega
      have h80 : (0 : Int) ≤ 8 * (K : Int) := by omega
      have h83 : 8 * (K : Int) ≤ 63 := by omega
      have hw1 : wrap64 ((K : Int) + 1) = (K : Int) + 1 := by unfold wrap64; omega
      have hst := bz_step hB hk (by omega)
      go_wp2_with fail
      go_roundw
      case rel => exact ⟨K + 1, hk, by first | rfl | simp | simp [hw1], by first | exact hst | simpa using hst, by repeat (first | (with_reducible exact Gr.refl _) | (with_reducible exact hG) | with_reducible refine Gr.alloc ?_ _ | with_reducible refine Gr.more ?_ _ _ | with_reducible refine Gr.setCell ?_ (by dsimp only; omega) _ | with_reducible refine Gr.drew ?_)⟩
      case measure => simp [intOf]; omega
    · obtain rfl : K = 8 := by omega
      have hki : ¬ ((8 : Nat) : Int) < 8 := by omega
      go_wp2_with fail
      refine bodyPost_ret (v := .tuple #[.slice (some ⟨B, 0, none⟩) 8 8, .int .i64 0]) (by simp [results, Tryd.results27, go_sem]) rfl ⟨B, rfl, lB, bs_of_bz hB, hG.below⟩
theorem bytes_ok {s : Int} (v : validB s = true) (g : Bool) (x : Int) (w : World) : Calls Tryd.prog 27 #[tyV s g, .int .i64 x] w fun e w' => ∃ b, e = .returned (.tuple #[.slice (some ⟨b, 0, none⟩) s.toNat s.toNat, .int .i64 0]) ∧ w.heap.size ≤ b ∧ BS w' b (btL x s.toNat) ∧ Below w.heap.size w w' := by
  rcases (valid_iff s).1 v with rfl | rfl | rfl | rfl
  · exact bytes_1 g x w
  · exact bytes_2 g x w
  · exact bytes_4 g x w
  · exact bytes_8 g x w
end Go.Proofs.YtbdkacfddbiclaaDoor

namespace Go.Proofs.YtbdkacfddbiclaaDoor
open Go.RowKit

/-- Calls of Bytes and FromBytes. -/
@[reducible] def RetBy (s : Int) (g : Bool) (v : Int) (z : Nat) (l : List UInt8) : Prop :=
  ∀ w : World, Calls Tryd.prog 27 #[tyV s g, .int .i64 v] w fun e w' => ∃ b, e = .returned (.tuple #[.slice (some ⟨b, 0, none⟩) z z, .int .i64 0]) ∧ w.heap.size ≤ b ∧ BS w' b l ∧ Below w.heap.size w w'
@[reducible] def RetF (s : Int) (g : Bool) (z : Nat) (l : List UInt8) (x e : Int) : Prop :=
  ∀ (w : World) (b cap : Nat), BS w b l → Calls Tryd.prog 29 #[tyV s g, .slice (some ⟨b, 0, none⟩) z cap] w fun r w' => r = .returned (.tuple #[.int .i64 x, .int .i64 e]) ∧ Below w.heap.size w w'
theorem EV.up {W W' : World} (g : Gr W.heap.size W W') (h : EV W) : EV W' := by
  obtain ⟨⟨a, ha, ha'⟩, ⟨b, hb', hb''⟩, hs⟩ := h
  exact ⟨⟨a, grC g ha, ha'⟩, ⟨b, grC g hb', hb''⟩, Nat.lt_of_lt_of_le hs g.size⟩
theorem gr_bytes {B : Nat} {a w : World} (h : Gr B a w) (e : TypeId) (s : ByteArray) : Gr B a (Lib.bytesWorld w e s) := by
  have hz := Lib.bytesWorld_size w e s
  have hs := h.size
  exact ⟨h.below.trans ⟨rfl, rfl, rfl, by omega, fun k hk => Lib.bytesWorld_at_old w e s k (by omega)⟩, by omega⟩
theorem bs_bytes (w : World) (e : TypeId) (s : ByteArray) : BS (Lib.bytesWorld w e s) w.heap.size s.data.toList := by
  intro j hj
  have hj' : j < s.size := by simpa using hj
  rw [Lib.bytesWorld_cell w e s j hj', show s.data.toList.getD j 0 = s.data.toList[j] by rw [List.getD_eq_getElem?_getD, List.getElem?_eq_getElem hj]; rfl]
theorem str_back (s : ByteArray) : (⟨s.data.toList.toArray⟩ : ByteArray) = s := by
  cases s; simp

/-- Region 4 of law.BitsBack. -/
noncomputable def back_r4_code : Code := ((Tryd.f8.body).bind (Code.findR 4)).getD .skip
set_option maxRecDepth 100000 in
set_option maxHeartbeats 4000000 in
theorem back_r4 {Q : Exit → Act → World → Prop} {u0 u2 u4 u5 u6 u7 u8 u9 u10 u11 u12 u13 u14 u15 u16 u17 u18 u19 u20 u21 u22 u23 u24 u25 u26 u27 u28 u29 u30 u31 u32 u33 u34 u35 u36 u37 u38 u39 u40 u41 u42 u43 u44 u45 u46 u47 u48 u49 u50 u51 u52 u53 u54 u55 u56 u57 u58 u59 u60 u61 u62 u63 u64 u65 u66 u67 u68 u69 u70 u71 u72 u73 u74 u75 u76 u77 u78 u79 u80 u81 u82 u83 u84 u85 u86 u87 u88 u89 u90 u91 u92 u93 u94 u95 u96 u97 u98 u99 u100 u101 u102 u103 u104 u105 u106 u107 u108 u109 u110 u111 u112 u113 u114 u115 u116 u117 u118 u119 u120 u121 u122 u123 u124 u125 u126 u127 u128 u129 u130 u131 u132 u133 u134 u135 u136 u137 u138 u139 u140 u141 u142 u143 u144 u145 u146 u147 u148 u149 u150 u151 : Value} {W : World} {a : Nat} {s v x : Int} {g : Bool}  (ha : BoxT W a s g) (HX : RetV 36 #[tyV s g, .int .i64 v] x) (hQ : ∀ (v34 v35 v36 : Value) (W' : World), Gr W.heap.size W W' → Q .normal ⟨#[u0, .int .i64 v, u2, .pointer (some ⟨a, 0, none⟩), u4, u5, u6, u7, .int .i64 x, u9, u10, u11, u12, u13, u14, u15, u16, u17, u18, u19, u20, u21, u22, u23, u24, u25, u26, u27, u28, u29, u30, u31, u32, u33, v34, v35, v36, u37, u38, u39, u40, u41, u42, u43, u44, u45, u46, u47, u48, u49, u50, u51, u52, u53, u54, u55, u56, u57, u58, u59, u60, u61, u62, u63, u64, u65, u66, u67, u68, u69, u70, u71, u72, u73, u74, u75, u76, u77, u78, u79, u80, u81, u82, u83, u84, u85, u86, u87, u88, u89, u90, u91, u92, u93, u94, u95, u96, u97, u98, u99, u100, u101, u102, u103, u104, u105, u106, u107, u108, u109, u110, u111, u112, u113, u114, u115, u116, u117, u118, u119, u120, u121, u122, u123, u124, u125, u126, u127, u128, u129, u130, u131, u132, u133, u134, u135, u136, u137, u138, u139, u140, u141, u142, u143, u144, u145, u146, u147, u148, u149, u150, u151], []⟩ W') : Code.wp Tryd.prog back_r4_code Q ⟨#[u0, .int .i64 v, u2, .pointer (some ⟨a, 0, none⟩), u4, u5, u6, u7, u8, u9, u10, u11, u12, u13, u14, u15, u16, u17, u18, u19, u20, u21, u22, u23, u24, u25, u26, u27, u28, u29, u30, u31, u32, u33, u34, u35, u36, u37, u38, u39, u40, u41, u42, u43, u44, u45, u46, u47, u48, u49, u50, u51, u52, u53, u54, u55, u56, u57, u58, u59, u60, u61, u62, u63, u64, u65, u66, u67, u68, u69, u70, u71, u72, u73, u74, u75, u76, u77, u78, u79, u80, u81, u82, u83, u84, u85, u86, u87, u88, u89, u90, u91, u92, u93, u94, u95, u96, u97, u98, u99, u100, u101, u102, u103, u104, u105, u106, u107, u108, u109, u110, u111, u112, u113, u114, u115, u116, u117, u118, u119, u120, u121, u122, u123, u124, u125, u126, u127, u128, u129, u130, u131, u132, u133, u134, u135, u136, u137, u138, u139, u140, u141, u142, u143, u144, u145, u146, u147, u148, u149, u150, u151], []⟩ W := by
  obtain ⟨hax, hay⟩ := ha
  have zha := szc hax
  conv => arg 2; whnf
  go_wp2_with first | (go_at_call 36; (with_reducible refine (HX _).mono ?_); rintro e w1 ⟨rfl, hb⟩; obtain ⟨os, n, rfl⟩ := Below.moreE hb; clear hb)
  all_goals
    first | exact (by repeat (first | (with_reducible exact Gr.refl _) | with_reducible refine Gr.alloc ?_ _ | with_reducible refine Gr.more ?_ _ _ | with_reducible refine Gr.setCell ?_ (by dsimp only; omega) _ | with_reducible refine Gr.drew ?_)) | exact hQ _ _ _ _ (by repeat (first | (with_reducible exact Gr.refl _) | with_reducible refine Gr.alloc ?_ _ | with_reducible refine Gr.more ?_ _ _ | with_reducible refine Gr.setCell ?_ (by dsimp only; omega) _ | with_reducible refine Gr.drew ?_)) 

/-- Region 5 of law.BitsBack. -/
noncomputable def back_r5_code : Code := ((Tryd.f8.body).bind (Code.findR 5)).getD .skip
set_option maxRecDepth 100000 in
set_option maxHeartbeats 4000000 in
theorem back_r5 {Q : Exit → Act → World → Prop} {u0 u2 u4 u5 u6 u7 u8 u9 u10 u11 u12 u13 u14 u15 u16 u17 u18 u19 u20 u21 u22 u23 u24 u25 u26 u27 u28 u29 u30 u31 u32 u33 u34 u35 u36 u37 u38 u39 u40 u41 u42 u43 u44 u45 u46 u47 u48 u49 u50 u51 u52 u53 u54 u55 u56 u57 u58 u59 u60 u61 u62 u63 u64 u65 u66 u67 u68 u69 u70 u71 u72 u73 u74 u75 u76 u77 u78 u79 u80 u81 u82 u83 u84 u85 u86 u87 u88 u89 u90 u91 u92 u93 u94 u95 u96 u97 u98 u99 u100 u101 u102 u103 u104 u105 u106 u107 u108 u109 u110 u111 u112 u113 u114 u115 u116 u117 u118 u119 u120 u121 u122 u123 u124 u125 u126 u127 u128 u129 u130 u131 u132 u133 u134 u135 u136 u137 u138 u139 u140 u141 u142 u143 u144 u145 u146 u147 u148 u149 u150 u151 : Value} {W : World} {a : Nat} {s v : Int} {g : Bool} {z : Nat} {l : List UInt8} (ha : BoxT W a s g) (HX : RetBy s g v z l) (hQ : ∀ (v38 v39 v40 v37 v41 v42 : Value) (b9 : Nat) (W' : World), Gr W.heap.size W W' → BS W' b9 l → Q .normal ⟨#[u0, .int .i64 v, u2, .pointer (some ⟨a, 0, none⟩), u4, u5, u6, u7, u8, .slice (some ⟨b9, 0, none⟩) z z, .int .i64 0, u11, u12, u13, u14, u15, u16, u17, u18, u19, u20, u21, u22, u23, u24, u25, u26, u27, u28, u29, u30, u31, u32, u33, u34, u35, u36, v37, v38, v39, v40, v41, v42, u43, u44, u45, u46, u47, u48, u49, u50, u51, u52, u53, u54, u55, u56, u57, u58, u59, u60, u61, u62, u63, u64, u65, u66, u67, u68, u69, u70, u71, u72, u73, u74, u75, u76, u77, u78, u79, u80, u81, u82, u83, u84, u85, u86, u87, u88, u89, u90, u91, u92, u93, u94, u95, u96, u97, u98, u99, u100, u101, u102, u103, u104, u105, u106, u107, u108, u109, u110, u111, u112, u113, u114, u115, u116, u117, u118, u119, u120, u121, u122, u123, u124, u125, u126, u127, u128, u129, u130, u131, u132, u133, u134, u135, u136, u137, u138, u139, u140, u141, u142, u143, u144, u145, u146, u147, u148, u149, u150, u151], []⟩ W') : Code.wp Tryd.prog back_r5_code Q ⟨#[u0, .int .i64 v, u2, .pointer (some ⟨a, 0, none⟩), u4, u5, u6, u7, u8, u9, u10, u11, u12, u13, u14, u15, u16, u17, u18, u19, u20, u21, u22, u23, u24, u25, u26, u27, u28, u29, u30, u31, u32, u33, u34, u35, u36, u37, u38, u39, u40, u41, u42, u43, u44, u45, u46, u47, u48, u49, u50, u51, u52, u53, u54, u55, u56, u57, u58, u59, u60, u61, u62, u63, u64, u65, u66, u67, u68, u69, u70, u71, u72, u73, u74, u75, u76, u77, u78, u79, u80, u81, u82, u83, u84, u85, u86, u87, u88, u89, u90, u91, u92, u93, u94, u95, u96, u97, u98, u99, u100, u101, u102, u103, u104, u105, u106, u107, u108, u109, u110, u111, u112, u113, u114, u115, u116, u117, u118, u119, u120, u121, u122, u123, u124, u125, u126, u127, u128, u129, u130, u131, u132, u133, u134, u135, u136, u137, u138, u139, u140, u141, u142, u143, u144, u145, u146, u147, u148, u149, u150, u151], []⟩ W := by
  obtain ⟨hax, hay⟩ := ha
  have zha := szc hax
  conv => arg 2; whnf
  go_wp2_with first | (go_at_call 27; (with_reducible refine (HX _).mono ?_); rintro e w1 ⟨b, rfl, hb0, hbs, hb⟩; obtain ⟨os, n, rfl⟩ := Below.moreE hb; clear hb)
  all_goals
    exact hQ _ _ _ _ _ _ _ _ (by repeat (first | (with_reducible exact Gr.refl _) | with_reducible refine Gr.alloc ?_ _ | with_reducible refine Gr.more ?_ _ _ | with_reducible refine Gr.setCell ?_ (by dsimp only; omega) _ | with_reducible refine Gr.drew ?_)) (by assumption)

/-- Region 6 of law.BitsBack. -/
noncomputable def back_r6_code : Code := ((Tryd.f8.body).bind (Code.findR 6)).getD .skip
set_option maxRecDepth 100000 in
set_option maxHeartbeats 4000000 in
theorem back_r6 {Q : Exit → Act → World → Prop} {u0 u1 u2 u4 u5 u6 u7 u8 u10 u11 u12 u13 u14 u15 u16 u17 u18 u19 u20 u21 u22 u23 u24 u25 u26 u27 u28 u29 u30 u31 u32 u33 u34 u35 u36 u37 u38 u39 u40 u41 u42 u43 u44 u45 u46 u47 u48 u49 u50 u51 u52 u53 u54 u55 u56 u57 u58 u59 u60 u61 u62 u63 u64 u65 u66 u67 u68 u69 u70 u71 u72 u73 u74 u75 u76 u77 u78 u79 u80 u81 u82 u83 u84 u85 u86 u87 u88 u89 u90 u91 u92 u93 u94 u95 u96 u97 u98 u99 u100 u101 u102 u103 u104 u105 u106 u107 u108 u109 u110 u111 u112 u113 u114 u115 u116 u117 u118 u119 u120 u121 u122 u123 u124 u125 u126 u127 u128 u129 u130 u131 u132 u133 u134 u135 u136 u137 u138 u139 u140 u141 u142 u143 u144 u145 u146 u147 u148 u149 u150 u151 : Value} {W : World} {a c z : Nat} {l : List UInt8} {s x : Int} {g : Bool}  (ha : BoxT W a s g) (hl : BS W c l) (HX : RetF s g z l x 0) (hQ : ∀ (v44 v45 v46 v43 v47 v48 : Value) (W' : World), Gr W.heap.size W W' → Q .normal ⟨#[u0, u1, u2, .pointer (some ⟨a, 0, none⟩), u4, u5, u6, u7, u8, .slice (some ⟨c, 0, none⟩) z z, u10, .int .i64 x, .int .i64 0, u13, u14, u15, u16, u17, u18, u19, u20, u21, u22, u23, u24, u25, u26, u27, u28, u29, u30, u31, u32, u33, u34, u35, u36, u37, u38, u39, u40, u41, u42, v43, v44, v45, v46, v47, v48, u49, u50, u51, u52, u53, u54, u55, u56, u57, u58, u59, u60, u61, u62, u63, u64, u65, u66, u67, u68, u69, u70, u71, u72, u73, u74, u75, u76, u77, u78, u79, u80, u81, u82, u83, u84, u85, u86, u87, u88, u89, u90, u91, u92, u93, u94, u95, u96, u97, u98, u99, u100, u101, u102, u103, u104, u105, u106, u107, u108, u109, u110, u111, u112, u113, u114, u115, u116, u117, u118, u119, u120, u121, u122, u123, u124, u125, u126, u127, u128, u129, u130, u131, u132, u133, u134, u135, u136, u137, u138, u139, u140, u141, u142, u143, u144, u145, u146, u147, u148, u149, u150, u151], []⟩ W') : Code.wp Tryd.prog back_r6_code Q ⟨#[u0, u1, u2, .pointer (some ⟨a, 0, none⟩), u4, u5, u6, u7, u8, .slice (some ⟨c, 0, none⟩) z z, u10, u11, u12, u13, u14, u15, u16, u17, u18, u19, u20, u21, u22, u23, u24, u25, u26, u27, u28, u29, u30, u31, u32, u33, u34, u35, u36, u37, u38, u39, u40, u41, u42, u43, u44, u45, u46, u47, u48, u49, u50, u51, u52, u53, u54, u55, u56, u57, u58, u59, u60, u61, u62, u63, u64, u65, u66, u67, u68, u69, u70, u71, u72, u73, u74, u75, u76, u77, u78, u79, u80, u81, u82, u83, u84, u85, u86, u87, u88, u89, u90, u91, u92, u93, u94, u95, u96, u97, u98, u99, u100, u101, u102, u103, u104, u105, u106, u107, u108, u109, u110, u111, u112, u113, u114, u115, u116, u117, u118, u119, u120, u121, u122, u123, u124, u125, u126, u127, u128, u129, u130, u131, u132, u133, u134, u135, u136, u137, u138, u139, u140, u141, u142, u143, u144, u145, u146, u147, u148, u149, u150, u151], []⟩ W := by
  obtain ⟨hax, hay⟩ := ha
  have zha := szc hax
  conv => arg 2; whnf
  go_wp2_with first | (go_at_call 29; (with_reducible refine (HX _ _ _ ?hbs).mono ?_); (try case hbs => exact hl); rintro e w1 ⟨rfl, hb⟩; obtain ⟨os, n, rfl⟩ := Below.moreE hb; clear hb)
  all_goals
    first | exact (by repeat (first | (with_reducible exact Gr.refl _) | with_reducible refine Gr.alloc ?_ _ | with_reducible refine Gr.more ?_ _ _ | with_reducible refine Gr.setCell ?_ (by dsimp only; omega) _ | with_reducible refine Gr.drew ?_)) | exact hQ _ _ _ _ _ _ _ (by repeat (first | (with_reducible exact Gr.refl _) | with_reducible refine Gr.alloc ?_ _ | with_reducible refine Gr.more ?_ _ _ | with_reducible refine Gr.setCell ?_ (by dsimp only; omega) _ | with_reducible refine Gr.drew ?_)) 

/-- Region 7 of law.BitsBack. -/
noncomputable def back_r7_code : Code := ((Tryd.f8.body).bind (Code.findR 7)).getD .skip
set_option maxRecDepth 100000 in
set_option maxHeartbeats 4000000 in
theorem back_r7 {Q : Exit → Act → World → Prop} {u0 u2 u4 u5 u6 u7 u8 u9 u10 u11 u12 u13 u14 u15 u16 u17 u18 u19 u20 u21 u22 u23 u24 u25 u26 u27 u28 u29 u30 u31 u32 u33 u34 u35 u36 u37 u38 u39 u40 u41 u42 u43 u44 u45 u46 u47 u48 u49 u50 u51 u52 u53 u54 u55 u56 u57 u58 u59 u60 u61 u62 u63 u64 u65 u66 u67 u68 u69 u70 u71 u72 u73 u74 u75 u76 u77 u78 u79 u80 u81 u82 u83 u84 u85 u86 u87 u88 u89 u90 u91 u92 u93 u94 u95 u96 u97 u98 u99 u100 u101 u102 u103 u104 u105 u106 u107 u108 u109 u110 u111 u112 u113 u114 u115 u116 u117 u118 u119 u120 u121 u122 u123 u124 u125 u126 u127 u128 u129 u130 u131 u132 u133 u134 u135 u136 u137 u138 u139 u140 u141 u142 u143 u144 u145 u146 u147 u148 u149 u150 u151 : Value} {W : World} {a : Nat} {t : ByteArray} {s v : Int} {g : Bool}  (ha : BoxT W a s g) (HX : RetS 31 #[tyV s g, .int .i64 v] t 0) (hQ : ∀ (v50 v51 v52 v49 v53 v54 : Value) (W' : World), Gr W.heap.size W W' → Q .normal ⟨#[u0, .int .i64 v, u2, .pointer (some ⟨a, 0, none⟩), u4, u5, u6, u7, u8, u9, u10, u11, u12, .string t, .int .i64 0, u15, u16, u17, u18, u19, u20, u21, u22, u23, u24, u25, u26, u27, u28, u29, u30, u31, u32, u33, u34, u35, u36, u37, u38, u39, u40, u41, u42, u43, u44, u45, u46, u47, u48, v49, v50, v51, v52, v53, v54, u55, u56, u57, u58, u59, u60, u61, u62, u63, u64, u65, u66, u67, u68, u69, u70, u71, u72, u73, u74, u75, u76, u77, u78, u79, u80, u81, u82, u83, u84, u85, u86, u87, u88, u89, u90, u91, u92, u93, u94, u95, u96, u97, u98, u99, u100, u101, u102, u103, u104, u105, u106, u107, u108, u109, u110, u111, u112, u113, u114, u115, u116, u117, u118, u119, u120, u121, u122, u123, u124, u125, u126, u127, u128, u129, u130, u131, u132, u133, u134, u135, u136, u137, u138, u139, u140, u141, u142, u143, u144, u145, u146, u147, u148, u149, u150, u151], []⟩ W') : Code.wp Tryd.prog back_r7_code Q ⟨#[u0, .int .i64 v, u2, .pointer (some ⟨a, 0, none⟩), u4, u5, u6, u7, u8, u9, u10, u11, u12, u13, u14, u15, u16, u17, u18, u19, u20, u21, u22, u23, u24, u25, u26, u27, u28, u29, u30, u31, u32, u33, u34, u35, u36, u37, u38, u39, u40, u41, u42, u43, u44, u45, u46, u47, u48, u49, u50, u51, u52, u53, u54, u55, u56, u57, u58, u59, u60, u61, u62, u63, u64, u65, u66, u67, u68, u69, u70, u71, u72, u73, u74, u75, u76, u77, u78, u79, u80, u81, u82, u83, u84, u85, u86, u87, u88, u89, u90, u91, u92, u93, u94, u95, u96, u97, u98, u99, u100, u101, u102, u103, u104, u105, u106, u107, u108, u109, u110, u111, u112, u113, u114, u115, u116, u117, u118, u119, u120, u121, u122, u123, u124, u125, u126, u127, u128, u129, u130, u131, u132, u133, u134, u135, u136, u137, u138, u139, u140, u141, u142, u143, u144, u145, u146, u147, u148, u149, u150, u151], []⟩ W := by
  obtain ⟨hax, hay⟩ := ha
  have zha := szc hax
  conv => arg 2; whnf
  go_wp2_with first | (go_at_call 31; (with_reducible refine (HX _).mono ?_); rintro e w1 ⟨rfl, hb⟩; obtain ⟨os, n, rfl⟩ := Below.moreE hb; clear hb)
  all_goals
    first | exact (by repeat (first | (with_reducible exact Gr.refl _) | with_reducible refine Gr.alloc ?_ _ | with_reducible refine Gr.more ?_ _ _ | with_reducible refine Gr.setCell ?_ (by dsimp only; omega) _ | with_reducible refine Gr.drew ?_)) | exact hQ _ _ _ _ _ _ _ (by repeat (first | (with_reducible exact Gr.refl _) | with_reducible refine Gr.alloc ?_ _ | with_reducible refine Gr.more ?_ _ _ | with_reducible refine Gr.setCell ?_ (by dsimp only; omega) _ | with_reducible refine Gr.drew ?_)) 

/-- Region 8 of law.BitsBack. -/
noncomputable def back_r8_code : Code := ((Tryd.f8.body).bind (Code.findR 8)).getD .skip
set_option maxRecDepth 100000 in
set_option maxHeartbeats 4000000 in
theorem back_r8 {Q : Exit → Act → World → Prop} {u0 u1 u2 u4 u5 u6 u7 u8 u9 u10 u11 u12 u14 u15 u16 u17 u18 u19 u20 u21 u22 u23 u24 u25 u26 u27 u28 u29 u30 u31 u32 u33 u34 u35 u36 u37 u38 u39 u40 u41 u42 u43 u44 u45 u46 u47 u48 u49 u50 u51 u52 u53 u54 u55 u56 u57 u58 u59 u60 u61 u62 u63 u64 u65 u66 u67 u68 u69 u70 u71 u72 u73 u74 u75 u76 u77 u78 u79 u80 u81 u82 u83 u84 u85 u86 u87 u88 u89 u90 u91 u92 u93 u94 u95 u96 u97 u98 u99 u100 u101 u102 u103 u104 u105 u106 u107 u108 u109 u110 u111 u112 u113 u114 u115 u116 u117 u118 u119 u120 u121 u122 u123 u124 u125 u126 u127 u128 u129 u130 u131 u132 u133 u134 u135 u136 u137 u138 u139 u140 u141 u142 u143 u144 u145 u146 u147 u148 u149 u150 u151 : Value} {W : World} {a : Nat} {t : ByteArray} {s x : Int} {g : Bool}  (hE : EV W) (ha : BoxT W a s g) (HX : RetP 33 #[tyV s g, .string t] x 0) (hQ : ∀ (v56 v57 v58 v55 v59 v60 : Value) (W' : World), Gr W.heap.size W W' → Q .normal ⟨#[u0, u1, u2, .pointer (some ⟨a, 0, none⟩), u4, u5, u6, u7, u8, u9, u10, u11, u12, .string t, u14, .int .i64 x, .int .i64 0, u17, u18, u19, u20, u21, u22, u23, u24, u25, u26, u27, u28, u29, u30, u31, u32, u33, u34, u35, u36, u37, u38, u39, u40, u41, u42, u43, u44, u45, u46, u47, u48, u49, u50, u51, u52, u53, u54, v55, v56, v57, v58, v59, v60, u61, u62, u63, u64, u65, u66, u67, u68, u69, u70, u71, u72, u73, u74, u75, u76, u77, u78, u79, u80, u81, u82, u83, u84, u85, u86, u87, u88, u89, u90, u91, u92, u93, u94, u95, u96, u97, u98, u99, u100, u101, u102, u103, u104, u105, u106, u107, u108, u109, u110, u111, u112, u113, u114, u115, u116, u117, u118, u119, u120, u121, u122, u123, u124, u125, u126, u127, u128, u129, u130, u131, u132, u133, u134, u135, u136, u137, u138, u139, u140, u141, u142, u143, u144, u145, u146, u147, u148, u149, u150, u151], []⟩ W') : Code.wp Tryd.prog back_r8_code Q ⟨#[u0, u1, u2, .pointer (some ⟨a, 0, none⟩), u4, u5, u6, u7, u8, u9, u10, u11, u12, .string t, u14, u15, u16, u17, u18, u19, u20, u21, u22, u23, u24, u25, u26, u27, u28, u29, u30, u31, u32, u33, u34, u35, u36, u37, u38, u39, u40, u41, u42, u43, u44, u45, u46, u47, u48, u49, u50, u51, u52, u53, u54, u55, u56, u57, u58, u59, u60, u61, u62, u63, u64, u65, u66, u67, u68, u69, u70, u71, u72, u73, u74, u75, u76, u77, u78, u79, u80, u81, u82, u83, u84, u85, u86, u87, u88, u89, u90, u91, u92, u93, u94, u95, u96, u97, u98, u99, u100, u101, u102, u103, u104, u105, u106, u107, u108, u109, u110, u111, u112, u113, u114, u115, u116, u117, u118, u119, u120, u121, u122, u123, u124, u125, u126, u127, u128, u129, u130, u131, u132, u133, u134, u135, u136, u137, u138, u139, u140, u141, u142, u143, u144, u145, u146, u147, u148, u149, u150, u151], []⟩ W := by
  obtain ⟨hax, hay⟩ := ha
  have zha := szc hax
  conv => arg 2; whnf
  go_wp2_with first | (go_at_call 33; (with_reducible refine (HX _ ?hqq).mono ?_); (try case hqq => exact hE); rintro e w1 ⟨rfl, hb⟩; obtain ⟨os, n, rfl⟩ := Below.moreE hb; clear hb)
  all_goals
    first | exact (by repeat (first | (with_reducible exact Gr.refl _) | with_reducible refine Gr.alloc ?_ _ | with_reducible refine Gr.more ?_ _ _ | with_reducible refine Gr.setCell ?_ (by dsimp only; omega) _ | with_reducible refine Gr.drew ?_)) | exact hQ _ _ _ _ _ _ _ (by repeat (first | (with_reducible exact Gr.refl _) | with_reducible refine Gr.alloc ?_ _ | with_reducible refine Gr.more ?_ _ _ | with_reducible refine Gr.setCell ?_ (by dsimp only; omega) _ | with_reducible refine Gr.drew ?_)) 

/-- Region 11 of law.BitsBack. -/
noncomputable def back_r11_code : Code := ((Tryd.f8.body).bind (Code.findR 11)).getD .skip
set_option maxRecDepth 100000 in
set_option maxHeartbeats 4000000 in
theorem back_r11 {Q : Exit → Act → World → Prop} {u0 u1 u4 u5 u6 u7 u8 u9 u10 u11 u12 u13 u14 u15 u16 u17 u18 u19 u20 u21 u22 u23 u24 u25 u26 u27 u28 u29 u30 u31 u32 u33 u34 u35 u36 u37 u38 u39 u40 u41 u42 u43 u44 u45 u46 u47 u48 u49 u50 u51 u52 u53 u54 u55 u56 u57 u58 u59 u60 u61 u62 u63 u64 u65 u66 u67 u68 u69 u70 u71 u72 u73 u74 u75 u76 u77 u78 u79 u80 u81 u82 u83 u84 u85 u86 u87 u88 u89 u90 u91 u92 u93 u94 u95 u96 u97 u98 u99 u100 u101 u102 u103 u104 u105 u106 u107 u108 u109 u110 u111 u112 u113 u114 u115 u116 u117 u118 u119 u120 u121 u122 u123 u124 u125 u126 u127 u128 u129 u130 u131 u132 u133 u134 u135 u136 u137 u138 u139 u140 u141 u142 u143 u144 u145 u146 u147 u148 u149 u150 u151 : Value} {W : World} {a : Nat} {t : ByteArray} {s x i : Int} {g : Bool}  (ha : BoxT W a s g) (HX : RetF s g t.size t.data.toList x i) (hQ : ∀ (v93 v94 v95 v96 v92 v97 v98 : Value) (W' : World), Gr W.heap.size W W' → Q .normal ⟨#[u0, u1, .string t, .pointer (some ⟨a, 0, none⟩), u4, u5, u6, u7, u8, u9, u10, u11, u12, u13, u14, u15, u16, .int .i64 x, .int .i64 i, u19, u20, u21, u22, u23, u24, u25, u26, u27, u28, u29, u30, u31, u32, u33, u34, u35, u36, u37, u38, u39, u40, u41, u42, u43, u44, u45, u46, u47, u48, u49, u50, u51, u52, u53, u54, u55, u56, u57, u58, u59, u60, u61, u62, u63, u64, u65, u66, u67, u68, u69, u70, u71, u72, u73, u74, u75, u76, u77, u78, u79, u80, u81, u82, u83, u84, u85, u86, u87, u88, u89, u90, u91, v92, v93, v94, v95, v96, v97, v98, u99, u100, u101, u102, u103, u104, u105, u106, u107, u108, u109, u110, u111, u112, u113, u114, u115, u116, u117, u118, u119, u120, u121, u122, u123, u124, u125, u126, u127, u128, u129, u130, u131, u132, u133, u134, u135, u136, u137, u138, u139, u140, u141, u142, u143, u144, u145, u146, u147, u148, u149, u150, u151], []⟩ W') : Code.wp Tryd.prog back_r11_code Q ⟨#[u0, u1, .string t, .pointer (some ⟨a, 0, none⟩), u4, u5, u6, u7, u8, u9, u10, u11, u12, u13, u14, u15, u16, u17, u18, u19, u20, u21, u22, u23, u24, u25, u26, u27, u28, u29, u30, u31, u32, u33, u34, u35, u36, u37, u38, u39, u40, u41, u42, u43, u44, u45, u46, u47, u48, u49, u50, u51, u52, u53, u54, u55, u56, u57, u58, u59, u60, u61, u62, u63, u64, u65, u66, u67, u68, u69, u70, u71, u72, u73, u74, u75, u76, u77, u78, u79, u80, u81, u82, u83, u84, u85, u86, u87, u88, u89, u90, u91, u92, u93, u94, u95, u96, u97, u98, u99, u100, u101, u102, u103, u104, u105, u106, u107, u108, u109, u110, u111, u112, u113, u114, u115, u116, u117, u118, u119, u120, u121, u122, u123, u124, u125, u126, u127, u128, u129, u130, u131, u132, u133, u134, u135, u136, u137, u138, u139, u140, u141, u142, u143, u144, u145, u146, u147, u148, u149, u150, u151], []⟩ W := by
  obtain ⟨hax, hay⟩ := ha
  have zha := szc hax
  have kc := fun w : World => Lib.run_convert_string_bytes (P := Tryd.prog) w 9 39 5 t Tryd.underlying9 Tryd.underlying39 Tryd.underlying5
  have o1 := Lib.bytesWorld_old W 5 t ⟨a, 0, none⟩ zha
  have o2 := Lib.bytesWorld_old W 5 t ⟨a, 1, none⟩ zha
  conv => arg 2; whnf
  go_wp2_with first | (go_at_call 29; (with_reducible refine (HX _ _ _ ?hbs).mono ?_); (try case hbs => exact bs_bytes _ _ _); rintro e w1 ⟨rfl, hb⟩; obtain ⟨os, n, rfl⟩ := Below.moreE hb; clear hb)
  all_goals
    first | exact (by repeat (first | (with_reducible exact Gr.refl _) | with_reducible refine gr_bytes ?_ _ _ | with_reducible refine Gr.alloc ?_ _ | with_reducible refine Gr.more ?_ _ _ | with_reducible refine Gr.setCell ?_ (by dsimp only; omega) _ | with_reducible refine Gr.drew ?_)) | exact hQ _ _ _ _ _ _ _ _ (by repeat (first | (with_reducible exact Gr.refl _) | with_reducible refine gr_bytes ?_ _ _ | with_reducible refine Gr.alloc ?_ _ | with_reducible refine Gr.more ?_ _ _ | with_reducible refine Gr.setCell ?_ (by dsimp only; omega) _ | with_reducible refine Gr.drew ?_)) 

/-- Region 13 of law.BitsBack. -/
noncomputable def back_r13_code : Code := ((Tryd.f8.body).bind (Code.findR 13)).getD .skip
set_option maxRecDepth 100000 in
set_option maxHeartbeats 4000000 in
theorem back_r13 {Q : Exit → Act → World → Prop} {u0 u1 u2 u4 u5 u6 u7 u8 u9 u10 u11 u12 u13 u14 u15 u16 u18 u19 u20 u21 u22 u23 u24 u25 u26 u27 u28 u29 u30 u31 u32 u33 u34 u35 u36 u37 u38 u39 u40 u41 u42 u43 u44 u45 u46 u47 u48 u49 u50 u51 u52 u53 u54 u55 u56 u57 u58 u59 u60 u61 u62 u63 u64 u65 u66 u67 u68 u69 u70 u71 u72 u73 u74 u75 u76 u77 u78 u79 u80 u81 u82 u83 u84 u85 u86 u87 u88 u89 u90 u91 u92 u93 u94 u95 u96 u97 u98 u99 u100 u101 u102 u103 u104 u105 u106 u107 u108 u109 u110 u111 u112 u113 u114 u115 u116 u117 u118 u119 u120 u121 u122 u123 u124 u125 u126 u127 u128 u129 u130 u131 u132 u133 u134 u135 u136 u137 u138 u139 u140 u141 u142 u143 u144 u145 u146 u147 u148 u149 u150 u151 : Value} {W : World} {a : Nat} {s v : Int} {g : Bool} {z : Nat} {l : List UInt8} (ha : BoxT W a s g) (HX : RetBy s g v z l) (hQ : ∀ (v102 v103 v104 v101 v105 v106 : Value) (b19 : Nat) (W' : World), Gr W.heap.size W W' → BS W' b19 l → Q .normal ⟨#[u0, u1, u2, .pointer (some ⟨a, 0, none⟩), u4, u5, u6, u7, u8, u9, u10, u11, u12, u13, u14, u15, u16, .int .i64 v, u18, .slice (some ⟨b19, 0, none⟩) z z, .int .i64 0, u21, u22, u23, u24, u25, u26, u27, u28, u29, u30, u31, u32, u33, u34, u35, u36, u37, u38, u39, u40, u41, u42, u43, u44, u45, u46, u47, u48, u49, u50, u51, u52, u53, u54, u55, u56, u57, u58, u59, u60, u61, u62, u63, u64, u65, u66, u67, u68, u69, u70, u71, u72, u73, u74, u75, u76, u77, u78, u79, u80, u81, u82, u83, u84, u85, u86, u87, u88, u89, u90, u91, u92, u93, u94, u95, u96, u97, u98, u99, u100, v101, v102, v103, v104, v105, v106, u107, u108, u109, u110, u111, u112, u113, u114, u115, u116, u117, u118, u119, u120, u121, u122, u123, u124, u125, u126, u127, u128, u129, u130, u131, u132, u133, u134, u135, u136, u137, u138, u139, u140, u141, u142, u143, u144, u145, u146, u147, u148, u149, u150, u151], []⟩ W') : Code.wp Tryd.prog back_r13_code Q ⟨#[u0, u1, u2, .pointer (some ⟨a, 0, none⟩), u4, u5, u6, u7, u8, u9, u10, u11, u12, u13, u14, u15, u16, .int .i64 v, u18, u19, u20, u21, u22, u23, u24, u25, u26, u27, u28, u29, u30, u31, u32, u33, u34, u35, u36, u37, u38, u39, u40, u41, u42, u43, u44, u45, u46, u47, u48, u49, u50, u51, u52, u53, u54, u55, u56, u57, u58, u59, u60, u61, u62, u63, u64, u65, u66, u67, u68, u69, u70, u71, u72, u73, u74, u75, u76, u77, u78, u79, u80, u81, u82, u83, u84, u85, u86, u87, u88, u89, u90, u91, u92, u93, u94, u95, u96, u97, u98, u99, u100, u101, u102, u103, u104, u105, u106, u107, u108, u109, u110, u111, u112, u113, u114, u115, u116, u117, u118, u119, u120, u121, u122, u123, u124, u125, u126, u127, u128, u129, u130, u131, u132, u133, u134, u135, u136, u137, u138, u139, u140, u141, u142, u143, u144, u145, u146, u147, u148, u149, u150, u151], []⟩ W := by
  obtain ⟨hax, hay⟩ := ha
  have zha := szc hax
  conv => arg 2; whnf
  go_wp2_with first | (go_at_call 27; (with_reducible refine (HX _).mono ?_); rintro e w1 ⟨b, rfl, hb0, hbs, hb⟩; obtain ⟨os, n, rfl⟩ := Below.moreE hb; clear hb)
  all_goals
    exact hQ _ _ _ _ _ _ _ _ (by repeat (first | (with_reducible exact Gr.refl _) | with_reducible refine Gr.alloc ?_ _ | with_reducible refine Gr.more ?_ _ _ | with_reducible refine Gr.setCell ?_ (by dsimp only; omega) _ | with_reducible refine Gr.drew ?_)) (by assumption)

/-- Region 14 of law.BitsBack. -/
noncomputable def back_r14_code : Code := ((Tryd.f8.body).bind (Code.findR 14)).getD .skip
set_option maxRecDepth 100000 in
set_option maxHeartbeats 4000000 in
theorem back_r14 {Q : Exit → Act → World → Prop} {u0 u1 u3 u4 u5 u6 u7 u8 u9 u10 u11 u12 u13 u14 u15 u16 u17 u18 u21 u22 u23 u24 u25 u26 u27 u28 u29 u30 u31 u32 u33 u34 u35 u36 u37 u38 u39 u40 u41 u42 u43 u44 u45 u46 u47 u48 u49 u50 u51 u52 u53 u54 u55 u56 u57 u58 u59 u60 u61 u62 u63 u64 u65 u66 u67 u68 u69 u70 u71 u72 u73 u74 u75 u76 u77 u78 u79 u80 u81 u82 u83 u84 u85 u86 u87 u88 u89 u90 u91 u92 u93 u94 u95 u96 u97 u98 u99 u100 u101 u102 u103 u104 u105 u106 u107 u108 u109 u110 u111 u112 u113 u114 u115 u116 u117 u118 u119 u120 u121 u122 u123 u124 u125 u126 u127 u128 u129 u130 u131 u132 u133 u134 u135 u136 u137 u138 u139 u140 u141 u142 u143 u144 u145 u146 u147 u148 u149 u150 u151 : Value} {W : World} {c z : Nat} {t : ByteArray}  (hl : BS W c t.data.toList) (hz : t.data.toList.length = z) (hQ : ∀ (v107 v108 v109 v110 v111 v112 v113 : Value) (W' : World), Gr W.heap.size W W' → Q .normal ⟨#[u0, u1, .string t, u3, u4, u5, u6, u7, u8, u9, u10, u11, u12, u13, u14, u15, u16, u17, u18, .slice (some ⟨c, 0, none⟩) z z, .int .i64 0, u21, u22, u23, u24, u25, u26, u27, u28, u29, u30, u31, u32, u33, u34, u35, u36, u37, u38, u39, u40, u41, u42, u43, u44, u45, u46, u47, u48, u49, u50, u51, u52, u53, u54, u55, u56, u57, u58, u59, u60, u61, u62, u63, u64, u65, u66, u67, u68, u69, u70, u71, u72, u73, u74, u75, u76, u77, u78, u79, u80, u81, u82, u83, u84, u85, u86, u87, u88, u89, u90, u91, u92, u93, u94, u95, u96, u97, u98, u99, u100, u101, u102, u103, u104, u105, u106, v107, v108, v109, v110, v111, v112, v113, .bool false, u115, u116, u117, u118, u119, u120, u121, u122, u123, u124, u125, u126, u127, u128, u129, u130, u131, u132, u133, u134, u135, u136, u137, u138, u139, u140, u141, u142, u143, u144, u145, u146, u147, u148, u149, u150, u151], []⟩ W') : Code.wp Tryd.prog back_r14_code Q ⟨#[u0, u1, .string t, u3, u4, u5, u6, u7, u8, u9, u10, u11, u12, u13, u14, u15, u16, u17, u18, .slice (some ⟨c, 0, none⟩) z z, .int .i64 0, u21, u22, u23, u24, u25, u26, u27, u28, u29, u30, u31, u32, u33, u34, u35, u36, u37, u38, u39, u40, u41, u42, u43, u44, u45, u46, u47, u48, u49, u50, u51, u52, u53, u54, u55, u56, u57, u58, u59, u60, u61, u62, u63, u64, u65, u66, u67, u68, u69, u70, u71, u72, u73, u74, u75, u76, u77, u78, u79, u80, u81, u82, u83, u84, u85, u86, u87, u88, u89, u90, u91, u92, u93, u94, u95, u96, u97, u98, u99, u100, u101, u102, u103, u104, u105, u106, u107, u108, u109, u110, u111, u112, u113, u114, u115, u116, u117, u118, u119, u120, u121, u122, u123, u124, u125, u126, u127, u128, u129, u130, u131, u132, u133, u134, u135, u136, u137, u138, u139, u140, u141, u142, u143, u144, u145, u146, u147, u148, u149, u150, u151], []⟩ W := by
  have kb : (convert 39 9 (.slice (some ⟨c, 0, none⟩) z z)).run Tryd.prog W = .ok (.string t) W := by
    have h := run_convert_bytes_back (P := Tryd.prog) W 39 9 5 ⟨c, 0, none⟩ z t.data.toList Tryd.underlying39 Tryd.underlying5 Tryd.underlying9 (fun j hj => by rw [show (⟨c, 0, none⟩ : Addr).add j = ⟨c, j, none⟩ by unfold Addr.add; split <;> simp_all]; exact hl j hj)
    rw [hz, str_back] at h
    exact h
  conv => arg 2; whnf
  go_wp2_with fail
  all_goals
    first | exact (by repeat (first | (with_reducible exact Gr.refl _) | with_reducible refine Gr.alloc ?_ _ | with_reducible refine Gr.more ?_ _ _ | with_reducible refine Gr.setCell ?_ (by dsimp only; omega) _ | with_reducible refine Gr.drew ?_)) | exact hQ _ _ _ _ _ _ _ _ (by repeat (first | (with_reducible exact Gr.refl _) | with_reducible refine Gr.alloc ?_ _ | with_reducible refine Gr.more ?_ _ _ | with_reducible refine Gr.setCell ?_ (by dsimp only; omega) _ | with_reducible refine Gr.drew ?_)) 

/-- Region 16 of law.BitsBack. -/
noncomputable def back_r16_code : Code := ((Tryd.f8.body).bind (Code.findR 16)).getD .skip
set_option maxRecDepth 100000 in
set_option maxHeartbeats 4000000 in
theorem back_r16 {Q : Exit → Act → World → Prop} {u0 u1 u4 u5 u6 u7 u8 u9 u10 u11 u12 u13 u14 u15 u16 u17 u18 u19 u20 u21 u22 u23 u24 u25 u26 u27 u28 u29 u30 u31 u32 u33 u34 u35 u36 u37 u38 u39 u40 u41 u42 u43 u44 u45 u46 u47 u48 u49 u50 u51 u52 u53 u54 u55 u56 u57 u58 u59 u60 u61 u62 u63 u64 u65 u66 u67 u68 u69 u70 u71 u72 u73 u74 u75 u76 u77 u78 u79 u80 u81 u82 u83 u84 u85 u86 u87 u88 u89 u90 u91 u92 u93 u94 u95 u96 u97 u98 u99 u100 u101 u102 u103 u104 u105 u106 u107 u108 u109 u110 u111 u112 u113 u114 u115 u116 u117 u118 u119 u120 u121 u122 u123 u124 u125 u126 u127 u128 u129 u130 u131 u132 u133 u134 u135 u136 u137 u138 u139 u140 u141 u142 u143 u144 u145 u146 u147 u148 u149 u150 u151 : Value} {W : World} {a : Nat} {t : ByteArray} {s x i : Int} {g : Bool}  (hE : EV W) (ha : BoxT W a s g) (HX : RetP 33 #[tyV s g, .string t] x i) (hQ : ∀ (v116 v117 v118 v115 v119 v120 : Value) (W' : World), Gr W.heap.size W W' → Q .normal ⟨#[u0, u1, .string t, .pointer (some ⟨a, 0, none⟩), u4, u5, u6, u7, u8, u9, u10, u11, u12, u13, u14, u15, u16, u17, u18, u19, u20, .int .i64 x, .int .i64 i, u23, u24, u25, u26, u27, u28, u29, u30, u31, u32, u33, u34, u35, u36, u37, u38, u39, u40, u41, u42, u43, u44, u45, u46, u47, u48, u49, u50, u51, u52, u53, u54, u55, u56, u57, u58, u59, u60, u61, u62, u63, u64, u65, u66, u67, u68, u69, u70, u71, u72, u73, u74, u75, u76, u77, u78, u79, u80, u81, u82, u83, u84, u85, u86, u87, u88, u89, u90, u91, u92, u93, u94, u95, u96, u97, u98, u99, u100, u101, u102, u103, u104, u105, u106, u107, u108, u109, u110, u111, u112, u113, u114, v115, v116, v117, v118, v119, v120, u121, u122, u123, u124, u125, u126, u127, u128, u129, u130, u131, u132, u133, u134, u135, u136, u137, u138, u139, u140, u141, u142, u143, u144, u145, u146, u147, u148, u149, u150, u151], []⟩ W') : Code.wp Tryd.prog back_r16_code Q ⟨#[u0, u1, .string t, .pointer (some ⟨a, 0, none⟩), u4, u5, u6, u7, u8, u9, u10, u11, u12, u13, u14, u15, u16, u17, u18, u19, u20, u21, u22, u23, u24, u25, u26, u27, u28, u29, u30, u31, u32, u33, u34, u35, u36, u37, u38, u39, u40, u41, u42, u43, u44, u45, u46, u47, u48, u49, u50, u51, u52, u53, u54, u55, u56, u57, u58, u59, u60, u61, u62, u63, u64, u65, u66, u67, u68, u69, u70, u71, u72, u73, u74, u75, u76, u77, u78, u79, u80, u81, u82, u83, u84, u85, u86, u87, u88, u89, u90, u91, u92, u93, u94, u95, u96, u97, u98, u99, u100, u101, u102, u103, u104, u105, u106, u107, u108, u109, u110, u111, u112, u113, u114, u115, u116, u117, u118, u119, u120, u121, u122, u123, u124, u125, u126, u127, u128, u129, u130, u131, u132, u133, u134, u135, u136, u137, u138, u139, u140, u141, u142, u143, u144, u145, u146, u147, u148, u149, u150, u151], []⟩ W := by
  obtain ⟨hax, hay⟩ := ha
  have zha := szc hax
  conv => arg 2; whnf
  go_wp2_with first | (go_at_call 33; (with_reducible refine (HX _ ?hqq).mono ?_); (try case hqq => exact hE); rintro e w1 ⟨rfl, hb⟩; obtain ⟨os, n, rfl⟩ := Below.moreE hb; clear hb)
  all_goals
    first | exact (by repeat (first | (with_reducible exact Gr.refl _) | with_reducible refine Gr.alloc ?_ _ | with_reducible refine Gr.more ?_ _ _ | with_reducible refine Gr.setCell ?_ (by dsimp only; omega) _ | with_reducible refine Gr.drew ?_)) | exact hQ _ _ _ _ _ _ _ (by repeat (first | (with_reducible exact Gr.refl _) | with_reducible refine Gr.alloc ?_ _ | with_reducible refine Gr.more ?_ _ _ | with_reducible refine Gr.setCell ?_ (by dsimp only; omega) _ | with_reducible refine Gr.drew ?_)) 

/-- Region 19 of law.BitsBack. -/
noncomputable def back_r19_code : Code := ((Tryd.f8.body).bind (Code.findR 19)).getD .skip
set_option maxRecDepth 100000 in
set_option maxHeartbeats 4000000 in
theorem back_r19 {Q : Exit → Act → World → Prop} {u0 u1 u2 u4 u5 u6 u7 u8 u9 u10 u11 u12 u13 u14 u15 u16 u17 u18 u19 u20 u22 u23 u24 u25 u26 u27 u28 u29 u30 u31 u32 u33 u34 u35 u36 u37 u38 u39 u40 u41 u42 u43 u44 u45 u46 u47 u48 u49 u50 u51 u52 u53 u54 u55 u56 u57 u58 u59 u60 u61 u62 u63 u64 u65 u66 u67 u68 u69 u70 u71 u72 u73 u74 u75 u76 u77 u78 u79 u80 u81 u82 u83 u84 u85 u86 u87 u88 u89 u90 u91 u92 u93 u94 u95 u96 u97 u98 u99 u100 u101 u102 u103 u104 u105 u106 u107 u108 u109 u110 u111 u112 u113 u114 u115 u116 u117 u118 u119 u120 u121 u122 u123 u124 u125 u126 u127 u128 u129 u130 u131 u132 u133 u134 u135 u136 u137 u138 u139 u140 u141 u142 u143 u144 u145 u146 u147 u148 u149 u150 u151 : Value} {W : World} {a : Nat} {t : ByteArray} {s v : Int} {g : Bool}  (ha : BoxT W a s g) (HX : RetS 31 #[tyV s g, .int .i64 v] t 0) (hQ : ∀ (v140 v141 v142 v139 v143 v144 : Value) (W' : World), Gr W.heap.size W W' → Q .normal ⟨#[u0, u1, u2, .pointer (some ⟨a, 0, none⟩), u4, u5, u6, u7, u8, u9, u10, u11, u12, u13, u14, u15, u16, u17, u18, u19, u20, .int .i64 v, u22, .string t, .int .i64 0, u25, u26, u27, u28, u29, u30, u31, u32, u33, u34, u35, u36, u37, u38, u39, u40, u41, u42, u43, u44, u45, u46, u47, u48, u49, u50, u51, u52, u53, u54, u55, u56, u57, u58, u59, u60, u61, u62, u63, u64, u65, u66, u67, u68, u69, u70, u71, u72, u73, u74, u75, u76, u77, u78, u79, u80, u81, u82, u83, u84, u85, u86, u87, u88, u89, u90, u91, u92, u93, u94, u95, u96, u97, u98, u99, u100, u101, u102, u103, u104, u105, u106, u107, u108, u109, u110, u111, u112, u113, u114, u115, u116, u117, u118, u119, u120, u121, u122, u123, u124, u125, u126, u127, u128, u129, u130, u131, u132, u133, u134, u135, u136, u137, u138, v139, v140, v141, v142, v143, v144, u145, u146, u147, u148, u149, u150, u151], []⟩ W') : Code.wp Tryd.prog back_r19_code Q ⟨#[u0, u1, u2, .pointer (some ⟨a, 0, none⟩), u4, u5, u6, u7, u8, u9, u10, u11, u12, u13, u14, u15, u16, u17, u18, u19, u20, .int .i64 v, u22, u23, u24, u25, u26, u27, u28, u29, u30, u31, u32, u33, u34, u35, u36, u37, u38, u39, u40, u41, u42, u43, u44, u45, u46, u47, u48, u49, u50, u51, u52, u53, u54, u55, u56, u57, u58, u59, u60, u61, u62, u63, u64, u65, u66, u67, u68, u69, u70, u71, u72, u73, u74, u75, u76, u77, u78, u79, u80, u81, u82, u83, u84, u85, u86, u87, u88, u89, u90, u91, u92, u93, u94, u95, u96, u97, u98, u99, u100, u101, u102, u103, u104, u105, u106, u107, u108, u109, u110, u111, u112, u113, u114, u115, u116, u117, u118, u119, u120, u121, u122, u123, u124, u125, u126, u127, u128, u129, u130, u131, u132, u133, u134, u135, u136, u137, u138, u139, u140, u141, u142, u143, u144, u145, u146, u147, u148, u149, u150, u151], []⟩ W := by
  obtain ⟨hax, hay⟩ := ha
  have zha := szc hax
  conv => arg 2; whnf
  go_wp2_with first | (go_at_call 31; (with_reducible refine (HX _).mono ?_); rintro e w1 ⟨rfl, hb⟩; obtain ⟨os, n, rfl⟩ := Below.moreE hb; clear hb)
  all_goals
    first | exact (by repeat (first | (with_reducible exact Gr.refl _) | with_reducible refine Gr.alloc ?_ _ | with_reducible refine Gr.more ?_ _ _ | with_reducible refine Gr.setCell ?_ (by dsimp only; omega) _ | with_reducible refine Gr.drew ?_)) | exact hQ _ _ _ _ _ _ _ (by repeat (first | (with_reducible exact Gr.refl _) | with_reducible refine Gr.alloc ?_ _ | with_reducible refine Gr.more ?_ _ _ | with_reducible refine Gr.setCell ?_ (by dsimp only; omega) _ | with_reducible refine Gr.drew ?_)) 

end Go.Proofs.YtbdkacfddbiclaaDoor

