/-
  The reference of layer 1: Digits, Text.
  The reference of layer 1: digit, number.
  Plain mathematics of layer 1: the text of what was read is what was read.
  Plain mathematics of layer 1: what the reference's Parse accepts.
-/
import Derived.Test.YtbdkacfddbiclaaDoorUa
import Derived.Test.YtbdkacfddbiclaaDoorLr
import Derived.Test.YtbdkacfddbiclaaDoorLk
import Derived.Test.YtbdkacfddbiclaaDoorPe
import Derived.Test.YtbdkacfddbiclaaDoorLp
namespace Go.Proofs.YtbdkacfddbiclaaDoor
open Go.RowKit

set_option maxRecDepth 100000 in
theorem digit_one (d : Nat) (h : d < 10) (w : World) : Calls Tryd.prog 52 #[.int .u64 (d : Int)] w fun e w' => e = .returned (.string ⟨(decD d).toArray⟩) ∧ w' = w := by
  have hd : d = 0 ∨ d = 1 ∨ d = 2 ∨ d = 3 ∨ d = 4 ∨ d = 5 ∨ d = 6 ∨ d = 7 ∨ d = 8 ∨ d = 9 := by omega
  rw [decD_lt h]
  rcases hd with rfl | rfl | rfl | rfl | rfl | rfl | rfl | rfl | rfl | rfl
  all_goals
    go_enter Tryd.func52, Tryd.ntmps52
    go_wp2
    go_ret
    exact ⟨rfl, rfl⟩
theorem decD_two (n : Nat) (h : ¬ n < 10) : decD n = decD (n / 10) ++ decD (n % 10) := by
  rw [decD_ge h, decD_lt (n := n % 10) (by omega)]
set_option maxRecDepth 100000 in
set_option maxHeartbeats 2000000 in
theorem digits_any (n : Nat) : n ≤ 18446744073709551615 → ∀ w : World, Calls Tryd.prog 52 #[.int .u64 (n : Int)] w fun e w' => e = .returned (.string ⟨(decD n).toArray⟩) ∧ w' = w := by
  induction n using Nat.strongRecOn with
  | _ n ih =>
    intro hn w
    by_cases h : n < 10
    · exact digit_one n h w
    · have hi : ¬ (n : Int) < 10 := by omega
      have H1 := ih (n / 10) (by omega) (by omega)
      have H2 := digit_one (n % 10) (by omega)
      rw [decD_two n h]
      have l1 := decD_most 19 (n / 10) (by
        have : (10 : Nat) ^ (19 + 1) = 100000000000000000000 := by decide
        rw [this]; omega)
      have l2 := decD_most 19 (n % 10) (by
        have : (10 : Nat) ^ (19 + 1) = 100000000000000000000 := by decide
        rw [this]; omega)
      generalize decD (n / 10) = A at *
      generalize decD (n % 10) = B at *
      have e1 : (((n / 10 : Nat)) : Int) = (n : Int) / 10 := by omega
      have e2 : (((n % 10 : Nat)) : Int) = (n : Int) % 10 := by omega
      rw [e1] at H1
      rw [e2] at H2
      clear ih e1 e2
      go_enter Tryd.func52, Tryd.ntmps52
      go_wp2_with first | (go_at_call 52; (with_reducible refine (H1 _).mono ?_); rintro e w1 ⟨rfl, rfl⟩) | (go_at_call 52; (with_reducible refine (H2 _).mono ?_); rintro e w1 ⟨rfl, rfl⟩)
      go_ret
      exact ⟨rfl, rfl⟩
set_option maxRecDepth 100000 in
set_option maxHeartbeats 2000000 in
theorem rtext_ok {s : Int} (v : validB s = true) (g : Bool) (y : Int) (hy : I64 y) : RetS 32 #[tyV s g, .int .i64 y] ⟨(textL g (wrapI s g y)).toArray⟩ 0 := fun w => by
  have HK := rcheck_ok v g
  have HW := rwrapped_any s g y
  have hx := Rg_I64 (Rg_wrap s g y hy)
  generalize wrapI s g y = x at *
  obtain ⟨x1, x2⟩ := hx
  cases hn : negB g x
  · have hm : magI g x = u64 x := by
      unfold magI; rw [if_neg]; intro hc; simp [negB, hc.1, hc.2] at hn
    have et : textL g x = decD (u64 x).toNat := by unfold textL; rw [hn, hm]; rfl
    have HD := digits_any (u64 x).toNat (by have := u64_bd x; omega)
    have e : ((u64 x).toNat : Int) = u64 x := by have := u64_bd x; omega
    rw [e] at HD
    rw [et]
    clear et hm e
    generalize decD (u64 x).toNat = D at *
    unfold u64 at HD
    cases g
    · go_enter Tryd.func32, Tryd.ntmps32
      go_wp2_with first | (go_at_call 24; (refine (HK _).mono ?_); rintro e w1 ⟨rfl, hb⟩; obtain ⟨os, n, rfl⟩ := Below.moreE hb; clear hb) | (go_at_call 42; (refine (HW _).mono ?_); rintro e w1 ⟨rfl, hb⟩; obtain ⟨os, n, rfl⟩ := Below.moreE hb; clear hb) | (go_at_call 52; (with_reducible refine (HD _).mono ?_); rintro e w1 ⟨rfl, rfl⟩)
      refine bodyPost_ret (v := .tuple #[.string ⟨D.toArray⟩, .int .i64 0]) (by simp [results, Tryd.results32, go_sem]) rfl ⟨rfl, (Gr.below (by repeat (first | (with_reducible exact Gr.refl _) | with_reducible refine Gr.alloc ?_ _ | with_reducible refine Gr.more ?_ _ _ | with_reducible refine Gr.setCell ?_ (by dsimp only; omega) _ | with_reducible refine Gr.drew ?_)))⟩
    · have hx0 : ¬ x < 0 := by simpa [negB] using hn
      clear hn
      have ex : IntKind.u64.wrap x = x := by have h := u64_eq x; unfold u64 at h; omega
      rw [ex] at HD
      clear ex
      go_enter Tryd.func32, Tryd.ntmps32
      go_wp2_with first | (go_at_call 24; (refine (HK _).mono ?_); rintro e w1 ⟨rfl, hb⟩; obtain ⟨os, n, rfl⟩ := Below.moreE hb; clear hb) | (go_at_call 42; (refine (HW _).mono ?_); rintro e w1 ⟨rfl, hb⟩; obtain ⟨os, n, rfl⟩ := Below.moreE hb; clear hb) | (go_at_call 52; (with_reducible refine (HD _).mono ?_); rintro e w1 ⟨rfl, rfl⟩)
      refine bodyPost_ret (v := .tuple #[.string ⟨D.toArray⟩, .int .i64 0]) (by simp [results, Tryd.results32, go_sem]) rfl ⟨rfl, (Gr.below (by repeat (first | (with_reducible exact Gr.refl _) | with_reducible refine Gr.alloc ?_ _ | with_reducible refine Gr.more ?_ _ _ | with_reducible refine Gr.setCell ?_ (by dsimp only; omega) _ | with_reducible refine Gr.drew ?_)))⟩
  · have hgx : g = true ∧ x < 0 := by simpa [negB] using hn
    obtain ⟨rfl, hx0⟩ := hgx
    have hm := (mag_eq true x ⟨x1, x2⟩).1
    rw [hn, if_pos rfl] at hm
    have et : textL true x = 45 :: decD (-x).toNat := by unfold textL; rw [hn, hm]; rfl
    have HD := digits_any (-x).toNat (by omega)
    have e : ((-x).toNat : Int) = -(x + 1) + 1 := by omega
    rw [e] at HD
    rw [et]
    have l1 := decD_most 19 (-x).toNat (by
      have : (10 : Nat) ^ (19 + 1) = 100000000000000000000 := by decide
      rw [this]; omega)
    clear et hm e hn
    generalize decD (-x).toNat = D at *
    go_enter Tryd.func32, Tryd.ntmps32
    go_wp2_with first | (go_at_call 24; (refine (HK _).mono ?_); rintro e w1 ⟨rfl, hb⟩; obtain ⟨os, n, rfl⟩ := Below.moreE hb; clear hb) | (go_at_call 42; (refine (HW _).mono ?_); rintro e w1 ⟨rfl, hb⟩; obtain ⟨os, n, rfl⟩ := Below.moreE hb; clear hb) | (go_at_call 52; (with_reducible refine (HD _).mono ?_); rintro e w1 ⟨rfl, rfl⟩)
    refine bodyPost_ret (v := .tuple #[.string ⟨(45 :: D).toArray⟩, .int .i64 0]) (by simp [results, Tryd.results32, go_sem]; try rfl) rfl ⟨rfl, (Gr.below (by repeat (first | (with_reducible exact Gr.refl _) | with_reducible refine Gr.alloc ?_ _ | with_reducible refine Gr.more ?_ _ _ | with_reducible refine Gr.setCell ?_ (by dsimp only; omega) _ | with_reducible refine Gr.drew ?_)))⟩
end Go.Proofs.YtbdkacfddbiclaaDoor

namespace Go.Proofs.YtbdkacfddbiclaaDoor
open Go.RowKit

/-- A digit's value, by the reference. -/
def dgI (c : Int) : Int := if 48 ≤ c ∧ c ≤ 57 then c - 48 else if 97 ≤ c ∧ c ≤ 102 then c - 87 else if 65 ≤ c ∧ c ≤ 70 then c - 55 else -1
theorem dg_fin : ∀ n : Fin 256, (dgI (n.val : Int) = -1 ∧ ¬ dvI (n.val : Int) < 16) ∨ (0 ≤ dgI (n.val : Int) ∧ dgI (n.val : Int) < 16 ∧ dvI (n.val : Int) = dgI (n.val : Int)) := by decide +kernel
theorem dg_of (c : UInt8) : (dgI (c.toNat : Int) = -1 ∧ ¬ dvI (c.toNat : Int) < 16) ∨ (0 ≤ dgI (c.toNat : Int) ∧ dgI (c.toNat : Int) < 16 ∧ dvI (c.toNat : Int) = dgI (c.toNat : Int)) := dg_fin ⟨c.toNat, c.toNat_lt⟩
set_option maxHeartbeats 1000000 in
theorem rdigit_any (c : Int) (h0 : 0 ≤ c) (h1 : c ≤ 255) (w : World) : Calls Tryd.prog 76 #[.int .u8 c] w fun e w' => e = .returned (.int .i64 (dgI c)) ∧ w' = w := by
  by_cases d1 : 48 ≤ c
  · by_cases d2 : c ≤ 57
    · have e : dgI c = c - 48 := by unfold dgI; rw [if_pos ⟨d1, d2⟩]
      have k : IntKind.u8.wrap (c - 48) = c - 48 := by simp [IntKind.wrap, IntKind.bits, IntKind.signed]; omega
      have k2 : wrap64 (c - 48) = c - 48 := by unfold wrap64; omega
      have k3 : (c - 48) % 256 = c - 48 := by omega
      rw [e]
      go_enter Tryd.func76, Tryd.ntmps76
      go_wp2
      go_ret
      exact ⟨ret_int (by first | rfl | simp [*]), rfl⟩
    · by_cases d3 : 97 ≤ c
      · by_cases d4 : c ≤ 102
        · have e : dgI c = c - 87 := by unfold dgI; rw [if_neg (by omega), if_pos ⟨d3, d4⟩]
          have k3 : (c - 97) % 256 = c - 97 := by omega
          have k2 : wrap64 (c - 97 + 10) = c - 87 := by unfold wrap64; omega
          have k4 : wrap64 (c - 97) = c - 97 := by unfold wrap64; omega
          rw [e]
          go_enter Tryd.func76, Tryd.ntmps76
          go_wp2
          go_ret
          exact ⟨ret_int (by first | rfl | omega | (simp [*]; done) | (simp [*]; omega)), rfl⟩
        · have e : dgI c = -1 := by unfold dgI; rw [if_neg (by omega), if_neg (by omega), if_neg (by omega)]
          have d5 : ¬ c ≤ 70 := by omega
          have d6 : 65 ≤ c := by omega
          rw [e]
          go_enter Tryd.func76, Tryd.ntmps76
          go_wp2
          go_ret
          exact ⟨ret_int (by first | rfl | simp [*]), rfl⟩
      · by_cases d5 : 65 ≤ c
        · by_cases d6 : c ≤ 70
          · have e : dgI c = c - 55 := by unfold dgI; rw [if_neg (by omega), if_neg (by omega), if_pos ⟨d5, d6⟩]
            have k3 : (c - 65) % 256 = c - 65 := by omega
            have k2 : wrap64 (c - 65 + 10) = c - 55 := by unfold wrap64; omega
            have k4 : wrap64 (c - 65) = c - 65 := by unfold wrap64; omega
            rw [e]
            go_enter Tryd.func76, Tryd.ntmps76
            go_wp2
            go_ret
            exact ⟨ret_int (by first | rfl | omega | (simp [*]; done) | (simp [*]; omega)), rfl⟩
          · have e : dgI c = -1 := by unfold dgI; rw [if_neg (by omega), if_neg (by omega), if_neg (by omega)]
            rw [e]
            go_enter Tryd.func76, Tryd.ntmps76
            go_wp2
            go_ret
            exact ⟨ret_int (by first | rfl | simp [*]), rfl⟩
        · have e : dgI c = -1 := by unfold dgI; rw [if_neg (by omega), if_neg (by omega), if_neg (by omega)]
          rw [e]
          go_enter Tryd.func76, Tryd.ntmps76
          go_wp2
          go_ret
          exact ⟨ret_int (by first | rfl | simp [*]), rfl⟩
  · have e : dgI c = -1 := by unfold dgI; rw [if_neg (by omega), if_neg (by omega), if_neg (by omega)]
    have d3 : ¬ 97 ≤ c := by omega
    have d5 : ¬ 65 ≤ c := by omega
    rw [e]
    go_enter Tryd.func76, Tryd.ntmps76
    go_wp2
    go_ret
    exact ⟨ret_int (by first | rfl | simp [*]), rfl⟩

theorem dvI_nn (c : UInt8) : 0 ≤ dvI (c.toNat : Int) := by
  unfold dvI
  split
  · omega
  · split <;> omega
theorem valI_take (b : Int) (hb : 1 ≤ b) (l : List UInt8) : ∀ k : Nat, valI b (l.take k) ≤ valI b l := by
  have step : ∀ k : Nat, valI b (l.take k) ≤ valI b (l.take (k + 1)) := by
    intro k
    by_cases h : k < l.length
    · rw [List.take_succ_eq_append_getElem h, valI_snoc]
      have h1 := valI_nn b (by omega) (l.take k)
      have h2 := dvI_nn l[k]
      have : valI b (l.take k) * 1 ≤ valI b (l.take k) * b := Int.mul_le_mul_of_nonneg_left hb h1
      omega
    · rw [List.take_of_length_le (by omega), List.take_of_length_le (by omega)]
      exact Int.le_refl _
  have up : ∀ n k : Nat, valI b (l.take k) ≤ valI b (l.take (k + n)) := by
    intro n
    induction n with
    | zero => intro k; exact Int.le_refl _
    | succ n ih => intro k; exact Int.le_trans (ih k) (step (k + n))
  intro k
  have := up l.length k
  rw [List.take_of_length_le (show l.length ≤ k + l.length by omega)] at this
  exact this

theorem puOK_false_digit (b : Int) (hb : b ≤ 16) {l : List UInt8} {k : Nat} (hk : k < l.length) (h : dgI (l[k].toNat : Int) < 0 ∨ b ≤ dgI (l[k].toNat : Int)) : puOK b l = false := by
  have hn : ¬ dvI (l[k].toNat : Int) < b := by
    rcases dg_of l[k] with ⟨h1, h2⟩ | ⟨h1, h2, h3⟩ <;> omega
  have : allD b l = false := by
    unfold allD
    rw [List.all_eq_false]
    exact ⟨l[k], List.getElem_mem hk, by simpa using hn⟩
  simp [puOK, this]
theorem puOK_false_big (b : Int) {l : List UInt8} (h : ¬ valI b l ≤ 18446744073709551615) : puOK b l = false := by
  have : decide (valI b l ≤ U64M) = false := decide_eq_false h
  simp [puOK, this]
/-- What the reference's number returns. -/
def nuV (b : Int) (l : List UInt8) : Int := if puOK b l = true then valI b l else 0
set_option maxRecDepth 100000 in
set_option maxHeartbeats 4000000 in
theorem rnumber_any (b : Int) (hb : b = 10 ∨ b = 16) (t : ByteArray) (l : List UInt8) (hl : t.data.toList = l) (hsz : t.size ≤ 140737488351232) (w : World) : Calls Tryd.prog 57 #[.string t, .int .u64 b] w fun e w' => e = .returned (.tuple #[.int .u64 (nuV b l), .bool (puOK b l)]) ∧ Below w.heap.size w w' := by
  have hlen : l.length = t.size := by rw [← hl]; exact Array.length_toList
  have hget : ∀ (K : Nat) (h : K < t.size), (t[K].toNat : Int) = (l[K]'(by omega)).toNat := by
    intro K h
    subst hl
    rfl
  have Hget := Lib.hid hget
  have Hb := Lib.hid hb
  clear hget hl
  have b1 : 1 ≤ b := by omega
  have b16 : b ≤ 16 := by omega
  clear hb
  go_enter Tryd.func57, Tryd.ntmps57
  go_upto_region 2 with fail
  go_wp2_with fail
  go_loopw [6, 7] (fun a i wr => ∃ (K : Nat) (u : Int), K ≤ t.size ∧ a = .int .u64 u ∧ i = .int .i64 (K : Int) ∧ 0 ≤ u ∧ u ≤ 18446744073709551615 ∧ u = valI b (l.take K) ∧ allD b (l.take K) = true ∧ wr = w) (fun _ i _ => (t.size - intOf i).toNat)
  case atStart => exact ⟨0, 0, by omega, rfl, rfl, by omega, by omega, rfl, rfl, rfl⟩
  case round =>
    obtain ⟨K, u, hK, rfl, rfl, hu0, hu1, huv, ha, rfl⟩ := hrel
    by_cases hk : K < t.size
    · have hki : (K : Int) < (t.size : Int) := by omega
      have hk0 : (0 : Int) ≤ (K : Int) := by omega
      have hw1 : wrap64 ((K : Int) + 1) = (K : Int) + 1 := by unfold wrap64; omega
      have hc := Hget.out K hk
      have hkl : K < l.length := by omega
      have htk : l.take (K + 1) = l.take K ++ [l[K]] := List.take_succ_eq_append_getElem hkl
      have Hbad := Lib.hid (fun h => puOK_false_digit b b16 hkl h)
      generalize l[K] = c at hc htk Hbad
      have Hdg := Lib.hid (dg_of c)
      have HD := rdigit_any (c.toNat : Int) (by omega) (by have := c.toNat_lt; omega)
      generalize dgI (c.toNat : Int) = d at HD Hdg Hbad
      have Huv := Lib.hid huv
      have Ha := Lib.hid ha
      clear huv ha
      by_cases hbd : d < 0 ∨ b ≤ d
      · have hp : puOK b l = false := Hbad.out hbd
        have hv : nuV b l = 0 := by unfold nuV; rw [hp]; rfl
        rcases Hdg.out with ⟨rfl, _⟩ | ⟨h0, h1, _⟩
        · go_wp2_with (go_at_call 76; (refine (HD _).mono ?_); rintro e w1 ⟨rfl, rfl⟩)
          refine bodyPost_ret (v := .tuple #[.int .u64 0, .bool false]) (by simp [results, Tryd.results57, go_sem]) rfl ⟨by rw [hp, hv], Below.refl _ _⟩
        · have hd0 : ¬ d < 0 := by omega
          have hdb : b ≤ d := by omega
          have k1 : d % 18446744073709551616 = d := by omega
          have k2 : IntKind.u64.wrap d = d := by simp [IntKind.wrap, IntKind.bits, IntKind.signed]; omega
          go_wp2_with (go_at_call 76; (refine (HD _).mono ?_); rintro e w1 ⟨rfl, rfl⟩)
          refine bodyPost_ret (v := .tuple #[.int .u64 0, .bool false]) (by simp [results, Tryd.results57, go_sem]) rfl ⟨by rw [hp, hv], Below.refl _ _⟩
      · have hd0 : ¬ d < 0 := by omega
        have hd0' : 0 ≤ d := by omega
        have hdb : ¬ b ≤ d := by omega
        have k1 : d % 18446744073709551616 = d := by omega
        have k2 : IntKind.u64.wrap d = d := by simp [IntKind.wrap, IntKind.bits, IntKind.signed]; omega
        have k3 : IntKind.u64.wrap (18446744073709551615 - d) = 18446744073709551615 - d := by simp [IntKind.wrap, IntKind.bits, IntKind.signed]; omega
        have hb0 : b ≠ 0 := by omega
        have hdv : dvI (c.toNat : Int) = d := by rcases Hdg.out with ⟨h, _⟩ | ⟨_, _, h⟩ <;> omega
        have hval : valI b (l.take (K + 1)) = u * b + d := by rw [htk, valI_snoc, hdv, ← Huv.out]
        have hbp : 0 < b := by omega
        by_cases hq : (18446744073709551615 - d) / b < u
        · have hlt : ¬ valI b l ≤ 18446744073709551615 := by
            have h1 := valI_take b b1 l (K + 1)
            rw [hval] at h1
            have h2 := (Int.ediv_lt_iff_lt_mul hbp).1 hq
            omega
          have hp : puOK b l = false := puOK_false_big b hlt
          have hv : nuV b l = 0 := by unfold nuV; rw [hp]; rfl
          clear hdv hval hlt
          go_wp2_with (go_at_call 76; (refine (HD _).mono ?_); rintro e w1 ⟨rfl, rfl⟩)
          refine bodyPost_ret (v := .tuple #[.int .u64 0, .bool false]) (by simp [results, Tryd.results57, go_sem]) rfl ⟨by rw [hp, hv], Below.refl _ _⟩
        · have hle : u * b ≤ 18446744073709551615 - d := (Int.le_ediv_iff_mul_le hbp).1 (by omega)
          have hP : 0 ≤ u * b := Int.mul_nonneg hu0 (by omega)
          have wu : ∀ n : Int, IntKind.u64.wrap n = n % 18446744073709551616 := fun n => by simp [IntKind.wrap, IntKind.bits, IntKind.signed]
          have hnew : IntKind.u64.wrap (IntKind.u64.wrap (b * u) + d) = u * b + d := by
            rw [wu, wu, Int.mul_comm b u]
            generalize u * b = P at *
            omega
          have Hnew := Lib.hid hnew
          have Hval := Lib.hid hval
          have hall : allD b (l.take (K + 1)) = true := by
            rw [htk]
            have := Ha.out
            unfold allD at this ⊢
            rw [List.all_append, this]
            simp [hdv]
            omega
          clear hdv hval hnew wu
          go_wp2_with (go_at_call 76; (refine (HD _).mono ?_); rintro e w1 ⟨rfl, rfl⟩)
          first
            | (go_roundw
               case rel => exact ⟨K + 1, u * b + d, by omega, by rw [Hnew.out], by simp, by omega, by omega, Hval.out.symm, hall, rfl⟩
               case measure => simp [intOf]; omega)
            | exact ⟨⟨K + 1, u * b + d, by omega, by rw [Hnew.out], by simp, by omega, by omega, Hval.out.symm, hall, trivial⟩, by simp [intOf]; omega⟩
            | exact ⟨⟨K + 1, u * b + d, by omega, by rw [Hnew.out], by simp, by omega, by omega, Hval.out.symm, hall, rfl⟩, by simp [intOf]; omega⟩
    · have hKs : K = l.length := by omega
      have e : l.take K = l := by rw [hKs]; exact List.take_length
      rw [e] at huv ha
      have hki : ¬ (K : Int) < (t.size : Int) := by omega
      by_cases hz : 0 < t.size
      · have hne : l.isEmpty = false := by
          cases l with
          | nil => simp at hlen; omega
          | cons _ _ => rfl
        have hp : puOK b l = true := by
          unfold puOK
          rw [hne, ha, ← huv]
          simp [U64M, hu1]
        have hv : nuV b l = u := by unfold nuV; rw [hp, if_pos rfl, huv]
        clear huv ha e
        go_wp2
        refine bodyPost_ret (v := .tuple #[.int .u64 u, .bool true]) (by simp [results, Tryd.results57, go_sem]; try omega) rfl ⟨by first | rfl | rw [hp, hv], Below.refl _ _⟩
      · have hne : l.isEmpty = true := by
          cases l with
          | nil => rfl
          | cons _ _ => simp at hlen; omega
        have hp : puOK b l = false := by unfold puOK; rw [hne]; rfl
        have hl0 : l = [] := by simpa using hne
        have hu : u = 0 := by rw [huv, hl0]; rfl
        have hv : nuV b l = u := by unfold nuV; rw [hp, hu]; rfl
        clear huv ha e hu
        go_wp2
        refine bodyPost_ret (v := .tuple #[.int .u64 u, .bool false]) (by simp [results, Tryd.results57, go_sem]; try omega) rfl ⟨by first | rfl | rw [hp, hv] | (rw [hl0] at hp hv; rw [hp, hv]), Below.refl _ _⟩
end Go.Proofs.YtbdkacfddbiclaaDoor

namespace Go.Proofs.YtbdkacfddbiclaaDoor
open Go.RowKit

theorem dv_lt {c : UInt8} (h : dvI ((c.toNat : Nat) : Int) < 10) : 48 ≤ c.toNat ∧ c.toNat ≤ 57 ∧ dvI ((c.toNat : Nat) : Int) = (c.toNat : Int) - 48 := by
  unfold dvI at h ⊢
  split at h
  · next h1 => rw [if_pos h1]; omega
  · split at h
    · next h1 => omega
    · omega
theorem dv_back {c : UInt8} (h : dvI ((c.toNat : Nat) : Int) < 10) : UInt8.ofNat (48 + (dvI ((c.toNat : Nat) : Int)).toNat) = c := by
  have k := dv_lt h
  rw [k.2.2]
  have e : 48 + ((c.toNat : Int) - 48).toNat = c.toNat := by omega
  rw [e]
  simp
theorem decD_valI (n : Nat) : ∀ D : List UInt8, D.length = n → D ≠ [] → allD 10 D = true → zeroFirst D = false → decD (valI 10 D).toNat = D := by
  induction n with
  | zero => intro D hl hn; exact absurd (List.length_eq_zero_iff.1 hl) hn
  | succ n ih =>
    intro D hl hn ha hz
    have hD := List.dropLast_concat_getLast hn
    generalize D.dropLast = E at hD
    generalize D.getLast hn = c at hD
    subst hD
    have hc : dvI ((c.toNat : Nat) : Int) < 10 := by
      unfold allD at ha
      rw [List.all_eq_true] at ha
      have := ha c (by simp)
      simpa using this
    have hE : allD 10 E = true := by
      unfold allD at ha ⊢
      rw [List.all_eq_true] at ha ⊢
      intro x hx
      exact ha x (by simp [hx])
    have b := dv_lt hc
    rw [valI_snoc]
    by_cases h0 : E = []
    · subst h0
      have e : (valI 10 ([] : List UInt8) * 10 + dvI ((c.toNat : Nat) : Int)).toNat = (dvI ((c.toNat : Nat) : Int)).toNat := by simp [valI]
      rw [e, decD_lt (by omega), dv_back hc]
      rfl
    · have hlE : E.length = n := by simpa using hl
      have hl1 : 0 < E.length := by
        cases E with
        | nil => exact absurd rfl h0
        | cons _ _ => simp
      have hh : E.head? ≠ some 48 := by
        intro e
        unfold zeroFirst at hz
        have h1 : (E ++ [c]).head? = some 48 := by
          cases E with
          | nil => exact absurd rfl h0
          | cons _ _ => simpa using e
        rw [h1] at hz
        have h2 : 1 < (E ++ [c]).length := by simp; omega
        rw [decide_eq_true h2] at hz
        exact absurd hz (by decide)
      have hzE : zeroFirst E = false := by
        unfold zeroFirst
        simp [hh]
      have i := ih E hlE h0 hE hzE
      have hv0 := valI_nn 10 (by omega) E
      have hv : valI 10 E ≠ 0 := by
        intro e
        rw [e] at i
        rw [← i] at hh
        exact hh (by rw [show (0 : Int).toNat = 0 from rfl, decD_lt (by omega)]; rfl)
      have e1 : (valI 10 E * 10 + dvI ((c.toNat : Nat) : Int)).toNat / 10 = (valI 10 E).toNat := by omega
      have e2 : (valI 10 E * 10 + dvI ((c.toNat : Nat) : Int)).toNat % 10 = (dvI ((c.toNat : Nat) : Int)).toNat := by omega
      rw [decD_ge (by omega), e1, e2, i, dv_back hc]

theorem rest_of_min {l : List UInt8} (h : minL l = true) : l = 45 :: restM l := by
  have h' := h
  unfold minL Lib.hasPrefix at h'
  unfold restM Lib.trimPrefix
  unfold minL at h
  rw [h]
  match l, h' with
  | a :: l', h' =>
    simp [List.isPrefixOf] at h'
    simp [h']
theorem rest_of_not {l : List UInt8} (h : minL l = false) : restM l = l := by
  unfold restM Lib.trimPrefix
  unfold minL at h
  rw [h]
  rfl

/-- The text of a decimal number that was read is the string. -/
theorem par_text {s : Int} (hv : validB s = true) (g : Bool) (l : List UInt8) (h : parOK s g l = true) (hx : hexL l = false) : textL g (wrapI s g (parN l)) = l := by
  unfold parOK at h
  rw [hx, if_neg (by simp)] at h
  simp only [Bool.and_eq_true] at h
  obtain ⟨⟨hd, h0⟩, hn⟩ := h
  unfold decOK puOK at hd
  simp only [Bool.and_eq_true, Bool.not_eq_true', decide_eq_true_eq] at hd
  obtain ⟨hz, ⟨he, ha⟩, hU⟩ := hd
  have hne : restM l ≠ [] := by intro e; rw [e] at he; simp at he
  have key := decD_valI _ (restM l) rfl hne ha hz
  have v0 := valI_nn 10 (by omega) (restM l)
  unfold parN
  rw [hx, if_neg (by simp)]
  have hU' : valI 10 (restM l) ≤ 18446744073709551615 := hU
  cases hm : minL l
  · rw [hm] at hn h0
    have er := rest_of_not hm
    rw [er] at key hn v0 hU' ⊢
    generalize valI 10 l = m at *
    have fin : wrapI s g (nmV false m) = nmV false m ∧ negB g (nmV false m) = false ∧ magI g (nmV false m) = m := by
      simp only [nmOK, nmV, u64_eq] at hn ⊢
      rcases (valid_iff s).1 hv with rfl | rfl | rfl | rfl <;> cases g <;> simp [rgH] at hn <;> simp [wrapI, negB, magI, u64_eq, wrap64] <;> omega
    rw [fin.1]
    unfold textL
    rw [fin.2.1, fin.2.2, key]
    rfl
  · rw [hm] at hn h0
    have er := rest_of_min hm
    generalize restM l = D at *
    generalize valI 10 D = m at *
    have hm0 : m ≠ 0 := by
      intro e
      rw [e] at h0
      simp at h0
    have hg : g = true := by
      cases g
      · simp [nmOK, rgL, u64_eq] at hn
        omega
      · rfl
    subst hg
    have fin : wrapI s true (nmV true m) = nmV true m ∧ negB true (nmV true m) = true ∧ magI true (nmV true m) = m := by
      simp only [nmOK, nmV, u64_eq] at hn ⊢
      rcases (valid_iff s).1 hv with rfl | rfl | rfl | rfl <;> simp [rgL] at hn <;> simp [wrapI, negB, magI, u64_eq, wrap64] <;> omega
    rw [fin.1]
    unfold textL
    rw [fin.2.1, fin.2.2, key]
    exact er.symm
end Go.Proofs.YtbdkacfddbiclaaDoor

namespace Go.Proofs.YtbdkacfddbiclaaDoor
open Go.RowKit

/-- The text of a decimal number that was read is the string. -/
theorem par_both {s : Int} (hv : validB s = true) (g : Bool) (l : List UInt8) (h : parOK s g l = true) (hx : hexL l = false) : wrapI s g (parN l) = parN l ∧ textL g (parN l) = l := by
  unfold parOK at h
  rw [hx, if_neg (by simp)] at h
  simp only [Bool.and_eq_true] at h
  obtain ⟨⟨hd, h0⟩, hn⟩ := h
  unfold decOK puOK at hd
  simp only [Bool.and_eq_true, Bool.not_eq_true', decide_eq_true_eq] at hd
  obtain ⟨hz, ⟨he, ha⟩, hU⟩ := hd
  have hne : restM l ≠ [] := by intro e; rw [e] at he; simp at he
  have key := decD_valI _ (restM l) rfl hne ha hz
  have v0 := valI_nn 10 (by omega) (restM l)
  have hp : parN l = nmV (minL l) (valI 10 (restM l)) := by unfold parN; rw [hx, if_neg (by simp)]
  rw [hp]
  clear hp
  have hU' : valI 10 (restM l) ≤ 18446744073709551615 := hU
  cases hm : minL l
  · rw [hm] at hn h0
    have er := rest_of_not hm
    rw [er] at key hn v0 hU' ⊢
    generalize valI 10 l = m at *
    have fin : wrapI s g (nmV false m) = nmV false m ∧ negB g (nmV false m) = false ∧ magI g (nmV false m) = m := by
      simp only [nmOK, nmV, u64_eq] at hn ⊢
      rcases (valid_iff s).1 hv with rfl | rfl | rfl | rfl <;> cases g <;> simp [rgH] at hn <;> simp [wrapI, negB, magI, u64_eq, wrap64] <;> omega
    refine ⟨fin.1, ?_⟩
    unfold textL
    rw [fin.2.1, fin.2.2, key]
    rfl
  · rw [hm] at hn h0
    have er := rest_of_min hm
    generalize restM l = D at *
    generalize valI 10 D = m at *
    have hm0 : m ≠ 0 := by
      intro e
      rw [e] at h0
      simp at h0
    have hg : g = true := by
      cases g
      · simp [nmOK, rgL, u64_eq] at hn
        omega
      · rfl
    subst hg
    have fin : wrapI s true (nmV true m) = nmV true m ∧ negB true (nmV true m) = true ∧ magI true (nmV true m) = m := by
      simp only [nmOK, nmV, u64_eq] at hn ⊢
      rcases (valid_iff s).1 hv with rfl | rfl | rfl | rfl <;> simp [rgL] at hn <;> simp [wrapI, negB, magI, u64_eq, wrap64] <;> omega
    refine ⟨fin.1, ?_⟩
    unfold textL
    rw [fin.2.1, fin.2.2, key]
    exact er.symm

theorem parOK_dec {s : Int} {g : Bool} {l : List UInt8} (hx : hexL l = false) (h : parOK s g l = true) : puOK 10 (restM l) = true := by
  unfold parOK at h
  rw [hx, if_neg (by simp)] at h
  simp only [Bool.and_eq_true] at h
  have := h.1.1
  unfold decOK at this
  simp only [Bool.and_eq_true] at this
  exact this.2
theorem parN_dec {l : List UInt8} (hx : hexL l = false) : parN l = nmV (minL l) (valI 10 (restM l)) := by
  unfold parN; rw [hx, if_neg (by simp)]
/-- Decimal: what the reference asks is what the program asks. -/
theorem dec_yes {s : Int} (vs : validB s = true) (g : Bool) {l : List UInt8} (hx : hexL l = false) (h : parOK s g l = true) :
    puOK 10 (restM l) = true ∧ wrapI s g (nmV (minL l) (valI 10 (restM l))) = nmV (minL l) (valI 10 (restM l)) ∧ textL g (nmV (minL l) (valI 10 (restM l))) = l := by
  have b := par_both vs g l h hx
  rw [parN_dec hx] at b
  exact ⟨parOK_dec hx h, b.1, b.2⟩
theorem nmV_I64 (n : Bool) (m : Int) : I64 (nmV n m) := by
  unfold nmV; split <;> exact w64_I64 _
theorem dec_no {s : Int} (vs : validB s = true) (g : Bool) {l : List UInt8} (h : parOK s g l = false) (v : Int) (hI : I64 v) (hw : wrapI s g v = v) : ¬ textL g v = l := by
  intro e
  have r : Rg s g v := by
    have := Rg_wrap s g v hI
    rw [hw] at this
    exact this
  have h1 := text_parOK s g g v hI
  rw [nm_own s g vs v r, e, h] at h1
  cases h1

/-- Hexadecimal. -/
theorem hex_yes {s : Int} (vs : validB s = true) (g : Bool) (u : Int) (u0 : 0 ≤ u) (u1 : u ≤ 18446744073709551615) (h : nmOK s g false u = true) : wrapI s g (wrap64 u) = wrap64 u ∧ textL g (wrap64 u) = decD u.toNat := by
  have fin : wrapI s g (wrap64 u) = wrap64 u ∧ negB g (wrap64 u) = false ∧ magI g (wrap64 u) = u := by
    simp only [nmOK, u64_eq] at h
    rcases (valid_iff s).1 vs with rfl | rfl | rfl | rfl <;> cases g <;> simp [rgH] at h <;> simp [wrapI, negB, magI, u64_eq, wrap64] <;> omega
  refine ⟨fin.1, ?_⟩
  unfold textL
  rw [fin.2.1, fin.2.2]
  rfl
theorem hex_no {s : Int} (vs : validB s = true) (g : Bool) (u : Int) (u0 : 0 ≤ u) (u1 : u ≤ 18446744073709551615) (h : nmOK s g false u = false) (hw : wrapI s g (wrap64 u) = wrap64 u) : ¬ textL g (wrap64 u) = decD u.toNat := by
  intro e
  cases hn : negB g (wrap64 u)
  · have : nmOK s g false u = true := by
      simp only [nmOK, u64_eq]
      rcases (valid_iff s).1 vs with rfl | rfl | rfl | rfl <;> cases g <;> simp [wrapI, wrap64] at hw <;> simp [negB, wrap64] at hn <;> simp [rgH] <;> omega
    rw [this] at h
    cases h
  · unfold textL at e
    rw [hn, if_pos rfl] at e
    have hd := decD_digits u.toNat 45 (by rw [← e]; simp)
    simp at hd
end Go.Proofs.YtbdkacfddbiclaaDoor

