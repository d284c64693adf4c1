/-
  Layer 2: the law InsnApart.
-/
import Derived.Test.YtadiglonlchgaaaDoorQb
namespace Go.Proofs.YtadiglonlchgaaaDoor
open Go.RowKit Go.Shelf Go.WideMaps Go.Maps

theorem dec_at (l : List UInt8) {k : Nat} (hk : l.length = k) (p : Option Addr) (c : Nat) (hc : k ≤ c) (w : World) (hT : TB w) (hb : SeqAt w p (bV l)) :
    Calls Tryd.prog 9 #[.slice p k c] w fun e w' => e = .returned (.tuple #[inV (oD l) (aD l) (bD l) (iD l), .int .i64 (nD l : Int), .int .i64 (eD l)]) ∧ Below w.heap.size w w' := by
  subst hk
  exact decode_any l p c w hT hb hc
theorem seq_drop {W : World} {g o : Nat} {b : List UInt8} (h : SeqAt W (some ⟨g, o, none⟩) (bV b)) (i : Nat) : SeqAt W (some ⟨g, o + i, none⟩) (bV (b.drop i)) := by
  rcases h with h | ⟨g', o', e, h⟩
  · have : b = [] := by simpa [bV] using h
    subst this
    exact .inl (by simp [bV])
  · injection e with e
    injection e with e1 e2
    subst e1 e2
    refine .inr ⟨g, o + i, rfl, fun j v hj => ?_⟩
    rw [show o + i + j = o + (i + j) by omega]
    refine h (i + j) v ?_
    unfold bV at hj ⊢
    rw [List.map_drop, List.getElem?_drop] at hj
    exact hj
set_option maxRecDepth 100000 in
set_option maxHeartbeats 4000000 in
theorem law_apart (b : List UInt8) (bp : Option Addr) (bc : Nat) (hcap : b.length ≤ bc) (hbc : bc ≤ maxLen) (w : World) (hT : TB w) (hP : PT w) (hb : SeqAt w bp (bV b)) :
    Calls Tryd.prog 4 #[.slice bp b.length bc] w fun e w' => e = .returned (.bool true) ∧ Below w.heap.size w w' := by
  have SN := sane_yes w hT hP
  have D1 := fun W (g : Below w.heap.size w W) => dec_at b rfl bp bc hcap W (hT.up g) (hb.up g)
  have HT := Lib.hid hT
  have HB := Lib.hid hb
  unfold maxLen at hbc
  by_cases he : eD b = 0
  · have hn := nD_le he
    have hap := fun i (h1 : 1 ≤ i) (h2 : i < nD b) => eD_apart he h1 h2
    have HA := Lib.hid hap
    rw [he] at D1
    clear hap he hT hb hP
    obtain ⟨hn1, hn2⟩ := hn
    obtain ⟨g0, o0, rfl, hc⟩ := HB.out.resolve_left (by intro e; have h0 : b.length = 0 := (by have := congrArg List.length e; rw [bV_len] at this; exact this); omega)
    clear hc
    have D2 := Lib.hid (fun W (g : Below w.heap.size w W) i => dec_at (b.drop i) (k := b.length - i) (by simp) (some ⟨g0, o0 + i, none⟩) (bc - i) (by omega) W (HT.out.up g) (seq_drop (HB.out.up g) i))
    have i1 : (1 : Int) ≤ (nD b : Int) := by omega
    have i2 : (nD b : Int) ≤ (b.length : Int) := by omega
    have i3 : ¬ (nD b : Int) < 1 := by omega
    have i4 : ¬ (b.length : Int) < (nD b : Int) := by omega
    have i5 : decide ((nD b : Int) < 1) = false := decide_eq_false i3
    have i6 : decide (b.length < nD b) = false := decide_eq_false (by omega)
    generalize hnn : nD b = n at *
    have HN := Lib.hid hnn
    clear hnn
    go_enter Tryd.func4, Tryd.ntmps4
    go_upto_region 2 with (go_at_call 7; (refine SN.mono ?_); rintro e w1 ⟨rfl, hL1⟩)
    go_wp2_with (go_at_call 9; (with_reducible refine (D1 _ hL1).mono ?_); rintro e w2 ⟨rfl, hL2⟩; have b2 := hL1.trans (hL2.mono hL1.size))
    have b3 := b2.alloc b2.size (.cells #[.int .i64 (oD b), .int .i64 (aD b), .int .i64 (bD b), .int .i64 (iD b)] 23)
    go_loopw [7] (fun i wr => ∃ k : Nat, 1 ≤ k ∧ k ≤ n ∧ i = .int .i64 (k : Int) ∧ Below w.heap.size w wr) (fun i _ => n - (intOf i).toNat)
    case atStart => exact ⟨1, Nat.le_refl _, hn1, rfl, b3⟩
    case round =>
      clear b3
      obtain ⟨k, hk1, hk, rfl, hB⟩ := hrel
      by_cases hlt : k < n
      · have j1 : (k : Int) < (n : Int) := by omega
        have j0 : (0 : Int) ≤ (k : Int) := by omega
        have j2 : (k : Int) ≤ (b.length : Int) := by omega
        have j3 : (k : Int) ≤ (bc : Int) := by omega
        have j5 : ¬ bc = k := by omega
        have j6 : k < bc := by omega
        have F := D2.out wr hB k
        rw [HA.out k hk1 hlt] at F
        have j4 : (b.length : Int) - (k : Int) = ((b.length - k : Nat) : Int) := by omega
        have HW1 : Hid (wrap64 ((k : Int) + 1) = ((k + 1 : Nat) : Int)) := Lib.hid (by unfold wrap64; omega)
        go_wp2_with (go_at_call 9; (with_reducible refine F.mono ?_); rintro e w5 ⟨rfl, hL5⟩)
        have b6 := (hB.trans (hL5.mono hB.size)).alloc (hB.trans (hL5.mono hB.size)).size (.cells #[.int .i64 (oD (b.drop k)), .int .i64 (aD (b.drop k)), .int .i64 (bD (b.drop k)), .int .i64 (iD (b.drop k))] 23)
        clear F j4
        go_roundw
        case rel => exact ⟨k + 1, by omega, hlt, by first | (rw [HW1.out]; done) | rfl | (push_cast; rfl), b6⟩
        case measure => first | (simp only [intOf, HW1.out]; omega) | (simp only [intOf]; omega)
      · obtain rfl : k = n := by omega
        have j1 : ¬ (k : Int) < (k : Int) := by omega
        go_wp2_with fail
        go_ret
        exact ⟨rfl, hB⟩
  · have hne : (eD b == 0) = false := beq_eq_false_iff_ne.2 he
    have hne2 : (eD b != 0) = true := by unfold bne; rw [hne]; rfl
    clear he hT hb hP
    generalize eD b = E at *
    generalize oD b = x0 at *
    generalize aD b = x1 at *
    generalize bD b = x2 at *
    generalize iD b = x3 at *
    generalize nD b = n at *
    go_enter Tryd.func4, Tryd.ntmps4
    go_upto_region 2 with (go_at_call 7; (refine SN.mono ?_); rintro e w1 ⟨rfl, hL1⟩)
    go_wp2_with (go_at_call 9; (with_reducible refine (D1 _ hL1).mono ?_); rintro e w2 ⟨rfl, hL2⟩; have b2 := hL1.trans (hL2.mono hL1.size))
    go_ret
    exact ⟨rfl, b2.alloc b2.size _⟩
end Go.Proofs.YtadiglonlchgaaaDoor
