/-
  Layer 2: the law InsnPatched.
-/
import Derived.Test.YtadiglonlchgaaaDoorQc
namespace Go.Proofs.YtadiglonlchgaaaDoor
open Go.RowKit Go.Shelf Go.WideMaps Go.Maps

set_option maxRecDepth 100000 in
set_option maxHeartbeats 4000000 in
theorem patched_long (b : List UInt8) (bp : Option Addr) (bc : Nat) (k : Nat) (h : 200 < b.length) (w : World) (hT : TB w) (hP : PT w) :
    Calls Tryd.prog 5 #[.slice bp b.length bc, .int .u8 (k : Int)] w fun e w' => e = .returned (.bool true) ∧ Below w.heap.size w w' := by
  have SN := sane_yes w hT hP
  have i1 : (200 : Int) < (b.length : Int) := by omega
  have i2 : decide ((200 : Int) < (b.length : Int)) = true := decide_eq_true i1
  clear hT hP
  generalize b.length = n at *
  go_enter Tryd.func5, Tryd.ntmps5
  go_upto_region 2 with (go_at_call 7; (refine SN.mono ?_); rintro e w1 ⟨rfl, hL1⟩)
  go_wp2_with fail
  go_ret
  exact ⟨rfl, hL1⟩
set_option maxRecDepth 100000 in
set_option maxHeartbeats 4000000 in
theorem patched_out (b : List UInt8) (bp : Option Addr) (bc : Nat) (k : Nat) (hk : k ≤ 255) (h : ¬ 200 < b.length) (hlk : b.length ≤ k) (w : World) (hT : TB w) (hP : PT w) :
    Calls Tryd.prog 5 #[.slice bp b.length bc, .int .u8 (k : Int)] w fun e w' => e = .returned (.bool true) ∧ Below w.heap.size w w' := by
  have SN := sane_yes w hT hP
  have i1 : ¬ (200 : Int) < (b.length : Int) := by omega
  have i2 : decide ((200 : Int) < (b.length : Int)) = false := decide_eq_false i1
  have i3 : (b.length : Int) ≤ (k : Int) := by omega
  have i4 : decide ((b.length : Int) ≤ (k : Int)) = true := decide_eq_true i3
  have i5 : decide (200 < b.length) = false := decide_eq_false h
  have i6 : decide (b.length ≤ k) = true := decide_eq_true hlk
  have i7 : wrap64 (k : Int) = (k : Int) := by unfold wrap64; omega
  clear hT hP
  generalize b.length = n at *
  go_enter Tryd.func5, Tryd.ntmps5
  go_upto_region 2 with (go_at_call 7; (refine SN.mono ?_); rintro e w1 ⟨rfl, hL1⟩)
  go_wp2_with fail
  go_ret
  exact ⟨rfl, hL1⟩
set_option maxRecDepth 100000 in
set_option maxHeartbeats 4000000 in
theorem patched_bad (b : List UInt8) (bp : Option Addr) (bc : Nat) (hcap : b.length ≤ bc) (k : Nat) (hk : k ≤ 255) (h : ¬ 200 < b.length) (hlk : k < b.length) (he : eD (b.drop k) ≠ 0) (w : World) (hT : TB w) (hP : PT w) (hb : SeqAt w bp (bV b)) :
    Calls Tryd.prog 5 #[.slice bp b.length bc, .int .u8 (k : Int)] w fun e w' => e = .returned (.bool true) ∧ Below w.heap.size w w' := by
  have SN := sane_yes w hT hP
  obtain ⟨g0, o0, rfl, hc⟩ := hb.resolve_left (by intro e; have h0 : b.length = 0 := (by have := congrArg List.length e; rw [bV_len] at this; exact this); omega)
  clear hc
  have D2 := fun W (g : Below w.heap.size w W) => dec_at (b.drop k) (k := b.length - k) (by simp) (some ⟨g0, o0 + k, none⟩) (bc - k) (by omega) W (hT.up g) (seq_drop (hb.up g) k)
  have hne : (eD (b.drop k) == 0) = false := beq_eq_false_iff_ne.2 he
  have hne2 : (eD (b.drop k) != 0) = true := by unfold bne; rw [hne]; rfl
  have i1 : ¬ (200 : Int) < (b.length : Int) := by omega
  have i2 : decide ((200 : Int) < (b.length : Int)) = false := decide_eq_false i1
  have i3 : ¬ (b.length : Int) ≤ (k : Int) := by omega
  have i4 : decide ((b.length : Int) ≤ (k : Int)) = false := decide_eq_false i3
  have i5 : decide (200 < b.length) = false := decide_eq_false h
  have i6 : decide (b.length ≤ k) = false := decide_eq_false (by omega)
  have i7 : wrap64 (k : Int) = (k : Int) := by unfold wrap64; omega
  have j0 : (0 : Int) ≤ (k : Int) := by omega
  have j2 : (k : Int) ≤ (b.length : Int) := by omega
  have j3 : (k : Int) ≤ (bc : Int) := by omega
  have j5 : ¬ bc = k := by omega
  have j6 : k < bc := by omega
  have j4 : (b.length : Int) - (k : Int) = ((b.length - k : Nat) : Int) := by omega
  clear hT hP hb he
  generalize eD (b.drop k) = E at *
  generalize oD (b.drop k) = x0 at *
  generalize aD (b.drop k) = x1 at *
  generalize bD (b.drop k) = x2 at *
  generalize iD (b.drop k) = x3 at *
  generalize nD (b.drop k) = n at *
  go_enter Tryd.func5, Tryd.ntmps5
  go_upto_region 2 with (go_at_call 7; (refine SN.mono ?_); rintro e w1 ⟨rfl, hL1⟩)
  go_wp2_with (go_at_call 9; (with_reducible refine (D2 _ hL1).mono ?_); rintro e w2 ⟨rfl, hL2⟩; have b2 := hL1.trans (hL2.mono hL1.size))
  go_ret
  exact ⟨rfl, b2.alloc b2.size _⟩

theorem set_drop (b : List UInt8) (k : Nat) (h : k < b.length) (c : UInt8) : (b.set k c).drop k = c :: b.drop (k + 1) := by
  rw [List.drop_eq_getElem_cons (by simpa using h), List.getElem_set_self, List.drop_set_of_lt (by omega)]
theorem bV_set (b : List UInt8) (k : Nat) (c : UInt8) : (bV b).set k (.int .u8 (c.toNat : Int)) = bV (b.set k c) := by
  unfold bV
  rw [List.map_set]
set_option maxRecDepth 100000 in
set_option maxHeartbeats 8000000 in
theorem patched_main (b : List UInt8) (bp : Option Addr) (bc : Nat) (hcap : b.length ≤ bc) (hbc : bc ≤ maxLen) (k : Nat) (hk : k ≤ 255) (h : ¬ 200 < b.length) (hlk : k < b.length) (he : eD (b.drop k) = 0) (w : World) (hT : TB w) (hP : PT w) (hb : SeqAt w bp (bV b)) :
    Calls Tryd.prog 5 #[.slice bp b.length bc, .int .u8 (k : Int)] w fun e w' => e = .returned (.bool true) ∧ Below w.heap.size w w' := by
  have SN := sane_yes w hT hP
  obtain ⟨gi, gh, gz0, gz1, gz2⟩ := info_parts A_infoU8'
  obtain ⟨g0, o0, rfl, hc⟩ := hb.resolve_left (by intro e; have h0 : b.length = 0 := (by have := congrArg List.length e; rw [bV_len] at this; exact this); omega)
  clear hc
  unfold maxLen at hbc
  have D1 := fun W (g : Below w.heap.size w W) => dec_at (b.drop k) (k := b.length - k) (by simp) (some ⟨g0, o0 + k, none⟩) (bc - k) (by omega) W (hT.up g) (seq_drop (hb.up g) k)
  rw [he] at D1
  have HT := Lib.hid hT
  have HB := Lib.hid hb
  have D2 := Lib.hid (fun W (g : Below w.heap.size w W) i => dec_at (b.drop i) (k := b.length - i) (by simp) (some ⟨g0, o0 + i, none⟩) (bc - i) (by omega) W (HT.out.up g) (seq_drop (HB.out.up g) i))
  have HE := Lib.hid he
  have i1 : ¬ (200 : Int) < (b.length : Int) := by omega
  have i2 : decide ((200 : Int) < (b.length : Int)) = false := decide_eq_false i1
  have i3 : ¬ (b.length : Int) ≤ (k : Int) := by omega
  have i4 : decide ((b.length : Int) ≤ (k : Int)) = false := decide_eq_false i3
  have i5 : decide (200 < b.length) = false := decide_eq_false h
  have i6 : decide (b.length ≤ k) = false := decide_eq_false (by omega)
  have i7 : wrap64 (k : Int) = (k : Int) := by unfold wrap64; omega
  have j0 : (0 : Int) ≤ (k : Int) := by omega
  have j2 : (k : Int) ≤ (b.length : Int) := by omega
  have j3 : (k : Int) ≤ (bc : Int) := by omega
  have j5 : ¬ bc = k := by omega
  have j6 : k < bc := by omega
  have j4 : (b.length : Int) - (k : Int) = ((b.length - k : Nat) : Int) := by omega
  clear hT hP he hb
  go_enter Tryd.func5, Tryd.ntmps5
  go_upto_region 2 with (go_at_call 7; (refine SN.mono ?_); rintro e w1 ⟨rfl, hL1⟩)
  go_upto_region 8 with (go_at_call 9; (with_reducible refine (D1 _ hL1).mono ?_); rintro e w2 ⟨rfl, hL2⟩; have b2 := hL1.trans (hL2.mono hL1.size))
  have b3 := b2.alloc b2.size (.cells #[.int .i64 (oD (b.drop k)), .int .i64 (aD (b.drop k)), .int .i64 (bD (b.drop k)), .int .i64 (iD (b.drop k))] 23)
  go_wp2_with (at_builtin; refine append_seq rfl _ _ 24 rfl w.heap.size 5 gi (.int .u8 0) 1 Tryd.underlying24 gh gz0 gz1 gz2 rfl (.slice (some ⟨w2.heap.size + 1, 0, none⟩) 0 0) 0 [] rfl ?q1 _ b.length bc (bV b) rfl (bV_len b) ?q2 (bV_one b) ?q3 ?q4 ?q5 ?_)
  case q1 =>
    have q := World.ownsRow_lit (base := w.heap.size) (e := 5) (size := 1) (w2.alloc (.cells #[.int .i64 (oD (b.drop k)), .int .i64 (aD (b.drop k)), .int .i64 (bD (b.drop k)), .int .i64 (iD (b.drop k))] 23)) #[] 0 b3.size (Nat.zero_le _) (Nat.zero_mul 1).symm
    simpa using q
  case q2 => exact HB.out.up (b3.alloc b3.size _)
  case q3 => unfold maxLen; omega
  case q4 => omega
  case q5 => exact (b3.alloc b3.size _).size
  intro v6 w7 hown7 hg
  obtain ⟨g, cap, rfl, hge, hlt⟩ := hown7.form (by omega)
  have b7 : Below w.heap.size w w7 := (b3.alloc b3.size _).grown hg (b3.alloc b3.size _).size (fun j hj => by injection hj with hj; subst hj; have := b2.size; show w.heap.size ≤ w2.heap.size + 1; omega)
  have hck : w7.cell? ⟨g, k, none⟩ = some (.int .u8 (b[k].toNat : Int)) := by rw [hown7.cellAt k (by omega), bV_get b k hlk]
  have hfk := hown7.frozenAt k
  have hst := hown7.stored k (.int .u8 204)
  have b8 : Below w.heap.size w (w7.setCell ⟨g, k, none⟩ (.int .u8 204)) := b7.grown hst.2 b7.size (fun j hj => by injection hj with hj; subst hj; exact hge)
  have hS8 := SeqFar.own hst.1
  rw [show (bV b).set k (.int .u8 204) = bV (b.set k 204) from bV_set b k 204] at hS8
  have hcl : b.length ≤ cap := hS8.2.1
  have HS8 := Lib.hid hS8.1.at
  have HB8 := Lib.hid b8
  clear b8 hS8 hst hg hown7 hL1 hL2 b2 b3
  go_wp2_with fail
  go_loopw [11] (fun i wr => ∃ j : Nat, j ≤ b.length ∧ i = .int .i64 (j : Int) ∧ Below w.heap.size w wr ∧ SeqAt wr (some ⟨g, 0, none⟩) (bV (b.set k 204))) (fun i _ => b.length - (intOf i).toNat)
  case atStart => exact ⟨0, Nat.zero_le _, rfl, HB8.out, HS8.out⟩
  case round =>
    clear hck hfk b7 hlt hge i7 i6 i5 i4 i3 i2 i1 j4 j5 j6 j3 j2 D1 SN
    obtain ⟨j, hj, rfl, hB, hS⟩ := hrel
    by_cases hlt : j < b.length
    · have m1 : (j : Int) < (b.length : Int) := by omega
      have m0 : (0 : Int) ≤ (j : Int) := by omega
      have m2 : (j : Int) ≤ (b.length : Int) := by omega
      have m3 : (j : Int) ≤ (bc : Int) := by omega
      have m5 : ¬ bc = j := by omega
      have m6 : j < bc := by omega
      have m7 : (j : Int) ≤ (cap : Int) := by omega
      have m8 : ¬ cap = j := by omega
      have m9 : j < cap := by omega
      have m4 : (b.length : Int) - (j : Int) = ((b.length - j : Nat) : Int) := by omega
      have HW1 : Hid (wrap64 ((j : Int) + 1) = ((j + 1 : Nat) : Int)) := Lib.hid (by unfold wrap64; omega)
      have F1 := D2.out wr hB j
      have F2 := fun W (g' : Below wr.heap.size wr W) => dec_at ((b.set k 204).drop j) (k := b.length - j) (by simp) (some ⟨g, 0 + j, none⟩) (cap - j) (by omega) W (HT.out.up (hB.trans (g'.mono hB.size))) (seq_drop (hS.up g') j)
      simp only [Nat.zero_add] at F2
      by_cases hjk : j = k
      · subst hjk
        obtain ⟨y1, y2, y3, y4, y5, y6⟩ := dec_break (b.drop (j + 1))
        rw [set_drop b j hlt 204, y1, y2, y3, y4, y5, y6] at F2
        clear y1 y2 y3 y4 y5 y6
        rw [HE.out] at F1
        generalize oD (b.drop j) = x0 at *
        generalize aD (b.drop j) = x1 at *
        generalize bD (b.drop j) = x2 at *
        generalize iD (b.drop j) = x3 at *
        generalize nD (b.drop j) = n at *
        go_upto_region 14 with (go_at_call 9; (with_reducible refine F1.mono ?_); rintro e w5 ⟨rfl, hL5⟩)
        have c5 : Below wr.heap.size wr (w5.alloc (.cells #[.int .i64 x0, .int .i64 x1, .int .i64 x2, .int .i64 x3] 23)) := hL5.alloc hL5.size _
        go_upto_region 15 with (go_at_call 9; (with_reducible refine (F2 _ c5).mono ?_); rintro e w6 ⟨rfl, hL6⟩)
        have c6 : Below wr.heap.size wr w6 := c5.trans (hL6.mono c5.size)
        have c7 : Below wr.heap.size wr (w6.alloc (.cells #[.int .i64 76, .int .i64 0, .int .i64 0, .int .i64 0] 23)) := c6.alloc c6.size _
        clear F1 F2
        go_wp2_with fail
        go_roundw
        case rel => exact ⟨j + 1, by omega, by first | (rw [HW1.out]; done) | rfl | (push_cast; rfl), hB.trans (c7.mono hB.size), hS.up c7⟩
        case measure => first | (simp only [intOf, HW1.out]; omega) | (simp only [intOf]; omega)
      · obtain ⟨y1, y2, y3, y4, y5, y6⟩ := alike_all (patched HE.out hjk)
        rw [← y1, ← y2, ← y3, ← y4, ← y5, ← y6] at F2
        clear y1 y2 y3 y4 y5 y6
        generalize eD (b.drop j) = E at *
        generalize oD (b.drop j) = x0 at *
        generalize aD (b.drop j) = x1 at *
        generalize bD (b.drop j) = x2 at *
        generalize iD (b.drop j) = x3 at *
        generalize nD (b.drop j) = n at *
        have e1 : ¬ (j : Int) = (k : Int) := by omega
        have e2 : decide ((j : Int) = (k : Int)) = false := decide_eq_false e1
        have e3 : ((j : Int) == (k : Int)) = false := beq_eq_false_iff_ne.2 e1
        have e4 : decide (j = k) = false := decide_eq_false hjk
        go_upto_region 14 with (go_at_call 9; (with_reducible refine F1.mono ?_); rintro e w5 ⟨rfl, hL5⟩)
        have c5 : Below wr.heap.size wr (w5.alloc (.cells #[.int .i64 x0, .int .i64 x1, .int .i64 x2, .int .i64 x3] 23)) := hL5.alloc hL5.size _
        go_upto_region 15 with (go_at_call 9; (with_reducible refine (F2 _ c5).mono ?_); rintro e w6 ⟨rfl, hL6⟩)
        have c6 : Below wr.heap.size wr w6 := c5.trans (hL6.mono c5.size)
        have c7 : Below wr.heap.size wr (w6.alloc (.cells #[.int .i64 x0, .int .i64 x1, .int .i64 x2, .int .i64 x3] 23)) := c6.alloc c6.size _
        have hz : w5.heap.size < w6.heap.size := by have := hL6.size; simp at this; omega
        have hz5 : w5.heap.size < (w5.alloc (.cells #[.int .i64 x0, .int .i64 x1, .int .i64 x2, .int .i64 x3] 23)).heap.size := by simp
        have z0 : w6.cell? ⟨w5.heap.size, 0, none⟩ = some (.int .i64 x0) := cell_up hL6 hz5 (by rw [cell_of_row _ _ 0 _ _ (0, 0) (heap_alloc_new w5 _)]; rfl)
        have z1 : w6.cell? ⟨w5.heap.size, 1, none⟩ = some (.int .i64 x1) := cell_up hL6 hz5 (by rw [cell_of_row _ _ 1 _ _ (0, 0) (heap_alloc_new w5 _)]; rfl)
        have z2 : w6.cell? ⟨w5.heap.size, 2, none⟩ = some (.int .i64 x2) := cell_up hL6 hz5 (by rw [cell_of_row _ _ 2 _ _ (0, 0) (heap_alloc_new w5 _)]; rfl)
        have z3 : w6.cell? ⟨w5.heap.size, 3, none⟩ = some (.int .i64 x3) := cell_up hL6 hz5 (by rw [cell_of_row _ _ 3 _ _ (0, 0) (heap_alloc_new w5 _)]; rfl)
        clear F1 F2 hz5
        go_wp2_with fail
        go_roundw
        case rel => exact ⟨j + 1, by omega, by first | (rw [HW1.out]; done) | rfl | (push_cast; rfl), hB.trans (c7.mono hB.size), hS.up c7⟩
        case measure => first | (simp only [intOf, HW1.out]; omega) | (simp only [intOf]; omega)
    · obtain rfl : j = b.length := by omega
      have m1 : ¬ (b.length : Int) < (b.length : Int) := by omega
      go_wp2_with fail
      go_ret
      exact ⟨rfl, hB⟩
theorem law_patched (b : List UInt8) (bp : Option Addr) (bc : Nat) (hcap : b.length ≤ bc) (hbc : bc ≤ maxLen) (k : Nat) (hk : k ≤ 255) (w : World) (hT : TB w) (hP : PT w) (hb : SeqAt w bp (bV b)) :
    Calls Tryd.prog 5 #[.slice bp b.length bc, .int .u8 (k : Int)] w fun e w' => e = .returned (.bool true) ∧ Below w.heap.size w w' := by
  by_cases h : 200 < b.length
  · exact patched_long b bp bc k h w hT hP
  by_cases hlk : k < b.length
  · by_cases he : eD (b.drop k) = 0
    · exact patched_main b bp bc hcap hbc k hk h hlk he w hT hP hb
    · exact patched_bad b bp bc hcap k hk h hlk he w hT hP hb
  · exact patched_out b bp bc k hk h (by omega) w hT hP
end Go.Proofs.YtadiglonlchgaaaDoor
