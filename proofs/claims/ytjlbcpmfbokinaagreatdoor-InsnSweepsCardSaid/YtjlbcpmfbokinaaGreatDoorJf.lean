/-
  Layer 2, the library's functions: strings.Cut at one byte; a text's lines.
-/
import Derived.Test.YtjlbcpmfbokinaaGreatDoorJe
import Derived.Shelf.Strings.Search1
import Derived.Deep.QuietTactic
import Derived.BigQuiet
set_option linter.unusedSimpArgs false
set_option linter.unusedVariables false
namespace Go.Proofs
open Go.Shelf
def Tryz.lays217_ren : Go.Shelf.Ren := ⟨fun | 217 => 140 | 266 => 146 | n => n, fun | 9 => 9 | 5 => 5 | 3 => 3 | n => n, fun | n => n⟩
theorem Tryz.lays217 : Go.Proofs.Lays.n217 Tryz.prog Tryz.lays217_ren := {
  mixed := by kernel_rfl
  f217 := Tryz.func140.trans (congrArg some (by kernel_rfl))
  f266 := Tryz.func146.trans (congrArg some (by kernel_rfl))
  t3 := Tryz.underlying3
  a3 := Tryz.isAgg3
  z3 := Tryz.sizeOf3
  v3 := Tryz.zeroValue3
  t5 := Tryz.underlying5
  a5 := Tryz.isAgg5
  z5 := Tryz.sizeOf5
  v5 := Tryz.zeroValue5
  t9 := Tryz.underlying9
  a9 := Tryz.isAgg9
  z9 := Tryz.sizeOf9
  v9 := Tryz.zeroValue9 }
end Go.Proofs
namespace Go.Proofs.YtjlbcpmfbokinaaGreatDoor
open Go.RowKit Go.Shelf

theorem indexByte_bd (c : UInt8) : ∀ l : List UInt8, -1 ≤ Lib.indexByte l c ∧ Lib.indexByte l c < (l.length : Int)
  | [] => by simp [Lib.indexByte]
  | x :: l => by
    have := indexByte_bd c l
    unfold Lib.indexByte
    split <;> (try split) <;> simp <;> omega
/-- The place of a byte in a text; what stands ahead of it, and behind it; whether it is there. -/
def ctI (s : ByteArray) (c : UInt8) : Int := Lib.indexByte s.data.toList c
def ctA (s : ByteArray) (c : UInt8) : ByteArray := if ctI s c < 0 then s else s.extract 0 (ctI s c).toNat
def ctB (s : ByteArray) (c : UInt8) : ByteArray := if ctI s c < 0 then ⟨#[]⟩ else s.extract ((ctI s c).toNat + 1) s.size
def ctF (s : ByteArray) (c : UInt8) : Bool := decide (0 ≤ ctI s c)
theorem ctI_bd (s : ByteArray) (c : UInt8) : -1 ≤ ctI s c ∧ ctI s c < (s.size : Int) := by
  have := indexByte_bd c s.data.toList
  rw [← Lib.size_eq] at this
  exact this
theorem ctA_le (s : ByteArray) (c : UInt8) : (ctA s c).size ≤ s.size := by
  unfold ctA; split
  · exact Nat.le_refl _
  · exact ext_le _ _ _
theorem ctB_le (s : ByteArray) (c : UInt8) : (ctB s c).size ≤ s.size := by
  unfold ctB; split
  · exact Nat.zero_le _
  · exact ext_le _ _ _
theorem ctB_lt {s : ByteArray} {c : UInt8} (h : ctF s c = true) : (ctB s c).size < s.size := by
  unfold ctF at h
  have h := of_decide_eq_true h
  have hb := ctI_bd s c
  unfold ctB
  rw [if_neg (by omega)]
  simp only [ByteArray.size_extract]
  omega
theorem idx_any (s : ByteArray) (c : UInt8) (w : World) : Calls Tryz.prog 140 #[.string s, .int .u8 (c.toNat : Int)] w fun e w' => e = .returned (.int .i64 (ctI s c)) ∧ w' = w := by
  have hcon := Any.stringslite_IndexByte Tryz.lays217 s (c.toNat : Int) w
  have : ((c.toNat : Int)).toNat.toUInt8 = c := by simp
  rw [this] at hcon
  exact hcon
set_option maxRecDepth 100000 in
set_option maxHeartbeats 1000000 in
theorem index1_any (s : ByteArray) (c : UInt8) (w : World) : Calls Tryz.prog 133 #[.string s, .string ⟨#[c]⟩] w fun e w' => e = .returned (.int .i64 (ctI s c)) ∧ w = w' := by
  have H := fun W => idx_any s c W
  have h1 : (⟨#[c]⟩ : ByteArray).size = 1 := rfl
  by_cases hq : [c] = s.toList
  · have h0 : ctI s c = 0 := by
      unfold ctI
      rw [← Lib.toList_data, ← hq]
      simp [Lib.indexByte]
    rw [h0]
    have hq1 : ([c] == s.toList) = true := beq_iff_eq.2 hq
    clear H h0 hq
    go_enter Tryz.func133, Tryz.ntmps133
    go_wp2_with fail
    go_ret
    exact ⟨rfl, rfl⟩
  · have hq1 : ([c] == s.toList) = false := beq_eq_false_iff_ne.2 hq
    clear hq
    generalize ctI s c = i at *
    go_enter Tryz.func133, Tryz.ntmps133
    go_wp2_with (go_at_call 140; (refine (H _).mono ?_); rintro e w1 ⟨rfl, rfl⟩)
    go_ret
    exact ⟨rfl, rfl⟩
set_option maxRecDepth 100000 in
set_option maxHeartbeats 1000000 in
theorem cut1_any (s : ByteArray) (c : UInt8) (w : World) (hs : s.size ≤ maxLen) : Calls Tryz.prog 117 #[.string s, .string ⟨#[c]⟩] w fun e w' => e = .returned (.tuple #[.string (ctA s c), .string (ctB s c), .bool (ctF s c)]) ∧ ∃ n, w' = w.drewN n := by
  have H := fun W => index1_any s c W
  have hb := ctI_bd s c
  unfold ctA ctB ctF
  unfold maxLen at hs
  have h1 : (⟨#[c]⟩ : ByteArray).size = 1 := rfl
  by_cases hi : ctI s c < 0
  · rw [if_pos hi, if_pos hi, decide_eq_false (by omega)]
    generalize ctI s c = i at *
    have hd : decide ((0 : Int) ≤ i) = false := decide_eq_false (by omega)
    have hn : ¬ (0 : Int) ≤ i := by omega
    go_enter Tryz.func117, Tryz.ntmps117
    go_wp2_with (go_at_call 133; (refine (H _).mono ?_); rintro e w1 ⟨rfl, rfl⟩)
    go_ret3
    exact ⟨rfl, 0, rfl⟩
  · rw [if_neg hi, if_neg hi, decide_eq_true (by omega)]
    generalize ctI s c = i at *
    obtain ⟨n, rfl⟩ : ∃ n : Nat, i = (n : Int) := ⟨i.toNat, by omega⟩
    have c0 : (0 : Int) ≤ (n : Int) := by omega
    have c2 : (n : Int) ≤ (s.size : Int) := by omega
    have c4 : ((n : Int) + 1) ≤ (s.size : Int) := by omega
    have c5 : (0 : Int) ≤ (n : Int) + 1 := by omega
    have c6 : wrap64 ((n : Int) + 1) = (n : Int) + 1 := by unfold wrap64; omega
    have c7 : ((n : Int) + 1).toNat = n + 1 := by omega
    simp only [Int.toNat_natCast]
    clear hi
    go_enter Tryz.func117, Tryz.ntmps117
    go_upto_region 3 with (go_at_call 133; (refine (H _).mono ?_); rintro e w1 ⟨rfl, rfl⟩)
    go_quiet (fail)
    go_wp2_with fail
    go_ret3
    exact ⟨rfl, _, rfl⟩
set_option maxRecDepth 100000 in
set_option maxHeartbeats 1000000 in
theorem cutS_any (s : ByteArray) (c : UInt8) (w : World) (hs : s.size ≤ maxLen) : Calls Tryz.prog 85 #[.string s, .string ⟨#[c]⟩] w fun e w' => e = .returned (.tuple #[.string (ctA s c), .string (ctB s c), .bool (ctF s c)]) ∧ ∃ n, w' = w.drewN n := by
  have H := fun W => cut1_any s c W hs
  generalize ctA s c = a at *
  generalize ctB s c = b at *
  generalize ctF s c = f at *
  go_enter Tryz.func85, Tryz.ntmps85
  go_wp2_with (go_at_call 117; (refine (H _).mono ?_); rintro e w1 ⟨rfl, n, rfl⟩)
  go_ret3
  exact ⟨rfl, n, rfl⟩

/-- What is left of a text behind its first lines; how many lines it has; a line without its comment. -/
def rsN (t : ByteArray) : Nat → ByteArray
  | 0 => t
  | k + 1 => ctB (rsN t k) 10
def lnF : Nat → ByteArray → Nat
  | 0, _ => 1
  | f + 1, t => if ctF t 10 = true then lnF f (ctB t 10) + 1 else 1
def lnN (t : ByteArray) : Nat := lnF t.size t
def lnS (t : ByteArray) (k : Nat) : ByteArray := ctA (ctA (rsN t k) 10) 59
theorem rsN_succ (t : ByteArray) : ∀ k, rsN t (k + 1) = rsN (ctB t 10) k
  | 0 => rfl
  | k + 1 => by
    have ih := rsN_succ t k
    show ctB (rsN t (k + 1)) 10 = ctB (rsN (ctB t 10) k) 10
    rw [ih]
theorem rsN_le (t : ByteArray) : ∀ k, (rsN t k).size ≤ t.size
  | 0 => Nat.le_refl _
  | k + 1 => Nat.le_trans (ctB_le _ _) (rsN_le t k)
theorem ctF_nil {t : ByteArray} (h : t.size = 0) : ctF t 10 = false := by
  have := ctI_bd t 10
  unfold ctF
  exact decide_eq_false (by omega)
theorem lnF_yes {f : Nat} {t : ByteArray} (h : ctF t 10 = true) : lnF (f + 1) t = lnF f (ctB t 10) + 1 := by simp only [lnF]; rw [if_pos h]
theorem lnF_no {f : Nat} {t : ByteArray} (h : ctF t 10 = false) : lnF (f + 1) t = 1 := by simp only [lnF]; rw [if_neg (by rw [h]; decide)]
theorem lnF_pos : ∀ (f : Nat) (t : ByteArray), 1 ≤ lnF f t
  | 0, _ => Nat.le_refl _
  | f + 1, t => by simp only [lnF]; split <;> omega
theorem lnF_more : ∀ (f : Nat) (t : ByteArray), t.size ≤ f → ∀ k, k < lnF f t → ctF (rsN t k) 10 = decide (k + 1 < lnF f t)
  | 0, t, h, k, hk => by
    have e : lnF 0 t = 1 := rfl
    rw [e] at hk ⊢
    obtain rfl : k = 0 := by omega
    exact ctF_nil (by show t.size = 0; omega)
  | f + 1, t, h, k, hk => by
    cases hc : ctF t 10
    · have e := lnF_no (f := f) hc
      rw [e] at hk ⊢
      obtain rfl : k = 0 := by omega
      exact hc
    · have e := lnF_yes (f := f) hc
      rw [e] at hk ⊢
      have hl := ctB_lt hc
      have h1 := lnF_pos f (ctB t 10)
      cases k with
      | zero => exact hc.trans (decide_eq_true (by omega)).symm
      | succ k =>
        rw [rsN_succ, lnF_more f (ctB t 10) (by omega) k (by omega)]
        simp
theorem lnN_more (t : ByteArray) {k : Nat} (hk : k < lnN t) : ctF (rsN t k) 10 = decide (k + 1 < lnN t) := lnF_more t.size t (Nat.le_refl _) k hk
theorem lnF_le : ∀ (f : Nat) (t : ByteArray), lnF f t ≤ f + 1
  | 0, _ => Nat.le_refl _
  | f + 1, t => by simp only [lnF]; have := lnF_le f (ctB t 10); split <;> omega
theorem lnN_le (t : ByteArray) : lnN t ≤ t.size + 1 := lnF_le _ _
theorem lnN_pos (t : ByteArray) : 1 ≤ lnN t := lnF_pos _ _
theorem lnS_le (t : ByteArray) (k : Nat) : (lnS t k).size ≤ t.size := Nat.le_trans (ctA_le _ _) (Nat.le_trans (ctA_le _ _) (rsN_le t k))
end Go.Proofs.YtjlbcpmfbokinaaGreatDoor
