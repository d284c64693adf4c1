/-
  Layer 2, contracts: sameBytes; isLetter, isDigit, wordLength; require.
  Layer 2, contracts: byMnemonic, isName.
  Layer 2, contracts: isName.
  Layer 2, contracts: signed.
-/
import Derived.Test.YtjlbcpmfbokinaaGreatDoorIk
import Derived.Laws.BytesArg
import Derived.Laws.BytesString
set_option linter.unusedSimpArgs false
set_option linter.unusedVariables false
namespace Go.Proofs.YtjlbcpmfbokinaaGreatDoor
open Go.RowKit

theorem strOfNums_bytes (l : List UInt8) : strOfNums (l.map fun b => (b.toNat : Int)) = ⟨l.toArray⟩ := by
  unfold strOfNums
  congr 2
  rw [List.map_map]
  conv => rhs; rw [← List.map_id l]
  apply List.map_congr_left
  intro x _
  simp
theorem conv_bytes (X : List UInt8) (p : Option Addr) (c : Nat) (w : World) (h : SeqAt w p (bV X)) : (convert 37 9 (.slice p X.length c)).run Tryz.prog w = .ok (.string ⟨X.toArray⟩) w := by
  rcases h with h | ⟨b, o, rfl, h⟩
  · have hX : X = [] := by simpa [bV] using h
    subst hX
    show (convert 37 9 (.slice p 0 c)).run Tryz.prog w = _
    rw [run_convert_bytes_string w 37 9 _ _ 0 c Tryz.underlying37 Tryz.underlying5 Tryz.underlying9]
    cases p <;> simp [Conv.bytesToString, loadCells]
    all_goals rfl
  · rw [run_convert_bytes_arg w 37 5 Tryz.underlying37 Tryz.underlying5 b o X.length c (X.map fun x => (x.toNat : Int)) (by simp) (fun i hi => ?_) 9 Tryz.underlying9, strOfNums_bytes]
    rw [h i _ (bV_get X i hi)]
    simp [List.getD, hi]
theorem sameBytes_any (X Y : List UInt8) (p q : Option Addr) (pc qc : Nat) (w : World) (hX : SeqAt w p (bV X)) (hY : SeqAt w q (bV Y)) : Calls Tryz.prog 21 #[.slice p X.length pc, .slice q Y.length qc] w fun e w' => e = .returned (.bool (X == Y)) ∧ w = w' := by
  have C1 := conv_bytes X p pc w hX
  have C2 := conv_bytes Y q qc w hY
  have hE : ((⟨X.toArray⟩ : ByteArray).toList = (⟨Y.toArray⟩ : ByteArray).toList) ↔ X = Y := by
    constructor
    · intro h; simpa using h
    · intro h; rw [h]
  clear hX hY
  generalize (⟨X.toArray⟩ : ByteArray) = t1 at *
  generalize (⟨Y.toArray⟩ : ByteArray) = t2 at *
  by_cases hB : X = Y
  · have hB2 := hE.2 hB
    rw [beq_iff_eq.2 hB]
    clear hB hE
    go_enter Tryz.func21, Tryz.ntmps21
    go_wp2_with fail
    go_ret
    exact ⟨by simp [hB2], rfl⟩
  · have hB2 : ¬ t1.toList = t2.toList := fun h => hB (hE.1 h)
    rw [beq_eq_false_iff_ne.2 hB]
    clear hB hE
    go_enter Tryz.func21, Tryz.ntmps21
    go_wp2_with fail
    go_ret
    exact ⟨by simp [hB2], rfl⟩

/-- A letter; a digit. -/
def ltC (c : Int) : Bool := decide (97 ≤ c ∧ c ≤ 122) || decide (65 ≤ c ∧ c ≤ 90) || decide (c = 95)
def dgC (c : Int) : Bool := decide (48 ≤ c ∧ c ≤ 57)
theorem isDigit_any (c : Int) (w : World) : Calls Tryz.prog 110 #[.int .u8 c] w fun e w' => e = .returned (.bool (dgC c)) ∧ w = w' := by
  by_cases h1 : 48 ≤ c
  · by_cases h2 : c ≤ 57
    · rw [show dgC c = true by unfold dgC; rw [decide_eq_true ⟨h1, h2⟩]]
      go_enter Tryz.func110, Tryz.ntmps110
      go_wp2
      go_ret
      exact ⟨rfl, rfl⟩
    · rw [show dgC c = false by unfold dgC; rw [decide_eq_false (fun h => h2 h.2)]]
      go_enter Tryz.func110, Tryz.ntmps110
      go_wp2
      go_ret
      exact ⟨rfl, rfl⟩
  · rw [show dgC c = false by unfold dgC; rw [decide_eq_false (fun h => h1 h.1)]]
    go_enter Tryz.func110, Tryz.ntmps110
    go_wp2
    go_ret
    exact ⟨rfl, rfl⟩
theorem isLetter_any (c : Int) (w : World) : Calls Tryz.prog 109 #[.int .u8 c] w fun e w' => e = .returned (.bool (ltC c)) ∧ w = w' := by
  have hcase : (97 ≤ c ∧ c ≤ 122) ∨ (122 < c) ∨ (65 ≤ c ∧ c ≤ 90) ∨ c = 95 ∨ (90 < c ∧ c < 97 ∧ c ≠ 95) ∨ c < 65 := by omega
  rcases hcase with ⟨h1, h2⟩ | h | ⟨h1, h2⟩ | h | ⟨h1, h2, h3⟩ | h
  · rw [show ltC c = true by unfold ltC; rw [decide_eq_true ⟨h1, h2⟩]; rfl]
    go_enter Tryz.func109, Tryz.ntmps109
    go_wp2
    go_ret
    exact ⟨rfl, rfl⟩
  · rw [show ltC c = false by unfold ltC; rw [decide_eq_false (by omega), decide_eq_false (by omega), decide_eq_false (by omega)]; rfl]
    have n1 : (97 : Int) ≤ c := by omega
    have n2 : ¬ c ≤ 122 := by omega
    have n3 : (65 : Int) ≤ c := by omega
    have n4 : ¬ c ≤ 90 := by omega
    have n5 : (c == 95) = false := by rw [beq_eq_false_iff_ne]; omega
    clear h
    go_enter Tryz.func109, Tryz.ntmps109
    go_wp2
    go_ret
    exact ⟨rfl, rfl⟩
  · rw [show ltC c = true by unfold ltC; rw [decide_eq_true (show 65 ≤ c ∧ c ≤ 90 from ⟨h1, h2⟩)]; simp]
    have n1 : ¬ (97 : Int) ≤ c := by omega
    go_enter Tryz.func109, Tryz.ntmps109
    go_wp2
    go_ret
    exact ⟨rfl, rfl⟩
  · subst h
    rw [show ltC 95 = true by decide]
    go_enter Tryz.func109, Tryz.ntmps109
    go_wp2
    go_ret
    exact ⟨rfl, rfl⟩
  · rw [show ltC c = false by unfold ltC; rw [decide_eq_false (by omega), decide_eq_false (by omega), decide_eq_false (by omega)]; rfl]
    have n1 : ¬ (97 : Int) ≤ c := by omega
    have n3 : (65 : Int) ≤ c := by omega
    have n4 : ¬ c ≤ 90 := by omega
    have n5 : (c == 95) = false := by rw [beq_eq_false_iff_ne]; omega
    clear h1 h2 h3
    go_enter Tryz.func109, Tryz.ntmps109
    go_wp2
    go_ret
    exact ⟨rfl, rfl⟩
  · rw [show ltC c = false by unfold ltC; rw [decide_eq_false (by omega), decide_eq_false (by omega), decide_eq_false (by omega)]; rfl]
    have n1 : ¬ (97 : Int) ≤ c := by omega
    have n3 : ¬ (65 : Int) ≤ c := by omega
    have n5 : (c == 95) = false := by rw [beq_eq_false_iff_ne]; omega
    clear h
    go_enter Tryz.func109, Tryz.ntmps109
    go_wp2
    go_ret
    exact ⟨rfl, rfl⟩

theorem require_ok (E : Int) (w : World) : Calls Tryz.prog 70 #[.bool true, .int .i64 E] w fun e w' => e = .returned (.tuple #[]) ∧ w = w' := by
  go_enter Tryz.func70, Tryz.ntmps70
  go_wp2
  first | exact bodyPost_ret (results_none rfl _ _ _) rfl ⟨rfl, rfl⟩ | exact bodyPost_end (results_none rfl _ _ _) rfl ⟨rfl, rfl⟩

/-- How many letters, digits and _ a text begins with. -/
def wlN (s : ByteArray) : Nat := cnt (fun k => ltC ((s.data.toList.getD k 0).toNat : Int) || dgC ((s.data.toList.getD k 0).toNat : Int)) s.size
set_option maxHeartbeats 1000000 in
theorem wordLength_any (s : ByteArray) (w : World) (hs : s.size ≤ maxLen) : Calls Tryz.prog 76 #[.string s] w fun e w' => e = .returned (.int .i64 (wlN s : Int)) ∧ w = w' := by
  unfold maxLen at hs
  obtain ⟨N, hN⟩ : ∃ N, wlN s = N := ⟨_, rfl⟩
  rw [hN]
  have HN := Lib.hid hN
  clear hN
  go_enter Tryz.func76, Tryz.ntmps76
  go_wp2_with fail
  go_loop [3] (fun i => ∃ k : Nat, k ≤ s.size ∧ i = .int .i64 (k : Int) ∧ Hid (∀ j, j < k → (ltC ((s.data.toList.getD j 0).toNat : Int) || dgC ((s.data.toList.getD j 0).toNat : Int)) = true)) (fun i => s.size - (intOf i).toNat)
  case atStart => exact ⟨0, Nat.zero_le _, rfl, Lib.hid (fun j hj => by omega)⟩
  case round =>
    obtain ⟨k, hk, rfl, hok⟩ := hrel
    by_cases hlt : k < s.size
    · have hgd : s.data.toList.getD k 0 = s[k] := by
        simp only [List.getD, Array.getElem?_toList]
        rw [Array.getElem?_eq_getElem (show k < s.data.size from hlt)]
        rfl
      have LT := fun W => isLetter_any (s[k].toNat : Int) W
      have DG := fun W => isDigit_any (s[k].toNat : Int) W
      have HK : ∀ b, (ltC (s[k].toNat : Int) || dgC (s[k].toNat : Int)) = b → (ltC ((s.data.toList.getD k 0).toNat : Int) || dgC ((s.data.toList.getD k 0).toNat : Int)) = b := fun b h => by rw [hgd]; exact h
      clear hgd
      cases hl : ltC (s[k].toNat : Int)
      · rw [hl] at LT
        cases hd : dgC (s[k].toNat : Int)
        · rw [hd] at DG
          have hE : Hid (wlN s = k) := Lib.hid (cnt_eq hk hok.out (fun _ => HK false (by rw [hl, hd]; rfl)))
          have HR : Hid ((k : Int) = (N : Int)) := Lib.hid (by rw [← HN.out, hE.out])
          clear hl hd hok HK hE
          go_wp2_with first | (go_at_call 109; (refine (LT _).mono ?_); rintro e w1 ⟨rfl, rfl⟩) | (go_at_call 110; (refine (DG _).mono ?_); rintro e w1 ⟨rfl, rfl⟩)
          go_ret
          exact ⟨retI HR.out, rfl⟩
        · rw [hd] at DG
          have hst : Hid (∀ j, j < k + 1 → (ltC ((s.data.toList.getD j 0).toNat : Int) || dgC ((s.data.toList.getD j 0).toNat : Int)) = true) := Lib.hid (fun j hj => by
            by_cases e : j = k
            · subst e; exact HK true (by rw [hl, hd]; rfl)
            · exact hok.out j (by omega))
          clear hl hd hok HK
          go_wp2_with first | (go_at_call 109; (refine (LT _).mono ?_); rintro e w1 ⟨rfl, rfl⟩) | (go_at_call 110; (refine (DG _).mono ?_); rintro e w1 ⟨rfl, rfl⟩)
          go_round
          case rel => exact ⟨k + 1, by omega, by go_num, hst⟩
          case measure => simp [intOf]; omega
      · rw [hl] at LT
        have hst : Hid (∀ j, j < k + 1 → (ltC ((s.data.toList.getD j 0).toNat : Int) || dgC ((s.data.toList.getD j 0).toNat : Int)) = true) := Lib.hid (fun j hj => by
          by_cases e : j = k
          · subst e; exact HK true (by rw [hl]; rfl)
          · exact hok.out j (by omega))
        clear hl hok HK
        go_wp2_with first | (go_at_call 109; (refine (LT _).mono ?_); rintro e w1 ⟨rfl, rfl⟩) | (go_at_call 110; (refine (DG _).mono ?_); rintro e w1 ⟨rfl, rfl⟩)
        go_round
        case rel => exact ⟨k + 1, by omega, by go_num, hst⟩
        case measure => simp [intOf]; omega
    · have hE : Hid (wlN s = k) := Lib.hid (cnt_eq hk hok.out (fun h => by omega))
      have HR : Hid ((k : Int) = (N : Int)) := Lib.hid (by rw [← HN.out, hE.out])
      clear hok hE
      go_wp2_with fail
      go_ret
      exact ⟨retI HR.out, rfl⟩
end Go.Proofs.YtjlbcpmfbokinaaGreatDoor

namespace Go.Proofs.YtjlbcpmfbokinaaGreatDoor
open Go.RowKit

/-- The first row with a mnemonic. -/
def ixM (m : ByteArray) : Nat := cnt (fun k => !decide ((mnS k).toList = m.toList)) 35
def knM (m : ByteArray) : Bool := decide (ixM m < 35)
@[reducible] def rowIV (k : Nat) : Value := rowV (opAt k).op (mnS k) (opAt k).sh (opAt k).rd (opAt k).wr

set_option maxRecDepth 100000 in
set_option maxHeartbeats 2000000 in
theorem byMn_gen (m : ByteArray) (v : Value) (kn : Bool) (HV : Hid (v = (if knM m then rowIV (ixM m) else rowZ) ∧ kn = knM m)) (w : World) (hT : TB w) : Calls Tryz.prog 62 #[.string m] w fun e w' => e = .returned (.tuple #[v, .bool kn]) ∧ Below w.heap.size w w' := by
  have HT := Lib.hid hT
  clear hT
  go_enter Tryz.func62, Tryz.ntmps62
  go_wp2_with fail
  go_loopw [5] (fun i wr => ∃ k : Nat, k ≤ 35 ∧ i = .int .i64 (k : Int) ∧ Hid (∀ j, j < k → (!decide ((mnS j).toList = m.toList)) = true) ∧ wr.cell? ⟨w.heap.size, 0, none⟩ = some (.int .i64 0) ∧ wr.cell? ⟨w.heap.size, 1, none⟩ = some (.string ⟨#[]⟩) ∧ wr.cell? ⟨w.heap.size, 2, none⟩ = some (.int .i64 0) ∧ wr.cell? ⟨w.heap.size, 3, none⟩ = some (.int .i64 0) ∧ wr.cell? ⟨w.heap.size, 4, none⟩ = some (.int .i64 0) ∧ wr.frozen? ⟨w.heap.size, 0, none⟩ = false ∧ wr.frozen? ⟨w.heap.size, 1, none⟩ = false ∧ wr.frozen? ⟨w.heap.size, 2, none⟩ = false ∧ wr.frozen? ⟨w.heap.size, 3, none⟩ = false ∧ wr.frozen? ⟨w.heap.size, 4, none⟩ = false ∧ w.heap.size < wr.heap.size ∧ Gr w.heap.size w wr) (fun i _ => 35 - (intOf i).toNat)
  case atStart => exact ⟨0, by omega, rfl, Lib.hid (fun j hj => by omega), by go_simp, by go_simp, by go_simp, by go_simp, by go_simp, by go_simp, by go_simp, by go_simp, by go_simp, by go_simp, by simp, by repeat (first | (with_reducible exact Gr.refl _) | with_reducible refine Gr.alloc ?_ _)⟩
  case round =>
    obtain ⟨k, hk, rfl, hok, r0, r1, r2, r3, r4, f0, f1, f2, f3, f4, hz, hG⟩ := hrel
    by_cases hlt : k < 35
    · have hlt' : (k : Int) < 35 := by omega
      have hk0 : (0 : Int) ≤ (k : Int) := by omega
      have hw1 : wrap64 ((k : Int) + 1) = (k : Int) + 1 := by unfold wrap64; omega
      have T2 := (HT.out.up hG.below).ot
      have c0 := T2.o k hlt
      have c1 := T2.m k hlt
      have c2 := T2.s k hlt
      have c3 := T2.r k hlt
      have c4 := T2.w k hlt
      have bz := lt_of_cell c0
      clear T2
      by_cases he : (mnS k).toList = m.toList
      · have he' : ((mnS k).toList == m.toList) = true := beq_iff_eq.2 he
        have hx : Hid (ixM m = k) := Lib.hid (cnt_eq hk hok.out (fun _ => by simp [he]))
        have HR : Hid (v = rowV (opAt k).op (mnS k) (opAt k).sh (opAt k).rd (opAt k).wr ∧ kn = true) := by
          have hk : knM m = true := by unfold knM; rw [hx.out]; exact decide_eq_true hlt
          refine Lib.hid ⟨?_, HV.out.2.trans hk⟩
          rw [HV.out.1, hk]
          simp only [if_true, rowIV, hx.out]
        clear hok hx
        generalize (opAt k).op = o at *
        generalize mnS k = n at *
        generalize (opAt k).sh = s at *
        generalize (opAt k).rd = r at *
        generalize (opAt k).wr = wv at *
        go_wp2_with fail
        refine bodyPost_ret (v := .tuple #[rowV o n s r wv, .bool true]) (by simp [results, go_sem, *]) rfl ?_
        refine ⟨by rw [HR.out.1, HR.out.2], Gr.below ?_⟩
        repeat (first | (with_reducible exact hG) | with_reducible refine Gr.setCell ?_ (by dsimp only; omega) _)
      · have hst : Hid (∀ j, j < k + 1 → (!decide ((mnS j).toList = m.toList)) = true) := Lib.hid (fun j hj => by
          by_cases e : j = k
          · subst e; simp [he]
          · exact hok.out j (by omega))
        have he' : ((mnS k).toList == m.toList) = false := beq_eq_false_iff_ne.2 he
        clear hok
        generalize (opAt k).op = o at *
        generalize mnS k = n at *
        generalize (opAt k).sh = s at *
        generalize (opAt k).rd = r at *
        generalize (opAt k).wr = wv at *
        go_wp2_with fail
        go_roundw
        case rel => exact ⟨k + 1, by omega, by go_num, hst, by go_simp, by go_simp, by go_simp, by go_simp, by go_simp, by go_simp, by go_simp, by go_simp, by go_simp, by go_simp, hz, hG⟩
        case measure => simp [intOf]; omega
    · obtain rfl : k = 35 := by omega
      have HR : Hid (v = rowZ ∧ kn = false) := by
        have hx : ixM m = 35 := cnt_eq (Nat.le_refl _) hok.out (fun h => by omega)
        have hk : knM m = false := by unfold knM; rw [hx]; rfl
        exact Lib.hid ⟨by rw [HV.out.1, hk]; rfl, HV.out.2.trans hk⟩
      clear hok
      go_wp2_with fail
      refine bodyPost_ret (v := .tuple #[rowZ, .bool false]) (by simp [results, go_sem, *]) rfl ?_
      refine ⟨by rw [HR.out.1, HR.out.2], Gr.below ?_⟩
      repeat (first | (with_reducible exact hG) | with_reducible refine Gr.setCell ?_ (by dsimp only; omega) _)
theorem byMn_yes {m : ByteArray} (h : knM m = true) (w : World) (hT : TB w) : Calls Tryz.prog 62 #[.string m] w fun e w' => e = .returned (.tuple #[rowIV (ixM m), .bool true]) ∧ Below w.heap.size w w' :=
  byMn_gen m _ _ (Lib.hid ⟨by rw [h]; rfl, h.symm⟩) w hT
theorem byMn_no {m : ByteArray} (h : knM m = false) (w : World) (hT : TB w) : Calls Tryz.prog 62 #[.string m] w fun e w' => e = .returned (.tuple #[rowZ, .bool false]) ∧ Below w.heap.size w w' :=
  byMn_gen m _ _ (Lib.hid ⟨by rw [h]; rfl, h.symm⟩) w hT
end Go.Proofs.YtjlbcpmfbokinaaGreatDoor

namespace Go.Proofs.YtjlbcpmfbokinaaGreatDoor
open Go.RowKit

/-- Whether a text is a name. -/
def inB (t : ByteArray) : Bool := decide (0 < t.size) && (decide (t.size ≤ 31) && (decide (wlN t = t.size) && !dgC ((t.data.toList.getD 0 0).toNat : Int)))
set_option maxHeartbeats 1000000 in
theorem isName_any (t : ByteArray) (w : World) (hs : t.size ≤ maxLen) : Calls Tryz.prog 118 #[.string t] w fun e w' => e = .returned (.bool (inB t)) ∧ w = w' := by
  have HW := wordLength_any t w hs
  have hle : wlN t ≤ t.size := cnt_le _ _
  unfold maxLen at hs
  obtain ⟨B, hB⟩ : ∃ B, inB t = B := ⟨_, rfl⟩
  rw [hB]
  by_cases h0 : 0 < t.size
  · have hgd : t.data.toList.getD 0 0 = t[0] := by
      simp only [List.getD, Array.getElem?_toList]
      rw [Array.getElem?_eq_getElem (show 0 < t.data.size from h0)]
      rfl
    have DG := fun W => isDigit_any (t[0].toNat : Int) W
    by_cases h1 : t.size ≤ 31
    · by_cases h2 : wlN t = t.size
      · rw [h2] at HW
        cases hd : dgC (t[0].toNat : Int)
        · have HB : Hid (B = true) := Lib.hid (by rw [← hB]; unfold inB; rw [decide_eq_true h0, decide_eq_true h1, decide_eq_true h2, hgd, hd]; rfl)
          rw [hd] at DG
          clear hB hgd hle h2 hd
          go_enter Tryz.func118, Tryz.ntmps118
          go_wp2_with first | (go_at_call 76; (refine HW.mono ?_); rintro e w1 ⟨rfl, rfl⟩) | (go_at_call 110; (refine (DG _).mono ?_); rintro e w1 ⟨rfl, rfl⟩)
          go_ret
          exact ⟨by rw [HB.out]; rfl, rfl⟩
        · have HB : Hid (B = false) := Lib.hid (by rw [← hB]; unfold inB; rw [decide_eq_true h0, decide_eq_true h1, decide_eq_true h2, hgd, hd]; rfl)
          rw [hd] at DG
          clear hB hgd hle h2 hd
          go_enter Tryz.func118, Tryz.ntmps118
          go_wp2_with first | (go_at_call 76; (refine HW.mono ?_); rintro e w1 ⟨rfl, rfl⟩) | (go_at_call 110; (refine (DG _).mono ?_); rintro e w1 ⟨rfl, rfl⟩)
          go_ret
          exact ⟨by rw [HB.out]; rfl, rfl⟩
      · have HB : Hid (B = false) := Lib.hid (by rw [← hB]; unfold inB; rw [decide_eq_true h0, decide_eq_true h1, decide_eq_false h2]; rfl)
        generalize wlN t = n at *
        have h3 : ((n : Int) == (t.size : Int)) = false := beq_eq_false_iff_ne.2 (by omega)
        clear hB hgd h2 DG
        go_enter Tryz.func118, Tryz.ntmps118
        go_wp2_with (go_at_call 76; (refine HW.mono ?_); rintro e w1 ⟨rfl, rfl⟩)
        go_ret
        exact ⟨by rw [HB.out]; rfl, rfl⟩
    · have HB : Hid (B = false) := Lib.hid (by rw [← hB]; unfold inB; rw [decide_eq_true h0, decide_eq_false h1]; rfl)
      have h3 : ¬ (t.size : Int) ≤ 31 := by omega
      clear hB hgd hle DG HW
      go_enter Tryz.func118, Tryz.ntmps118
      go_wp2_with fail
      go_ret
      exact ⟨by rw [HB.out]; rfl, rfl⟩
  · have HB : Hid (B = false) := Lib.hid (by rw [← hB]; unfold inB; rw [decide_eq_false h0]; rfl)
    have h3 : t.size = 0 := by omega
    clear hB hle HW
    go_enter Tryz.func118, Tryz.ntmps118
    go_wp2_with fail
    go_ret
    exact ⟨by rw [HB.out]; rfl, rfl⟩
end Go.Proofs.YtjlbcpmfbokinaaGreatDoor

namespace Go.Proofs.YtjlbcpmfbokinaaGreatDoor
open Go.RowKit

/-- The number with a magnitude and a sign, the nearest; whether there is one. -/
def sgV (m : Int) (neg : Bool) : Int := if neg then (if 9223372036854775808 < m then -9223372036854775808 else -m) else (if 9223372036854775807 < m then 9223372036854775807 else m)
def sgB (m : Int) (neg : Bool) : Bool := if neg then decide (m ≤ 9223372036854775808) else decide (m ≤ 9223372036854775807)
theorem signed_any (m : Int) (h0 : 0 ≤ m) (h1 : m < 18446744073709551616) (neg : Bool) (w : World) : Calls Tryz.prog 112 #[.int .u64 m, .bool neg] w fun e w' => e = .returned (.tuple #[.int .i64 (sgV m neg), .bool (sgB m neg)]) ∧ w = w' := by
  cases neg
  · by_cases h : 9223372036854775807 < m
    · rw [show sgV m false = 9223372036854775807 by unfold sgV; simp [h], show sgB m false = false by unfold sgB; simp; omega]
      go_enter Tryz.func112, Tryz.ntmps112
      go_wp2_with fail
      exact bodyPost_ret (v := .tuple #[.int .i64 (9223372036854775807), .bool false]) (by simp [results, go_sem, *]) rfl ⟨rfl, rfl⟩
    · rw [show sgV m false = m by unfold sgV; simp [h], show sgB m false = true by unfold sgB; simp; omega]
      have hw : wrap64 m = m := by unfold wrap64; omega
      go_enter Tryz.func112, Tryz.ntmps112
      go_wp2_with fail
      exact bodyPost_ret (v := .tuple #[.int .i64 m, .bool true]) (by simp [results, go_sem, *]) rfl ⟨rfl, rfl⟩
  · by_cases h : 9223372036854775808 < m
    · rw [show sgV m true = -9223372036854775808 by unfold sgV; simp [h], show sgB m true = false by unfold sgB; simp; omega]
      go_enter Tryz.func112, Tryz.ntmps112
      go_wp2_with fail
      exact bodyPost_ret (v := .tuple #[.int .i64 (-9223372036854775808), .bool false]) (by simp [results, go_sem, *]) rfl ⟨rfl, rfl⟩
    · rw [show sgV m true = -m by unfold sgV; simp [h], show sgB m true = true by unfold sgB; simp; omega]
      by_cases he : m = 9223372036854775808
      · subst he
        have hw : wrap64 (-wrap64 9223372036854775808) = -9223372036854775808 := by first | (unfold wrap64; omega) | rfl | (simp [wrap64])
        go_enter Tryz.func112, Tryz.ntmps112
        go_wp2_with fail
        exact bodyPost_ret (v := .tuple #[.int .i64 (-9223372036854775808), .bool true]) (by simp [results, go_sem, *]) rfl ⟨rfl, rfl⟩
      · have hw : wrap64 m = m := by unfold wrap64; omega
        have hw2 : wrap64 (-m) = -m := by unfold wrap64; omega
        clear he
        go_enter Tryz.func112, Tryz.ntmps112
        go_wp2_with fail
        exact bodyPost_ret (v := .tuple #[.int .i64 (-m), .bool true]) (by simp [results, go_sem, *]) rfl ⟨rfl, rfl⟩
end Go.Proofs.YtjlbcpmfbokinaaGreatDoor
