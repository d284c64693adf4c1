/-
  Layer 2, contracts: the scanner: accept, comma.
  Layer 2, contracts: the scanner: digits.
  Layer 2, contracts: the scanner: register.
-/
import Derived.Test.YtjlbcpmfbokinaaGreatDoorGD
import Derived.Shelf.Small.Wraps
set_option linter.unusedSimpArgs false
set_option linter.unusedVariables false
namespace Go.Proofs
open Go.Shelf
def Tryz.lays103_ren : Go.Shelf.Ren := ⟨fun | 103 => 116 | 210 => 132 | 206 => 139 | n => n, fun | 9 => 9 | 4 => 4 | 24 => 155 | 3 => 3 | n => n, fun | n => n⟩
theorem Tryz.lays103 : Go.Proofs.Lays.n103 Tryz.prog Tryz.lays103_ren := {
  mixed := by kernel_rfl
  f103 := Tryz.func116.trans (congrArg some (by kernel_rfl))
  f206 := Tryz.func139.trans (congrArg some (by kernel_rfl))
  f210 := Tryz.func132.trans (congrArg some (by kernel_rfl))
  t3 := Tryz.underlying3
  a3 := Tryz.isAgg3
  z3 := Tryz.sizeOf3
  v3 := Tryz.zeroValue3
  t4 := Tryz.underlying4
  a4 := Tryz.isAgg4
  z4 := Tryz.sizeOf4
  v4 := Tryz.zeroValue4
  t9 := Tryz.underlying9
  a9 := Tryz.isAgg9
  z9 := Tryz.sizeOf9
  v9 := Tryz.zeroValue9
  t24 := Tryz.underlying155
  a24 := Tryz.isAgg155
  z24 := Tryz.sizeOf155
  v24 := Tryz.zeroValue155 }
end Go.Proofs
namespace Go.Proofs.YtjlbcpmfbokinaaGreatDoor
open Go.RowKit Go.Shelf

theorem cutPrefix_any (s p : ByteArray) (w : World) : Calls Tryz.prog 116 #[.string s, .string p] w fun e w' => e = .returned (.tuple #[.string ⟨(Lib.trimPrefix s.data.toList p.data.toList).toArray⟩, .bool (Lib.hasPrefix s.data.toList p.data.toList)]) ∧ w' = w := by
  have hcon := Any.strings_CutPrefix Tryz.lays103 s p w
  exact hcon

/-- What is left behind a prefix; whether it is there. -/
def cpB (s p : ByteArray) : ByteArray := ⟨(Lib.trimPrefix s.data.toList p.data.toList).toArray⟩
def hpB (s p : ByteArray) : Bool := Lib.hasPrefix s.data.toList p.data.toList
set_option maxHeartbeats 1000000 in
theorem accept_any (b : Nat) (s p : ByteArray) (w : World) (h : w.cell? ⟨b, 0, none⟩ = some (.string s)) (f : w.frozen? ⟨b, 0, none⟩ = false) :
    Calls Tryz.prog 83 #[.pointer (some ⟨b, 0, none⟩), .string p] w fun e w' => e = .returned (.bool (hpB s p)) ∧ Scn b (cpB s p) w w' := by
  have HT := cutPrefix_any s p w
  have hS := fun t => Scn.set (s := s) t (Below.refl w.heap.size w) h
  unfold cpB hpB
  generalize (⟨(Lib.trimPrefix s.data.toList p.data.toList).toArray⟩ : ByteArray) = r at *
  generalize Lib.hasPrefix s.data.toList p.data.toList = c at *
  go_enter Tryz.func83, Tryz.ntmps83
  go_wp2_with (go_at_call 116; refine HT.mono ?_; rintro e w1 ⟨rfl, rfl⟩)
  go_ret
  exact ⟨rfl, hS _⟩

theorem afB_le (s : ByteArray) : (afB s).size ≤ s.size := by
  have hd : ∀ (l : List UInt8) (p : UInt8 → Bool), (l.dropWhile p).length ≤ l.length := fun l p => by
    induction l with
    | nil => simp
    | cons a l ih => rw [List.dropWhile_cons]; split <;> simp <;> omega
  have hl : (afB s).size = (Lib.trimLeftS s.data.toList [32, 9]).length := by simp [afB, ByteArray.size]
  rw [hl]
  exact Nat.le_trans (hd _ _) (by rw [← Lib.size_eq]; exact Nat.le_refl _)
theorem cpB_le (s p : ByteArray) : (cpB s p).size ≤ s.size := by
  have hl : (cpB s p).size = (Lib.trimPrefix s.data.toList p.data.toList).length := by simp [cpB, ByteArray.size]
  have he : s.data.toList.length = s.size := (Lib.size_eq s).symm
  rw [hl, ← he]
  unfold Lib.trimPrefix
  split <;> simp
/-- A comma: whether it is there; what is left behind it. -/
def cmB (s : ByteArray) : Bool := hpB (afB s) ⟨#[44]⟩
def cmA (s : ByteArray) : ByteArray := afB (cpB (afB s) ⟨#[44]⟩)
set_option maxHeartbeats 1000000 in
theorem comma_ok (b : Nat) (s : ByteArray) (hs : s.size ≤ maxLen) (w : World) (h : w.cell? ⟨b, 0, none⟩ = some (.string s)) (f : w.frozen? ⟨b, 0, none⟩ = false) (hE : cmB s = true) :
    Calls Tryz.prog 66 #[.pointer (some ⟨b, 0, none⟩)] w fun e w' => e = .returned (.tuple #[]) ∧ Scn b (cmA s) w w' := by
  have HT : Calls Tryz.prog 61 #[.pointer (some ⟨b, 0, none⟩)] w fun e w' => (∃ n, e = .returned (.int .i64 n)) ∧ Scn b (afB s) w w' := (blanks_any b s hs w h f).mono (fun e w' ⟨h1, h2⟩ => ⟨⟨_, h1⟩, h2⟩)
  have HT2 : ∀ W, W.cell? ⟨b, 0, none⟩ = some (.string (cpB (afB s) ⟨#[44]⟩)) → W.frozen? ⟨b, 0, none⟩ = false → Calls Tryz.prog 61 #[.pointer (some ⟨b, 0, none⟩)] W fun e w' => (∃ n, e = .returned (.int .i64 n)) ∧ Scn b (cmA s) W w' := fun W hW fW => (blanks_any b _ (Nat.le_trans (Nat.le_trans (cpB_le _ _) (afB_le _)) hs) W hW fW).mono (fun e w' ⟨h1, h2⟩ => ⟨⟨_, h1⟩, h2⟩)
  have HA := fun W hW fW => accept_any b (afB s) ⟨#[44]⟩ W hW fW
  rw [show hpB (afB s) ⟨#[44]⟩ = true from hE] at HA
  have HN := fun W => need_ok (.pointer (some ⟨b, 0, none⟩)) W
  clear hE
  generalize cmA s = r2 at *
  generalize (cpB (afB s) ⟨#[44]⟩) = r1 at *
  generalize afB s = r at *
  go_enter Tryz.func66, Tryz.ntmps66
  go_wp2_with first | (go_at_call 83; (refine (HA _ cA fA).mono ?_); rintro e w2 ⟨rfl, hA⟩; have cB := hA.rest; have fB := hA.fz 0 fA; clear cA) | (go_at_call 61; (refine (HT2 _ cB fB).mono ?_); rintro e w3 ⟨⟨n2, rfl⟩, hC⟩) | (go_at_call 61; (refine HT.mono ?_); rintro e w1 ⟨⟨n1, rfl⟩, hB⟩; have cA := hB.rest; have fA := hB.fz 0 f) | (go_at_call 64; (refine (HN _).mono ?_); rintro e w4 ⟨rfl, rfl⟩)
  first | exact bodyPost_ret (results_none rfl _ _ _) rfl ⟨rfl, (hB.trans hA).trans hC⟩ | exact bodyPost_end (results_none rfl _ _ _) rfl ⟨rfl, (hB.trans hA).trans hC⟩
set_option maxHeartbeats 1000000 in
theorem comma_bad (b : Nat) (s : ByteArray) (hs : s.size ≤ maxLen) (w : World) (h : w.cell? ⟨b, 0, none⟩ = some (.string s)) (f : w.frozen? ⟨b, 0, none⟩ = false) (hE : cmB s = false) :
    Calls Tryz.prog 66 #[.pointer (some ⟨b, 0, none⟩)] w fun e w' => e = .panicked (erV 22) ∧ Scn b (cpB (afB s) ⟨#[44]⟩) w w' := by
  have HT : Calls Tryz.prog 61 #[.pointer (some ⟨b, 0, none⟩)] w fun e w' => (∃ n, e = .returned (.int .i64 n)) ∧ Scn b (afB s) w w' := (blanks_any b s hs w h f).mono (fun e w' ⟨h1, h2⟩ => ⟨⟨_, h1⟩, h2⟩)
  have HA := fun W hW fW => accept_any b (afB s) ⟨#[44]⟩ W hW fW
  rw [show hpB (afB s) ⟨#[44]⟩ = false from hE] at HA
  have HN := fun W => need_bad (.pointer (some ⟨b, 0, none⟩)) W
  clear hE
  generalize (cpB (afB s) ⟨#[44]⟩) = r1 at *
  generalize afB s = r at *
  go_enter Tryz.func66, Tryz.ntmps66
  go_wp2_with first | (go_at_call 83; (refine (HA _ cA fA).mono ?_); rintro e w2 ⟨rfl, hA⟩; have cB := hA.rest; have fB := hA.fz 0 fA; clear cA) | (go_at_call 61; (refine HT.mono ?_); rintro e w1 ⟨⟨n1, rfl⟩, hB⟩; have cA := hB.rest; have fA := hB.fz 0 f) | (go_at_call 64; (refine (HN _).mono ?_); rintro e w4 ⟨rfl, rfl⟩)
  exact ⟨rfl, rfl, hB.trans hA⟩
end Go.Proofs.YtjlbcpmfbokinaaGreatDoor

namespace Go.Proofs.YtjlbcpmfbokinaaGreatDoor
open Go.RowKit Go.Shelf

/-- The byte at a place of a text. -/
def chA (s : ByteArray) (k : Nat) : Int := ((s.data.toList.getD k 0).toNat : Int)
theorem chA_get (s : ByteArray) {k : Nat} (h : k < s.size) : chA s k = (s[k].toNat : Int) := by
  unfold chA
  have hgd : s.data.toList.getD k 0 = s[k] := by
    simp only [List.getD, Array.getElem?_toList]
    rw [Array.getElem?_eq_getElem (show k < s.data.size from h)]
    rfl
  rw [hgd]
/-- How many digits a text begins with; their number. -/
def dgN (s : ByteArray) : Nat := cnt (fun k => dgC (chA s k)) s.size
def dvV (s : ByteArray) : Nat → Int
  | 0 => 0
  | k + 1 => 10 * dvV s k + (chA s k - 48)
def dgOk (s : ByteArray) : Bool := decide (0 < dgN s ∧ dgN s ≤ 19)
theorem dvV_bd (s : ByteArray) : ∀ k, (∀ j, j < k → dgC (chA s j) = true) → 0 ≤ dvV s k ∧ dvV s k < (10 : Int) ^ k
  | 0, _ => by simp [dvV]
  | k + 1, h => by
    have ⟨h1, h2⟩ := dvV_bd s k (fun j hj => h j (by omega))
    have h3 := h k (by omega)
    have h4 : 48 ≤ chA s k ∧ chA s k ≤ 57 := by unfold dgC at h3; exact of_decide_eq_true h3
    have h5 : (10 : Int) ^ (k + 1) = 10 * 10 ^ k := by rw [Int.pow_succ]; omega
    simp only [dvV]
    rw [h5]
    generalize (10 : Int) ^ k = p at *
    omega
theorem pow19 : ∀ k, k ≤ 19 → (10 : Int) ^ k ≤ 10000000000000000000 := by decide

set_option maxRecDepth 100000 in
set_option maxHeartbeats 2000000 in
theorem digits_gen (b : Nat) (s : ByteArray) (hs : s.size ≤ maxLen) (w : World) (R : Ending → World → Prop) (h : w.cell? ⟨b, 0, none⟩ = some (.string s)) (f : w.frozen? ⟨b, 0, none⟩ = false)
    (HR : Hid ((dgOk s = true → ∀ w', Scn b (s.extract (dgN s) s.size) w w' → R (.returned (.int .u64 (dvV s (dgN s)))) w') ∧ (dgOk s = false → R (.panicked (erV 22)) w))) :
    Calls Tryz.prog 113 #[.pointer (some ⟨b, 0, none⟩)] w R := by
  unfold maxLen at hs
  have NO := fun W => need_ok (.pointer (some ⟨b, 0, none⟩)) W
  have NB := fun W => need_bad (.pointer (some ⟨b, 0, none⟩)) W
  have hS := Lib.hid (fun t => Scn.set (s := s) t (Below.refl w.heap.size w) h)
  go_enter Tryz.func113, Tryz.ntmps113
  go_wp2_with fail
  go_loop [3, 4] (fun i v => ∃ k : Nat, k ≤ s.size ∧ k ≤ 19 ∧ i = .int .i64 (k : Int) ∧ v = .int .u64 (dvV s k) ∧ Hid (∀ j, j < k → dgC (chA s j) = true)) (fun i v => s.size - (intOf i).toNat)
  case atStart => exact ⟨0, Nat.zero_le _, by omega, rfl, rfl, Lib.hid (fun j hj => by omega)⟩
  case round =>
    obtain ⟨k, hk, hk9, rfl, rfl, hok⟩ := hrel
    have hend : (k < s.size → dgC (chA s k) = false) → Hid (dgN s = k) := fun hf => Lib.hid (cnt_eq hk hok.out hf)
    have hbd := dvV_bd s k hok.out
    have hp9 := pow19 k hk9
    by_cases hlt : k < s.size
    · have DG := fun W => isDigit_any (s[k].toNat : Int) W
      have hch := chA_get s hlt
      cases hd : dgC (s[k].toNat : Int)
      · rw [hd] at DG
        have hE := hend (fun _ => by rw [hch]; exact hd)
        clear hend hd hok hch hbd hp9
        by_cases hz : k = 0
        · have HK : Hid (R (.panicked (erV 22)) w) := Lib.hid (HR.out.2 (by unfold dgOk; rw [hE.out]; simp; omega))
          have hi0 : ¬ (0 : Int) < (k : Int) := by omega
          clear hE
          subst hz
          go_wp2_with first | (go_at_call 110; (refine (DG _).mono ?_); rintro e w1 ⟨rfl, rfl⟩) | (go_at_call 64; (refine (NB _).mono ?_); rintro e w1 ⟨rfl, rfl⟩)
          exact ⟨rfl, HK.out⟩
        · have HK : Hid (∀ w', Scn b (s.extract k s.size) w w' → R (.returned (.int .u64 (dvV s k))) w') := Lib.hid (by have := HR.out.1 (by unfold dgOk; rw [hE.out]; simp; omega); rw [hE.out] at this; exact this)
          have hi0 : (0 : Int) < (k : Int) := by omega
          have hi1 : 0 < k := by omega
          have hki : (k : Int) ≤ (s.size : Int) := by omega
          clear hE hz
          generalize dvV s k = v at *
          go_wp2_with first | (go_at_call 110; (refine (DG _).mono ?_); rintro e w1 ⟨rfl, rfl⟩) | (go_at_call 64; (refine (NO _).mono ?_); rintro e w1 ⟨rfl, rfl⟩)
          exact HK.out _ (hS.out _)
      · rw [hd] at DG
        have hst : Hid (∀ j, j < k + 1 → dgC (chA s j) = true) := Lib.hid (fun j hj => by
          by_cases e : j = k
          · subst e; rw [hch]; exact hd
          · exact hok.out j (by omega))
        have h4 : 48 ≤ (s[k].toNat : Int) ∧ (s[k].toNat : Int) ≤ 57 := by unfold dgC at hd; exact of_decide_eq_true hd
        have hv : Hid (dvV s (k + 1) = 10 * dvV s k + ((s[k].toNat : Int) - 48)) := Lib.hid (by simp only [dvV]; rw [hch])
        clear hend hok hd
        by_cases h19 : k < 19
        · have hi9 : (k : Int) < 19 := by omega
          have hp8 : dvV s k < 1000000000000000000 := by
            have : ∀ k, k < 19 → (10 : Int) ^ k ≤ 1000000000000000000 := by decide
            exact Int.lt_of_lt_of_le hbd.2 (this k h19)
          have hb0 := hbd.1
          have hc0 := h4.1
          have hc1 := h4.2
          clear hbd hp9 h4 hch
          generalize dvV s k = v at *
          have w1 : (10 * v) % 18446744073709551616 = 10 * v := by omega
          have w2 : ((s[k].toNat : Int) - 48) % 256 = (s[k].toNat : Int) - 48 := by omega
          have w3 : (10 * v + ((s[k].toNat : Int) - 48)) % 18446744073709551616 = 10 * v + ((s[k].toNat : Int) - 48) := by omega
          have w4 : ((s[k].toNat : Int) - 48) % 18446744073709551616 = (s[k].toNat : Int) - 48 := by omega
          go_wp2_with first | (go_at_call 110; (refine (DG _).mono ?_); rintro e w1 ⟨rfl, rfl⟩) | (go_at_call 64; (refine (NO _).mono ?_); rintro e w1 ⟨rfl, rfl⟩)
          go_round
          case rel => exact ⟨k + 1, by omega, by omega, by go_num, by rw [hv.out], hst⟩
          case measure => simp [intOf]; omega
        · obtain rfl : k = 19 := by omega
          have HK : Hid (R (.panicked (erV 22)) w) := Lib.hid (HR.out.2 (by
            unfold dgOk
            apply decide_eq_false
            rintro ⟨_, g2⟩
            have g3 : dgN s < s.size := by omega
            have g4 := cnt_stop (fun k => dgC (chA s k)) s.size g3
            have g5 := hst.out (dgN s) (by omega)
            exact absurd (g5.symm.trans g4) (by decide)))
          clear hbd hp9 h4 hch hst hv
          generalize dvV s 19 = v at *
          go_wp2_with first | (go_at_call 110; (refine (DG _).mono ?_); rintro e w1 ⟨rfl, rfl⟩) | (go_at_call 64; (refine (NB _).mono ?_); rintro e w1 ⟨rfl, rfl⟩)
          exact ⟨rfl, HK.out⟩
    · have hE := hend (fun h => absurd h hlt)
      clear hend hok hbd hp9
      by_cases hz : k = 0
      · have HK : Hid (R (.panicked (erV 22)) w) := Lib.hid (HR.out.2 (by unfold dgOk; rw [hE.out]; simp; omega))
        have hi0 : ¬ (0 : Int) < (k : Int) := by omega
        clear hE
        subst hz
        go_wp2_with (go_at_call 64; (refine (NB _).mono ?_); rintro e w1 ⟨rfl, rfl⟩)
        exact ⟨rfl, HK.out⟩
      · have HK : Hid (∀ w', Scn b (s.extract k s.size) w w' → R (.returned (.int .u64 (dvV s k))) w') := Lib.hid (by have := HR.out.1 (by unfold dgOk; rw [hE.out]; simp; omega); rw [hE.out] at this; exact this)
        have hi0 : (0 : Int) < (k : Int) := by omega
        have hi1 : 0 < k := by omega
        have hki : (k : Int) ≤ (s.size : Int) := by omega
        clear hE hz
        generalize dvV s k = v at *
        go_wp2_with (go_at_call 64; (refine (NO _).mono ?_); rintro e w1 ⟨rfl, rfl⟩)
        exact HK.out _ (hS.out _)
end Go.Proofs.YtjlbcpmfbokinaaGreatDoor

namespace Go.Proofs.YtjlbcpmfbokinaaGreatDoor
open Go.RowKit Go.Shelf

/-- What is left behind the letter r; whether a register is there. -/
def rgR (s : ByteArray) : ByteArray := cpB s ⟨#[114]⟩
def rgOk (s : ByteArray) : Bool := hpB s ⟨#[114]⟩ && decide (0 < (rgR s).size ∧ 48 ≤ chA (rgR s) 0 ∧ chA (rgR s) 0 ≤ 55)
theorem nil_size (t : ByteArray) : (t.toList == []) = decide (t.size = 0) := by
  rw [Lib.toList_data, Lib.size_eq]
  cases t.data.toList <;> simp
set_option maxRecDepth 100000 in
set_option maxHeartbeats 2000000 in
theorem register_gen (b : Nat) (s : ByteArray) (w : World) (R : Ending → World → Prop) (h : w.cell? ⟨b, 0, none⟩ = some (.string s)) (f : w.frozen? ⟨b, 0, none⟩ = false)
    (HR : Hid ((rgOk s = true → ∀ w', Scn b ((rgR s).extract 1 (rgR s).size) w w' → R (.returned (.int .i64 (chA (rgR s) 0 - 48))) w') ∧ (rgOk s = false → ∀ w', Scn b (rgR s) w w' → R (.panicked (erV 22)) w'))) :
    Calls Tryz.prog 111 #[.pointer (some ⟨b, 0, none⟩)] w R := by
  have NO := fun W => need_ok (.pointer (some ⟨b, 0, none⟩)) W
  have NB := fun W => need_bad (.pointer (some ⟨b, 0, none⟩)) W
  have HA : Calls Tryz.prog 83 #[.pointer (some ⟨b, 0, none⟩), .string ⟨#[114]⟩] w fun e w' => e = .returned (.bool (hpB s ⟨#[114]⟩)) ∧ Scn b (rgR s) w w' := accept_any b s ⟨#[114]⟩ w h f
  have hnil := nil_size (rgR s)
  unfold rgOk at HR
  generalize rgR s = r at *
  cases hp : hpB s ⟨#[114]⟩
  · rw [hp] at HA HR
    have HK : Hid (∀ w', Scn b r w w' → R (.panicked (erV 22)) w') := Lib.hid (HR.out.2 rfl)
    clear hp HR hnil
    go_enter Tryz.func111, Tryz.ntmps111
    go_wp2_with first | (go_at_call 83; (refine HA.mono ?_); rintro e w1 ⟨rfl, hB⟩) | (go_at_call 64; (refine (NB _).mono ?_); rintro e w2 ⟨rfl, rfl⟩)
    exact ⟨rfl, HK.out _ hB⟩
  rw [hp] at HA HR
  clear hp
  by_cases h0 : r.size = 0
  · have HK : Hid (∀ w', Scn b r w w' → R (.panicked (erV 22)) w') := Lib.hid (HR.out.2 (by rw [h0]; simp))
    rw [decide_eq_true h0] at hnil
    clear HR
    go_enter Tryz.func111, Tryz.ntmps111
    go_wp2_with first | (go_at_call 83; (refine HA.mono ?_); rintro e w1 ⟨rfl, hB⟩; have c1 := hB.rest) | (go_at_call 64; (refine (NO _).mono ?_); rintro e w2 ⟨rfl, rfl⟩) | (go_at_call 64; (refine (NB _).mono ?_); rintro e w2 ⟨rfl, rfl⟩)
    exact ⟨rfl, HK.out _ hB⟩
  rw [decide_eq_false h0] at hnil
  have hlt : 0 < r.size := by omega
  have hch := chA_get r hlt
  clear h0
  by_cases h1 : 48 ≤ (r[0].toNat : Int)
  · by_cases h2 : (r[0].toNat : Int) ≤ 55
    · have HK : Hid (∀ w', Scn b (r.extract 1 r.size) w w' → R (.returned (.int .i64 ((r[0].toNat : Int) - 48))) w') := Lib.hid (by
        have := HR.out.1 (by rw [hch, decide_eq_true ⟨hlt, h1, h2⟩]; rfl)
        rw [hch] at this; exact this)
      have w1 : ((r[0].toNat : Int) - 48) % 256 = (r[0].toNat : Int) - 48 := by omega
      have w2 : wrap64 ((r[0].toNat : Int) - 48) = (r[0].toNat : Int) - 48 := by unfold wrap64; omega
      have hki : (1 : Int) ≤ (r.size : Int) := by omega
      clear HR hch
      go_enter Tryz.func111, Tryz.ntmps111
      go_wp2_with first | (go_at_call 83; (refine HA.mono ?_); rintro e w1 ⟨rfl, hB⟩; have c1 := hB.rest; have f1 := hB.fz 0 f) | (go_at_call 64; (refine (NO _).mono ?_); rintro e w2 ⟨rfl, rfl⟩)
      exact HK.out _ (hB.trans (Scn.set _ (Below.refl _ _) c1))
    · have HK : Hid (∀ w', Scn b r w w' → R (.panicked (erV 22)) w') := Lib.hid (HR.out.2 (by rw [hch]; simp; omega))
      have h3 : decide ((r[0].toNat : Int) ≤ 55) = false := decide_eq_false h2
      have h4 : 55 < (r[0].toNat : Int) := by omega
      have h5 : ¬ r[0].toNat ≤ 55 := by omega
      clear HR hch
      go_enter Tryz.func111, Tryz.ntmps111
      go_wp2_with first | (go_at_call 83; (refine HA.mono ?_); rintro e w1 ⟨rfl, hB⟩; have c1 := hB.rest) | (go_at_call 64; (refine (NO _).mono ?_); rintro e w2 ⟨rfl, rfl⟩) | (go_at_call 64; (refine (NB _).mono ?_); rintro e w2 ⟨rfl, rfl⟩)
      exact ⟨rfl, HK.out _ hB⟩
  · have HK : Hid (∀ w', Scn b r w w' → R (.panicked (erV 22)) w') := Lib.hid (HR.out.2 (by rw [hch]; simp; omega))
    clear HR hch
    go_enter Tryz.func111, Tryz.ntmps111
    go_wp2_with first | (go_at_call 83; (refine HA.mono ?_); rintro e w1 ⟨rfl, hB⟩; have c1 := hB.rest) | (go_at_call 64; (refine (NO _).mono ?_); rintro e w2 ⟨rfl, rfl⟩) | (go_at_call 64; (refine (NB _).mono ?_); rintro e w2 ⟨rfl, rfl⟩)
    exact ⟨rfl, HK.out _ hB⟩
end Go.Proofs.YtjlbcpmfbokinaaGreatDoor
