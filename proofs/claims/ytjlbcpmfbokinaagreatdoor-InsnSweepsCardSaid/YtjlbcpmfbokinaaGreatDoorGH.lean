/-
  Layer 2, contracts: the scanner: registerA, registerB, base, indirect, number.
  Layer 2, contracts: the scanner: number, name, target, address.
  Layer 2, contracts: the scanner: address.
  Layer 2, contracts: the readers of operands.
-/
import Derived.Test.YtjlbcpmfbokinaaGreatDoorIv
set_option linter.unusedSimpArgs false
set_option linter.unusedVariables false
namespace Go.Proofs.YtjlbcpmfbokinaaGreatDoor
open Go.RowKit Go.Shelf

theorem cpB_no {s p : ByteArray} (h : hpB s p = false) : cpB s p = s := by
  unfold hpB at h
  unfold cpB
  have : Lib.trimPrefix s.data.toList p.data.toList = s.data.toList := by
    unfold Lib.trimPrefix
    simp [h]
  rw [this]
/-- What a reader of operands leaves: none: a panic with ErrAsm. -/
def scA (S : Sc) : Option Sc := if rgOk S.s then some { S with s := (rgR S.s).extract 1 (rgR S.s).size, a := chA (rgR S.s) 0 - 48 } else none
def scB (S : Sc) : Option Sc := if rgOk S.s then some { S with s := (rgR S.s).extract 1 (rgR S.s).size, b := chA (rgR S.s) 0 - 48 } else none
/-- A method that does what a reader says. -/
structure Reads (F : Nat) (f : Sc → Option Sc) : Prop where
  ok : ∀ {p : Nat} {w : World} {S S' : Sc}, SB w p S → f S = some S' → Calls Tryz.prog F #[.pointer (some ⟨p, 0, none⟩)] w (Did p w S')
  bad : ∀ {p : Nat} {w : World} {S : Sc}, SB w p S → f S = none → Calls Tryz.prog F #[.pointer (some ⟨p, 0, none⟩)] w (Bad p w)

set_option maxHeartbeats 1000000 in
theorem registerA_reads : Reads 77 scA where
  ok := by
    intro p w S S' h hc
    unfold scA at hc
    split at hc <;> rename_i hr
    · obtain rfl := Option.some.inj hc
      clear hc
      have HR := register_sb_ok h hr
      generalize (rgR S.s).extract 1 (rgR S.s).size = t at *
      generalize chA (rgR S.s) 0 - 48 = v at *
      clear hr
      go_enter Tryz.func77, Tryz.ntmps77
      go_wp2_with (go_at_call 111; (refine HR.mono ?_); rintro e w1 ⟨rfl, hF, hB⟩; have c4 := hB.c4; have f4 := hB.fz 4)
      first | exact bodyPost_ret (results_none rfl _ _ _) rfl ⟨rfl, hF.set 4 _, hB.setA _⟩ | exact bodyPost_end (results_none rfl _ _ _) rfl ⟨rfl, hF.set 4 _, hB.setA _⟩
    · cases hc
  bad := by
    intro p w S h hc
    unfold scA at hc
    split at hc <;> rename_i hr
    · cases hc
    · clear hc
      have HR := register_sb_bad h (by simpa using hr)
      clear hr
      go_enter Tryz.func77, Tryz.ntmps77
      go_wp2_with (go_at_call 111; (refine HR.mono ?_); rintro e w1 ⟨rfl, hF⟩)
      exact ⟨rfl, rfl, hF⟩
set_option maxHeartbeats 1000000 in
theorem registerB_reads : Reads 78 scB where
  ok := by
    intro p w S S' h hc
    unfold scB at hc
    split at hc <;> rename_i hr
    · obtain rfl := Option.some.inj hc
      clear hc
      have HR := register_sb_ok h hr
      generalize (rgR S.s).extract 1 (rgR S.s).size = t at *
      generalize chA (rgR S.s) 0 - 48 = v at *
      clear hr
      go_enter Tryz.func78, Tryz.ntmps78
      go_wp2_with (go_at_call 111; (refine HR.mono ?_); rintro e w1 ⟨rfl, hF, hB⟩; have c5 := hB.c5; have f5 := hB.fz 5)
      first | exact bodyPost_ret (results_none rfl _ _ _) rfl ⟨rfl, hF.set 5 _, hB.setB _⟩ | exact bodyPost_end (results_none rfl _ _ _) rfl ⟨rfl, hF.set 5 _, hB.setB _⟩
    · cases hc
  bad := by
    intro p w S h hc
    unfold scB at hc
    split at hc <;> rename_i hr
    · cases hc
    · clear hc
      have HR := register_sb_bad h (by simpa using hr)
      clear hr
      go_enter Tryz.func78, Tryz.ntmps78
      go_wp2_with (go_at_call 111; (refine HR.mono ?_); rintro e w1 ⟨rfl, hF⟩)
      exact ⟨rfl, rfl, hF⟩

/-- The beginning of an address. -/
def scBase (S : Sc) : Option Sc := if hpB S.s ⟨#[91]⟩ then (scB { S with s := afB (cpB S.s ⟨#[91]⟩) }).map fun S2 => { S2 with s := afB S2.s } else none
set_option maxHeartbeats 1000000 in
theorem base_reads : Reads 114 scBase where
  ok := by
    intro p w S S' h hc
    unfold scBase at hc
    split at hc <;> rename_i hr
    · obtain ⟨S2, h2, rfl⟩ := Option.map_eq_some_iff.1 hc
      clear hc
      have HA := accept_sb ⟨#[91]⟩ h hr
      have NO := fun W => need_ok (.pointer (some ⟨p, 0, none⟩)) W
      have H2 := Lib.hid h2
      clear h2 hr
      go_enter Tryz.func114, Tryz.ntmps114
      go_wp2_with first | (go_at_call 83; (refine HA.mono ?_); rintro e w1 ⟨rfl, hF, hB⟩) | (go_at_call 64; (refine (NO _).mono ?_); rintro e w2 ⟨rfl, rfl⟩) | (go_at_call 61; (refine (blanks_sb hB3).mono ?_); rintro e w4 ⟨rfl, hF4, hB4⟩) | (go_at_call 61; (refine (blanks_sb hB).mono ?_); rintro e w2 ⟨rfl, hF2, hB2⟩) | (go_at_call 78; (refine (registerB_reads.ok hB2 H2.out).mono ?_); rintro e w3 ⟨rfl, hF3, hB3⟩)
      first | exact bodyPost_ret (results_none rfl _ _ _) rfl ⟨rfl, ((hF.trans hF2).trans hF3).trans hF4, hB4⟩ | exact bodyPost_end (results_none rfl _ _ _) rfl ⟨rfl, ((hF.trans hF2).trans hF3).trans hF4, hB4⟩
    · cases hc
  bad := by
    intro p w S h hc
    unfold scBase at hc
    split at hc <;> rename_i hr
    · have h2 := Option.map_eq_none_iff.1 hc
      clear hc
      have HA := accept_sb ⟨#[91]⟩ h hr
      have NO := fun W => need_ok (.pointer (some ⟨p, 0, none⟩)) W
      have H2 := Lib.hid h2
      clear h2 hr
      go_enter Tryz.func114, Tryz.ntmps114
      go_wp2_with first | (go_at_call 83; (refine HA.mono ?_); rintro e w1 ⟨rfl, hF, hB⟩) | (go_at_call 64; (refine (NO _).mono ?_); rintro e w2 ⟨rfl, rfl⟩) | (go_at_call 61; (refine (blanks_sb hB).mono ?_); rintro e w2 ⟨rfl, hF2, hB2⟩) | (go_at_call 78; (refine (registerB_reads.bad hB2 H2.out).mono ?_); rintro e w3 ⟨rfl, hF3⟩)
      exact ⟨rfl, rfl, (hF.trans hF2).trans hF3⟩
    · clear hc
      have HA := accept_sb ⟨#[91]⟩ h (by simpa using hr)
      have NB := fun W => need_bad (.pointer (some ⟨p, 0, none⟩)) W
      clear hr
      go_enter Tryz.func114, Tryz.ntmps114
      go_wp2_with first | (go_at_call 83; (refine HA.mono ?_); rintro e w1 ⟨rfl, hF, hB⟩) | (go_at_call 64; (refine (NB _).mono ?_); rintro e w2 ⟨rfl, rfl⟩)
      exact ⟨rfl, rfl, hF⟩

/-- The end of an address. -/
def scClose (S : Sc) : Option Sc := if hpB S.s ⟨#[93]⟩ then some { S with s := cpB S.s ⟨#[93]⟩ } else none
def scInd (S : Sc) : Option Sc := (scBase S).bind scClose
set_option maxHeartbeats 1000000 in
theorem indirect_reads : Reads 81 scInd where
  ok := by
    intro p w S S' h hc
    obtain ⟨S1, h1, h2⟩ := Option.bind_eq_some_iff.1 hc
    clear hc
    unfold scClose at h2
    split at h2 <;> rename_i hr
    · obtain rfl := Option.some.inj h2
      clear h2
      have HB := base_reads.ok h h1
      have HA := fun W (g : SB W p S1) => accept_sb ⟨#[93]⟩ g hr
      have NO := fun W => need_ok (.pointer (some ⟨p, 0, none⟩)) W
      clear hr h1
      go_enter Tryz.func81, Tryz.ntmps81
      go_wp2_with first | (go_at_call 114; (refine HB.mono ?_); rintro e w1 ⟨rfl, hF, hB⟩) | (go_at_call 83; (refine (HA _ hB).mono ?_); rintro e w2 ⟨rfl, hF2, hB2⟩) | (go_at_call 64; (refine (NO _).mono ?_); rintro e w3 ⟨rfl, rfl⟩)
      first | exact bodyPost_ret (results_none rfl _ _ _) rfl ⟨rfl, hF.trans hF2, hB2⟩ | exact bodyPost_end (results_none rfl _ _ _) rfl ⟨rfl, hF.trans hF2, hB2⟩
    · cases h2
  bad := by
    intro p w S h hc
    cases h1 : scBase S with
    | none =>
      have HB := base_reads.bad h h1
      clear hc h1
      go_enter Tryz.func81, Tryz.ntmps81
      go_wp2_with (go_at_call 114; (refine HB.mono ?_); rintro e w1 ⟨rfl, hF⟩)
      exact ⟨rfl, rfl, hF⟩
    | some S1 =>
      have HB := base_reads.ok h h1
      have h2 : scClose S1 = none := by unfold scInd at hc; rw [h1] at hc; exact hc
      unfold scClose at h2
      split at h2 <;> rename_i hr
      · cases h2
      · have HA := fun W (g : SB W p S1) => accept_sb ⟨#[93]⟩ g (show hpB S1.s ⟨#[93]⟩ = false by simpa using hr)
        have NB := fun W => need_bad (.pointer (some ⟨p, 0, none⟩)) W
        clear hc h1 h2 hr
        go_enter Tryz.func81, Tryz.ntmps81
        go_wp2_with first | (go_at_call 114; (refine HB.mono ?_); rintro e w1 ⟨rfl, hF, hB⟩) | (go_at_call 83; (refine (HA _ hB).mono ?_); rintro e w2 ⟨rfl, hF2, hB2⟩) | (go_at_call 64; (refine (NB _).mono ?_); rintro e w3 ⟨rfl, rfl⟩)
        exact ⟨rfl, rfl, hF.trans hF2⟩
end Go.Proofs.YtjlbcpmfbokinaaGreatDoor

namespace Go.Proofs.YtjlbcpmfbokinaaGreatDoor
open Go.RowKit Go.Shelf

theorem accept_sb_no {p : Nat} {w : World} {S : Sc} (q : ByteArray) (h : SB w p S) (hc : hpB S.s q = false) : Calls Tryz.prog 83 #[.pointer (some ⟨p, 0, none⟩), .string q] w fun e w' => e = .returned (.bool false) ∧ Frm p w w' ∧ SB w' p S := by
  have H := accept_sb q h hc
  rw [cpB_no hc] at H
  exact H
/-- The number of a text that begins with digits. -/
def dvA (t : ByteArray) : Int := dvV t (dgN t)
theorem dvA_bd {t : ByteArray} (h : dgOk t = true) : 0 ≤ dvA t ∧ dvA t < 18446744073709551616 := by
  unfold dgOk at h
  have h := of_decide_eq_true h
  have hb := dvV_bd t (dgN t) (fun j hj => cnt_ok _ _ j hj)
  have hp := pow19 (dgN t) h.2
  unfold dvA
  omega
theorem fits_is {p : Nat} {w : World} {S : Sc} (h : SB w p S) (n : Int) {c : Bool} (hc : ftB S.sh n = c) : Calls Tryz.prog 54 #[.int .i64 (S.sh : Int), .int .i64 n] w fun e w' => e = .returned (.bool c) ∧ w = w' := by
  subst hc
  exact fits_any S.sh h.h12 n w h.tab
theorem digits_is {p : Nat} {w : World} {S : Sc} (h : SB w p S) (hc : dgOk S.s = true) {m : Int} (hm : dvA S.s = m) : Calls Tryz.prog 113 #[.pointer (some ⟨p, 0, none⟩)] w fun e w' => e = .returned (.int .u64 m) ∧ Frm p w w' ∧ SB w' p { S with s := S.s.extract (dgN S.s) S.s.size } := by
  subst hm
  exact digits_sb_ok h hc
theorem signed_is (m : Int) (hb : 0 ≤ m ∧ m < 18446744073709551616) (neg : Bool) {v : Int} (hv : sgV m neg = v) {c : Bool} (hc : sgB m neg = c) (w : World) : Calls Tryz.prog 112 #[.int .u64 m, .bool neg] w fun e w' => e = .returned (.tuple #[.int .i64 v, .bool c]) ∧ w = w' := by
  subst hv hc
  exact signed_any m hb.1 hb.2 neg w

/-- A number behind a sign or none. -/
def scN (S : Sc) : Option Sc :=
  if dgOk (cpB S.s ⟨#[45]⟩) = true then
    if sgB (dvA (cpB S.s ⟨#[45]⟩)) (hpB S.s ⟨#[45]⟩) = true then
      if ftB S.sh (sgV (dvA (cpB S.s ⟨#[45]⟩)) (hpB S.s ⟨#[45]⟩)) = true then
        some { S with s := (cpB S.s ⟨#[45]⟩).extract (dgN (cpB S.s ⟨#[45]⟩)) (cpB S.s ⟨#[45]⟩).size, im := sgV (dvA (cpB S.s ⟨#[45]⟩)) (hpB S.s ⟨#[45]⟩) }
      else none
    else none
  else none
set_option maxHeartbeats 1000000 in
theorem number_reads : Reads 79 scN where
  ok := by
    intro p w S S' h hc
    unfold scN at hc
    split at hc <;> rename_i h1
    · split at hc <;> rename_i h2
      · split at hc <;> rename_i h3
        · obtain rfl := Option.some.inj hc
          clear hc
          have hm := dvA_bd h1
          have H1 := Lib.hid h1
          have HA := accept_sb ⟨#[45]⟩ h rfl
          generalize hM : dvA (cpB S.s ⟨#[45]⟩) = m at *
          have HM := Lib.hid hM
          generalize hpB S.s ⟨#[45]⟩ = neg at *
          generalize hV : sgV m neg = v at *
          have HV := Lib.hid hV
          have H2 := Lib.hid h2
          have H3 := Lib.hid h3
          have NO := fun W => need_ok (.pointer (some ⟨p, 0, none⟩)) W
          clear h1 h2 h3 hM hV
          go_enter Tryz.func79, Tryz.ntmps79
          go_wp2_with first | (go_at_call 64; (refine (NO _).mono ?_); rintro e w5 ⟨rfl, rfl⟩) | (go_at_call 54; (refine (fits_is hB2 v (H3.out)).mono ?_); rintro e w4 ⟨rfl, rfl⟩) | (go_at_call 112; (refine (signed_is m hm neg HV.out (H2.out) _).mono ?_); rintro e w3 ⟨rfl, rfl⟩) | (go_at_call 113; (refine (digits_is hB1 H1.out HM.out).mono ?_); rintro e w2 ⟨rfl, hF2, hB2⟩; have c2 := hB2.c2; have c6 := hB2.c6; have f6 := hB2.fz 6) | (go_at_call 83; (refine (HA).mono ?_); rintro e w1 ⟨rfl, hF1, hB1⟩)
          first | exact bodyPost_ret (results_none rfl _ _ _) rfl (⟨rfl, (hF1.trans hF2).set 6 _, hB2.setI _⟩) | exact bodyPost_end (results_none rfl _ _ _) rfl (⟨rfl, (hF1.trans hF2).set 6 _, hB2.setI _⟩)
        · cases hc
      · cases hc
    · cases hc
  bad := by
    intro p w S h hc
    unfold scN at hc
    split at hc <;> rename_i h1
    · split at hc <;> rename_i h2
      · split at hc <;> rename_i h3
        · cases hc
        · clear hc
          have h3 := eq_false_of_ne_true h3
          have hm := dvA_bd h1
          have H1 := Lib.hid h1
          have HA := accept_sb ⟨#[45]⟩ h rfl
          generalize hM : dvA (cpB S.s ⟨#[45]⟩) = m at *
          have HM := Lib.hid hM
          generalize hpB S.s ⟨#[45]⟩ = neg at *
          generalize hV : sgV m neg = v at *
          have HV := Lib.hid hV
          have H2 := Lib.hid h2
          have H3 := Lib.hid h3
          have NB := fun W => need_bad (.pointer (some ⟨p, 0, none⟩)) W
          clear h1 h2 h3 hM hV
          go_enter Tryz.func79, Tryz.ntmps79
          go_wp2_with first | (go_at_call 64; (refine (NB _).mono ?_); rintro e w5 ⟨rfl, rfl⟩) | (go_at_call 54; (refine (fits_is hB2 v (H3.out)).mono ?_); rintro e w4 ⟨rfl, rfl⟩) | (go_at_call 112; (refine (signed_is m hm neg HV.out (H2.out) _).mono ?_); rintro e w3 ⟨rfl, rfl⟩) | (go_at_call 113; (refine (digits_is hB1 H1.out HM.out).mono ?_); rintro e w2 ⟨rfl, hF2, hB2⟩; have c2 := hB2.c2; have c6 := hB2.c6; have f6 := hB2.fz 6) | (go_at_call 83; (refine (HA).mono ?_); rintro e w1 ⟨rfl, hF1, hB1⟩)
          exact ⟨rfl, rfl, hF1.trans hF2⟩
      · clear hc
        have h2 := eq_false_of_ne_true h2
        have hm := dvA_bd h1
        have H1 := Lib.hid h1
        have HA := accept_sb ⟨#[45]⟩ h rfl
        generalize hM : dvA (cpB S.s ⟨#[45]⟩) = m at *
        have HM := Lib.hid hM
        generalize hpB S.s ⟨#[45]⟩ = neg at *
        generalize hV : sgV m neg = v at *
        have HV := Lib.hid hV
        have H2 := Lib.hid h2
        have NB := fun W => need_bad (.pointer (some ⟨p, 0, none⟩)) W
        clear h1 h2 hM hV
        go_enter Tryz.func79, Tryz.ntmps79
        go_wp2_with first | (go_at_call 64; (refine (NB _).mono ?_); rintro e w5 ⟨rfl, rfl⟩) | (go_at_call 112; (refine (signed_is m hm neg HV.out (H2.out) _).mono ?_); rintro e w3 ⟨rfl, rfl⟩) | (go_at_call 113; (refine (digits_is hB1 H1.out HM.out).mono ?_); rintro e w2 ⟨rfl, hF2, hB2⟩; have c2 := hB2.c2; have c6 := hB2.c6; have f6 := hB2.fz 6) | (go_at_call 83; (refine (HA).mono ?_); rintro e w1 ⟨rfl, hF1, hB1⟩)
        exact ⟨rfl, rfl, hF1.trans hF2⟩
    · clear hc
      have h1 := eq_false_of_ne_true h1
      have H1 := Lib.hid h1
      have HA := accept_sb ⟨#[45]⟩ h rfl
      generalize hpB S.s ⟨#[45]⟩ = neg at *
      clear h1
      go_enter Tryz.func79, Tryz.ntmps79
      go_wp2_with first | (go_at_call 113; (refine (digits_sb_bad hB1 H1.out).mono ?_); rintro e w2 ⟨rfl, hF2⟩) | (go_at_call 83; (refine (HA).mono ?_); rintro e w1 ⟨rfl, hF1, hB1⟩)
      exact ⟨rfl, rfl, hF1.trans hF2⟩

/-- A name's letters; whether they are one. -/
def nmS (s : ByteArray) : ByteArray := s.extract 0 (wlN s)
def nmR (s : ByteArray) : ByteArray := s.extract (wlN s) s.size
theorem isName_is (t : ByteArray) (w : World) (hs : t.size ≤ maxLen) {c : Bool} (hc : inB t = c) : Calls Tryz.prog 118 #[.string t] w fun e w' => e = .returned (.bool c) ∧ w = w' := by
  subst hc
  exact isName_any t w hs
set_option maxHeartbeats 1000000 in
theorem name_ok {p : Nat} {w : World} {S : Sc} (h : SB w p S) (hc : inB (nmS S.s) = true) : Calls Tryz.prog 115 #[.pointer (some ⟨p, 0, none⟩)] w fun e w' => e = .returned (.string (nmS S.s)) ∧ Frm p w w' ∧ SB w' p { S with s := nmR S.s } := by
  have HW : Calls Tryz.prog 63 #[.pointer (some ⟨p, 0, none⟩)] w fun e w' => e = .returned (.string (nmS S.s)) ∧ Frm p w w' ∧ SB w' p { S with s := nmR S.s } := word_sb h
  have hl : (nmS S.s).size ≤ maxLen := Nat.le_trans (ext_le _ _ _) h.ln
  have HI := fun W => isName_is (nmS S.s) W hl hc
  clear hc hl
  generalize nmS S.s = t at *
  have NO := fun W => need_ok (.pointer (some ⟨p, 0, none⟩)) W
  go_enter Tryz.func115, Tryz.ntmps115
  go_wp2_with first | (go_at_call 64; (refine (NO _).mono ?_); rintro e w3 ⟨rfl, rfl⟩) | (go_at_call 118; (refine (HI _).mono ?_); rintro e w2 ⟨rfl, rfl⟩) | (go_at_call 63; (refine (HW).mono ?_); rintro e w1 ⟨rfl, hF1, hB1⟩)
  go_ret
  exact ⟨rfl, hF1, hB1⟩
set_option maxHeartbeats 1000000 in
theorem name_bad {p : Nat} {w : World} {S : Sc} (h : SB w p S) (hc : inB (nmS S.s) = false) : Calls Tryz.prog 115 #[.pointer (some ⟨p, 0, none⟩)] w (Bad p w) := by
  have HW : Calls Tryz.prog 63 #[.pointer (some ⟨p, 0, none⟩)] w fun e w' => e = .returned (.string (nmS S.s)) ∧ Frm p w w' ∧ SB w' p { S with s := nmR S.s } := word_sb h
  have hl : (nmS S.s).size ≤ maxLen := Nat.le_trans (ext_le _ _ _) h.ln
  have HI := fun W => isName_is (nmS S.s) W hl hc
  clear hc hl
  generalize nmS S.s = t at *
  have NB := fun W => need_bad (.pointer (some ⟨p, 0, none⟩)) W
  go_enter Tryz.func115, Tryz.ntmps115
  go_wp2_with first | (go_at_call 64; (refine (NB _).mono ?_); rintro e w3 ⟨rfl, rfl⟩) | (go_at_call 118; (refine (HI _).mono ?_); rintro e w2 ⟨rfl, rfl⟩) | (go_at_call 63; (refine (HW).mono ?_); rintro e w1 ⟨rfl, hF1, hB1⟩)
  exact ⟨rfl, rfl, hF1⟩

/-- A target: a distance behind a sign, or a name. -/
def scD (neg : Bool) (S : Sc) : Option Sc := if dgOk S.s = true then some { S with s := S.s.extract (dgN S.s) S.s.size, im := sgV (dvA S.s) neg } else none
def scNm (S : Sc) : Option Sc := if S.lab = true then (if inB (nmS S.s) = true then some { S with s := nmR S.s, nm := nmS S.s } else none) else none
def scT (S : Sc) : Option Sc :=
  if hpB S.s ⟨#[46, 45]⟩ = true then scD true { S with s := cpB S.s ⟨#[46, 45]⟩ }
  else if hpB S.s ⟨#[46, 43]⟩ = true then scD false { S with s := cpB S.s ⟨#[46, 43]⟩ }
  else scNm S
theorem signed_fst (m : Int) (hb : 0 ≤ m ∧ m < 18446744073709551616) (neg : Bool) {v : Int} (hv : sgV m neg = v) (w : World) : Calls Tryz.prog 112 #[.int .u64 m, .bool neg] w fun e w' => (∃ c, e = .returned (.tuple #[.int .i64 v, .bool c])) ∧ w = w' := by
  subst hv
  exact (signed_any m hb.1 hb.2 neg w).mono fun e w' ⟨h1, h2⟩ => ⟨⟨_, h1⟩, h2⟩
set_option maxHeartbeats 1000000 in
theorem target_reads : Reads 82 scT where
  ok := by
    intro p w S S' h hc
    unfold scT at hc
    split at hc <;> rename_i k1
    · have K1 := Lib.hid k1
      clear k1
      unfold scD at hc
      split at hc <;> rename_i h1
      · obtain rfl := Option.some.inj hc
        clear hc
        have hm := dvA_bd h1
        have H1 := Lib.hid h1
        generalize hM : dvA (cpB S.s ⟨#[46, 45]⟩) = m at *
        have HM := Lib.hid hM
        generalize hV : sgV m true = v at *
        have HV := Lib.hid hV
        clear h1 hM hV
        go_enter Tryz.func82, Tryz.ntmps82
        go_wp2_with first | (go_at_call 112; (refine (signed_fst m hm true HV.out _).mono ?_); rintro e w9 ⟨⟨cx, rfl⟩, rfl⟩) | (go_at_call 113; (refine (digits_is hB1 H1.out HM.out).mono ?_); rintro e w2 ⟨rfl, hF2, hB2⟩; have c6 := hB2.c6; have f6 := hB2.fz 6) | (go_at_call 83; (refine (accept_sb ⟨#[46, 45]⟩ h K1.out).mono ?_); rintro e w1 ⟨rfl, hF1, hB1⟩)
        first | exact bodyPost_ret (results_none rfl _ _ _) rfl (⟨rfl, ((hF1.trans hF2)).set 6 _, hB2.setI _⟩) | exact bodyPost_end (results_none rfl _ _ _) rfl (⟨rfl, ((hF1.trans hF2)).set 6 _, hB2.setI _⟩)
      · cases hc
    · have K1 := Lib.hid (eq_false_of_ne_true k1)
      clear k1
      split at hc <;> rename_i k2
      · have K2 := Lib.hid k2
        clear k2
        unfold scD at hc
        split at hc <;> rename_i h1
        · obtain rfl := Option.some.inj hc
          clear hc
          have hm := dvA_bd h1
          have H1 := Lib.hid h1
          generalize hM : dvA (cpB S.s ⟨#[46, 43]⟩) = m at *
          have HM := Lib.hid hM
          generalize hV : sgV m false = v at *
          have HV := Lib.hid hV
          clear h1 hM hV
          go_enter Tryz.func82, Tryz.ntmps82
          go_wp2_with first | (go_at_call 112; (refine (signed_fst m hm false HV.out _).mono ?_); rintro e w9 ⟨⟨cx, rfl⟩, rfl⟩) | (go_at_call 113; (refine (digits_is hB2 H1.out HM.out).mono ?_); rintro e w3 ⟨rfl, hF3, hB3⟩; have c6 := hB3.c6; have f6 := hB3.fz 6) | (go_at_call 83; (refine (accept_sb ⟨#[46, 43]⟩ hB1 K2.out).mono ?_); rintro e w2 ⟨rfl, hF2, hB2⟩) | (go_at_call 83; (refine (accept_sb_no ⟨#[46, 45]⟩ h K1.out).mono ?_); rintro e w1 ⟨rfl, hF1, hB1⟩)
          first | exact bodyPost_ret (results_none rfl _ _ _) rfl (⟨rfl, (((hF1.trans hF2).trans hF3)).set 6 _, hB3.setI _⟩) | exact bodyPost_end (results_none rfl _ _ _) rfl (⟨rfl, (((hF1.trans hF2).trans hF3)).set 6 _, hB3.setI _⟩)
        · cases hc
      · have K2 := Lib.hid (eq_false_of_ne_true k2)
        clear k2
        unfold scNm at hc
        split at hc <;> rename_i l1
        · split at hc <;> rename_i l2
          · obtain rfl := Option.some.inj hc
            clear hc
            have L2 := Lib.hid l2
            have NO := fun W => need_ok (.pointer (some ⟨p, 0, none⟩)) W
            clear l2
            go_enter Tryz.func82, Tryz.ntmps82
            go_wp2_with first | (go_at_call 115; (refine (name_ok hB2 L2.out).mono ?_); rintro e w4 ⟨rfl, hF4, hB4⟩; have c7 := hB4.c7; have f7 := hB4.fz 7) | (go_at_call 64; (refine (NO _).mono ?_); rintro e w3 ⟨rfl, rfl⟩) | (go_at_call 83; (refine (accept_sb_no ⟨#[46, 43]⟩ hB1 K2.out).mono ?_); rintro e w2 ⟨rfl, hF2, hB2⟩; have d1 := hB2.c1; rw [l1] at d1) | (go_at_call 83; (refine (accept_sb_no ⟨#[46, 45]⟩ h K1.out).mono ?_); rintro e w1 ⟨rfl, hF1, hB1⟩)
            first | exact bodyPost_ret (results_none rfl _ _ _) rfl (⟨rfl, ((hF1.trans hF2).trans hF4).set 7 _, hB4.setN _⟩) | exact bodyPost_end (results_none rfl _ _ _) rfl (⟨rfl, ((hF1.trans hF2).trans hF4).set 7 _, hB4.setN _⟩)
          · cases hc
        · cases hc
  bad := by
    intro p w S h hc
    unfold scT at hc
    split at hc <;> rename_i k1
    · have K1 := Lib.hid k1
      clear k1
      unfold scD at hc
      split at hc <;> rename_i h1
      · cases hc
      · clear hc
        have h1 := eq_false_of_ne_true h1
        have H1 := Lib.hid h1
        clear h1
        go_enter Tryz.func82, Tryz.ntmps82
        go_wp2_with first | (go_at_call 113; (refine (digits_sb_bad hB1 H1.out).mono ?_); rintro e w2 ⟨rfl, hF2⟩) | (go_at_call 83; (refine (accept_sb ⟨#[46, 45]⟩ h K1.out).mono ?_); rintro e w1 ⟨rfl, hF1, hB1⟩)
        exact ⟨rfl, rfl, (hF1.trans hF2)⟩
    · have K1 := Lib.hid (eq_false_of_ne_true k1)
      clear k1
      split at hc <;> rename_i k2
      · have K2 := Lib.hid k2
        clear k2
        unfold scD at hc
        split at hc <;> rename_i h1
        · cases hc
        · clear hc
          have h1 := eq_false_of_ne_true h1
          have H1 := Lib.hid h1
          clear h1
          go_enter Tryz.func82, Tryz.ntmps82
          go_wp2_with first | (go_at_call 113; (refine (digits_sb_bad hB2 H1.out).mono ?_); rintro e w3 ⟨rfl, hF3⟩) | (go_at_call 83; (refine (accept_sb ⟨#[46, 43]⟩ hB1 K2.out).mono ?_); rintro e w2 ⟨rfl, hF2, hB2⟩) | (go_at_call 83; (refine (accept_sb_no ⟨#[46, 45]⟩ h K1.out).mono ?_); rintro e w1 ⟨rfl, hF1, hB1⟩)
          exact ⟨rfl, rfl, ((hF1.trans hF2).trans hF3)⟩
      · have K2 := Lib.hid (eq_false_of_ne_true k2)
        clear k2
        unfold scNm at hc
        split at hc <;> rename_i l1
        · split at hc <;> rename_i l2
          · cases hc
          · clear hc
            have L2 := Lib.hid (eq_false_of_ne_true l2)
            have NO := fun W => need_ok (.pointer (some ⟨p, 0, none⟩)) W
            clear l2
            go_enter Tryz.func82, Tryz.ntmps82
            go_wp2_with first | (go_at_call 115; (refine (name_bad hB2 L2.out).mono ?_); rintro e w4 ⟨rfl, hF4⟩) | (go_at_call 64; (refine (NO _).mono ?_); rintro e w3 ⟨rfl, rfl⟩) | (go_at_call 83; (refine (accept_sb_no ⟨#[46, 43]⟩ hB1 K2.out).mono ?_); rintro e w2 ⟨rfl, hF2, hB2⟩; have d1 := hB2.c1; rw [l1] at d1) | (go_at_call 83; (refine (accept_sb_no ⟨#[46, 45]⟩ h K1.out).mono ?_); rintro e w1 ⟨rfl, hF1, hB1⟩)
            exact ⟨rfl, rfl, (hF1.trans hF2).trans hF4⟩
        · clear hc
          have l1 := eq_false_of_ne_true l1
          have NB := fun W => need_bad (.pointer (some ⟨p, 0, none⟩)) W
          go_enter Tryz.func82, Tryz.ntmps82
          go_wp2_with first | (go_at_call 64; (refine (NB _).mono ?_); rintro e w3 ⟨rfl, rfl⟩) | (go_at_call 83; (refine (accept_sb_no ⟨#[46, 43]⟩ hB1 K2.out).mono ?_); rintro e w2 ⟨rfl, hF2, hB2⟩; have d1 := hB2.c1; rw [l1] at d1) | (go_at_call 83; (refine (accept_sb_no ⟨#[46, 45]⟩ h K1.out).mono ?_); rintro e w1 ⟨rfl, hF1, hB1⟩)
          exact ⟨rfl, rfl, hF1.trans hF2⟩
end Go.Proofs.YtjlbcpmfbokinaaGreatDoor

namespace Go.Proofs.YtjlbcpmfbokinaaGreatDoor
open Go.RowKit Go.Shelf

/-- What follows a sign within an address; the offset; an address. -/
def scTail (neg : Bool) (S : Sc) : Option Sc :=
  if dgOk (afB S.s) = true then
    if ftB S.sh (sgV (dvA (afB S.s)) neg) = true then some { S with s := afB ((afB S.s).extract (dgN (afB S.s)) (afB S.s).size), im := sgV (dvA (afB S.s)) neg } else none
  else none
def scOff (S : Sc) : Option Sc :=
  if hpB S.s ⟨#[45]⟩ = true then scTail true { S with s := cpB S.s ⟨#[45]⟩ }
  else if hpB S.s ⟨#[43]⟩ = true then scTail false { S with s := cpB S.s ⟨#[43]⟩ }
  else some S
def scAd (S : Sc) : Option Sc := (scBase S).bind fun S1 => (scOff S1).bind scClose
set_option maxRecDepth 100000 in
set_option maxHeartbeats 1000000 in
theorem address_reads : Reads 80 scAd where
  ok := by
    intro p w S S' h hc
    obtain ⟨S1, e1, hc⟩ := Option.bind_eq_some_iff.1 hc
    obtain ⟨S2, e2, e3⟩ := Option.bind_eq_some_iff.1 hc
    clear hc
    have E1 := Lib.hid e1
    clear e1
    unfold scClose at e3
    split at e3 <;> rename_i c1
    rotate_left
    · cases e3
    obtain rfl := Option.some.inj e3
    clear e3
    have C1 := Lib.hid c1
    clear c1
    unfold scOff at e2
    split at e2 <;> rename_i k1
    · have K1 := Lib.hid k1
      unfold scTail at e2
      split at e2 <;> rename_i d1
      rotate_left
      · cases e2
      split at e2 <;> rename_i f1
      rotate_left
      · cases e2
      obtain rfl := Option.some.inj e2
      clear e2 k1
      have hm := dvA_bd d1
      have D1 := Lib.hid d1
      generalize hM : dvA (afB (cpB S1.s ⟨#[45]⟩)) = m at *
      have HM := Lib.hid hM
      generalize hV : sgV m true = v at *
      have HV := Lib.hid hV
      have F1 := Lib.hid f1
      have NO := fun W => need_ok (.pointer (some ⟨p, 0, none⟩)) W
      have NB := fun W => need_bad (.pointer (some ⟨p, 0, none⟩)) W
      clear d1 f1 hM hV
      go_enter Tryz.func80, Tryz.ntmps80
      go_wp2_with first | (go_at_call 64; (refine (NO _).mono ?_); rintro e w11 ⟨rfl, rfl⟩) | (go_at_call 83; (refine (accept_sb ⟨#[93]⟩ hB9 C1.out).mono ?_); rintro e w10 ⟨rfl, hF10, hB10⟩) | (go_at_call 61; (refine (blanks_sb (hB5.setI v)).mono ?_); rintro e w9 ⟨rfl, hF9, hB9⟩) | (go_at_call 64; (refine (NO _).mono ?_); rintro e w8 ⟨rfl, rfl⟩) | (go_at_call 54; (refine (fits_is hB5 v F1.out).mono ?_); rintro e w7 ⟨rfl, rfl⟩) | (go_at_call 112; (refine (signed_fst m hm true HV.out _).mono ?_); rintro e w6 ⟨⟨cx, rfl⟩, rfl⟩) | (go_at_call 113; (refine (digits_is hB4 D1.out HM.out).mono ?_); rintro e w5 ⟨rfl, hF5, hB5⟩; have c2 := hB5.c2; have c6 := hB5.c6; have f6 := hB5.fz 6) | (go_at_call 61; (refine (blanks_sb hB2).mono ?_); rintro e w4 ⟨rfl, hF4, hB4⟩) | (go_at_call 83; (refine (accept_sb ⟨#[45]⟩ hB1 K1.out).mono ?_); rintro e w2 ⟨rfl, hF2, hB2⟩) | (go_at_call 114; (refine (base_reads.ok h E1.out).mono ?_); rintro e w1 ⟨rfl, hF1, hB1⟩)
      first | exact bodyPost_ret (results_none rfl _ _ _) rfl (⟨rfl, ((((((hF1.trans hF2).trans hF4).trans hF5).set 6 _).trans hF9).trans hF10), hB10⟩) | exact bodyPost_end (results_none rfl _ _ _) rfl (⟨rfl, ((((((hF1.trans hF2).trans hF4).trans hF5).set 6 _).trans hF9).trans hF10), hB10⟩)
    · have K1 := Lib.hid (eq_false_of_ne_true k1)
      split at e2 <;> rename_i k2
      · have K2 := Lib.hid k2
        unfold scTail at e2
        split at e2 <;> rename_i d1
        rotate_left
        · cases e2
        split at e2 <;> rename_i f1
        rotate_left
        · cases e2
        obtain rfl := Option.some.inj e2
        clear e2 k1 k2
        have hm := dvA_bd d1
        have D1 := Lib.hid d1
        generalize hM : dvA (afB (cpB S1.s ⟨#[43]⟩)) = m at *
        have HM := Lib.hid hM
        generalize hV : sgV m false = v at *
        have HV := Lib.hid hV
        have F1 := Lib.hid f1
        have NO := fun W => need_ok (.pointer (some ⟨p, 0, none⟩)) W
        have NB := fun W => need_bad (.pointer (some ⟨p, 0, none⟩)) W
        clear d1 f1 hM hV
        go_enter Tryz.func80, Tryz.ntmps80
        go_wp2_with first | (go_at_call 64; (refine (NO _).mono ?_); rintro e w11 ⟨rfl, rfl⟩) | (go_at_call 83; (refine (accept_sb ⟨#[93]⟩ hB9 C1.out).mono ?_); rintro e w10 ⟨rfl, hF10, hB10⟩) | (go_at_call 61; (refine (blanks_sb (hB5.setI v)).mono ?_); rintro e w9 ⟨rfl, hF9, hB9⟩) | (go_at_call 64; (refine (NO _).mono ?_); rintro e w8 ⟨rfl, rfl⟩) | (go_at_call 54; (refine (fits_is hB5 v F1.out).mono ?_); rintro e w7 ⟨rfl, rfl⟩) | (go_at_call 112; (refine (signed_fst m hm false HV.out _).mono ?_); rintro e w6 ⟨⟨cx, rfl⟩, rfl⟩) | (go_at_call 113; (refine (digits_is hB4 D1.out HM.out).mono ?_); rintro e w5 ⟨rfl, hF5, hB5⟩; have c2 := hB5.c2; have c6 := hB5.c6; have f6 := hB5.fz 6) | (go_at_call 61; (refine (blanks_sb hB3).mono ?_); rintro e w4 ⟨rfl, hF4, hB4⟩) | (go_at_call 83; (refine (accept_sb ⟨#[43]⟩ hB2 K2.out).mono ?_); rintro e w3 ⟨rfl, hF3, hB3⟩) | (go_at_call 83; (refine (accept_sb_no ⟨#[45]⟩ hB1 K1.out).mono ?_); rintro e w2 ⟨rfl, hF2, hB2⟩) | (go_at_call 114; (refine (base_reads.ok h E1.out).mono ?_); rintro e w1 ⟨rfl, hF1, hB1⟩)
        first | exact bodyPost_ret (results_none rfl _ _ _) rfl (⟨rfl, (((((((hF1.trans hF2).trans hF3).trans hF4).trans hF5).set 6 _).trans hF9).trans hF10), hB10⟩) | exact bodyPost_end (results_none rfl _ _ _) rfl (⟨rfl, (((((((hF1.trans hF2).trans hF3).trans hF4).trans hF5).set 6 _).trans hF9).trans hF10), hB10⟩)
      · have K2 := Lib.hid (eq_false_of_ne_true k2)
        obtain rfl := Option.some.inj e2
        clear e2 k1 k2
        have NO := fun W => need_ok (.pointer (some ⟨p, 0, none⟩)) W
        have NB := fun W => need_bad (.pointer (some ⟨p, 0, none⟩)) W
        go_enter Tryz.func80, Tryz.ntmps80
        go_wp2_with first | (go_at_call 64; (refine (NO _).mono ?_); rintro e w11 ⟨rfl, rfl⟩) | (go_at_call 83; (refine (accept_sb ⟨#[93]⟩ hB3 C1.out).mono ?_); rintro e w10 ⟨rfl, hF10, hB10⟩) | (go_at_call 83; (refine (accept_sb_no ⟨#[43]⟩ hB2 K2.out).mono ?_); rintro e w3 ⟨rfl, hF3, hB3⟩) | (go_at_call 83; (refine (accept_sb_no ⟨#[45]⟩ hB1 K1.out).mono ?_); rintro e w2 ⟨rfl, hF2, hB2⟩) | (go_at_call 114; (refine (base_reads.ok h E1.out).mono ?_); rintro e w1 ⟨rfl, hF1, hB1⟩)
        first | exact bodyPost_ret (results_none rfl _ _ _) rfl (⟨rfl, (((hF1.trans hF2).trans hF3).trans hF10), hB10⟩) | exact bodyPost_end (results_none rfl _ _ _) rfl (⟨rfl, (((hF1.trans hF2).trans hF3).trans hF10), hB10⟩)
  bad := by
    intro p w S h hc
    cases e1 : scBase S with
    | none =>
      have E1 := Lib.hid e1
      clear hc e1
      go_enter Tryz.func80, Tryz.ntmps80
      go_wp2_with first | (go_at_call 114; (refine (base_reads.bad h E1.out).mono ?_); rintro e w1 ⟨rfl, hF1⟩)
      exact ⟨rfl, rfl, hF1⟩
    | some S1 =>
      have hc : (scOff S1).bind scClose = none := by unfold scAd at hc; rw [e1] at hc; exact hc
      have E1 := Lib.hid e1
      clear e1
      cases e2 : scOff S1 with
      | none =>
        clear hc
        unfold scOff at e2
        split at e2 <;> rename_i k1
        · have K1 := Lib.hid k1
          clear k1
          unfold scTail at e2
          split at e2 <;> rename_i d1
          · split at e2 <;> rename_i f1
            · cases e2
            · have f1 := eq_false_of_ne_true f1
              clear e2
              have hm := dvA_bd d1
              have D1 := Lib.hid d1
              generalize hM : dvA (afB (cpB S1.s ⟨#[45]⟩)) = m at *
              have HM := Lib.hid hM
              generalize hV : sgV m true = v at *
              have HV := Lib.hid hV
              have F1 := Lib.hid f1
              have NO := fun W => need_ok (.pointer (some ⟨p, 0, none⟩)) W
              have NB := fun W => need_bad (.pointer (some ⟨p, 0, none⟩)) W
              clear d1 f1 hM hV
              go_enter Tryz.func80, Tryz.ntmps80
              go_wp2_with first | (go_at_call 64; (refine (NB _).mono ?_); rintro e w8 ⟨rfl, rfl⟩) | (go_at_call 54; (refine (fits_is hB5 v F1.out).mono ?_); rintro e w7 ⟨rfl, rfl⟩) | (go_at_call 112; (refine (signed_fst m hm true HV.out _).mono ?_); rintro e w6 ⟨⟨cx, rfl⟩, rfl⟩) | (go_at_call 113; (refine (digits_is hB4 D1.out HM.out).mono ?_); rintro e w5 ⟨rfl, hF5, hB5⟩; have c2 := hB5.c2; have c6 := hB5.c6; have f6 := hB5.fz 6) | (go_at_call 61; (refine (blanks_sb hB2).mono ?_); rintro e w4 ⟨rfl, hF4, hB4⟩) | (go_at_call 83; (refine (accept_sb ⟨#[45]⟩ hB1 K1.out).mono ?_); rintro e w2 ⟨rfl, hF2, hB2⟩) | (go_at_call 114; (refine (base_reads.ok h E1.out).mono ?_); rintro e w1 ⟨rfl, hF1, hB1⟩)
              exact ⟨rfl, rfl, (((hF1.trans hF2).trans hF4).trans hF5)⟩
          · have d1 := eq_false_of_ne_true d1
            have D1 := Lib.hid d1
            clear e2 d1
            go_enter Tryz.func80, Tryz.ntmps80
            go_wp2_with first | (go_at_call 113; (refine (digits_sb_bad hB4 D1.out).mono ?_); rintro e w5 ⟨rfl, hF5⟩) | (go_at_call 61; (refine (blanks_sb hB2).mono ?_); rintro e w4 ⟨rfl, hF4, hB4⟩) | (go_at_call 83; (refine (accept_sb ⟨#[45]⟩ hB1 K1.out).mono ?_); rintro e w2 ⟨rfl, hF2, hB2⟩) | (go_at_call 114; (refine (base_reads.ok h E1.out).mono ?_); rintro e w1 ⟨rfl, hF1, hB1⟩)
            exact ⟨rfl, rfl, (((hF1.trans hF2).trans hF4).trans hF5)⟩
        · have K1 := Lib.hid (eq_false_of_ne_true k1)
          split at e2 <;> rename_i k2
          · have K2 := Lib.hid k2
            clear k1 k2
            unfold scTail at e2
            split at e2 <;> rename_i d1
            · split at e2 <;> rename_i f1
              · cases e2
              · have f1 := eq_false_of_ne_true f1
                clear e2
                have hm := dvA_bd d1
                have D1 := Lib.hid d1
                generalize hM : dvA (afB (cpB S1.s ⟨#[43]⟩)) = m at *
                have HM := Lib.hid hM
                generalize hV : sgV m false = v at *
                have HV := Lib.hid hV
                have F1 := Lib.hid f1
                have NO := fun W => need_ok (.pointer (some ⟨p, 0, none⟩)) W
                have NB := fun W => need_bad (.pointer (some ⟨p, 0, none⟩)) W
                clear d1 f1 hM hV
                go_enter Tryz.func80, Tryz.ntmps80
                go_wp2_with first | (go_at_call 64; (refine (NB _).mono ?_); rintro e w8 ⟨rfl, rfl⟩) | (go_at_call 54; (refine (fits_is hB5 v F1.out).mono ?_); rintro e w7 ⟨rfl, rfl⟩) | (go_at_call 112; (refine (signed_fst m hm false HV.out _).mono ?_); rintro e w6 ⟨⟨cx, rfl⟩, rfl⟩) | (go_at_call 113; (refine (digits_is hB4 D1.out HM.out).mono ?_); rintro e w5 ⟨rfl, hF5, hB5⟩; have c2 := hB5.c2; have c6 := hB5.c6; have f6 := hB5.fz 6) | (go_at_call 61; (refine (blanks_sb hB3).mono ?_); rintro e w4 ⟨rfl, hF4, hB4⟩) | (go_at_call 83; (refine (accept_sb ⟨#[43]⟩ hB2 K2.out).mono ?_); rintro e w3 ⟨rfl, hF3, hB3⟩) | (go_at_call 83; (refine (accept_sb_no ⟨#[45]⟩ hB1 K1.out).mono ?_); rintro e w2 ⟨rfl, hF2, hB2⟩) | (go_at_call 114; (refine (base_reads.ok h E1.out).mono ?_); rintro e w1 ⟨rfl, hF1, hB1⟩)
                exact ⟨rfl, rfl, ((((hF1.trans hF2).trans hF3).trans hF4).trans hF5)⟩
            · have d1 := eq_false_of_ne_true d1
              have D1 := Lib.hid d1
              clear e2 d1
              go_enter Tryz.func80, Tryz.ntmps80
              go_wp2_with first | (go_at_call 113; (refine (digits_sb_bad hB4 D1.out).mono ?_); rintro e w5 ⟨rfl, hF5⟩) | (go_at_call 61; (refine (blanks_sb hB3).mono ?_); rintro e w4 ⟨rfl, hF4, hB4⟩) | (go_at_call 83; (refine (accept_sb ⟨#[43]⟩ hB2 K2.out).mono ?_); rintro e w3 ⟨rfl, hF3, hB3⟩) | (go_at_call 83; (refine (accept_sb_no ⟨#[45]⟩ hB1 K1.out).mono ?_); rintro e w2 ⟨rfl, hF2, hB2⟩) | (go_at_call 114; (refine (base_reads.ok h E1.out).mono ?_); rintro e w1 ⟨rfl, hF1, hB1⟩)
              exact ⟨rfl, rfl, ((((hF1.trans hF2).trans hF3).trans hF4).trans hF5)⟩
          · cases e2
      | some S2 =>
        have e3 : scClose S2 = none := by rw [e2] at hc; exact hc
        clear hc
        unfold scClose at e3
        split at e3 <;> rename_i c1
        · cases e3
        clear e3
        have C1 := Lib.hid (eq_false_of_ne_true c1)
        clear c1
        unfold scOff at e2
        split at e2 <;> rename_i k1
        · have K1 := Lib.hid k1
          unfold scTail at e2
          split at e2 <;> rename_i d1
          rotate_left
          · cases e2
          split at e2 <;> rename_i f1
          rotate_left
          · cases e2
          obtain rfl := Option.some.inj e2
          clear e2 k1
          have hm := dvA_bd d1
          have D1 := Lib.hid d1
          generalize hM : dvA (afB (cpB S1.s ⟨#[45]⟩)) = m at *
          have HM := Lib.hid hM
          generalize hV : sgV m true = v at *
          have HV := Lib.hid hV
          have F1 := Lib.hid f1
          have NO := fun W => need_ok (.pointer (some ⟨p, 0, none⟩)) W
          have NB := fun W => need_bad (.pointer (some ⟨p, 0, none⟩)) W
          clear d1 f1 hM hV
          go_enter Tryz.func80, Tryz.ntmps80
          go_wp2_with first | (go_at_call 64; (refine (NB _).mono ?_); rintro e w11 ⟨rfl, rfl⟩) | (go_at_call 83; (refine (accept_sb_no ⟨#[93]⟩ hB9 C1.out).mono ?_); rintro e w10 ⟨rfl, hF10, hB10⟩) | (go_at_call 61; (refine (blanks_sb (hB5.setI v)).mono ?_); rintro e w9 ⟨rfl, hF9, hB9⟩) | (go_at_call 64; (refine (NO _).mono ?_); rintro e w8 ⟨rfl, rfl⟩) | (go_at_call 54; (refine (fits_is hB5 v F1.out).mono ?_); rintro e w7 ⟨rfl, rfl⟩) | (go_at_call 112; (refine (signed_fst m hm true HV.out _).mono ?_); rintro e w6 ⟨⟨cx, rfl⟩, rfl⟩) | (go_at_call 113; (refine (digits_is hB4 D1.out HM.out).mono ?_); rintro e w5 ⟨rfl, hF5, hB5⟩; have c2 := hB5.c2; have c6 := hB5.c6; have f6 := hB5.fz 6) | (go_at_call 61; (refine (blanks_sb hB2).mono ?_); rintro e w4 ⟨rfl, hF4, hB4⟩) | (go_at_call 83; (refine (accept_sb ⟨#[45]⟩ hB1 K1.out).mono ?_); rintro e w2 ⟨rfl, hF2, hB2⟩) | (go_at_call 114; (refine (base_reads.ok h E1.out).mono ?_); rintro e w1 ⟨rfl, hF1, hB1⟩)
          exact ⟨rfl, rfl, ((((((hF1.trans hF2).trans hF4).trans hF5).set 6 _).trans hF9).trans hF10)⟩
        · have K1 := Lib.hid (eq_false_of_ne_true k1)
          split at e2 <;> rename_i k2
          · have K2 := Lib.hid k2
            unfold scTail at e2
            split at e2 <;> rename_i d1
            rotate_left
            · cases e2
            split at e2 <;> rename_i f1
            rotate_left
            · cases e2
            obtain rfl := Option.some.inj e2
            clear e2 k1 k2
            have hm := dvA_bd d1
            have D1 := Lib.hid d1
            generalize hM : dvA (afB (cpB S1.s ⟨#[43]⟩)) = m at *
            have HM := Lib.hid hM
            generalize hV : sgV m false = v at *
            have HV := Lib.hid hV
            have F1 := Lib.hid f1
            have NO := fun W => need_ok (.pointer (some ⟨p, 0, none⟩)) W
            have NB := fun W => need_bad (.pointer (some ⟨p, 0, none⟩)) W
            clear d1 f1 hM hV
            go_enter Tryz.func80, Tryz.ntmps80
            go_wp2_with first | (go_at_call 64; (refine (NB _).mono ?_); rintro e w11 ⟨rfl, rfl⟩) | (go_at_call 83; (refine (accept_sb_no ⟨#[93]⟩ hB9 C1.out).mono ?_); rintro e w10 ⟨rfl, hF10, hB10⟩) | (go_at_call 61; (refine (blanks_sb (hB5.setI v)).mono ?_); rintro e w9 ⟨rfl, hF9, hB9⟩) | (go_at_call 64; (refine (NO _).mono ?_); rintro e w8 ⟨rfl, rfl⟩) | (go_at_call 54; (refine (fits_is hB5 v F1.out).mono ?_); rintro e w7 ⟨rfl, rfl⟩) | (go_at_call 112; (refine (signed_fst m hm false HV.out _).mono ?_); rintro e w6 ⟨⟨cx, rfl⟩, rfl⟩) | (go_at_call 113; (refine (digits_is hB4 D1.out HM.out).mono ?_); rintro e w5 ⟨rfl, hF5, hB5⟩; have c2 := hB5.c2; have c6 := hB5.c6; have f6 := hB5.fz 6) | (go_at_call 61; (refine (blanks_sb hB3).mono ?_); rintro e w4 ⟨rfl, hF4, hB4⟩) | (go_at_call 83; (refine (accept_sb ⟨#[43]⟩ hB2 K2.out).mono ?_); rintro e w3 ⟨rfl, hF3, hB3⟩) | (go_at_call 83; (refine (accept_sb_no ⟨#[45]⟩ hB1 K1.out).mono ?_); rintro e w2 ⟨rfl, hF2, hB2⟩) | (go_at_call 114; (refine (base_reads.ok h E1.out).mono ?_); rintro e w1 ⟨rfl, hF1, hB1⟩)
            exact ⟨rfl, rfl, (((((((hF1.trans hF2).trans hF3).trans hF4).trans hF5).set 6 _).trans hF9).trans hF10)⟩
          · have K2 := Lib.hid (eq_false_of_ne_true k2)
            obtain rfl := Option.some.inj e2
            clear e2 k1 k2
            have NO := fun W => need_ok (.pointer (some ⟨p, 0, none⟩)) W
            have NB := fun W => need_bad (.pointer (some ⟨p, 0, none⟩)) W
            go_enter Tryz.func80, Tryz.ntmps80
            go_wp2_with first | (go_at_call 64; (refine (NB _).mono ?_); rintro e w11 ⟨rfl, rfl⟩) | (go_at_call 83; (refine (accept_sb_no ⟨#[93]⟩ hB3 C1.out).mono ?_); rintro e w10 ⟨rfl, hF10, hB10⟩) | (go_at_call 83; (refine (accept_sb_no ⟨#[43]⟩ hB2 K2.out).mono ?_); rintro e w3 ⟨rfl, hF3, hB3⟩) | (go_at_call 83; (refine (accept_sb_no ⟨#[45]⟩ hB1 K1.out).mono ?_); rintro e w2 ⟨rfl, hF2, hB2⟩) | (go_at_call 114; (refine (base_reads.ok h E1.out).mono ?_); rintro e w1 ⟨rfl, hF1, hB1⟩)
            exact ⟨rfl, rfl, (((hF1.trans hF2).trans hF3).trans hF10)⟩
end Go.Proofs.YtjlbcpmfbokinaaGreatDoor

namespace Go.Proofs.YtjlbcpmfbokinaaGreatDoor
open Go.RowKit Go.Shelf

/-- The reader of an operand; the function's number. -/
def scRd (k : Nat) : Sc → Option Sc := if k = 0 then scA else if k = 1 then scB else if k = 2 then scN else if k = 3 then scAd else if k = 4 then scInd else scT
def rdF (k : Nat) : Nat := [77, 78, 79, 80, 81, 82].getD k 0
theorem readers_read {k : Nat} (hk : k < 6) : Reads (rdF k) (scRd k) := by
  match k, hk with
  | 0, _ => exact registerA_reads
  | 1, _ => exact registerB_reads
  | 2, _ => exact number_reads
  | 3, _ => exact address_reads
  | 4, _ => exact indirect_reads
  | 5, _ => exact target_reads
theorem readers_enter {k : Nat} (hk : k < 6) : ∀ args w, (callFunc (rdF k) args).run Tryz.prog w = .ok (.enter (rdF k) args) w := by
  match k, hk with
  | 0, _ => exact enters_of Tryz.func77 (by kernel_rfl) rfl
  | 1, _ => exact enters_of Tryz.func78 (by kernel_rfl) rfl
  | 2, _ => exact enters_of Tryz.func79 (by kernel_rfl) rfl
  | 3, _ => exact enters_of Tryz.func80 (by kernel_rfl) rfl
  | 4, _ => exact enters_of Tryz.func81 (by kernel_rfl) rfl
  | 5, _ => exact enters_of Tryz.func82 (by kernel_rfl) rfl
/-- The table of readers lies at b. -/
def RD (W : World) (b : Nat) : Prop := ∀ k, k < 6 → W.cell? ⟨b, k, none⟩ = some (.func (.func (rdF k)) #[] #[])
theorem readers_any (w : World) : Calls Tryz.prog 65 #[] w fun e w' => e = .returned (.slice (some ⟨w.heap.size, 0, none⟩) 6 6) ∧ RD w' w.heap.size ∧ Below w.heap.size w w' := by
  go_enter Tryz.func65, Tryz.ntmps65
  go_wp2_with fail
  go_ret
  refine ⟨rfl, fun k hk => ?_, (Below.refl _ _).alloc (Nat.le_refl _) _⟩
  match k, hk with
  | 0, _ => go_simp; rfl
  | 1, _ => go_simp; rfl
  | 2, _ => go_simp; rfl
  | 3, _ => go_simp; rfl
  | 4, _ => go_simp; rfl
  | 5, _ => go_simp; rfl
end Go.Proofs.YtjlbcpmfbokinaaGreatDoor
