/-
  Layer 2, contracts: the assembler's scanner: definition, directive.
-/
import Derived.Test.YtjlbcpmfbokinaaGreatDoorJf
set_option linter.unusedSimpArgs false
set_option linter.unusedVariables false
namespace Go.Proofs.YtjlbcpmfbokinaaGreatDoor
open Go.RowKit Go.Shelf

/-- A line's first word, and what stands behind it and its blanks. -/
def dfW (s : ByteArray) : ByteArray := nmS (afB s)
def dfR (s : ByteArray) : ByteArray := afB (nmR (afB s))
def dfB (s : ByteArray) : Bool := inB (dfW s) && hpB (dfR s) ⟨#[58]⟩
theorem word_df {p : Nat} {w : World} {S : Sc} {t : ByteArray} (h : SB w p { S with s := afB t }) : Calls Tryz.prog 63 #[.pointer (some ⟨p, 0, none⟩)] w fun e w' => e = .returned (.string (dfW t)) ∧ Frm p w w' ∧ SB w' p { S with s := nmR (afB t) } := word_nm (S := { S with s := afB t }) h
theorem blanks_df {p : Nat} {w : World} {S : Sc} {t : ByteArray} (h : SB w p { S with s := nmR (afB t) }) : Calls Tryz.prog 61 #[.pointer (some ⟨p, 0, none⟩)] w fun e w' => (∃ n, e = .returned (.int .i64 n)) ∧ Frm p w w' ∧ SB w' p { S with s := dfR t } :=
  (blanks_sb (S := { S with s := nmR (afB t) }) h).mono fun _ _ ⟨h1, h2⟩ => ⟨⟨_, h1⟩, h2⟩
theorem dfW_le (s : ByteArray) : (dfW s).size ≤ s.size := Nat.le_trans (ext_le _ _ _) (afB_le s)
set_option maxRecDepth 100000 in
set_option maxHeartbeats 1000000 in
theorem definition_yes {p : Nat} {w : World} {S : Sc} (h : SB w p S) (hc : inB (dfW S.s) = true) (hd : hpB (dfR S.s) ⟨#[58]⟩ = true) : Calls Tryz.prog 86 #[.pointer (some ⟨p, 0, none⟩)] w fun e w' => e = .returned (.string (dfW S.s)) ∧ Frm p w w' ∧ SB w' p { S with s := cpB (dfR S.s) ⟨#[58]⟩ } := by
  have HW := fun W (g : SB W p { S with s := afB S.s }) => word_df (S := S) (t := S.s) g
  have HB := fun W (g : SB W p { S with s := nmR (afB S.s) }) => blanks_df (S := S) (t := S.s) g
  have hl : (dfW S.s).size ≤ maxLen := Nat.le_trans (dfW_le _) h.ln
  have HA := fun W (g : SB W p { S with s := dfR S.s }) => accept_sb ⟨#[58]⟩ g hd
  clear hd
  have HI := fun W => isName_is (dfW S.s) W hl hc
  clear hc hl
  generalize dfW S.s = m at *
  go_enter Tryz.func86, Tryz.ntmps86
  go_wp2_with first | (go_at_call 83; (refine (HA _ hB3).mono ?_); rintro e w5 ⟨rfl, hF5, hB5⟩) | (go_at_call 118; (refine (HI _).mono ?_); rintro e w4 ⟨rfl, rfl⟩) | (go_at_call 61; (refine (HB _ hB2).mono ?_); rintro e w3 ⟨⟨nx3, rfl⟩, hF3, hB3⟩; have d0 := hB3.c0; have f0 := hB3.fz 0) | (go_at_call 63; (refine (HW _ hB1).mono ?_); rintro e w2 ⟨rfl, hF2, hB2⟩) | (go_at_call 61; (refine (blanks_sb h).mono ?_); rintro e w1 ⟨rfl, hF1, hB1⟩; have c0 := hB1.c0)
  go_ret
  exact ⟨rfl, ((hF1.trans hF2).trans hF3).trans hF5, hB5⟩
set_option maxRecDepth 100000 in
set_option maxHeartbeats 1000000 in
theorem definition_no2 {p : Nat} {w : World} {S : Sc} (h : SB w p S) (hc : inB (dfW S.s) = true) (hd : hpB (dfR S.s) ⟨#[58]⟩ = false) : Calls Tryz.prog 86 #[.pointer (some ⟨p, 0, none⟩)] w fun e w' => e = .returned (.string ⟨#[]⟩) ∧ Frm p w w' ∧ SB w' p { S with s := afB S.s } := by
  have HW := fun W (g : SB W p { S with s := afB S.s }) => word_df (S := S) (t := S.s) g
  have HB := fun W (g : SB W p { S with s := nmR (afB S.s) }) => blanks_df (S := S) (t := S.s) g
  have hl : (dfW S.s).size ≤ maxLen := Nat.le_trans (dfW_le _) h.ln
  have HA := fun W (g : SB W p { S with s := dfR S.s }) => accept_sb_no ⟨#[58]⟩ g hd
  clear hd
  have hla : (afB S.s).size ≤ maxLen := Nat.le_trans (afB_le _) h.ln
  have HLA := Lib.hid hla
  clear hla
  have HI := fun W => isName_is (dfW S.s) W hl hc
  clear hc hl
  generalize dfW S.s = m at *
  go_enter Tryz.func86, Tryz.ntmps86
  go_wp2_with first | (go_at_call 83; (refine (HA _ hB3).mono ?_); rintro e w5 ⟨rfl, hF5, hB5⟩; have d0 := hB5.c0; have f0 := hB5.fz 0) | (go_at_call 118; (refine (HI _).mono ?_); rintro e w4 ⟨rfl, rfl⟩) | (go_at_call 61; (refine (HB _ hB2).mono ?_); rintro e w3 ⟨⟨nx3, rfl⟩, hF3, hB3⟩; have d0 := hB3.c0; have f0 := hB3.fz 0) | (go_at_call 63; (refine (HW _ hB1).mono ?_); rintro e w2 ⟨rfl, hF2, hB2⟩) | (go_at_call 61; (refine (blanks_sb h).mono ?_); rintro e w1 ⟨rfl, hF1, hB1⟩; have c0 := hB1.c0)
  go_ret
  exact ⟨rfl, (((hF1.trans hF2).trans hF3).trans hF5).set 0 _, hB5.setS _ HLA.out⟩
set_option maxRecDepth 100000 in
set_option maxHeartbeats 1000000 in
theorem definition_no1 {p : Nat} {w : World} {S : Sc} (h : SB w p S) (hc : inB (dfW S.s) = false) : Calls Tryz.prog 86 #[.pointer (some ⟨p, 0, none⟩)] w fun e w' => e = .returned (.string ⟨#[]⟩) ∧ Frm p w w' ∧ SB w' p { S with s := afB S.s } := by
  have HW := fun W (g : SB W p { S with s := afB S.s }) => word_df (S := S) (t := S.s) g
  have HB := fun W (g : SB W p { S with s := nmR (afB S.s) }) => blanks_df (S := S) (t := S.s) g
  have hl : (dfW S.s).size ≤ maxLen := Nat.le_trans (dfW_le _) h.ln
  have hla : (afB S.s).size ≤ maxLen := Nat.le_trans (afB_le _) h.ln
  have HLA := Lib.hid hla
  clear hla
  have HI := fun W => isName_is (dfW S.s) W hl hc
  clear hc hl
  generalize dfW S.s = m at *
  go_enter Tryz.func86, Tryz.ntmps86
  go_wp2_with first | (go_at_call 118; (refine (HI _).mono ?_); rintro e w4 ⟨rfl, rfl⟩) | (go_at_call 61; (refine (HB _ hB2).mono ?_); rintro e w3 ⟨⟨nx3, rfl⟩, hF3, hB3⟩; have d0 := hB3.c0; have f0 := hB3.fz 0) | (go_at_call 63; (refine (HW _ hB1).mono ?_); rintro e w2 ⟨rfl, hF2, hB2⟩) | (go_at_call 61; (refine (blanks_sb h).mono ?_); rintro e w1 ⟨rfl, hF1, hB1⟩; have c0 := hB1.c0)
  go_ret
  exact ⟨rfl, ((hF1.trans hF2).trans hF3).set 0 _, hB3.setS _ HLA.out⟩
theorem definition_no {p : Nat} {w : World} {S : Sc} (h : SB w p S) (hc : dfB S.s = false) : Calls Tryz.prog 86 #[.pointer (some ⟨p, 0, none⟩)] w fun e w' => e = .returned (.string ⟨#[]⟩) ∧ Frm p w w' ∧ SB w' p { S with s := afB S.s } := by
  cases h1 : inB (dfW S.s)
  · exact definition_no1 h h1
  · unfold dfB at hc
    rw [h1, Bool.true_and] at hc
    exact definition_no2 h h1 hc

/-- A directive: what stands behind it. -/
def drU (s : ByteArray) : ByteArray := cpB s ⟨#[46, 102, 117, 110, 99]⟩
theorem directive_no {p : Nat} {w : World} {S : Sc} (h : SB w p S) (hc : hpB S.s ⟨#[46, 102, 117, 110, 99]⟩ = false) : Calls Tryz.prog 87 #[.pointer (some ⟨p, 0, none⟩)] w fun e w' => e = .returned (.string ⟨#[]⟩) ∧ Frm p w w' ∧ SB w' p S := by
  have HA := accept_sb_no ⟨#[46, 102, 117, 110, 99]⟩ h hc
  clear hc
  go_enter Tryz.func87, Tryz.ntmps87
  go_wp2_with first | (go_at_call 83; (refine (HA).mono ?_); rintro e w1 ⟨rfl, hF1, hB1⟩)
  go_ret
  exact ⟨rfl, hF1, hB1⟩
theorem name_dr {p : Nat} {w : World} {S : Sc} {t : ByteArray} (h : SB w p { S with s := afB t }) (hc : inB (dfW t) = true) : Calls Tryz.prog 115 #[.pointer (some ⟨p, 0, none⟩)] w fun e w' => e = .returned (.string (dfW t)) ∧ Frm p w w' ∧ SB w' p { S with s := nmR (afB t) } := name_ok (S := { S with s := afB t }) h hc
set_option maxRecDepth 100000 in
set_option maxHeartbeats 1000000 in
theorem directive_ok {p : Nat} {w : World} {S : Sc} (h : SB w p S) (hc : hpB S.s ⟨#[46, 102, 117, 110, 99]⟩ = true) (hg : (afB (drU S.s)).size < (drU S.s).size) (hn : inB (dfW (drU S.s)) = true) (he : (dfR (drU S.s)).toList = []) :
    Calls Tryz.prog 87 #[.pointer (some ⟨p, 0, none⟩)] w fun e w' => e = .returned (.string (dfW (drU S.s))) ∧ Frm p w w' ∧ SB w' p { S with s := dfR (drU S.s) } := by
  have HA : Calls Tryz.prog 83 #[.pointer (some ⟨p, 0, none⟩), .string ⟨#[46, 102, 117, 110, 99]⟩] w fun e w' => e = .returned (.bool true) ∧ Frm p w w' ∧ SB w' p { S with s := drU S.s } := accept_sb ⟨#[46, 102, 117, 110, 99]⟩ h hc
  have HN := fun W (g : SB W p { S with s := afB (drU S.s) }) => name_dr (S := S) (t := drU S.s) g hn
  have HE : ∀ W, SB W p { S with s := nmR (afB (drU S.s)) } → Calls Tryz.prog 67 #[.pointer (some ⟨p, 0, none⟩)] W (Did p W { S with s := dfR (drU S.s) }) := fun W g => end_sb_ok (S := { S with s := nmR (afB (drU S.s)) }) g he
  clear hc hn he
  generalize dfW (drU S.s) = m at *
  generalize dfR (drU S.s) = r at *
  generalize drU S.s = u at *
  have hg1 : (0 : Int) < (u.size : Int) - ((afB u).size : Int) := by omega
  have hg2 : ((afB u).size : Int) < (u.size : Int) := by omega
  have NO := fun W => need_ok (.pointer (some ⟨p, 0, none⟩)) W
  go_enter Tryz.func87, Tryz.ntmps87
  go_wp2_with first | (go_at_call 67; (refine (HE _ hB4).mono ?_); rintro e w5 ⟨rfl, hF5, hB5⟩) | (go_at_call 115; (refine (HN _ hB2).mono ?_); rintro e w4 ⟨rfl, hF4, hB4⟩) | (go_at_call 64; (refine (NO _).mono ?_); rintro e w3 ⟨rfl, rfl⟩) | (go_at_call 61; (refine (blanks_sb hB1).mono ?_); rintro e w2 ⟨rfl, hF2, hB2⟩) | (go_at_call 83; (refine (HA).mono ?_); rintro e w1 ⟨rfl, hF1, hB1⟩)
  go_ret
  exact ⟨rfl, ((hF1.trans hF2).trans hF4).trans hF5, hB5⟩
end Go.Proofs.YtjlbcpmfbokinaaGreatDoor
