/-
  Layer 2, contracts: the scanner: instruction.
  Layer 2, contracts: the scanner: instruction, of a known mnemonic.
-/
import Derived.Test.YtjlbcpmfbokinaaGreatDoorGH
import Derived.Lib.AppendZeros
set_option linter.unusedSimpArgs false
set_option linter.unusedVariables false
namespace Go.Proofs.YtjlbcpmfbokinaaGreatDoor
open Go.RowKit Go.Shelf

/-- The gap ahead of an operand; operands; the end; an instruction. -/
def scGap (S : Sc) : Option Sc := if (afB S.s).size < S.s.size then some { S with s := afB S.s } else none
def scComma (S : Sc) : Option Sc := if cmB S.s = true then some { S with s := cmA S.s } else none
def scSep (first : Bool) (S : Sc) : Option Sc := if first = true then scGap S else scComma S
def scOps : List Nat → Bool → Sc → Option Sc
  | [], _, S => some S
  | k :: l, f, S => (scSep f S).bind fun S1 => (scRd k S1).bind fun S2 => scOps l false S2
def scEnd (S : Sc) : Option Sc := if (afB S.s).toList = [] then some { S with s := afB S.s } else none
def opsN (s : Nat) : List Nat := (opsS s).map Int.toNat
def scIns (S : Sc) : Option Sc :=
  if knM (nmS (afB S.s)) = true then
    (scOps (opsN (opAt (ixM (nmS (afB S.s)))).sh) true { S with s := nmR (afB S.s), op := (opAt (ixM (nmS (afB S.s)))).op, sh := (opAt (ixM (nmS (afB S.s)))).sh }).bind scEnd
  else none
theorem word_nm {p : Nat} {w : World} {S : Sc} (h : SB w p S) : Calls Tryz.prog 63 #[.pointer (some ⟨p, 0, none⟩)] w fun e w' => e = .returned (.string (nmS S.s)) ∧ Frm p w w' ∧ SB w' p { S with s := nmR S.s } := word_sb h
set_option maxRecDepth 100000 in
set_option maxHeartbeats 2000000 in
theorem instr_unknown {p : Nat} {w : World} {S : Sc} (h : SB w p S) (hc : knM (nmS (afB S.s)) = false) : Calls Tryz.prog 47 #[.pointer (some ⟨p, 0, none⟩)] w (Bad p w) := by
  have NB := fun W => need_bad (.pointer (some ⟨p, 0, none⟩)) W
  have WD : ∀ W, SB W p { S with s := afB S.s } → Calls Tryz.prog 63 #[.pointer (some ⟨p, 0, none⟩)] W fun e w' => e = .returned (.string (nmS (afB S.s))) ∧ Frm p W w' ∧ SB w' p { S with s := nmR (afB S.s) } := fun W g => word_nm (S := { S with s := afB S.s }) g
  have BM := fun W (g : SB W p { S with s := nmR (afB S.s) }) => byMn_no hc W g.tab
  clear hc
  generalize nmS (afB S.s) = m at *
  go_enter Tryz.func47, Tryz.ntmps47
  go_wp2_with first | (go_at_call 64; (refine (NB _).mono ?_); rintro e w4 ⟨rfl, rfl⟩) | (go_at_call 62; (refine (BM _ hB2).mono ?_); rintro e w3 ⟨rfl, hL3⟩) | (go_at_call 63; (refine (WD _ hB1).mono ?_); rintro e w2 ⟨rfl, hF2, hB2⟩) | (go_at_call 61; (refine (blanks_sb h).mono ?_); rintro e w1 ⟨rfl, hF1, hB1⟩)
  exact ⟨rfl, rfl, ((hF1.trans hF2).trans (Frm.below hL3)).trans (Frm.below (Gr.below (by repeat (first | (with_reducible exact Gr.refl _) | with_reducible refine Gr.alloc ?_ _ | with_reducible refine Gr.more ?_ _ _ | with_reducible refine Gr.setCell ?_ (by dsimp only; omega) _ | with_reducible refine Gr.drew ?_))))⟩

theorem opsN_all : ∀ s : Fin 12, (opsN s.1).map (fun k : Nat => (k : Int)) = opsS s.1 ∧ ∀ k ∈ opsN s.1, k < 6 := by decide
theorem opsN_len (s : Nat) : (opsN s).length = (opsS s).length := by simp [opsN]
theorem Frm.cell {p : Nat} {w w' : World} (h : Frm p w w') {b o : Nat} (hb : b < w.heap.size) (hn : b ≠ p) : w'.cell? ⟨b, o, none⟩ = w.cell? ⟨b, o, none⟩ := World.cell?_of_block (w := w) (h.other b hb hn)
/-- The operands of a shape stay where they are. -/
theorem SB.ops {w : World} {p : Nat} {S : Sc} (h : SB w p S) : ∃ q c, w.cell? ⟨0, S.sh * 5 + 4, none⟩ = some (.slice q (opsN S.sh).length c) ∧ ∀ w', Below p w w' → SeqAt w' q ((opsN S.sh).map fun k : Nat => Value.int .i64 (k : Int)) := by
  obtain ⟨q, c, h1, h2⟩ := h.tab.ly.o S.sh h.h12
  refine ⟨q, c, by rw [opsN_len]; exact h1, fun w' g => ?_⟩
  obtain ⟨q', c', h3, h4⟩ := (h.tb _ g).ly.o S.sh h.h12
  rw [g.cell (p := ⟨0, S.sh * 5 + 4, none⟩) h.lo, h1] at h3
  injection h3 with h3
  injection h3 with h5
  subst h5
  have he : (opsN S.sh).map (fun k : Nat => Value.int .i64 (k : Int)) = iV (opsS S.sh) := by
    rw [← (opsN_all ⟨S.sh, h.h12⟩).1]
    unfold iV
    rw [List.map_map]; rfl
  rw [he]
  exact h4
theorem scOps_step {L : List Nat} {k : Nat} (hk : k < L.length) (S : Sc) : scOps (L.drop k) (k == 0) S = (scSep (k == 0) S).bind fun S1 => (scRd L[k] S1).bind fun S2 => scOps (L.drop (k + 1)) (k + 1 == 0) S2 := by
  rw [List.drop_eq_getElem_cons hk]
  rfl
theorem scOps_end {L : List Nat} (b : Bool) (S : Sc) : scOps (L.drop L.length) b S = some S := by
  rw [List.drop_length]; rfl

/-- What a method of the scanner leads to: another scanner, or a panic. -/
def Leads (p : Nat) (w : World) (o : Option Sc) (R : Ending → World → Prop) : Prop :=
  (∀ S', o = some S' → ∀ w', Frm p w w' → SB w' p S' → R (.returned (.tuple #[])) w') ∧ (o = none → ∀ w', Frm p w w' → R (.panicked (erV 22)) w')

theorem scIns_known {S : Sc} {m : ByteArray} (hm : nmS (afB S.s) = m) (h : knM m = true) : scIns S = (scOps (opsN (opAt (ixM m)).sh) true { S with s := nmR (afB S.s), op := (opAt (ixM m)).op, sh := (opAt (ixM m)).sh }).bind scEnd := by
  subst hm
  exact if_pos h
theorem scIns_unknown {S : Sc} (h : knM (nmS (afB S.s)) = false) : scIns S = none := by
  unfold scIns
  exact if_neg (by rw [h]; decide)
theorem opAt_sh' {r : Nat} (h : r < 35) : (opAt r).sh < 12 := opAt_sh ⟨r, h⟩
theorem knM_lt {m : ByteArray} (h : knM m = true) : ixM m < 35 := by unfold knM at h; exact of_decide_eq_true h
end Go.Proofs.YtjlbcpmfbokinaaGreatDoor

namespace Go.Proofs.YtjlbcpmfbokinaaGreatDoor
open Go.RowKit Go.Shelf

set_option maxRecDepth 100000 in
set_option maxHeartbeats 4000000 in
theorem instr_known {p : Nat} {w : World} {S : Sc} (h : SB w p S) (hc : knM (nmS (afB S.s)) = true) (R : Ending → World → Prop) (HR : Leads p w (scIns S) R) : Calls Tryz.prog 47 #[.pointer (some ⟨p, 0, none⟩)] w R := by
  have NO := fun W => need_ok (.pointer (some ⟨p, 0, none⟩)) W
  have NB := fun W => need_bad (.pointer (some ⟨p, 0, none⟩)) W
  have WD : ∀ W, SB W p { S with s := afB S.s } → Calls Tryz.prog 63 #[.pointer (some ⟨p, 0, none⟩)] W fun e w' => e = .returned (.string (nmS (afB S.s))) ∧ Frm p W w' ∧ SB w' p { S with s := nmR (afB S.s) } := fun W g => word_nm (S := { S with s := afB S.s }) g
  obtain ⟨m, hm⟩ : ∃ m, nmS (afB S.s) = m := ⟨_, rfl⟩
  rw [hm] at hc WD
  rw [scIns_known hm hc] at HR
  clear hm
  have BM := fun W (g : SB W p { S with s := nmR (afB S.s) }) => byMn_yes hc W g.tab
  have hs := opAt_sh' (knM_lt hc)
  clear hc
  unfold rowIV rowV at BM
  generalize ixM m = r at *
  generalize (opAt r).sh = sh at *
  generalize (opAt r).op = op at *
  generalize (opAt r).rd = rd at *
  generalize (opAt r).wr = wr at *
  generalize mnS r = mn at *
  have HR := Lib.hid HR
  have hs1 : (sh : Int) < 12 := by omega
  have hs0 : (0 : Int) ≤ (sh : Int) := by omega
  obtain ⟨S5, hS5⟩ : ∃ S5 : Sc, { S with s := nmR (afB S.s), op := op, sh := sh } = S5 := ⟨_, rfl⟩
  have HS5 := Lib.hid hS5
  rw [hS5] at HR
  clear hS5
  go_enter Tryz.func47, Tryz.ntmps47
  go_upto_region 5 with first | (go_at_call 64; (refine (NO _).mono ?_); rintro e w4 ⟨rfl, rfl⟩) | (go_at_call 62; (refine (BM _ hB2).mono ?_); rintro e w3 ⟨rfl, hL3⟩; have hB3 := hB2.up hL3; have l3 := hB3.lt; have c2 := hB3.c2; have c3 := hB3.c3; have f2 := hB3.fz 2; have f3 := hB3.fz 3) | (go_at_call 63; (refine (WD _ hB1).mono ?_); rintro e w2 ⟨rfl, hF2, hB2⟩) | (go_at_call 61; (refine (blanks_sb h).mono ?_); rintro e w1 ⟨rfl, hF1, hB1⟩)
  go_upto_region 6 with (go_at_call 65; (refine (readers_any _).mono ?_); rintro e w5 ⟨rfl, hRD, hL5⟩)
  have hB5 : SB w5 p S5 := by rw [← HS5.out]; exact SB.up (SB.up (SB.setH (SB.setO hB3 op) sh hs) ((Below.refl _ _).alloc (Nat.le_refl _) _)) hL5
  have hF5 : Frm p w w5 := ((((((hF1.trans hF2).trans (Frm.below hL3)).set 3 _).set 2 _).trans (Frm.below ((Below.refl _ _).alloc (Nat.le_refl _) _)))).trans (Frm.below hL5)
  have hS6 : S5.sh = sh := by rw [← HS5.out]
  obtain ⟨q, cq, hq, hsq⟩ := hB5.ops
  rw [hS6] at hq hsq
  have HSQ := Lib.hid hsq
  have t2 : w5.cell? ⟨w3.heap.size, 2, none⟩ = some (.int .i64 (sh : Int)) := by rw [hL5.cell (by simp)]; go_simp
  have hRD : RD w5 (w3.heap.size + 1) := by simpa using hRD
  have z5 : w3.heap.size + 1 < w5.heap.size := lt_of_cell (hRD 0 (by decide))
  have HRD := Lib.hid hRD
  have l5 := hB5.lt
  clear hRD hS6 hsq c2 c3 f2 f3 hF1 hF2 hL3 hL5 hB1 hB2 hB3 WD BM HS5
  have hN6 := Lib.hid (opsN_all ⟨sh, hs⟩).2
  have hL3 : (opsN sh).length ≤ 3 := (by decide : ∀ s : Fin 12, (opsN s.1).length ≤ 3) ⟨sh, hs⟩
  dsimp only at hN6
  generalize opsN sh = L at *
  go_wp2_with fail
  go_loopw [36] (fun i wr => ∃ k : Nat, k ≤ L.length ∧ i = .int .i64 (k : Int) ∧ Frm p w5 wr ∧ ∃ Sk, SB wr p Sk ∧ Hid (scOps (L.drop k) (k == 0) Sk = scOps L true S5)) (fun i wr => L.length - (intOf i).toNat)
  case atStart => exact ⟨0, Nat.zero_le _, rfl, Frm.refl _ _, S5, hB5, Lib.hid rfl⟩
  case round =>
    clear hB5 t2 hq
    obtain ⟨k, hk, rfl, hFr, Sk, hBr, hEq⟩ := hrel
    have hFw := hF5.trans hFr
    have hz := hFr.size
    by_cases hlt : k < L.length
    · have hlt' : (k : Int) < (L.length : Int) := by omega
      have hk0 : (0 : Int) ≤ (k : Int) := by omega
      have hst := scOps_step hlt Sk
      rw [hEq.out] at hst
      have h6 : L[k] < 6 := hN6.out _ (List.getElem_mem hlt)
      obtain ⟨qb, qo, rfl, hc⟩ := (HSQ.out wr (hFr.low l5)).resolve_left (by intro e; have := congrArg List.length e; simp at this; rw [this] at hlt; simp at hlt)
      have ck := hc k (.int .i64 (L[k] : Int)) (by simp [hlt])
      have cr : wr.cell? ⟨w3.heap.size + 1, L[k], none⟩ = some (.func (.func (rdF L[k])) #[] #[]) := by rw [hFr.cell z5 (by omega)]; exact HRD.out _ h6
      have hRe := readers_read h6
      have hEn := readers_enter h6
      clear hc hEq
      generalize L[k] = kk at *
      generalize rdF kk = F at *
      have hk6 : (kk : Int) < 6 := by omega
      have hk60 : (0 : Int) ≤ (kk : Int) := by omega
      have HST := Lib.hid hst
      clear hst
      have HW1 : Hid (wrap64 ((k : Int) + 1) = ((k + 1 : Nat) : Int)) := Lib.hid (by unfold wrap64; omega)
      by_cases k0 : k = 0
      · subst k0
        rw [Nat.add_zero] at ck
        have HST2 : Hid (scOps L true S5 = (scGap Sk).bind fun S1 => (scRd kk S1).bind fun S2 => scOps (L.drop 1) false S2) := HST
        unfold scGap at HST2
        by_cases hg : (afB Sk.s).size < Sk.s.size
        · have hg1 : (0 : Int) < (Sk.s.size : Int) - ((afB Sk.s).size : Int) := by omega
          have hg2 : ((afB Sk.s).size : Int) < (Sk.s.size : Int) := by omega
          have HS1 : Hid (scOps L true S5 = (scRd kk { Sk with s := afB Sk.s }).bind fun S2 => scOps (L.drop 1) false S2) := Lib.hid (by rw [HST2.out, if_pos hg]; rfl)
          clear HST HST2 hg
          cases hrd : scRd kk { Sk with s := afB Sk.s } with
          | none =>
            have HN : Hid (scOps L true S5 = none) := Lib.hid (by rw [HS1.out, hrd]; rfl)
            have HRD2 := Lib.hid hrd
            clear hrd HS1
            go_wp2_with first | (with_reducible refine (hRe.bad hB6 HRD2.out).mono ?_; rintro e w8 ⟨rfl, hF8⟩) | (go_at_call 64; (refine (NO _).mono ?_); rintro e w7 ⟨rfl, rfl⟩) | (go_at_call 61; (refine (blanks_sb hBr).mono ?_); rintro e w6 ⟨rfl, hF6, hB6⟩; have cr6 := (hF6.cell (o := kk) (Nat.lt_of_lt_of_le z5 hz) (show w3.heap.size + 1 ≠ p by omega)).trans cr)
            exact ⟨rfl, HR.out.2 (by rw [HN.out]; rfl) _ ((hFw.trans hF6).trans hF8)⟩
          | some S2 =>
            have HS2 : Hid (scOps (L.drop 1) (1 == 0) S2 = scOps L true S5) := Lib.hid (by rw [HS1.out, hrd]; rfl)
            have HRD2 := Lib.hid hrd
            clear hrd HS1
            go_wp2_with first | (with_reducible refine (hRe.ok hB6 HRD2.out).mono ?_; rintro e w8 ⟨rfl, hF8, hB8⟩) | (go_at_call 64; (refine (NO _).mono ?_); rintro e w7 ⟨rfl, rfl⟩) | (go_at_call 61; (refine (blanks_sb hBr).mono ?_); rintro e w6 ⟨rfl, hF6, hB6⟩; have cr6 := (hF6.cell (o := kk) (Nat.lt_of_lt_of_le z5 hz) (show w3.heap.size + 1 ≠ p by omega)).trans cr)
            clear cr ck hRe hEn
            go_roundw
            case rel => exact ⟨1, hlt, by first | (rw [HW1.out]; done) | rfl | (push_cast; rfl), (hFr.trans hF6).trans hF8, S2, hB8, HS2⟩
            case measure => first | (simp only [intOf, HW1.out]; omega) | (simp only [intOf]; omega)
        · have hg1 : ¬ (0 : Int) < (Sk.s.size : Int) - ((afB Sk.s).size : Int) := by omega
          have hg2 : ¬ ((afB Sk.s).size : Int) < (Sk.s.size : Int) := by omega
          have hg3 : decide ((0 : Int) < (Sk.s.size : Int) - ((afB Sk.s).size : Int)) = false := decide_eq_false hg1
          have hg4 : decide (((afB Sk.s).size : Int) < (Sk.s.size : Int)) = false := decide_eq_false hg2
          have hg5 : decide ((afB Sk.s).size < Sk.s.size) = false := decide_eq_false hg
          have hg6 : Sk.s.size ≤ (afB Sk.s).size := by omega
          have HN : Hid (scOps L true S5 = none) := Lib.hid (by rw [HST2.out, if_neg hg]; rfl)
          clear HST HST2 hg
          go_wp2_with first | (go_at_call 64; (refine (NB _).mono ?_); rintro e w7 ⟨rfl, rfl⟩) | (go_at_call 61; (refine (blanks_sb hBr).mono ?_); rintro e w6 ⟨rfl, hF6, hB6⟩)
          exact ⟨rfl, HR.out.2 (by rw [HN.out]; rfl) _ (hFw.trans hF6)⟩
      · have hkb : (k == 0) = false := by simp; omega
        have hk1 : ((k : Int) == 0) = false := by rw [beq_eq_false_iff_ne]; omega
        have hk2 : (0 : Int) < (k : Int) := by omega
        have HST2 : Hid (scOps L true S5 = (scComma Sk).bind fun S1 => (scRd kk S1).bind fun S2 => scOps (L.drop (k + 1)) (k + 1 == 0) S2) := Lib.hid (by have := HST.out; rw [hkb] at this; exact this)
        unfold scComma at HST2
        clear hkb
        by_cases hg : cmB Sk.s = true
        · have HG := Lib.hid hg
          have HS1 : Hid (scOps L true S5 = (scRd kk { Sk with s := cmA Sk.s }).bind fun S2 => scOps (L.drop (k + 1)) (k + 1 == 0) S2) := Lib.hid (by rw [HST2.out, if_pos hg]; rfl)
          clear HST HST2 hg
          cases hrd : scRd kk { Sk with s := cmA Sk.s } with
          | none =>
            have HN : Hid (scOps L true S5 = none) := Lib.hid (by rw [HS1.out, hrd]; rfl)
            have HRD2 := Lib.hid hrd
            clear hrd HS1
            go_wp2_with first | (with_reducible refine (hRe.bad hB6 HRD2.out).mono ?_; rintro e w8 ⟨rfl, hF8⟩) | (go_at_call 66; (refine (comma_sb_ok hBr HG.out).mono ?_); rintro e w6 ⟨rfl, hF6, hB6⟩; have cr6 := (hF6.cell (o := kk) (Nat.lt_of_lt_of_le z5 hz) (show w3.heap.size + 1 ≠ p by omega)).trans cr)
            exact ⟨rfl, HR.out.2 (by rw [HN.out]; rfl) _ ((hFw.trans hF6).trans hF8)⟩
          | some S2 =>
            have HS2 : Hid (scOps (L.drop (k + 1)) ((k + 1) == 0) S2 = scOps L true S5) := Lib.hid (by rw [HS1.out, hrd]; rfl)
            have HRD2 := Lib.hid hrd
            clear hrd HS1
            go_wp2_with first | (with_reducible refine (hRe.ok hB6 HRD2.out).mono ?_; rintro e w8 ⟨rfl, hF8, hB8⟩) | (go_at_call 66; (refine (comma_sb_ok hBr HG.out).mono ?_); rintro e w6 ⟨rfl, hF6, hB6⟩; have cr6 := (hF6.cell (o := kk) (Nat.lt_of_lt_of_le z5 hz) (show w3.heap.size + 1 ≠ p by omega)).trans cr)
            clear cr ck hRe hEn
            go_roundw
            case rel => exact ⟨(k + 1), hlt, by first | (rw [HW1.out]; done) | rfl | (push_cast; rfl), (hFr.trans hF6).trans hF8, S2, hB8, HS2⟩
            case measure => first | (simp only [intOf, HW1.out]; omega) | (simp only [intOf]; omega)
        · have HG := Lib.hid (eq_false_of_ne_true hg)
          have HN : Hid (scOps L true S5 = none) := Lib.hid (by rw [HST2.out, if_neg hg]; rfl)
          clear HST HST2 hg
          go_wp2_with first | (go_at_call 66; (refine (comma_sb_bad hBr HG.out).mono ?_); rintro e w6 ⟨rfl, hF6⟩)
          exact ⟨rfl, HR.out.2 (by rw [HN.out]; rfl) _ (hFw.trans hF6)⟩
    · obtain rfl : k = L.length := by omega
      have hge : ¬ (L.length : Int) < (L.length : Int) := by omega
      have hE : scOps L true S5 = some Sk := by rw [← hEq.out]; exact scOps_end _ _
      rw [hE] at HR
      have HR2 : Hid (Leads p w (scEnd Sk) R) := HR
      unfold scEnd at HR2
      clear HR hEq hE
      by_cases he : (afB Sk.s).toList = []
      · rw [if_pos he] at HR2
        have HK := Lib.hid (HR2.out.1 _ rfl)
        have HE := Lib.hid he
        clear HR2 he
        go_wp2_with (go_at_call 67; (refine (end_sb_ok hBr HE.out).mono ?_); rintro e w6 ⟨rfl, hF6, hB6⟩)
        first | exact bodyPost_ret (results_none rfl _ _ _) rfl (HK.out _ (hFw.trans hF6) hB6) | exact bodyPost_end (results_none rfl _ _ _) rfl (HK.out _ (hFw.trans hF6) hB6)
      · rw [if_neg he] at HR2
        have HK := Lib.hid (HR2.out.2 rfl)
        have HE := Lib.hid he
        clear HR2 he
        go_wp2_with (go_at_call 67; (refine (end_sb_bad hBr HE.out).mono ?_); rintro e w6 ⟨rfl, hF6⟩)
        exact ⟨rfl, HK.out _ (hFw.trans hF6)⟩
end Go.Proofs.YtjlbcpmfbokinaaGreatDoor
