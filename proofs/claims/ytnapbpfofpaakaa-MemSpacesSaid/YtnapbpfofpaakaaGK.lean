/-
  The reference of layer 3: permitted, Check, Inside.
  The reference of layer 3: SamePerm, SameChanges.
  The reference of layer 3: Same.
  The reference of layer 3: Bytes.
  The reference of layer 3: Fault (made by genkh.py).
  The reference of layer 3: Copy.
-/
import Derived.Test.YtnapbpfofpaakaaGC
import Derived.BigQuiet
import Derived.Deep.QuietTactic
import Derived.Test.YtnapbpfofpaakaaGE
import Derived.Laws.AppendOwnNone
namespace Go.Proofs.Ytnapbpfofpaakaa
open Go.RowKit

theorem rpermitted_any (p : Int) (w : World) : Calls Try.prog 50 #[.int .i64 p] w fun e w' => e = .returned (.bool (permB p)) ∧ w = w' := by
  by_cases h0 : p = 0
  · subst h0
    go_enter Try.func50, Try.ntmps50
    go_wp2
    go_ret
    exact ⟨rfl, rfl⟩
  by_cases h1 : p = 1
  · subst h1
    go_enter Try.func50, Try.ntmps50
    go_wp2
    go_ret
    exact ⟨rfl, rfl⟩
  by_cases h3 : p = 3
  · subst h3
    go_enter Try.func50, Try.ntmps50
    go_wp2
    go_ret
    exact ⟨rfl, rfl⟩
  by_cases h4 : p = 4
  · subst h4
    go_enter Try.func50, Try.ntmps50
    go_wp2
    go_ret
    exact ⟨rfl, rfl⟩
  have e0 : (p == 0) = false := beq_eq_false_iff_ne.2 h0
  have e1 : (p == 1) = false := beq_eq_false_iff_ne.2 h1
  have e3 : (p == 3) = false := beq_eq_false_iff_ne.2 h3
  have e4 : (p == 4) = false := beq_eq_false_iff_ne.2 h4
  have e : permB p = false := by simp [permB, e0, e1, e3, e4]
  rw [e]
  clear e h0 h1 h3 h4
  go_enter Try.func50, Try.ntmps50
  go_wp2
  go_ret
  exact ⟨rfl, rfl⟩

set_option maxHeartbeats 1000000 in
theorem rcheck3_any (P : List Int) (p : Option Addr) (pc : Nat) (q : Option Addr) (m qc : Nat) (w : World) (hP : SeqAt w p (iV P)) : Calls Try.prog 22 #[spV p P.length pc q m qc] w fun e w' => e = .returned (.int .i64 (spE P m)) ∧ Below w.heap.size w w' := by
  by_cases h32 : 32 < P.length
  · rw [spE_bad (by simp [spB]; intro h; omega)]
    have h : (32 : Int) < (P.length : Int) := by omega
    clear h32
    go_enter Try.func22, Try.ntmps22
    go_wp2
    go_ret
    exact ⟨rfl, (Gr.below (by repeat (first | (with_reducible exact Gr.refl _) | with_reducible refine Gr.alloc ?_ _ | with_reducible refine Gr.more ?_ _ _ | with_reducible refine Gr.setCell ?_ (by dsimp only; omega) _ | with_reducible refine Gr.drew ?_)))⟩
  · have h : ¬ (32 : Int) < (P.length : Int) := by omega
    have hl : (P.length : Int) ≤ 32 := by omega
    have hwm : wrap64 ((P.length : Int) * 64) = (P.length : Int) * 64 := by unfold wrap64; omega
    by_cases hm : m = 64 * P.length
    · have hm' : ((m : Int) != (P.length : Int) * 64) = false := by rw [bne_eq_false_iff_eq]; omega
      have Hm := Lib.hid hm
      clear h32 hm
      have hP2 : SeqAt (w.alloc (.cells #[.slice p P.length pc, .slice q m qc] 25)) p (iV P) := hP.up ((Below.refl _ w).alloc (Nat.le_refl _) _)
      have HP := Lib.hid hP2
      clear hP hP2
      go_enter Try.func22, Try.ntmps22
      go_wp2_with fail
      go_loop [3] (fun i => ∃ k : Nat, k ≤ P.length ∧ i = .int .i64 (k : Int) ∧ Hid (∀ j (hj : j < P.length), j < k → permB P[j] = true)) (fun i => P.length - (intOf i).toNat)
      case atStart => exact ⟨0, Nat.zero_le _, rfl, Lib.hid (fun j _ hj => by omega)⟩
      case round =>
        obtain ⟨k, hk, rfl, hok⟩ := hrel
        by_cases hlt : k < P.length
        · rcases HP.out with hn | ⟨b, o, rfl, hc⟩
          · have : P.length = 0 := by simpa [iV] using hn
            omega
          · have hc1 := hc k _ (iV_get P k hlt)
            clear hc HP
            have hlt' : (k : Int) < (P.length : Int) := by omega
            have hk0 : (0 : Int) ≤ (k : Int) := by omega
            have hw1 : wrap64 ((k : Int) + 1) = (k : Int) + 1 := by unfold wrap64; omega
            have hb0 := lt_of_cell hc1
            have hD := fun w => rpermitted_any P[k] w
            cases hd : permB P[k]
            · rw [hd] at hD
              have hst : spE P m = 30 := spE_bad (by
                rw [Bool.eq_false_iff]
                intro hs
                simp [spB] at hs
                have := hs.2 P[k] (List.getElem_mem hlt)
                rw [hd] at this; cases this)
              have Hst := Lib.hid hst
              clear hst hok hd
              go_wp2_with (go_at_call 50; (refine (hD _).mono ?_); rintro e w1 ⟨rfl, rfl⟩)
              go_ret
              exact ⟨retI Hst.out.symm, (Gr.below (by repeat (first | (with_reducible exact Gr.refl _) | with_reducible refine Gr.alloc ?_ _ | with_reducible refine Gr.more ?_ _ _ | with_reducible refine Gr.setCell ?_ (by dsimp only; omega) _ | with_reducible refine Gr.drew ?_)))⟩
            · rw [hd] at hD
              have hst : Hid (∀ j (hj : j < P.length), j < k + 1 → permB P[j] = true) := Lib.hid (fun j hj h1 => by
                by_cases e : j = k
                · subst e; exact hd
                · exact hok.out j hj (by omega))
              clear hok hd
              go_wp2_with (go_at_call 50; (refine (hD _).mono ?_); rintro e w1 ⟨rfl, rfl⟩)
              go_round
              case rel => exact ⟨k + 1, by omega, by go_num, hst⟩
              case measure => simp [intOf]; omega
        · have hge : ¬ (k : Int) < (P.length : Int) := by omega
          have hst : spE P m = 0 := spE_ok (by
            simp [spB, Hm.out]
            refine ⟨by omega, fun x hx => ?_⟩
            obtain ⟨j, hj, rfl⟩ := List.getElem_of_mem hx
            exact hok.out j hj (by omega))
          have Hst := Lib.hid hst
          clear hst hok HP
          go_wp2_with fail
          go_ret
          exact ⟨retI Hst.out.symm, (Gr.below (by repeat (first | (with_reducible exact Gr.refl _) | with_reducible refine Gr.alloc ?_ _ | with_reducible refine Gr.more ?_ _ _ | with_reducible refine Gr.setCell ?_ (by dsimp only; omega) _ | with_reducible refine Gr.drew ?_)))⟩
    · rw [spE_bad (by simp [spB, hm])]
      have hm' : ((m : Int) != (P.length : Int) * 64) = true := by rw [bne_iff_ne]; omega
      clear h32 hm hP
      go_enter Try.func22, Try.ntmps22
      go_wp2
      go_ret
      exact ⟨rfl, (Gr.below (by repeat (first | (with_reducible exact Gr.refl _) | with_reducible refine Gr.alloc ?_ _ | with_reducible refine Gr.more ?_ _ _ | with_reducible refine Gr.setCell ?_ (by dsimp only; omega) _ | with_reducible refine Gr.drew ?_)))⟩
/-- An address of a space of n bytes. -/
def insB (n : Nat) (a : Int) : Bool := decide (0 ≤ a) && decide (a < (n : Int))
theorem rinside_any (p : Option Addr) (n pc : Nat) (q : Option Addr) (m qc : Nat) (a : Int) (w : World) : Calls Try.prog 77 #[spV p n pc q m qc, .int .i64 a] w fun e w' => e = .returned (.bool (insB m a)) ∧ Below w.heap.size w w' := by
  by_cases h0 : 0 ≤ a
  · by_cases h1 : a < (m : Int)
    · rw [show insB m a = true by simp only [insB, h0, h1, decide_true, Bool.and_true]]
      go_enter Try.func77, Try.ntmps77
      go_wp2
      go_ret
      exact ⟨rfl, (Gr.below (by repeat (first | (with_reducible exact Gr.refl _) | with_reducible refine Gr.alloc ?_ _ | with_reducible refine Gr.more ?_ _ _ | with_reducible refine Gr.setCell ?_ (by dsimp only; omega) _ | with_reducible refine Gr.drew ?_)))⟩
    · rw [show insB m a = false by simp only [insB, h0, h1, decide_true, decide_false, Bool.and_false]]
      go_enter Try.func77, Try.ntmps77
      go_wp2
      go_ret
      exact ⟨rfl, (Gr.below (by repeat (first | (with_reducible exact Gr.refl _) | with_reducible refine Gr.alloc ?_ _ | with_reducible refine Gr.more ?_ _ _ | with_reducible refine Gr.setCell ?_ (by dsimp only; omega) _ | with_reducible refine Gr.drew ?_)))⟩
  · rw [show insB m a = false by simp only [insB, h0, decide_false, Bool.false_and]]
    go_enter Try.func77, Try.ntmps77
    go_wp2
    go_ret
    exact ⟨rfl, (Gr.below (by repeat (first | (with_reducible exact Gr.refl _) | with_reducible refine Gr.alloc ?_ _ | with_reducible refine Gr.more ?_ _ _ | with_reducible refine Gr.setCell ?_ (by dsimp only; omega) _ | with_reducible refine Gr.drew ?_)))⟩
end Go.Proofs.Ytnapbpfofpaakaa

namespace Go.Proofs.Ytnapbpfofpaakaa
open Go.RowKit

theorem grDrewN {B : Nat} {a w : World} (h : Gr B a w) (n : Nat) : Gr B a (w.drewN n) := ⟨⟨h.below.os, h.below.tape, h.below.output, h.below.size, h.below.block⟩, h.size⟩
theorem seqAt_neK {W : World} {p : Option Addr} {xs : List Value} (h : SeqAt W p xs) (hn : xs ≠ []) : ∃ b o, p = some ⟨b, o, none⟩ ∧ ∀ j v, xs[j]? = some v → W.cell? ⟨b, o + j, none⟩ = some v := h.resolve_left hn
theorem df_rowK {W : World} {p : Option Addr} {n c : Nat} {B B2 : List UInt8} {D : List Nat} (h : DfVal W (.slice p n c) B B2 D) (hD : D ≠ []) : ∃ b, p = some ⟨b, 0, none⟩ ∧ ∀ j (h : j < D.length), W.cell? ⟨b, j * 3, none⟩ = some (.int .i64 (D[j] : Int)) ∧ W.cell? ⟨b, j * 3 + 1, none⟩ = some (.int .u8 ((B.getD D[j] 0).toNat : Int)) ∧ W.cell? ⟨b, j * 3 + 2, none⟩ = some (.int .u8 ((B2.getD D[j] 0).toNat : Int)) := by
  obtain ⟨p', c', e, h2⟩ := h
  injection e with e1 e2 e3
  subst e1
  exact h2.resolve_left hD

set_option maxHeartbeats 2000000 in
theorem rsameperm_any (P : List Int) (p : Option Addr) (pc : Nat) (q : Option Addr) (m qc : Nat) (P2 : List Int) (p2 : Option Addr) (pc2 : Nat) (q2 : Option Addr) (m2 qc2 : Nat) (w : World) (h1 : SeqAt w p (iV P)) (h2 : SeqAt w p2 (iV P2)) (hl : (P.length : Int) ≤ 9223372036854775807) :
    Calls Try.prog 52 #[spV p P.length pc q m qc, spV p2 P2.length pc2 q2 m2 qc2] w fun e w' => e = .returned (.bool (P == P2)) ∧ Below w.heap.size w w' := by
  by_cases hlen : P.length = P2.length
  · have hn : ((P.length : Int) != (P2.length : Int)) = false := by rw [bne_eq_false_iff_eq, hlen]
    have HL := Lib.hid hlen
    have HS : ∀ W, Below w.heap.size w W → SeqAt W p (iV P) ∧ SeqAt W p2 (iV P2) := fun W g => ⟨h1.up g, h2.up g⟩
    have HS := Lib.hid HS
    clear h1 h2 hlen
    go_enter Try.func52, Try.ntmps52
    go_wp2_with fail
    go_loopw [5] (fun i wr => ∃ k : Nat, k ≤ P.length ∧ i = .int .i64 (k : Int) ∧ Hid (∀ j (hj : j < P.length), j < k → ∀ h2 : j < P2.length, P[j] = P2[j]) ∧ wr.cell? ⟨w.heap.size, 0, none⟩ = some (.slice p P.length pc) ∧ wr.cell? ⟨w.heap.size + 1, 0, none⟩ = some (.slice p2 P2.length pc2) ∧ w.heap.size + 1 < wr.heap.size ∧ Gr w.heap.size w wr) (fun i _ => P.length - (intOf i).toNat)
    case atStart => exact ⟨0, Nat.zero_le _, rfl, Lib.hid (fun j _ hj => by omega), by go_simp, by go_simp, by simp, by repeat (first | (with_reducible exact Gr.refl _) | with_reducible refine Gr.alloc ?_ _)⟩
    case round =>
      obtain ⟨k, hk, rfl, hok, c0, c1, hz, hG⟩ := hrel
      by_cases hlt : k < P.length
      · have hki : (k : Int) < (P.length : Int) := by omega
        have hki2 : (k : Int) < (P2.length : Int) := by have := HL.out; omega
        have hk0 : (0 : Int) ≤ (k : Int) := by omega
        have hw1 : wrap64 ((k : Int) + 1) = (k : Int) + 1 := by unfold wrap64; omega
        have hlt2 : k < P2.length := by have := HL.out; omega
        obtain ⟨s1, s2⟩ := HS.out wr hG.below
        obtain ⟨b1, o1, rfl, e1⟩ := seqAt_neK s1 (by intro e; have := congrArg List.length e; rw [iV_len] at this; simp at this; rw [this] at hlt; simp at hlt)
        obtain ⟨b2, o2, rfl, e2⟩ := seqAt_neK s2 (by intro e; have := congrArg List.length e; rw [iV_len] at this; simp at this; rw [this] at hlt2; simp at hlt2)
        have d1 := e1 k _ (iV_get P k hlt)
        have d2 := e2 k _ (iV_get P2 k hlt2)
        have lb1 := lt_of_cell d1
        have lb2 := lt_of_cell d2
        have lw : w.heap.size < wr.heap.size := by omega
        clear s1 s2 e1 e2
        by_cases hx : P[k] = P2[k]
        · have hx' : (P[k] != P2[k]) = false := by rw [bne_eq_false_iff_eq]; exact hx
          have hst : Hid (∀ j (hj : j < P.length), j < k + 1 → ∀ h2 : j < P2.length, P[j] = P2[j]) := Lib.hid (fun j hj h1 h2 => by
            by_cases e : j = k
            · subst e; exact hx
            · exact hok.out j hj (by omega) h2)
          clear hx hok
          generalize P[k] = x at *
          generalize P2[k] = y at *
          go_upto_region 6 with fail
          try dsimp only
          go_quiet (fail)
          go_wp2_with fail
          go_roundw
          case rel => exact ⟨k + 1, by omega, by go_num, hst, by go_simp, by go_simp, by simpa using hz, grDrewN hG _⟩
          case measure => simp [intOf]; omega
        · have hx' : (P[k] != P2[k]) = true := bne_iff_ne.2 hx
          have hne : (P == P2) = false := beq_eq_false_iff_ne.2 (fun e => hx (by subst e; rfl))
          have HN := Lib.hid hne
          clear hx hok hne
          generalize P[k] = x at *
          generalize P2[k] = y at *
          go_upto_region 6 with fail
          try dsimp only
          go_quiet (fail)
          go_wp2_with fail
          go_ret
          exact ⟨retB HN.out.symm, (grDrewN hG _).below⟩
      · have hge : ¬ (k : Int) < (P.length : Int) := by omega
        have hne : (P == P2) = true := beq_iff_eq.2 (List.ext_getElem HL.out (fun j a b => hok.out j a (by omega) b))
        have HN := Lib.hid hne
        clear hok hne
        go_wp2_with fail
        go_ret
        exact ⟨retB HN.out.symm, hG.below⟩
  · have hn : ((P.length : Int) != (P2.length : Int)) = true := by rw [bne_iff_ne]; omega
    have hne : (P == P2) = false := beq_eq_false_iff_ne.2 (fun e => hlen (by rw [e]))
    rw [hne]
    clear h1 h2 hlen hne
    go_enter Try.func52, Try.ntmps52
    go_wp2
    go_ret
    exact ⟨rfl, (Gr.below (by repeat (first | (with_reducible exact Gr.refl _) | with_reducible refine Gr.alloc ?_ _ | with_reducible refine Gr.more ?_ _ _ | with_reducible refine Gr.setCell ?_ (by dsimp only; omega) _ | with_reducible refine Gr.drew ?_)))⟩

set_option maxHeartbeats 2000000 in
theorem rsamechanges_df (B B2 : List UInt8) (D : List Nat) (v1 v2 : Value) (w : World) (h1 : DfVal w v1 B B2 D) (h2 : DfVal w v2 B B2 D) (hl : D.length ≤ 4096) :
    Calls Try.prog 41 #[v1, v2] w fun e w' => e = .returned (.bool true) ∧ Below w.heap.size w w' := by
  obtain ⟨p1, c1, rfl, g1⟩ := h1
  obtain ⟨p2, c2, rfl, g2⟩ := h2
  have h1 : DfVal w (.slice p1 D.length c1) B B2 D := ⟨p1, c1, rfl, g1⟩
  have h2 : DfVal w (.slice p2 D.length c2) B B2 D := ⟨p2, c2, rfl, g2⟩
  clear g1 g2
  go_enter Try.func41, Try.ntmps41
  go_wp2_with fail
  go_loopw [5] (fun i wr => ∃ k : Nat, k ≤ D.length ∧ i = .int .i64 (k : Int) ∧ DfVal wr (.slice p1 D.length c1) B B2 D ∧ DfVal wr (.slice p2 D.length c2) B B2 D ∧ Gr w.heap.size w wr) (fun i _ => D.length - (intOf i).toNat)
  case atStart => exact ⟨0, Nat.zero_le _, rfl, h1, h2, Gr.refl _⟩
  case round =>
    clear h1 h2
    obtain ⟨k, hk, rfl, h1, h2, hG⟩ := hrel
    by_cases hlt : k < D.length
    · have hki : (k : Int) < (D.length : Int) := by omega
      have hk0 : (0 : Int) ≤ (k : Int) := by omega
      have hw1 : wrap64 ((k : Int) + 1) = (k : Int) + 1 := by unfold wrap64; omega
      have hne : D ≠ [] := fun e => by rw [e] at hlt; simp at hlt
      obtain ⟨b1, hb1, e1⟩ := df_rowK h1 hne
      obtain ⟨b2, hb2, e2⟩ := df_rowK h2 hne
      subst hb1 hb2
      obtain ⟨a0, a1, a2⟩ := e1 k hlt
      obtain ⟨d0, d1, d2⟩ := e2 k hlt
      have lb1 := lt_of_cell a0
      have lb2 := lt_of_cell d0
      clear e1 e2
      generalize (D[k] : Int) = x at *
      generalize ((B.getD D[k] 0).toNat : Int) = y at *
      generalize ((B2.getD D[k] 0).toNat : Int) = z at *
      go_upto_region 6 with fail
      try dsimp only
      go_quiet (fail)
      have h1' := DfVal.up (grDrewN (Gr.refl wr) nq) h1
      have h2' := DfVal.up (grDrewN (Gr.refl wr) nq) h2
      go_wp2_with fail
      go_roundw
      case rel => exact ⟨k + 1, by omega, by go_num, h1', h2', grDrewN hG _⟩
      case measure => simp [intOf]; omega
    · have hge : ¬ (k : Int) < (D.length : Int) := by omega
      go_wp2_with fail
      go_ret
      exact ⟨rfl, hG.below⟩
end Go.Proofs.Ytnapbpfofpaakaa

namespace Go.Proofs.Ytnapbpfofpaakaa
open Go.RowKit

set_option maxHeartbeats 1000000 in
theorem rsame_any (P : List Int) (p : Option Addr) (pc : Nat) (B : List UInt8) (q : Option Addr) (qc : Nat) (P2 : List Int) (p2 : Option Addr) (pc2 : Nat) (B2 : List UInt8) (q2 : Option Addr) (qc2 : Nat) (w : World)
    (h1 : SeqAt w p (iV P)) (h2 : SeqAt w q (bV B)) (h3 : SeqAt w p2 (iV P2)) (h4 : SeqAt w q2 (bV B2)) (hl : (P.length : Int) ≤ 9223372036854775807) :
    Calls Try.prog 23 #[spV p P.length pc q B.length qc, spV p2 P2.length pc2 q2 B2.length qc2] w fun e w' => e = .returned (.bool (P == P2 && B == B2)) ∧ Below w.heap.size w w' := by
  have E1 : ∀ W, Below w.heap.size w W → Calls Try.prog 52 #[spV p P.length pc q B.length qc, spV p2 P2.length pc2 q2 B2.length qc2] W fun e w' => e = .returned (.bool (P == P2)) ∧ Below W.heap.size W w' := fun W h => rsameperm_any P p pc q B.length qc P2 p2 pc2 q2 B2.length qc2 W (h1.up h) (h3.up h) hl
  have C1 := fun W (h : Below w.heap.size w W) => conv_any B q qc W (h2.up h)
  have C2 := fun W (h : Below w.heap.size w W) => conv_any B2 q2 qc2 W (h4.up h)
  have hE : ((⟨B.toArray⟩ : ByteArray).toList = (⟨B2.toArray⟩ : ByteArray).toList) ↔ B = B2 := by
    constructor
    · intro h
      simpa using h
    · intro h; rw [h]
  clear h1 h2 h3 h4 hl
  generalize (⟨B.toArray⟩ : ByteArray) = t1 at *
  generalize (⟨B2.toArray⟩ : ByteArray) = t2 at *
  cases hx : (P == P2)
  · rw [hx] at E1
    clear hx C1 C2 hE
    go_enter Try.func23, Try.ntmps23
    go_wp2_with (go_at_call 52; (refine (E1 _ (Gr.below (by repeat (first | (with_reducible exact Gr.refl _) | with_reducible refine Gr.alloc ?_ _ | with_reducible refine Gr.more ?_ _ _ | with_reducible refine Gr.setCell ?_ (by dsimp only; omega) _ | with_reducible refine Gr.drew ?_)))).mono ?_); rintro e w1 ⟨rfl, hb⟩; obtain ⟨os, n, rfl⟩ := Below.moreE hb; clear hb)
    go_ret
    exact ⟨by simp, (Gr.below (by repeat (first | (with_reducible exact Gr.refl _) | with_reducible refine Gr.alloc ?_ _ | with_reducible refine Gr.more ?_ _ _ | with_reducible refine Gr.setCell ?_ (by dsimp only; omega) _ | with_reducible refine Gr.drew ?_)))⟩
  · rw [hx] at E1
    clear hx
    by_cases hB : B = B2
    · have hB2 := hE.2 hB
      have hB3 : (B == B2) = true := beq_iff_eq.2 hB
      rw [hB3]
      clear hB hE hB3
      have C1 := Lib.hid C1
      have C2 := Lib.hid C2
      go_enter Try.func23, Try.ntmps23
      go_wp2_with (go_at_call 52; (refine (E1 _ (Gr.below (by repeat (first | (with_reducible exact Gr.refl _) | with_reducible refine Gr.alloc ?_ _ | with_reducible refine Gr.more ?_ _ _ | with_reducible refine Gr.setCell ?_ (by dsimp only; omega) _ | with_reducible refine Gr.drew ?_)))).mono ?_); rintro e w1 ⟨rfl, hb⟩; have k1 := C1.out w1 (Below.trans (by first | exact (Gr.below (by repeat (first | (with_reducible exact Gr.refl _) | with_reducible refine Gr.alloc ?_ _ | with_reducible refine Gr.more ?_ _ _ | with_reducible refine Gr.setCell ?_ (by dsimp only; omega) _ | with_reducible refine Gr.drew ?_)))) (hb.mono (by simp; omega))); have k2 := C2.out w1 (Below.trans (by first | exact (Gr.below (by repeat (first | (with_reducible exact Gr.refl _) | with_reducible refine Gr.alloc ?_ _ | with_reducible refine Gr.more ?_ _ _ | with_reducible refine Gr.setCell ?_ (by dsimp only; omega) _ | with_reducible refine Gr.drew ?_)))) (hb.mono (by simp; omega))); obtain ⟨os, n, rfl⟩ := Below.moreE hb; clear hb)
      go_ret
      exact ⟨by simp, (Gr.below (by repeat (first | (with_reducible exact Gr.refl _) | with_reducible refine Gr.alloc ?_ _ | with_reducible refine Gr.more ?_ _ _ | with_reducible refine Gr.setCell ?_ (by dsimp only; omega) _ | with_reducible refine Gr.drew ?_)))⟩
    · have hB2 : ¬ t1.toList = t2.toList := fun h => hB (hE.1 h)
      have hB3 : (B == B2) = false := beq_eq_false_iff_ne.2 hB
      rw [hB3]
      clear hB hE hB3
      have C1 := Lib.hid C1
      have C2 := Lib.hid C2
      go_enter Try.func23, Try.ntmps23
      go_wp2_with (go_at_call 52; (refine (E1 _ (Gr.below (by repeat (first | (with_reducible exact Gr.refl _) | with_reducible refine Gr.alloc ?_ _ | with_reducible refine Gr.more ?_ _ _ | with_reducible refine Gr.setCell ?_ (by dsimp only; omega) _ | with_reducible refine Gr.drew ?_)))).mono ?_); rintro e w1 ⟨rfl, hb⟩; have k1 := C1.out w1 (Below.trans (by first | exact (Gr.below (by repeat (first | (with_reducible exact Gr.refl _) | with_reducible refine Gr.alloc ?_ _ | with_reducible refine Gr.more ?_ _ _ | with_reducible refine Gr.setCell ?_ (by dsimp only; omega) _ | with_reducible refine Gr.drew ?_)))) (hb.mono (by simp; omega))); have k2 := C2.out w1 (Below.trans (by first | exact (Gr.below (by repeat (first | (with_reducible exact Gr.refl _) | with_reducible refine Gr.alloc ?_ _ | with_reducible refine Gr.more ?_ _ _ | with_reducible refine Gr.setCell ?_ (by dsimp only; omega) _ | with_reducible refine Gr.drew ?_)))) (hb.mono (by simp; omega))); obtain ⟨os, n, rfl⟩ := Below.moreE hb; clear hb)
      go_ret
      exact ⟨by simp [hB2], (Gr.below (by repeat (first | (with_reducible exact Gr.refl _) | with_reducible refine Gr.alloc ?_ _ | with_reducible refine Gr.more ?_ _ _ | with_reducible refine Gr.setCell ?_ (by dsimp only; omega) _ | with_reducible refine Gr.drew ?_)))⟩
end Go.Proofs.Ytnapbpfofpaakaa

namespace Go.Proofs.Ytnapbpfofpaakaa
open Go.RowKit

theorem A_infoU8 : (Try.prog.info? 5).map (fun i => (i.zero, i.size, i.bytes)) = some (some (.int .u8 0), 1, 1) := by kernel_rfl

set_option maxRecDepth 100000 in
set_option maxHeartbeats 4000000 in
theorem rbytes3_ok (P : List Int) (p : Option Addr) (pc : Nat) (B : List UInt8) (q : Option Addr) (qc : Nat) (at0 : Int) (n : Nat) (w : World) (hq : SeqAt w q (bV B)) (hn : n ≤ 2048) (hin : ∀ j : Nat, j < n → 0 ≤ adr at0 j ∧ adr at0 j < B.length) :
    Calls Try.prog 63 #[spV p P.length pc q B.length qc, .int .i64 at0, .int .i64 (n : Int)] w fun e w' => ∃ v, e = .returned v ∧ w'.ownsRow w.heap.size 5 1 v n (bV (rdL B at0 n)) ∧ Below w.heap.size w w' := by
  obtain ⟨i0, hi, hz0, hz1, hz2⟩ := info_parts A_infoU8
  have HI := Lib.hid hin
  have HQ := Lib.hid hq
  have hn2 : (n : Int) ≤ 2048 := by omega
  clear hin hq
  go_enter Try.func63, Try.ntmps63
  go_wp2_with fail
  go_loopw [7, 8] (fun l i wr => ∃ (v : Value) (k : Nat), v = l ∧ k ≤ n ∧ i = .int .i64 (k : Int) ∧ wr.cell? ⟨w.heap.size, 1, none⟩ = some (.slice q B.length qc) ∧ wr.ownsRow (w.heap.size + 1) 5 1 v k (bV (rdL B at0 k)) ∧ w.heap.size + 1 ≤ wr.heap.size ∧ Below w.heap.size w wr) (fun _ i _ => n - (intOf i).toNat)
  case atStart => exact ⟨_, 0, rfl, Nat.zero_le _, rfl, by go_simp, World.ownsRow_nil _ _ _ _, by simp, (Gr.below (by repeat (first | (with_reducible exact Gr.refl _) | with_reducible refine Gr.alloc ?_ _ | with_reducible refine Gr.more ?_ _ _ | with_reducible refine Gr.setCell ?_ (by dsimp only; omega) _ | with_reducible refine Gr.drew ?_)))⟩
  case round =>
    obtain ⟨v, k, rfl, hk, rfl, c1, hown, hz, hB⟩ := hrel
    by_cases hlt : k < n
    · have hlt' : (k : Int) < (n : Int) := by omega
      have hw1 : wrap64 ((k : Int) + 1) = (k : Int) + 1 := by unfold wrap64; omega
      obtain ⟨m0, m1⟩ := HI.out k hlt
      obtain ⟨m, hm⟩ : ∃ m : Nat, adr at0 k = (m : Int) := ⟨(adr at0 k).toNat, by omega⟩
      rw [hm] at m0 m1
      have hm2 : wrap64 (at0 + (k : Int)) = (m : Int) := hm
      have hmB : m < B.length := by omega
      obtain ⟨b, o, rfl, hcx⟩ := HQ.out.get (by rw [bV_len]; omega)
      have cx := hcx m _ (bV_get B m hmB)
      replace cx := cell_up hB (lt_of_cell cx) cx
      have HE : Hid (bV (rdL B at0 (k + 1)) = bV (rdL B at0 k) ++ [.int .u8 (B[m].toNat : Int)]) := by
        refine Lib.hid ?_
        rw [rdL_snoc]
        simp [bV, rdA, hm, List.getD, hmB]
      clear hcx hm
      generalize (B[m].toNat : Int) = x at *
      go_wp2_with (at_builtin; refine wpList_append_own _ rfl _ _ 23 rfl (w.heap.size + 1) 5 i0 (.int .u8 0) 1 1 Try.underlying23 hi hz0 hz1 hz2 rfl (by decide) v k (bV (rdL B at0 k)) rfl (own_below hown ((Below.refl _ wr).alloc (Nat.le_refl _) _)) ⟨wr.heap.size, 0, none⟩ 1 1 [.int .u8 x] rfl ?qc1 ?qc2 ?qc3 ?qc4 ?qc5 ?qc6 ?_)
      case qc1 => rfl
      case qc2 => exact World.news_of_block (World.alloc_heap_new _ _)
      case qc3 => intro u hu; simp at hu; subst hu; rfl
      case qc4 => unfold maxLen; omega
      case qc5 => omega
      case qc6 => simp; omega
      intro v' w5 hown5 hgrow hnil
      have hge : ∀ j, v.ownBlock = some j → w.heap.size + 1 ≤ j := fun j hj => (hown.lt j hj).1
      have hne : some w.heap.size ≠ v.ownBlock := fun e => by have := hge _ e.symm; omega
      have d1 := al_grown c1 hgrow hne
      have hown6 : w5.ownsRow (w.heap.size + 1) 5 1 v' (k + 1) (bV (rdL B at0 (k + 1))) := by
        rw [HE.out]; exact hown5
      have hB5 : Below w.heap.size w w5 := (hB.alloc hB.size _).grown hgrow (by simp; omega) (fun j hj => by have := hge j hj; omega)
      have hz5 : w.heap.size + 1 ≤ w5.heap.size := by have := hgrow.size; simp at this; omega
      clear hown hown5 hgrow hnil hge hne c1
      go_wp2_with fail
      exact ⟨⟨_, k + 1, rfl, hlt, by push_cast; rfl, d1, hown6, hz5, hB5⟩, by show n - ((k : Int) + 1).toNat < n - (k : Int).toNat; omega⟩
    · obtain rfl : k = n := by omega
      go_wp2_with fail
      go_ret
      exact ⟨_, rfl, own_lowN (by omega) hown, hB⟩
end Go.Proofs.Ytnapbpfofpaakaa

namespace Go.Proofs.Ytnapbpfofpaakaa
open Go.RowKit

theorem rflt_at {P : List Int} {m at0 : Int} {n k : Nat} (h : ∀ j, j < k → kindA P m (adr at0 j) = 0) (hk : k < n) (hne : kindA P m (adr at0 k) ≠ 0) : fltK P m at0 n = kindA P m (adr at0 k) ∧ fltA P m at0 n = adr at0 k := by
  have e : goodA P m at0 n = k := cnt_eq (by omega) (fun j hj => by simp [okA, h j hj]) (fun _ => by simp [okA, hne])
  constructor
  · unfold fltK; rw [e, if_neg (by omega)]
  · unfold fltA; rw [e, if_neg (by omega)]
theorem rflt_all {P : List Int} {m at0 : Int} {n : Nat} (h : ∀ j, j < n → kindA P m (adr at0 j) = 0) : fltK P m at0 n = 0 ∧ fltA P m at0 n = 0 := by
  have e := flt_zero_iff.2 h
  exact ⟨e, fltA_zero e⟩
theorem kind_out {P : List Int} {m a : Int} {L : Nat} (hL : L = 64 * P.length) (h : insB L a = false) : kindA P m a = 1 := by
  simp [insB] at h
  unfold kindA
  rw [if_pos (by omega)]
theorem kind_ins {P : List Int} {m a : Int} {L : Nat} (hL : L = 64 * P.length) (h : insB L a = true) : kindA P m a = if m ≠ 0 ∧ bits .and .i64 (P.getD (a / 64).toNat 0) m = 0 then refI m else 0 := by
  simp [insB] at h
  unfold kindA
  rw [if_neg (by omega)]
theorem retF {a b c d : Int} (h : a = c ∧ b = d) : Ending.returned (ftV a b) = .returned (ftV c d) := by rw [h.1, h.2]
theorem and_perm (x : Int) (hx : permB x = true) : (bits .and .i64 x 4 = 0 ↔ x ≠ 4) := by
  rcases permB_cases hx with e | e | e | e <;> subst e <;> decide +kernel

set_option maxRecDepth 100000 in
set_option maxHeartbeats 2000000 in
theorem rfault_0 (P : List Int) (p : Option Addr) (pc : Nat) (B : List UInt8) (q : Option Addr) (qc : Nat) (at0 : Int) (n : Nat) (w : World) (hP : SeqAt w p (iV P)) (hs : spB P B.length = true) (hn : n ≤ 2048) :
    Calls Try.prog 61 #[spV p P.length pc q B.length qc, .int .i64 at0, .int .i64 (n : Int), .int .i64 0] w fun e w' => e = .returned (ftV (fltK P 0 at0 n) (fltA P 0 at0 n)) ∧ Below w.heap.size w w' := by
  obtain ⟨hl1, hl2⟩ := spB_len hs
  have HL := Lib.hid hl2
  have HS : ∀ W, Below w.heap.size w W → SeqAt W p (iV P) := fun W g => hP.up g
  have HS := Lib.hid HS
  have HP := Lib.hid (fun i => spB_perm hs i)
  have hn2 : (n : Int) ≤ 2048 := by omega
  have hB2 : (B.length : Int) ≤ 2048 := by omega
  clear hP hs hl2
  go_enter Try.func61, Try.ntmps61
  go_wp2_with fail
  go_loopw [9] (fun i wr => ∃ k : Nat, k ≤ n ∧ i = .int .i64 (k : Int) ∧ Hid (∀ j, j < k → kindA P 0 (adr at0 j) = 0) ∧ wr.cell? ⟨w.heap.size, 0, none⟩ = some (.slice p P.length pc) ∧ wr.cell? ⟨w.heap.size, 1, none⟩ = some (.slice q B.length qc) ∧ wr.cell? ⟨w.heap.size + 1, 0, none⟩ = some (.int .i64 0) ∧ wr.cell? ⟨w.heap.size + 1, 1, none⟩ = some (.int .i64 0) ∧ wr.frozen? ⟨w.heap.size + 1, 0, none⟩ = false ∧ wr.frozen? ⟨w.heap.size + 1, 1, none⟩ = false ∧ w.heap.size + 1 < wr.heap.size ∧ Gr w.heap.size w wr) (fun i _ => n - (intOf i).toNat)
  case atStart => exact ⟨0, Nat.zero_le _, rfl, Lib.hid (fun j hj => by omega), by go_simp, by go_simp, by go_simp, by go_simp, by go_simp, by go_simp, by simp, by repeat (first | (with_reducible exact Gr.refl _) | with_reducible refine Gr.alloc ?_ _)⟩
  case round =>
    obtain ⟨k, hk, rfl, hok, c0, c1, r0, r1, f0, f1, hz, hG⟩ := hrel
    by_cases hlt : k < n
    · have hki : (k : Int) < (n : Int) := by omega
      have hk0 : (0 : Int) ≤ (k : Int) := by omega
      have hw1 : wrap64 ((k : Int) + 1) = (k : Int) + 1 := by unfold wrap64; omega
      obtain ⟨a, ha⟩ : ∃ a, adr at0 k = a := ⟨_, rfl⟩
      have HA := Lib.hid ha
      have ha' : wrap64 (at0 + (k : Int)) = a := ha
      have lw : w.heap.size < wr.heap.size := by omega
      have hD : ∀ W, Calls Try.prog 77 #[spV p P.length pc q B.length qc, .int .i64 a] W fun e w' => e = .returned (.bool (insB B.length a)) ∧ Below W.heap.size W w' := fun W => rinside_any p P.length pc q B.length qc a W
      clear ha
      cases hI : insB B.length a
      · rw [hI] at hD
        have HK : Hid (fltK P 0 at0 n = 1 ∧ fltA P 0 at0 n = a) := by
          have e1 := kind_out (m := 0) HL.out hI
          have := rflt_at hok.out hlt (by rw [HA.out, e1]; decide)
          rw [HA.out, e1] at this
          exact Lib.hid this
        clear hI hok
        go_wp2_with (go_at_call 77; (refine (hD _).mono ?_); rintro e w1 ⟨rfl, hb⟩; obtain ⟨os, n', rfl⟩ := Below.moreE hb; clear hb)
        refine bodyPost_ret (v := ftV 1 a) (by simp [results, go_sem, *]) rfl ?_
        exact ⟨retF ⟨HK.out.1.symm, HK.out.2.symm⟩, Gr.below (by repeat (first | (with_reducible exact hG) | with_reducible refine Gr.alloc ?_ _ | with_reducible refine Gr.more ?_ _ _ | with_reducible refine Gr.setCell ?_ (by dsimp only; (try simp only [World.size_more, World.size_alloc, World.size_setCell, World.size_drew, Array.size_append]); omega) _ | with_reducible refine Gr.drew ?_))⟩
      · rw [hI] at hD
        have hK := kind_ins (m := 0) HL.out hI
        have h01 : 0 ≤ a ∧ a < 64 * (P.length : Int) := by have := HL.out; simp [insB] at hI; omega
        obtain ⟨h0, h1⟩ := h01
        clear hI
        have i0 : 0 ≤ a / 64 := by omega
        have i1 : a / 64 < (P.length : Int) := by omega
        have hlp : (a / 64).toNat < P.length := by omega
        obtain ⟨b1, o1, rfl, e1⟩ := seqAt_neK (HS.out wr hG.below) (by intro e; have := congrArg List.length e; rw [iV_len] at this; simp at this; rw [this] at hlp; simp at hlp)
        have d1 := e1 _ _ (iV_get P _ hlp)
        have hg : P.getD (a / 64).toNat 0 = P[(a / 64).toNat] := by simp [List.getD, hlp]
        have hpm : permB P[(a / 64).toNat] = true := by have := HP.out (a / 64).toNat; rwa [hg] at this
        rw [hg] at hK
        have lb1 := lt_of_cell d1
        clear e1 hg
        generalize P[(a / 64).toNat] = x at *
        replace hK : kindA P 0 a = 0 := by rw [hK]; simp
        have hst : Hid (∀ j, j < k + 1 → kindA P 0 (adr at0 j) = 0) := Lib.hid (fun j hj => by
          by_cases e : j = k
          · subst e; rw [HA.out]; exact hK
          · exact hok.out j (by omega))
        clear hok hK hpm
        go_wp2_with (go_at_call 77; (refine (hD _).mono ?_); rintro e w1 ⟨rfl, hb⟩; obtain ⟨os, n', rfl⟩ := Below.moreE hb; clear hb)
        go_roundw
        case rel => exact ⟨k + 1, by omega, by go_num, hst, by go_simp, by go_simp, by go_simp, by go_simp, by go_simp, by go_simp, by (try simp only [World.size_more]); omega, (by repeat (first | (with_reducible exact hG) | with_reducible refine Gr.alloc ?_ _ | with_reducible refine Gr.more ?_ _ _ | with_reducible refine Gr.setCell ?_ (by dsimp only; (try simp only [World.size_more, World.size_alloc, World.size_setCell, World.size_drew, Array.size_append]); omega) _ | with_reducible refine Gr.drew ?_))⟩
        case measure => simp [intOf]; omega
    · have hge : ¬ (k : Int) < (n : Int) := by omega
      have HK : Hid (fltK P 0 at0 n = 0 ∧ fltA P 0 at0 n = 0) := Lib.hid (rflt_all (fun j hj => hok.out j (by omega)))
      clear hok
      go_wp2_with fail
      refine bodyPost_ret (v := ftV 0 0) (by simp [results, go_sem, *]) rfl ?_
      exact ⟨retF ⟨HK.out.1.symm, HK.out.2.symm⟩, Gr.below (by repeat (first | (with_reducible exact hG) | with_reducible refine Gr.alloc ?_ _ | with_reducible refine Gr.more ?_ _ _ | with_reducible refine Gr.setCell ?_ (by dsimp only; (try simp only [World.size_more, World.size_alloc, World.size_setCell, World.size_drew, Array.size_append]); omega) _ | with_reducible refine Gr.drew ?_))⟩

set_option maxRecDepth 100000 in
set_option maxHeartbeats 2000000 in
theorem rfault_1 (P : List Int) (p : Option Addr) (pc : Nat) (B : List UInt8) (q : Option Addr) (qc : Nat) (at0 : Int) (n : Nat) (w : World) (hP : SeqAt w p (iV P)) (hs : spB P B.length = true) (hn : n ≤ 2048) :
    Calls Try.prog 61 #[spV p P.length pc q B.length qc, .int .i64 at0, .int .i64 (n : Int), .int .i64 1] w fun e w' => e = .returned (ftV (fltK P 1 at0 n) (fltA P 1 at0 n)) ∧ Below w.heap.size w w' := by
  obtain ⟨hl1, hl2⟩ := spB_len hs
  have HL := Lib.hid hl2
  have HS : ∀ W, Below w.heap.size w W → SeqAt W p (iV P) := fun W g => hP.up g
  have HS := Lib.hid HS
  have HP := Lib.hid (fun i => spB_perm hs i)
  have hn2 : (n : Int) ≤ 2048 := by omega
  have hB2 : (B.length : Int) ≤ 2048 := by omega
  clear hP hs hl2
  go_enter Try.func61, Try.ntmps61
  go_wp2_with fail
  go_loopw [9] (fun i wr => ∃ k : Nat, k ≤ n ∧ i = .int .i64 (k : Int) ∧ Hid (∀ j, j < k → kindA P 1 (adr at0 j) = 0) ∧ wr.cell? ⟨w.heap.size, 0, none⟩ = some (.slice p P.length pc) ∧ wr.cell? ⟨w.heap.size, 1, none⟩ = some (.slice q B.length qc) ∧ wr.cell? ⟨w.heap.size + 1, 0, none⟩ = some (.int .i64 0) ∧ wr.cell? ⟨w.heap.size + 1, 1, none⟩ = some (.int .i64 0) ∧ wr.frozen? ⟨w.heap.size + 1, 0, none⟩ = false ∧ wr.frozen? ⟨w.heap.size + 1, 1, none⟩ = false ∧ w.heap.size + 1 < wr.heap.size ∧ Gr w.heap.size w wr) (fun i _ => n - (intOf i).toNat)
  case atStart => exact ⟨0, Nat.zero_le _, rfl, Lib.hid (fun j hj => by omega), by go_simp, by go_simp, by go_simp, by go_simp, by go_simp, by go_simp, by simp, by repeat (first | (with_reducible exact Gr.refl _) | with_reducible refine Gr.alloc ?_ _)⟩
  case round =>
    obtain ⟨k, hk, rfl, hok, c0, c1, r0, r1, f0, f1, hz, hG⟩ := hrel
    by_cases hlt : k < n
    · have hki : (k : Int) < (n : Int) := by omega
      have hk0 : (0 : Int) ≤ (k : Int) := by omega
      have hw1 : wrap64 ((k : Int) + 1) = (k : Int) + 1 := by unfold wrap64; omega
      obtain ⟨a, ha⟩ : ∃ a, adr at0 k = a := ⟨_, rfl⟩
      have HA := Lib.hid ha
      have ha' : wrap64 (at0 + (k : Int)) = a := ha
      have lw : w.heap.size < wr.heap.size := by omega
      have hD : ∀ W, Calls Try.prog 77 #[spV p P.length pc q B.length qc, .int .i64 a] W fun e w' => e = .returned (.bool (insB B.length a)) ∧ Below W.heap.size W w' := fun W => rinside_any p P.length pc q B.length qc a W
      clear ha
      cases hI : insB B.length a
      · rw [hI] at hD
        have HK : Hid (fltK P 1 at0 n = 1 ∧ fltA P 1 at0 n = a) := by
          have e1 := kind_out (m := 1) HL.out hI
          have := rflt_at hok.out hlt (by rw [HA.out, e1]; decide)
          rw [HA.out, e1] at this
          exact Lib.hid this
        clear hI hok
        go_wp2_with (go_at_call 77; (refine (hD _).mono ?_); rintro e w1 ⟨rfl, hb⟩; obtain ⟨os, n', rfl⟩ := Below.moreE hb; clear hb)
        refine bodyPost_ret (v := ftV 1 a) (by simp [results, go_sem, *]) rfl ?_
        exact ⟨retF ⟨HK.out.1.symm, HK.out.2.symm⟩, Gr.below (by repeat (first | (with_reducible exact hG) | with_reducible refine Gr.alloc ?_ _ | with_reducible refine Gr.more ?_ _ _ | with_reducible refine Gr.setCell ?_ (by dsimp only; (try simp only [World.size_more, World.size_alloc, World.size_setCell, World.size_drew, Array.size_append]); omega) _ | with_reducible refine Gr.drew ?_))⟩
      · rw [hI] at hD
        have hK := kind_ins (m := 1) HL.out hI
        have h01 : 0 ≤ a ∧ a < 64 * (P.length : Int) := by have := HL.out; simp [insB] at hI; omega
        obtain ⟨h0, h1⟩ := h01
        clear hI
        have i0 : 0 ≤ a / 64 := by omega
        have i1 : a / 64 < (P.length : Int) := by omega
        have hlp : (a / 64).toNat < P.length := by omega
        obtain ⟨b1, o1, rfl, e1⟩ := seqAt_neK (HS.out wr hG.below) (by intro e; have := congrArg List.length e; rw [iV_len] at this; simp at this; rw [this] at hlp; simp at hlp)
        have d1 := e1 _ _ (iV_get P _ hlp)
        have hg : P.getD (a / 64).toNat 0 = P[(a / 64).toNat] := by simp [List.getD, hlp]
        have hpm : permB P[(a / 64).toNat] = true := by have := HP.out (a / 64).toNat; rwa [hg] at this
        rw [hg] at hK
        have lb1 := lt_of_cell d1
        clear e1 hg
        generalize P[(a / 64).toNat] = x at *
        by_cases hx : bits .and .i64 x 1 = 0
        · have hx' : (bits .and .i64 x 1 == 0) = true := beq_iff_eq.2 hx
          replace hK : kindA P 1 a = 2 := by rw [hK, if_pos ⟨by decide, hx⟩]; rfl
          clear hx
          have HK : Hid (fltK P 1 at0 n = 2 ∧ fltA P 1 at0 n = a) := by
            have := rflt_at hok.out hlt (by rw [HA.out, hK]; decide)
            rw [HA.out, hK] at this
            exact Lib.hid this
          clear hok hK hpm
          go_wp2_with (go_at_call 77; (refine (hD _).mono ?_); rintro e w1 ⟨rfl, hb⟩; obtain ⟨os, n', rfl⟩ := Below.moreE hb; clear hb)
          refine bodyPost_ret (v := ftV 2 a) (by simp [results, go_sem, *]) rfl ?_
          exact ⟨retF ⟨HK.out.1.symm, HK.out.2.symm⟩, Gr.below (by repeat (first | (with_reducible exact hG) | with_reducible refine Gr.alloc ?_ _ | with_reducible refine Gr.more ?_ _ _ | with_reducible refine Gr.setCell ?_ (by dsimp only; (try simp only [World.size_more, World.size_alloc, World.size_setCell, World.size_drew, Array.size_append]); omega) _ | with_reducible refine Gr.drew ?_))⟩
        · have hx' : (bits .and .i64 x 1 == 0) = false := beq_eq_false_iff_ne.2 hx
          replace hK : kindA P 1 a = 0 := by rw [hK, if_neg (fun h => hx h.2)]
          clear hx
          have hst : Hid (∀ j, j < k + 1 → kindA P 1 (adr at0 j) = 0) := Lib.hid (fun j hj => by
            by_cases e : j = k
            · subst e; rw [HA.out]; exact hK
            · exact hok.out j (by omega))
          clear hok hK hpm
          go_wp2_with (go_at_call 77; (refine (hD _).mono ?_); rintro e w1 ⟨rfl, hb⟩; obtain ⟨os, n', rfl⟩ := Below.moreE hb; clear hb)
          go_roundw
          case rel => exact ⟨k + 1, by omega, by go_num, hst, by go_simp, by go_simp, by go_simp, by go_simp, by go_simp, by go_simp, by (try simp only [World.size_more]); omega, (by repeat (first | (with_reducible exact hG) | with_reducible refine Gr.alloc ?_ _ | with_reducible refine Gr.more ?_ _ _ | with_reducible refine Gr.setCell ?_ (by dsimp only; (try simp only [World.size_more, World.size_alloc, World.size_setCell, World.size_drew, Array.size_append]); omega) _ | with_reducible refine Gr.drew ?_))⟩
          case measure => simp [intOf]; omega
    · have hge : ¬ (k : Int) < (n : Int) := by omega
      have HK : Hid (fltK P 1 at0 n = 0 ∧ fltA P 1 at0 n = 0) := Lib.hid (rflt_all (fun j hj => hok.out j (by omega)))
      clear hok
      go_wp2_with fail
      refine bodyPost_ret (v := ftV 0 0) (by simp [results, go_sem, *]) rfl ?_
      exact ⟨retF ⟨HK.out.1.symm, HK.out.2.symm⟩, Gr.below (by repeat (first | (with_reducible exact hG) | with_reducible refine Gr.alloc ?_ _ | with_reducible refine Gr.more ?_ _ _ | with_reducible refine Gr.setCell ?_ (by dsimp only; (try simp only [World.size_more, World.size_alloc, World.size_setCell, World.size_drew, Array.size_append]); omega) _ | with_reducible refine Gr.drew ?_))⟩

set_option maxRecDepth 100000 in
set_option maxHeartbeats 2000000 in
theorem rfault_2 (P : List Int) (p : Option Addr) (pc : Nat) (B : List UInt8) (q : Option Addr) (qc : Nat) (at0 : Int) (n : Nat) (w : World) (hP : SeqAt w p (iV P)) (hs : spB P B.length = true) (hn : n ≤ 2048) :
    Calls Try.prog 61 #[spV p P.length pc q B.length qc, .int .i64 at0, .int .i64 (n : Int), .int .i64 2] w fun e w' => e = .returned (ftV (fltK P 2 at0 n) (fltA P 2 at0 n)) ∧ Below w.heap.size w w' := by
  obtain ⟨hl1, hl2⟩ := spB_len hs
  have HL := Lib.hid hl2
  have HS : ∀ W, Below w.heap.size w W → SeqAt W p (iV P) := fun W g => hP.up g
  have HS := Lib.hid HS
  have HP := Lib.hid (fun i => spB_perm hs i)
  have hn2 : (n : Int) ≤ 2048 := by omega
  have hB2 : (B.length : Int) ≤ 2048 := by omega
  clear hP hs hl2
  go_enter Try.func61, Try.ntmps61
  go_wp2_with fail
  go_loopw [9] (fun i wr => ∃ k : Nat, k ≤ n ∧ i = .int .i64 (k : Int) ∧ Hid (∀ j, j < k → kindA P 2 (adr at0 j) = 0) ∧ wr.cell? ⟨w.heap.size, 0, none⟩ = some (.slice p P.length pc) ∧ wr.cell? ⟨w.heap.size, 1, none⟩ = some (.slice q B.length qc) ∧ wr.cell? ⟨w.heap.size + 1, 0, none⟩ = some (.int .i64 0) ∧ wr.cell? ⟨w.heap.size + 1, 1, none⟩ = some (.int .i64 0) ∧ wr.frozen? ⟨w.heap.size + 1, 0, none⟩ = false ∧ wr.frozen? ⟨w.heap.size + 1, 1, none⟩ = false ∧ w.heap.size + 1 < wr.heap.size ∧ Gr w.heap.size w wr) (fun i _ => n - (intOf i).toNat)
  case atStart => exact ⟨0, Nat.zero_le _, rfl, Lib.hid (fun j hj => by omega), by go_simp, by go_simp, by go_simp, by go_simp, by go_simp, by go_simp, by simp, by repeat (first | (with_reducible exact Gr.refl _) | with_reducible refine Gr.alloc ?_ _)⟩
  case round =>
    obtain ⟨k, hk, rfl, hok, c0, c1, r0, r1, f0, f1, hz, hG⟩ := hrel
    by_cases hlt : k < n
    · have hki : (k : Int) < (n : Int) := by omega
      have hk0 : (0 : Int) ≤ (k : Int) := by omega
      have hw1 : wrap64 ((k : Int) + 1) = (k : Int) + 1 := by unfold wrap64; omega
      obtain ⟨a, ha⟩ : ∃ a, adr at0 k = a := ⟨_, rfl⟩
      have HA := Lib.hid ha
      have ha' : wrap64 (at0 + (k : Int)) = a := ha
      have lw : w.heap.size < wr.heap.size := by omega
      have hD : ∀ W, Calls Try.prog 77 #[spV p P.length pc q B.length qc, .int .i64 a] W fun e w' => e = .returned (.bool (insB B.length a)) ∧ Below W.heap.size W w' := fun W => rinside_any p P.length pc q B.length qc a W
      clear ha
      cases hI : insB B.length a
      · rw [hI] at hD
        have HK : Hid (fltK P 2 at0 n = 1 ∧ fltA P 2 at0 n = a) := by
          have e1 := kind_out (m := 2) HL.out hI
          have := rflt_at hok.out hlt (by rw [HA.out, e1]; decide)
          rw [HA.out, e1] at this
          exact Lib.hid this
        clear hI hok
        go_wp2_with (go_at_call 77; (refine (hD _).mono ?_); rintro e w1 ⟨rfl, hb⟩; obtain ⟨os, n', rfl⟩ := Below.moreE hb; clear hb)
        refine bodyPost_ret (v := ftV 1 a) (by simp [results, go_sem, *]) rfl ?_
        exact ⟨retF ⟨HK.out.1.symm, HK.out.2.symm⟩, Gr.below (by repeat (first | (with_reducible exact hG) | with_reducible refine Gr.alloc ?_ _ | with_reducible refine Gr.more ?_ _ _ | with_reducible refine Gr.setCell ?_ (by dsimp only; (try simp only [World.size_more, World.size_alloc, World.size_setCell, World.size_drew, Array.size_append]); omega) _ | with_reducible refine Gr.drew ?_))⟩
      · rw [hI] at hD
        have hK := kind_ins (m := 2) HL.out hI
        have h01 : 0 ≤ a ∧ a < 64 * (P.length : Int) := by have := HL.out; simp [insB] at hI; omega
        obtain ⟨h0, h1⟩ := h01
        clear hI
        have i0 : 0 ≤ a / 64 := by omega
        have i1 : a / 64 < (P.length : Int) := by omega
        have hlp : (a / 64).toNat < P.length := by omega
        obtain ⟨b1, o1, rfl, e1⟩ := seqAt_neK (HS.out wr hG.below) (by intro e; have := congrArg List.length e; rw [iV_len] at this; simp at this; rw [this] at hlp; simp at hlp)
        have d1 := e1 _ _ (iV_get P _ hlp)
        have hg : P.getD (a / 64).toNat 0 = P[(a / 64).toNat] := by simp [List.getD, hlp]
        have hpm : permB P[(a / 64).toNat] = true := by have := HP.out (a / 64).toNat; rwa [hg] at this
        rw [hg] at hK
        have lb1 := lt_of_cell d1
        clear e1 hg
        generalize P[(a / 64).toNat] = x at *
        by_cases hx : bits .and .i64 x 2 = 0
        · have hx' : (bits .and .i64 x 2 == 0) = true := beq_iff_eq.2 hx
          replace hK : kindA P 2 a = 3 := by rw [hK, if_pos ⟨by decide, hx⟩]; rfl
          clear hx
          have HK : Hid (fltK P 2 at0 n = 3 ∧ fltA P 2 at0 n = a) := by
            have := rflt_at hok.out hlt (by rw [HA.out, hK]; decide)
            rw [HA.out, hK] at this
            exact Lib.hid this
          clear hok hK hpm
          go_wp2_with (go_at_call 77; (refine (hD _).mono ?_); rintro e w1 ⟨rfl, hb⟩; obtain ⟨os, n', rfl⟩ := Below.moreE hb; clear hb)
          refine bodyPost_ret (v := ftV 3 a) (by simp [results, go_sem, *]) rfl ?_
          exact ⟨retF ⟨HK.out.1.symm, HK.out.2.symm⟩, Gr.below (by repeat (first | (with_reducible exact hG) | with_reducible refine Gr.alloc ?_ _ | with_reducible refine Gr.more ?_ _ _ | with_reducible refine Gr.setCell ?_ (by dsimp only; (try simp only [World.size_more, World.size_alloc, World.size_setCell, World.size_drew, Array.size_append]); omega) _ | with_reducible refine Gr.drew ?_))⟩
        · have hx' : (bits .and .i64 x 2 == 0) = false := beq_eq_false_iff_ne.2 hx
          replace hK : kindA P 2 a = 0 := by rw [hK, if_neg (fun h => hx h.2)]
          clear hx
          have hst : Hid (∀ j, j < k + 1 → kindA P 2 (adr at0 j) = 0) := Lib.hid (fun j hj => by
            by_cases e : j = k
            · subst e; rw [HA.out]; exact hK
            · exact hok.out j (by omega))
          clear hok hK hpm
          go_wp2_with (go_at_call 77; (refine (hD _).mono ?_); rintro e w1 ⟨rfl, hb⟩; obtain ⟨os, n', rfl⟩ := Below.moreE hb; clear hb)
          go_roundw
          case rel => exact ⟨k + 1, by omega, by go_num, hst, by go_simp, by go_simp, by go_simp, by go_simp, by go_simp, by go_simp, by (try simp only [World.size_more]); omega, (by repeat (first | (with_reducible exact hG) | with_reducible refine Gr.alloc ?_ _ | with_reducible refine Gr.more ?_ _ _ | with_reducible refine Gr.setCell ?_ (by dsimp only; (try simp only [World.size_more, World.size_alloc, World.size_setCell, World.size_drew, Array.size_append]); omega) _ | with_reducible refine Gr.drew ?_))⟩
          case measure => simp [intOf]; omega
    · have hge : ¬ (k : Int) < (n : Int) := by omega
      have HK : Hid (fltK P 2 at0 n = 0 ∧ fltA P 2 at0 n = 0) := Lib.hid (rflt_all (fun j hj => hok.out j (by omega)))
      clear hok
      go_wp2_with fail
      refine bodyPost_ret (v := ftV 0 0) (by simp [results, go_sem, *]) rfl ?_
      exact ⟨retF ⟨HK.out.1.symm, HK.out.2.symm⟩, Gr.below (by repeat (first | (with_reducible exact hG) | with_reducible refine Gr.alloc ?_ _ | with_reducible refine Gr.more ?_ _ _ | with_reducible refine Gr.setCell ?_ (by dsimp only; (try simp only [World.size_more, World.size_alloc, World.size_setCell, World.size_drew, Array.size_append]); omega) _ | with_reducible refine Gr.drew ?_))⟩

set_option maxRecDepth 100000 in
set_option maxHeartbeats 2000000 in
theorem rfault_4 (P : List Int) (p : Option Addr) (pc : Nat) (B : List UInt8) (q : Option Addr) (qc : Nat) (at0 : Int) (n : Nat) (w : World) (hP : SeqAt w p (iV P)) (hs : spB P B.length = true) (hn : n ≤ 2048) :
    Calls Try.prog 61 #[spV p P.length pc q B.length qc, .int .i64 at0, .int .i64 (n : Int), .int .i64 4] w fun e w' => e = .returned (ftV (fltK P 4 at0 n) (fltA P 4 at0 n)) ∧ Below w.heap.size w w' := by
  obtain ⟨hl1, hl2⟩ := spB_len hs
  have HL := Lib.hid hl2
  have HS : ∀ W, Below w.heap.size w W → SeqAt W p (iV P) := fun W g => hP.up g
  have HS := Lib.hid HS
  have HP := Lib.hid (fun i => spB_perm hs i)
  have hn2 : (n : Int) ≤ 2048 := by omega
  have hB2 : (B.length : Int) ≤ 2048 := by omega
  clear hP hs hl2
  go_enter Try.func61, Try.ntmps61
  go_wp2_with fail
  go_loopw [9] (fun i wr => ∃ k : Nat, k ≤ n ∧ i = .int .i64 (k : Int) ∧ Hid (∀ j, j < k → kindA P 4 (adr at0 j) = 0) ∧ wr.cell? ⟨w.heap.size, 0, none⟩ = some (.slice p P.length pc) ∧ wr.cell? ⟨w.heap.size, 1, none⟩ = some (.slice q B.length qc) ∧ wr.cell? ⟨w.heap.size + 1, 0, none⟩ = some (.int .i64 0) ∧ wr.cell? ⟨w.heap.size + 1, 1, none⟩ = some (.int .i64 0) ∧ wr.frozen? ⟨w.heap.size + 1, 0, none⟩ = false ∧ wr.frozen? ⟨w.heap.size + 1, 1, none⟩ = false ∧ w.heap.size + 1 < wr.heap.size ∧ Gr w.heap.size w wr) (fun i _ => n - (intOf i).toNat)
  case atStart => exact ⟨0, Nat.zero_le _, rfl, Lib.hid (fun j hj => by omega), by go_simp, by go_simp, by go_simp, by go_simp, by go_simp, by go_simp, by simp, by repeat (first | (with_reducible exact Gr.refl _) | with_reducible refine Gr.alloc ?_ _)⟩
  case round =>
    obtain ⟨k, hk, rfl, hok, c0, c1, r0, r1, f0, f1, hz, hG⟩ := hrel
    by_cases hlt : k < n
    · have hki : (k : Int) < (n : Int) := by omega
      have hk0 : (0 : Int) ≤ (k : Int) := by omega
      have hw1 : wrap64 ((k : Int) + 1) = (k : Int) + 1 := by unfold wrap64; omega
      obtain ⟨a, ha⟩ : ∃ a, adr at0 k = a := ⟨_, rfl⟩
      have HA := Lib.hid ha
      have ha' : wrap64 (at0 + (k : Int)) = a := ha
      have lw : w.heap.size < wr.heap.size := by omega
      have hD : ∀ W, Calls Try.prog 77 #[spV p P.length pc q B.length qc, .int .i64 a] W fun e w' => e = .returned (.bool (insB B.length a)) ∧ Below W.heap.size W w' := fun W => rinside_any p P.length pc q B.length qc a W
      clear ha
      cases hI : insB B.length a
      · rw [hI] at hD
        have HK : Hid (fltK P 4 at0 n = 1 ∧ fltA P 4 at0 n = a) := by
          have e1 := kind_out (m := 4) HL.out hI
          have := rflt_at hok.out hlt (by rw [HA.out, e1]; decide)
          rw [HA.out, e1] at this
          exact Lib.hid this
        clear hI hok
        go_wp2_with (go_at_call 77; (refine (hD _).mono ?_); rintro e w1 ⟨rfl, hb⟩; obtain ⟨os, n', rfl⟩ := Below.moreE hb; clear hb)
        refine bodyPost_ret (v := ftV 1 a) (by simp [results, go_sem, *]) rfl ?_
        exact ⟨retF ⟨HK.out.1.symm, HK.out.2.symm⟩, Gr.below (by repeat (first | (with_reducible exact hG) | with_reducible refine Gr.alloc ?_ _ | with_reducible refine Gr.more ?_ _ _ | with_reducible refine Gr.setCell ?_ (by dsimp only; (try simp only [World.size_more, World.size_alloc, World.size_setCell, World.size_drew, Array.size_append]); omega) _ | with_reducible refine Gr.drew ?_))⟩
      · rw [hI] at hD
        have hK := kind_ins (m := 4) HL.out hI
        have h01 : 0 ≤ a ∧ a < 64 * (P.length : Int) := by have := HL.out; simp [insB] at hI; omega
        obtain ⟨h0, h1⟩ := h01
        clear hI
        have i0 : 0 ≤ a / 64 := by omega
        have i1 : a / 64 < (P.length : Int) := by omega
        have hlp : (a / 64).toNat < P.length := by omega
        obtain ⟨b1, o1, rfl, e1⟩ := seqAt_neK (HS.out wr hG.below) (by intro e; have := congrArg List.length e; rw [iV_len] at this; simp at this; rw [this] at hlp; simp at hlp)
        have d1 := e1 _ _ (iV_get P _ hlp)
        have hg : P.getD (a / 64).toNat 0 = P[(a / 64).toNat] := by simp [List.getD, hlp]
        have hpm : permB P[(a / 64).toNat] = true := by have := HP.out (a / 64).toNat; rwa [hg] at this
        rw [hg] at hK
        have lb1 := lt_of_cell d1
        clear e1 hg
        generalize P[(a / 64).toNat] = x at *
        by_cases hx : x = 4
        · have hx' : (x != 4) = false := by rw [bne_eq_false_iff_eq]; exact hx
          replace hK : kindA P 4 a = 0 := by rw [hK, if_neg (fun h => (and_perm x hpm).1 h.2 hx)]
          clear hx
          have hst : Hid (∀ j, j < k + 1 → kindA P 4 (adr at0 j) = 0) := Lib.hid (fun j hj => by
            by_cases e : j = k
            · subst e; rw [HA.out]; exact hK
            · exact hok.out j (by omega))
          clear hok hK hpm
          go_wp2_with (go_at_call 77; (refine (hD _).mono ?_); rintro e w1 ⟨rfl, hb⟩; obtain ⟨os, n', rfl⟩ := Below.moreE hb; clear hb)
          go_roundw
          case rel => exact ⟨k + 1, by omega, by go_num, hst, by go_simp, by go_simp, by go_simp, by go_simp, by go_simp, by go_simp, by (try simp only [World.size_more]); omega, (by repeat (first | (with_reducible exact hG) | with_reducible refine Gr.alloc ?_ _ | with_reducible refine Gr.more ?_ _ _ | with_reducible refine Gr.setCell ?_ (by dsimp only; (try simp only [World.size_more, World.size_alloc, World.size_setCell, World.size_drew, Array.size_append]); omega) _ | with_reducible refine Gr.drew ?_))⟩
          case measure => simp [intOf]; omega
        · have hx' : (x != 4) = true := bne_iff_ne.2 hx
          replace hK : kindA P 4 a = 4 := by rw [hK, if_pos ⟨by decide, (and_perm x hpm).2 hx⟩]; rfl
          clear hx
          have HK : Hid (fltK P 4 at0 n = 4 ∧ fltA P 4 at0 n = a) := by
            have := rflt_at hok.out hlt (by rw [HA.out, hK]; decide)
            rw [HA.out, hK] at this
            exact Lib.hid this
          clear hok hK hpm
          go_wp2_with (go_at_call 77; (refine (hD _).mono ?_); rintro e w1 ⟨rfl, hb⟩; obtain ⟨os, n', rfl⟩ := Below.moreE hb; clear hb)
          refine bodyPost_ret (v := ftV 4 a) (by simp [results, go_sem, *]) rfl ?_
          exact ⟨retF ⟨HK.out.1.symm, HK.out.2.symm⟩, Gr.below (by repeat (first | (with_reducible exact hG) | with_reducible refine Gr.alloc ?_ _ | with_reducible refine Gr.more ?_ _ _ | with_reducible refine Gr.setCell ?_ (by dsimp only; (try simp only [World.size_more, World.size_alloc, World.size_setCell, World.size_drew, Array.size_append]); omega) _ | with_reducible refine Gr.drew ?_))⟩
    · have hge : ¬ (k : Int) < (n : Int) := by omega
      have HK : Hid (fltK P 4 at0 n = 0 ∧ fltA P 4 at0 n = 0) := Lib.hid (rflt_all (fun j hj => hok.out j (by omega)))
      clear hok
      go_wp2_with fail
      refine bodyPost_ret (v := ftV 0 0) (by simp [results, go_sem, *]) rfl ?_
      exact ⟨retF ⟨HK.out.1.symm, HK.out.2.symm⟩, Gr.below (by repeat (first | (with_reducible exact hG) | with_reducible refine Gr.alloc ?_ _ | with_reducible refine Gr.more ?_ _ _ | with_reducible refine Gr.setCell ?_ (by dsimp only; (try simp only [World.size_more, World.size_alloc, World.size_setCell, World.size_drew, Array.size_append]); omega) _ | with_reducible refine Gr.drew ?_))⟩

theorem rfault_any (P : List Int) (p : Option Addr) (pc : Nat) (B : List UInt8) (q : Option Addr) (qc : Nat) (at0 : Int) (n : Nat) (m : Int) (hm : m = 0 ∨ m = 1 ∨ m = 2 ∨ m = 4) (w : World) (hP : SeqAt w p (iV P)) (hs : spB P B.length = true) (hn : n ≤ 2048) :
    Calls Try.prog 61 #[spV p P.length pc q B.length qc, .int .i64 at0, .int .i64 (n : Int), .int .i64 m] w fun e w' => e = .returned (ftV (fltK P m at0 n) (fltA P m at0 n)) ∧ Below w.heap.size w w' := by
  rcases hm with rfl | rfl | rfl | rfl
  · exact rfault_0 P p pc B q qc at0 n w hP hs hn
  · exact rfault_1 P p pc B q qc at0 n w hP hs hn
  · exact rfault_2 P p pc B q qc at0 n w hP hs hn
  · exact rfault_4 P p pc B q qc at0 n w hP hs hn
end Go.Proofs.Ytnapbpfofpaakaa

namespace Go.Proofs.Ytnapbpfofpaakaa
open Go.RowKit

theorem grown_cell {w w' : World} {row : Option Nat} (hg : w.grownBy w' row) {b o : Nat} {v : Value} (h : w.cell? ⟨b, o, none⟩ = some v) (hne : some b ≠ row) : w'.cell? ⟨b, o, none⟩ = some v := by
  rw [World.cell?_of_block (w := w) (hg.block b (lt_of_cell h) hne)]; exact h
theorem grown_fz {w w' : World} {row : Option Nat} (hg : w.grownBy w' row) {b o : Nat} (hb : b < w.heap.size) (h : w.frozen? ⟨b, o, none⟩ = false) (hne : some b ≠ row) : w'.frozen? ⟨b, o, none⟩ = false := by
  rw [World.frozen?_of_block (w := w) (hg.block b hb hne)]; exact h
theorem own_grown {w w' : World} {row : Option Nat} (hg : w.grownBy w' row) {base : Nat} {e : TypeId} {v : Value} {n : Nat} {xs : List Value} (h : w.ownsRow base e 1 v n xs) (hne : ∀ g, v.ownBlock = some g → some g ≠ row) : w'.ownsRow base e 1 v n xs := by
  have hlt := h.lt
  obtain ⟨h1, h2⟩ := h
  refine ⟨h1, ?_⟩
  rcases h2 with h2 | ⟨gg, cap, cur, hv, hbg, hgg, h3⟩
  · exact .inl h2
  · have ho : v.ownBlock = some gg := by rw [hv]; rfl
    exact .inr ⟨gg, cap, cur, hv, hbg, (hg.block gg (hlt gg ho).2 (hne gg ho)).trans hgg, h3⟩
/-- A slice of no address. -/
theorem append_none_c {P : Program} {w : World} {ops : Array Oper} {rest : List Oper} {o : Oper} {a : Act} {Q : Exit → Act → World → Prop} (hgd : o.guard = none) (s x : Operand) (t : TypeId)
    (ho : o.op = .call { callee := .builtin .append, args := #[s, x], argTypes := #[t, t] })
    (base : Nat) (e : TypeId) (i : TypeInfo) (size : Nat) (ht : P.underlying t = some (.slice e)) (hi : P.info? e = some i)
    (v : Value) (n : Nat) (xs : List Value) (hs : a.eval s = v) (hown : w.ownsRow base e size v n xs) (c : Nat) (hx : a.eval x = .slice none 0 c)
    (h : wpList P ops Q rest (a.put o.dst v) w) : wpList P ops Q (o :: rest) a w := by
  refine wpList_plain hgd fun K hK => ?_
  have hrun : (Builtin.append_ #[t, t] o.type #[v, .slice none 0 c]).run P w = .ok v w := by
    rcases hown.2 with ⟨rfl, rfl⟩ | ⟨g, cap, cur, rfl, _, _, hnc, _⟩
    · simp [Builtin.append_, run_underlying ht, sizeOf, typeInfo, hi, Builtin.lenOf, Builtin.firstCells]
    · simp [Builtin.append_, run_underlying ht, sizeOf, typeInfo, hi, Builtin.lenOf, Builtin.firstCells, hnc, storeCells]
  unfold Oper.wp
  simp [execOp, ho, resolve, invoke, builtin, hs, hx, hrun, Result.andThen]
  exact hK _ _ h
/-- A slice known by its cells is appended. -/
theorem append_seq {P : Program} {w : World} {ops : Array Oper} {rest : List Oper} {o : Oper} {a : Act} {Q : Exit → Act → World → Prop} (hgd : o.guard = none) (s x : Operand) (t : TypeId)
    (ho : o.op = .call { callee := .builtin .append, args := #[s, x], argTypes := #[t, t] })
    (base : Nat) (e : TypeId) (i : TypeInfo) (z : Value) (bytes : Nat) (ht : P.underlying t = some (.slice e)) (hi : P.info? e = some i) (hz : i.zero = some z)
    (hsize : i.size = 1) (hby : i.bytes = bytes) (hzs : z.cells.size = 1)
    (v : Value) (n : Nat) (xs : List Value) (hs : a.eval s = v) (hown : w.ownsRow base e 1 v n xs)
    (p : Option Addr) (m c : Nat) (news : List Value) (hx : a.eval x = .slice p m c) (hl : news.length = m) (hS : SeqAt w p news) (h1 : ∀ u ∈ news, u.oneCell' = true)
    (h63 : n + m ≤ maxLen) (hbytes : (n + m) * bytes ≤ 140737488355328) (hbase : base ≤ w.heap.size)
    (h : ∀ v' w', w'.ownsRow base e 1 v' (n + m) (xs ++ news) → w.grownBy w' v.ownBlock → wpList P ops Q rest (a.put o.dst v') w') : wpList P ops Q (o :: rest) a w := by
  cases p with
  | none =>
    have hn : news = [] := by
      rcases hS with h | ⟨b, o, e, _⟩
      · exact h
      · cases e
    subst hn
    have hm : m = 0 := by simpa using hl.symm
    subst hm
    exact append_none_c hgd s x t ho base e i 1 ht hi v n xs hs hown c hx (h v w (by simpa using hown) ⟨rfl, rfl, rfl, Nat.le_refl _, fun _ _ _ => rfl⟩)
  | some ad =>
    refine wpList_append_own w hgd s x t ho base e i z 1 bytes ht hi hz hsize hby hzs (by decide) v n xs hs hown ad m c news hx (by simpa using hl) ?_ h1 h63 hbytes hbase (fun v' w' h2 h3 _ => h v' w' h2 h3)
    rcases hS with hS | ⟨b, o, e, hS⟩
    · subst hS; intro j u hj; simp at hj
    · cases e
      intro j u hj
      rw [Addr.add_lit]
      exact hS j u hj

set_option maxRecDepth 100000 in
set_option maxHeartbeats 2000000 in
theorem rcopy_ok (P : List Int) (p : Option Addr) (pc : Nat) (B : List UInt8) (q : Option Addr) (qc : Nat) (w : World) (hP : SeqAt w p (iV P)) (hB : SeqAt w q (bV B)) (l1 : P.length ≤ 4096) (l2 : B.length ≤ 4096) :
    Calls Try.prog 51 #[spV p P.length pc q B.length qc] w fun e w' => ∃ sq sc tq tc, e = .returned (spV sq P.length sc tq B.length tc) ∧ w'.ownsRow w.heap.size 3 1 (.slice sq P.length sc) P.length (iV P) ∧ w'.ownsRow w.heap.size 5 1 (.slice tq B.length tc) B.length (bV B) ∧ (∀ g, (Value.slice sq P.length sc).ownBlock = some g → (Value.slice tq B.length tc).ownBlock ≠ some g) ∧ Below w.heap.size w w' := by
  obtain ⟨i0, hi, hz0, hz1, hz2⟩ := info_parts A_infoI
  obtain ⟨i1, gi, gz0, gz1, gz2⟩ := info_parts A_infoU8
  have HP := Lib.hid hP
  have HB := Lib.hid hB
  have H1 := Lib.hid l1
  have H2 := Lib.hid l2
  clear hP hB l1 l2
  go_enter Try.func51, Try.ntmps51
  go_wp2_with (at_builtin; refine append_seq rfl _ _ 22 rfl (w.heap.size + 3) 3 i0 (.int .i64 0) 8 Try.underlying22 hi hz0 hz1 hz2 rfl _ 0 [] rfl (World.ownsRow_nil _ _ _ _) p P.length pc (iV P) rfl (iV_len P) (HP.out.up (Gr.below (by repeat (first | (with_reducible exact Gr.refl _) | with_reducible refine Gr.alloc ?_ _ | with_reducible refine Gr.more ?_ _ _ | with_reducible refine Gr.setCell ?_ (by dsimp only; omega) _ | with_reducible refine Gr.drew ?_)))) (iV_one P) ?qc1 ?qc2 ?qc3 ?_)
  case qc1 => have := H1.out; unfold maxLen; omega
  case qc2 => have := H1.out; omega
  case qc3 => simp
  intro v1 w5 hown hgrow
  obtain ⟨sq, sc, rfl⟩ := own_sl hown
  have hnn : ∀ b : Nat, some b ≠ (Value.slice none 0 0).ownBlock := fun b => by simp [Value.ownBlock]
  have c1 : w5.cell? ⟨w.heap.size, 1, none⟩ = some (.slice q B.length qc) := grown_cell hgrow (by go_simp) (hnn _)
  have x0 : w5.cell? ⟨w.heap.size + 1 + 1, 0, none⟩ = some (.slice none 0 0) := grown_cell hgrow (by go_simp) (hnn _)
  have x1 : w5.cell? ⟨w.heap.size + 1 + 1, 1, none⟩ = some (.slice none 0 0) := grown_cell hgrow (by go_simp) (hnn _)
  have r0 : w5.cell? ⟨w.heap.size + 1, 0, none⟩ = some (.slice none 0 0) := grown_cell hgrow (by go_simp) (hnn _)
  have r1 : w5.cell? ⟨w.heap.size + 1, 1, none⟩ = some (.slice none 0 0) := grown_cell hgrow (by go_simp) (hnn _)
  have fx0 : w5.frozen? ⟨w.heap.size + 1 + 1, 0, none⟩ = false := grown_fz hgrow (by simp) (by go_simp) (hnn _)
  have fx1 : w5.frozen? ⟨w.heap.size + 1 + 1, 1, none⟩ = false := grown_fz hgrow (by simp) (by go_simp) (hnn _)
  have fr0 : w5.frozen? ⟨w.heap.size + 1, 0, none⟩ = false := grown_fz hgrow (by simp) (by go_simp) (hnn _)
  have fr1 : w5.frozen? ⟨w.heap.size + 1, 1, none⟩ = false := grown_fz hgrow (by simp) (by go_simp) (hnn _)
  have hz5 : w.heap.size + 3 ≤ w5.heap.size := by have := hgrow.size; simp at this; omega
  have hB5 : Below w.heap.size w w5 := (show Below w.heap.size w _ from (Gr.below (by repeat (first | (with_reducible exact Gr.refl _) | with_reducible refine Gr.alloc ?_ _ | with_reducible refine Gr.more ?_ _ _ | with_reducible refine Gr.setCell ?_ (by dsimp only; omega) _ | with_reducible refine Gr.drew ?_)))).grown hgrow (by simp; omega) (fun j hj => by simp [Value.ownBlock] at hj)
  have hge : ∀ j, (Value.slice sq P.length sc).ownBlock = some j → w.heap.size + 3 ≤ j ∧ j < w5.heap.size := fun j hj => hown.lt j hj
  clear hgrow
  go_wp2_with (at_builtin; refine append_seq rfl _ _ 23 rfl w5.heap.size 5 i1 (.int .u8 0) 1 Try.underlying23 gi gz0 gz1 gz2 rfl _ 0 [] rfl (World.ownsRow_nil _ _ _ _) q B.length qc (bV B) rfl (bV_len B) (HB.out.up (hB5.setCell (by dsimp only; omega) _)) (bV_one B) ?qd1 ?qd2 ?qd3 ?_)
  case qd1 => have := H2.out; unfold maxLen; omega
  case qd2 => have := H2.out; omega
  case qd3 => simp
  intro v2 w6 hown2 hgrow
  obtain ⟨tq, tc, rfl⟩ := own_sl hown2
  have y0 : w6.cell? ⟨w.heap.size + 1 + 1, 0, none⟩ = some (.slice sq P.length sc) := grown_cell hgrow (by go_simp) (hnn _)
  have y1 : w6.cell? ⟨w.heap.size + 1 + 1, 1, none⟩ = some (.slice none 0 0) := grown_cell hgrow (by go_simp) (hnn _)
  have s0 : w6.cell? ⟨w.heap.size + 1, 0, none⟩ = some (.slice none 0 0) := grown_cell hgrow (by go_simp) (hnn _)
  have s1 : w6.cell? ⟨w.heap.size + 1, 1, none⟩ = some (.slice none 0 0) := grown_cell hgrow (by go_simp) (hnn _)
  have fy0 : w6.frozen? ⟨w.heap.size + 1 + 1, 0, none⟩ = false := grown_fz hgrow (by simp; omega) (by go_simp) (hnn _)
  have fy1 : w6.frozen? ⟨w.heap.size + 1 + 1, 1, none⟩ = false := grown_fz hgrow (by simp; omega) (by go_simp) (hnn _)
  have fs0 : w6.frozen? ⟨w.heap.size + 1, 0, none⟩ = false := grown_fz hgrow (by simp; omega) (by go_simp) (hnn _)
  have fs1 : w6.frozen? ⟨w.heap.size + 1, 1, none⟩ = false := grown_fz hgrow (by simp; omega) (by go_simp) (hnn _)
  have hz6 : w5.heap.size ≤ w6.heap.size := by have := hgrow.size; simpa using this
  have hB6 : Below w.heap.size w w6 := (hB5.setCell (by dsimp only; omega) _).grown hgrow (by simp; omega) (fun j hj => by simp [Value.ownBlock] at hj)
  have hown1 : w6.ownsRow (w.heap.size + 3) 3 1 (.slice sq P.length sc) P.length (iV P) := own_grown hgrow (own_setN hown (by omega) _ _) (fun g _ => hnn g)
  clear hgrow hown c1 x0 x1 r0 r1 fx0 fx1 fr0 fr1 hB5
  go_wp2_with fail
  refine bodyPost_ret (v := spV sq P.length sc tq B.length tc) (by simp [results, go_sem, *]) rfl ?_
  exact ⟨sq, sc, tq, tc, rfl, own_lowN (base := w.heap.size + 3) (by omega) (own_setN (own_setN (own_setN hown1 (by omega) _ _) (by omega) _ _) (by omega) _ _), own_lowN (base := w5.heap.size) (by omega) (own_setN (own_setN (own_setN hown2 (by omega) _ _) (by omega) _ _) (by omega) _ _), fun g h1 h2 => by have := (hge g h1).2; have := (hown2.lt g h2).1; omega, ((hB6.setCell (by dsimp only; omega) _).setCell (by dsimp only; omega) _).setCell (by dsimp only; omega) _⟩
end Go.Proofs.Ytnapbpfofpaakaa
