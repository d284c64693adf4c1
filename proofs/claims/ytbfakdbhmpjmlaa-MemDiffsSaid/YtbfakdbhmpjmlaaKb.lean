/-
  The reference of layer 3: SamePerm, SameChanges.
-/
import Derived.Test.YtbfakdbhmpjmlaaKa
import Derived.BigQuiet
import Derived.Deep.QuietTactic
import Derived.Test.YtbfakdbhmpjmlaaZy
namespace Go.Proofs.Ytbfakdbhmpjmlaa
open Go.RowKit

theorem grDrewN {B : Nat} {a w : World} (h : Gr B a w) (n : Nat) : Gr B a (w.drewN n) := ⟨⟨h.below.os, h.below.tape, h.below.output, h.below.size, h.below.block⟩, h.size⟩
theorem seqAt_neK {W : World} {p : Option Addr} {xs : List Value} (h : SeqAt W p xs) (hn : xs ≠ []) : ∃ b o, p = some ⟨b, o, none⟩ ∧ ∀ j v, xs[j]? = some v → W.cell? ⟨b, o + j, none⟩ = some v := h.resolve_left hn
theorem df_rowK {W : World} {p : Option Addr} {n c : Nat} {B B2 : List UInt8} {D : List Nat} (h : DfVal W (.slice p n c) B B2 D) (hD : D ≠ []) : ∃ b, p = some ⟨b, 0, none⟩ ∧ ∀ j (h : j < D.length), W.cell? ⟨b, j * 3, none⟩ = some (.int .i64 (D[j] : Int)) ∧ W.cell? ⟨b, j * 3 + 1, none⟩ = some (.int .u8 ((B.getD D[j] 0).toNat : Int)) ∧ W.cell? ⟨b, j * 3 + 2, none⟩ = some (.int .u8 ((B2.getD D[j] 0).toNat : Int)) := by
  obtain ⟨p', c', e, h2⟩ := h
  injection e with e1 e2 e3
  subst e1
  exact h2.resolve_left hD

set_option maxHeartbeats 2000000 in
theorem rsameperm_any (P : List Int) (p : Option Addr) (pc : Nat) (q : Option Addr) (m qc : Nat) (P2 : List Int) (p2 : Option Addr) (pc2 : Nat) (q2 : Option Addr) (m2 qc2 : Nat) (w : World) (h1 : SeqAt w p (iV P)) (h2 : SeqAt w p2 (iV P2)) (hl : (P.length : Int) ≤ 9223372036854775807) :
    Calls Try.prog 52 #[spV p P.length pc q m qc, spV p2 P2.length pc2 q2 m2 qc2] w fun e w' => e = .returned (.bool (P == P2)) ∧ Below w.heap.size w w' := by
  by_cases hlen : P.length = P2.length
  · have hn : ((P.length : Int) != (P2.length : Int)) = false := by rw [bne_eq_false_iff_eq, hlen]
    have HL := Lib.hid hlen
    have HS : ∀ W, Below w.heap.size w W → SeqAt W p (iV P) ∧ SeqAt W p2 (iV P2) := fun W g => ⟨h1.up g, h2.up g⟩
    have HS := Lib.hid HS
    clear h1 h2 hlen
    go_enter Try.func52, Try.ntmps52
    go_wp2_with fail
    go_loopw [5] (fun i wr => ∃ k : Nat, k ≤ P.length ∧ i = .int .i64 (k : Int) ∧ Hid (∀ j (hj : j < P.length), j < k → ∀ h2 : j < P2.length, P[j] = P2[j]) ∧ wr.cell? ⟨w.heap.size, 0, none⟩ = some (.slice p P.length pc) ∧ wr.cell? ⟨w.heap.size + 1, 0, none⟩ = some (.slice p2 P2.length pc2) ∧ w.heap.size + 1 < wr.heap.size ∧ Gr w.heap.size w wr) (fun i _ => P.length - (intOf i).toNat)
    case atStart => exact ⟨0, Nat.zero_le _, rfl, Lib.hid (fun j _ hj => by omega), by go_simp, by go_simp, by simp, by repeat (first | (with_reducible exact Gr.refl _) | with_reducible refine Gr.alloc ?_ _)⟩
    case round =>
      obtain ⟨k, hk, rfl, hok, c0, c1, hz, hG⟩ := hrel
      by_cases hlt : k < P.length
      · have hki : (k : Int) < (P.length : Int) := by omega
        have hki2 : (k : Int) < (P2.length : Int) := by have := HL.out; omega
        have hk0 : (0 : Int) ≤ (k : Int) := by omega
        have hw1 : wrap64 ((k : Int) + 1) = (k : Int) + 1 := by unfold wrap64; omega
        have hlt2 : k < P2.length := by have := HL.out; omega
        obtain ⟨s1, s2⟩ := HS.out wr hG.below
        obtain ⟨b1, o1, rfl, e1⟩ := seqAt_neK s1 (by intro e; have := congrArg List.length e; rw [iV_len] at this; simp at this; rw [this] at hlt; simp at hlt)
        obtain ⟨b2, o2, rfl, e2⟩ := seqAt_neK s2 (by intro e; have := congrArg List.length e; rw [iV_len] at this; simp at this; rw [this] at hlt2; simp at hlt2)
        have d1 := e1 k _ (iV_get P k hlt)
        have d2 := e2 k _ (iV_get P2 k hlt2)
        have lb1 := lt_of_cell d1
        have lb2 := lt_of_cell d2
        have lw : w.heap.size < wr.heap.size := by omega
        clear s1 s2 e1 e2
        by_cases hx : P[k] = P2[k]
        · have hx' : (P[k] != P2[k]) = false := by rw [bne_eq_false_iff_eq]; exact hx
          have hst : Hid (∀ j (hj : j < P.length), j < k + 1 → ∀ h2 : j < P2.length, P[j] = P2[j]) := Lib.hid (fun j hj h1 h2 => by
            by_cases e : j = k
            · subst e; exact hx
            · exact hok.out j hj (by omega) h2)
          clear hx hok
          generalize P[k] = x at *
          generalize P2[k] = y at *
          go_upto_region 6 with fail
          try dsimp only
          go_quiet (fail)
          go_wp2_with fail
          go_roundw
          case rel => exact ⟨k + 1, by omega, by go_num, hst, by go_simp, by go_simp, by simpa using hz, grDrewN hG _⟩
          case measure => simp [intOf]; omega
        · have hx' : (P[k] != P2[k]) = true := bne_iff_ne.2 hx
          have hne : (P == P2) = false := beq_eq_false_iff_ne.2 (fun e => hx (by subst e; rfl))
          have HN := Lib.hid hne
          clear hx hok hne
          generalize P[k] = x at *
          generalize P2[k] = y at *
          go_upto_region 6 with fail
          try dsimp only
          go_quiet (fail)
          go_wp2_with fail
          go_ret
          exact ⟨retB HN.out.symm, (grDrewN hG _).below⟩
      · have hge : ¬ (k : Int) < (P.length : Int) := by omega
        have hne : (P == P2) = true := beq_iff_eq.2 (List.ext_getElem HL.out (fun j a b => hok.out j a (by omega) b))
        have HN := Lib.hid hne
        clear hok hne
        go_wp2_with fail
        go_ret
        exact ⟨retB HN.out.symm, hG.below⟩
  · have hn : ((P.length : Int) != (P2.length : Int)) = true := by rw [bne_iff_ne]; omega
    have hne : (P == P2) = false := beq_eq_false_iff_ne.2 (fun e => hlen (by rw [e]))
    rw [hne]
    clear h1 h2 hlen hne
    go_enter Try.func52, Try.ntmps52
    go_wp2
    go_ret
    exact ⟨rfl, (Gr.below (by repeat (first | (with_reducible exact Gr.refl _) | with_reducible refine Gr.alloc ?_ _ | with_reducible refine Gr.more ?_ _ _ | with_reducible refine Gr.setCell ?_ (by dsimp only; omega) _ | with_reducible refine Gr.drew ?_)))⟩

set_option maxHeartbeats 2000000 in
theorem rsamechanges_df (B B2 : List UInt8) (D : List Nat) (v1 v2 : Value) (w : World) (h1 : DfVal w v1 B B2 D) (h2 : DfVal w v2 B B2 D) (hl : D.length ≤ 4096) :
    Calls Try.prog 41 #[v1, v2] w fun e w' => e = .returned (.bool true) ∧ Below w.heap.size w w' := by
  obtain ⟨p1, c1, rfl, g1⟩ := h1
  obtain ⟨p2, c2, rfl, g2⟩ := h2
  have h1 : DfVal w (.slice p1 D.length c1) B B2 D := ⟨p1, c1, rfl, g1⟩
  have h2 : DfVal w (.slice p2 D.length c2) B B2 D := ⟨p2, c2, rfl, g2⟩
  clear g1 g2
  go_enter Try.func41, Try.ntmps41
  go_wp2_with fail
  go_loopw [5] (fun i wr => ∃ k : Nat, k ≤ D.length ∧ i = .int .i64 (k : Int) ∧ DfVal wr (.slice p1 D.length c1) B B2 D ∧ DfVal wr (.slice p2 D.length c2) B B2 D ∧ Gr w.heap.size w wr) (fun i _ => D.length - (intOf i).toNat)
  case atStart => exact ⟨0, Nat.zero_le _, rfl, h1, h2, Gr.refl _⟩
  case round =>
    clear h1 h2
    obtain ⟨k, hk, rfl, h1, h2, hG⟩ := hrel
    by_cases hlt : k < D.length
    · have hki : (k : Int) < (D.length : Int) := by omega
      have hk0 : (0 : Int) ≤ (k : Int) := by omega
      have hw1 : wrap64 ((k : Int) + 1) = (k : Int) + 1 := by unfold wrap64; omega
      have hne : D ≠ [] := fun e => by rw [e] at hlt; simp at hlt
      obtain ⟨b1, hb1, e1⟩ := df_rowK h1 hne
      obtain ⟨b2, hb2, e2⟩ := df_rowK h2 hne
      subst hb1 hb2
      obtain ⟨a0, a1, a2⟩ := e1 k hlt
      obtain ⟨d0, d1, d2⟩ := e2 k hlt
      have lb1 := lt_of_cell a0
      have lb2 := lt_of_cell d0
      clear e1 e2
      generalize (D[k] : Int) = x at *
      generalize ((B.getD D[k] 0).toNat : Int) = y at *
      generalize ((B2.getD D[k] 0).toNat : Int) = z at *
      go_upto_region 6 with fail
      try dsimp only
      go_quiet (fail)
      have h1' := DfVal.up (grDrewN (Gr.refl wr) nq) h1
      have h2' := DfVal.up (grDrewN (Gr.refl wr) nq) h2
      go_wp2_with fail
      go_roundw
      case rel => exact ⟨k + 1, by omega, by go_num, h1', h2', grDrewN hG _⟩
      case measure => simp [intOf]; omega
    · have hge : ¬ (k : Int) < (D.length : Int) := by omega
      go_wp2_with fail
      go_ret
      exact ⟨rfl, hG.below⟩
end Go.Proofs.Ytbfakdbhmpjmlaa
