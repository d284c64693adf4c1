/-
  The reference of layer 3: permitted, Check, Inside.
-/
import Derived.Test.YtbfakdbhmpjmlaaGC
namespace Go.Proofs.Ytbfakdbhmpjmlaa
open Go.RowKit

theorem rpermitted_any (p : Int) (w : World) : Calls Try.prog 50 #[.int .i64 p] w fun e w' => e = .returned (.bool (permB p)) ∧ w = w' := by
  by_cases h0 : p = 0
  · subst h0
    go_enter Try.func50, Try.ntmps50
    go_wp2
    go_ret
    exact ⟨rfl, rfl⟩
  by_cases h1 : p = 1
  · subst h1
    go_enter Try.func50, Try.ntmps50
    go_wp2
    go_ret
    exact ⟨rfl, rfl⟩
  by_cases h3 : p = 3
  · subst h3
    go_enter Try.func50, Try.ntmps50
    go_wp2
    go_ret
    exact ⟨rfl, rfl⟩
  by_cases h4 : p = 4
  · subst h4
    go_enter Try.func50, Try.ntmps50
    go_wp2
    go_ret
    exact ⟨rfl, rfl⟩
  have e0 : (p == 0) = false := beq_eq_false_iff_ne.2 h0
  have e1 : (p == 1) = false := beq_eq_false_iff_ne.2 h1
  have e3 : (p == 3) = false := beq_eq_false_iff_ne.2 h3
  have e4 : (p == 4) = false := beq_eq_false_iff_ne.2 h4
  have e : permB p = false := by simp [permB, e0, e1, e3, e4]
  rw [e]
  clear e h0 h1 h3 h4
  go_enter Try.func50, Try.ntmps50
  go_wp2
  go_ret
  exact ⟨rfl, rfl⟩

set_option maxHeartbeats 1000000 in
theorem rcheck3_any (P : List Int) (p : Option Addr) (pc : Nat) (q : Option Addr) (m qc : Nat) (w : World) (hP : SeqAt w p (iV P)) : Calls Try.prog 22 #[spV p P.length pc q m qc] w fun e w' => e = .returned (.int .i64 (spE P m)) ∧ Below w.heap.size w w' := by
  by_cases h32 : 32 < P.length
  · rw [spE_bad (by simp [spB]; intro h; omega)]
    have h : (32 : Int) < (P.length : Int) := by omega
    clear h32
    go_enter Try.func22, Try.ntmps22
    go_wp2
    go_ret
    exact ⟨rfl, (Gr.below (by repeat (first | (with_reducible exact Gr.refl _) | with_reducible refine Gr.alloc ?_ _ | with_reducible refine Gr.more ?_ _ _ | with_reducible refine Gr.setCell ?_ (by dsimp only; omega) _ | with_reducible refine Gr.drew ?_)))⟩
  · have h : ¬ (32 : Int) < (P.length : Int) := by omega
    have hl : (P.length : Int) ≤ 32 := by omega
    have hwm : wrap64 ((P.length : Int) * 64) = (P.length : Int) * 64 := by unfold wrap64; omega
    by_cases hm : m = 64 * P.length
    · have hm' : ((m : Int) != (P.length : Int) * 64) = false := by rw [bne_eq_false_iff_eq]; omega
      have Hm := Lib.hid hm
      clear h32 hm
      have hP2 : SeqAt (w.alloc (.cells #[.slice p P.length pc, .slice q m qc] 25)) p (iV P) := hP.up ((Below.refl _ w).alloc (Nat.le_refl _) _)
      have HP := Lib.hid hP2
      clear hP hP2
      go_enter Try.func22, Try.ntmps22
      go_wp2_with fail
      go_loop [3] (fun i => ∃ k : Nat, k ≤ P.length ∧ i = .int .i64 (k : Int) ∧ Hid (∀ j (hj : j < P.length), j < k → permB P[j] = true)) (fun i => P.length - (intOf i).toNat)
      case atStart => exact ⟨0, Nat.zero_le _, rfl, Lib.hid (fun j _ hj => by omega)⟩
      case round =>
        obtain ⟨k, hk, rfl, hok⟩ := hrel
        by_cases hlt : k < P.length
        · rcases HP.out with hn | ⟨b, o, rfl, hc⟩
          · have : P.length = 0 := by simpa [iV] using hn
            omega
          · have hc1 := hc k _ (iV_get P k hlt)
            clear hc HP
            have hlt' : (k : Int) < (P.length : Int) := by omega
            have hk0 : (0 : Int) ≤ (k : Int) := by omega
            have hw1 : wrap64 ((k : Int) + 1) = (k : Int) + 1 := by unfold wrap64; omega
            have hb0 := lt_of_cell hc1
            have hD := fun w => rpermitted_any P[k] w
            cases hd : permB P[k]
            · rw [hd] at hD
              have hst : spE P m = 30 := spE_bad (by
                rw [Bool.eq_false_iff]
                intro hs
                simp [spB] at hs
                have := hs.2 P[k] (List.getElem_mem hlt)
                rw [hd] at this; cases this)
              have Hst := Lib.hid hst
              clear hst hok hd
              go_wp2_with (go_at_call 50; (refine (hD _).mono ?_); rintro e w1 ⟨rfl, rfl⟩)
              go_ret
              exact ⟨retI Hst.out.symm, (Gr.below (by repeat (first | (with_reducible exact Gr.refl _) | with_reducible refine Gr.alloc ?_ _ | with_reducible refine Gr.more ?_ _ _ | with_reducible refine Gr.setCell ?_ (by dsimp only; omega) _ | with_reducible refine Gr.drew ?_)))⟩
            · rw [hd] at hD
              have hst : Hid (∀ j (hj : j < P.length), j < k + 1 → permB P[j] = true) := Lib.hid (fun j hj h1 => by
                by_cases e : j = k
                · subst e; exact hd
                · exact hok.out j hj (by omega))
              clear hok hd
              go_wp2_with (go_at_call 50; (refine (hD _).mono ?_); rintro e w1 ⟨rfl, rfl⟩)
              go_round
              case rel => exact ⟨k + 1, by omega, by go_num, hst⟩
              case measure => simp [intOf]; omega
        · have hge : ¬ (k : Int) < (P.length : Int) := by omega
          have hst : spE P m = 0 := spE_ok (by
            simp [spB, Hm.out]
            refine ⟨by omega, fun x hx => ?_⟩
            obtain ⟨j, hj, rfl⟩ := List.getElem_of_mem hx
            exact hok.out j hj (by omega))
          have Hst := Lib.hid hst
          clear hst hok HP
          go_wp2_with fail
          go_ret
          exact ⟨retI Hst.out.symm, (Gr.below (by repeat (first | (with_reducible exact Gr.refl _) | with_reducible refine Gr.alloc ?_ _ | with_reducible refine Gr.more ?_ _ _ | with_reducible refine Gr.setCell ?_ (by dsimp only; omega) _ | with_reducible refine Gr.drew ?_)))⟩
    · rw [spE_bad (by simp [spB, hm])]
      have hm' : ((m : Int) != (P.length : Int) * 64) = true := by rw [bne_iff_ne]; omega
      clear h32 hm hP
      go_enter Try.func22, Try.ntmps22
      go_wp2
      go_ret
      exact ⟨rfl, (Gr.below (by repeat (first | (with_reducible exact Gr.refl _) | with_reducible refine Gr.alloc ?_ _ | with_reducible refine Gr.more ?_ _ _ | with_reducible refine Gr.setCell ?_ (by dsimp only; omega) _ | with_reducible refine Gr.drew ?_)))⟩
/-- An address of a space of n bytes. -/
def insB (n : Nat) (a : Int) : Bool := decide (0 ≤ a) && decide (a < (n : Int))
theorem rinside_any (p : Option Addr) (n pc : Nat) (q : Option Addr) (m qc : Nat) (a : Int) (w : World) : Calls Try.prog 77 #[spV p n pc q m qc, .int .i64 a] w fun e w' => e = .returned (.bool (insB m a)) ∧ Below w.heap.size w w' := by
  by_cases h0 : 0 ≤ a
  · by_cases h1 : a < (m : Int)
    · rw [show insB m a = true by simp only [insB, h0, h1, decide_true, Bool.and_true]]
      go_enter Try.func77, Try.ntmps77
      go_wp2
      go_ret
      exact ⟨rfl, (Gr.below (by repeat (first | (with_reducible exact Gr.refl _) | with_reducible refine Gr.alloc ?_ _ | with_reducible refine Gr.more ?_ _ _ | with_reducible refine Gr.setCell ?_ (by dsimp only; omega) _ | with_reducible refine Gr.drew ?_)))⟩
    · rw [show insB m a = false by simp only [insB, h0, h1, decide_true, decide_false, Bool.and_false]]
      go_enter Try.func77, Try.ntmps77
      go_wp2
      go_ret
      exact ⟨rfl, (Gr.below (by repeat (first | (with_reducible exact Gr.refl _) | with_reducible refine Gr.alloc ?_ _ | with_reducible refine Gr.more ?_ _ _ | with_reducible refine Gr.setCell ?_ (by dsimp only; omega) _ | with_reducible refine Gr.drew ?_)))⟩
  · rw [show insB m a = false by simp only [insB, h0, decide_false, Bool.false_and]]
    go_enter Try.func77, Try.ntmps77
    go_wp2
    go_ret
    exact ⟨rfl, (Gr.below (by repeat (first | (with_reducible exact Gr.refl _) | with_reducible refine Gr.alloc ?_ _ | with_reducible refine Gr.more ?_ _ _ | with_reducible refine Gr.setCell ?_ (by dsimp only; omega) _ | with_reducible refine Gr.drew ?_)))⟩
end Go.Proofs.Ytbfakdbhmpjmlaa
