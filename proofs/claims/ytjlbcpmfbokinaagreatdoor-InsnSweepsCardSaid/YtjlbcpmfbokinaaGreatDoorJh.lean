/-
  Layer 2, contracts: the lines of a text as an iterator.
-/
import Derived.Test.YtjlbcpmfbokinaaGreatDoorJf
import Derived.Test.YtjlbcpmfbokinaaGreatDoorJg
import Derived.Shelf.Abstract
set_option linter.unusedSimpArgs false
set_option linter.unusedVariables false
namespace Go.Proofs.YtjlbcpmfbokinaaGreatDoor
open Go.RowKit Go.Shelf
attribute [local go_sem] Oper.semAt_some

theorem lines_any (t : ByteArray) (w : World) : Calls Tryz.prog 68 #[.string t] w fun e w' =>
    e = .returned (.func (.func 84) #[] #[.pointer (some ⟨w.heap.size, 0, none⟩)]) ∧ w' = w.alloc (.cells #[.string t] 9) := by
  have hmf : ∀ (fn : Fn) (first cap : Array Value) (w : World), (Instr.makeFunc fn first cap).run Tryz.prog w = .ok (.func fn first cap) w := fun _ _ _ _ => rfl
  go_enter Tryz.func68, Tryz.ntmps68
  go_wp2
  go_ret
  exact ⟨rfl, rfl⟩

theorem below_drewN (W : World) (n : Nat) : Below W.heap.size W (W.drewN n) := (grDrewN (Gr.refl W) n).below

set_option maxRecDepth 100000 in
set_option maxHeartbeats 1000000 in
theorem lines_iter (t : ByteArray) (bt : Nat) (hs : t.size ≤ 20000) :
    Iter Tryz.prog 84 #[.pointer (some ⟨bt, 0, none⟩)] (fun k => #[.int .i64 ((k : Int) + 1), .string (lnS t k)]) (lnN t) (fun _ => True) (fun _ _ => False) (fun W => W.cell? ⟨bt, 0, none⟩ = some (.string t)) := by
  intro l J Jx W hJ hJx hF hY h0
  have hn0 := lnN_le t
  have hn1 := lnN_pos t
  have c0 := hF _ _ h0
  refine callsIn_of_wp Tryz.func84 rfl trivial ?_ rfl
  simp only [Tryz.ntmps84, List.size_toArray, List.length_cons, List.length_nil, Nat.reduceAdd, Nat.reduceSub, Array.replicate_succ, Array.replicate_zero, List.push_toArray, List.append_toArray, List.nil_append, List.cons_append]
  gi_wp2
  clear c0
  gi_loopw [3, 4, 5] (fun r m i wr => ∃ k : Nat, k ≤ lnN t ∧ r = .string (rsN t k) ∧ m = .bool (decide (k < lnN t)) ∧ i = .int .i64 ((k : Int) + 1) ∧ J k wr) (fun _ _ i _ => lnN t + 1 - (intOf i).toNat)
  case atStart => exact ⟨0, Nat.zero_le _, rfl, by rw [decide_eq_true (by omega)], rfl, h0⟩
  case round =>
    obtain ⟨k, hk, rfl, rfl, rfl, hJk⟩ := hrel
    by_cases hlt : k < lnN t
    · have hm : t.size ≤ maxLen := by unfold maxLen; omega
      have H1 := fun W => cutS_any (rsN t k) 10 W (Nat.le_trans (rsN_le t k) hm)
      have H2 := fun W => cutS_any (ctA (rsN t k) 10) 59 W (Nat.le_trans (Nat.le_trans (ctA_le _ _) (rsN_le t k)) hm)
      rw [lnN_more t hlt] at H1
      have hY := hY k
      have e1 : ctB (rsN t k) 10 = rsN t (k + 1) := rfl
      have e2 : ctA (ctA (rsN t k) 10) 59 = lnS t k := rfl
      rw [e1] at H1
      rw [e2] at H2
      clear e1 e2
      have hd : decide (k < lnN t) = true := decide_eq_true hlt
      have HD : Hid (decide (k + 1 < lnN t) = decide (k + 1 < lnN t)) := Lib.hid rfl
      generalize rsN t k = a at *
      generalize hr1 : rsN t (k + 1) = a1 at *
      have HR1 := Lib.hid hr1
      clear hr1
      generalize hm1 : decide (k + 1 < lnN t) = m1 at *
      have HM1 := Lib.hid hm1
      clear hm1 HD
      gi_wp2
      refine ⟨trivial, rfl, ?_⟩
      refine (callsIn_wide.2 (H1 _)).mono ?_
      rintro e w1 ⟨rfl, n1, rfl⟩
      gi_wp2
      refine ⟨trivial, rfl, ?_⟩
      refine (callsIn_wide.2 (H2 _)).mono ?_
      rintro e w2 ⟨rfl, n2, rfl⟩
      have hb := below_drewN wr (n1 + n2)
      obtain ⟨fn, tmps, assign, body, hy, hR⟩ := hY _ (hJ _ _ _ hJk hb) hlt trivial
      gi_wp2
      refine ⟨rfl, ?_⟩
      refine hR.mono ?_
      rintro e W' (⟨rfl, hJ'⟩ | ⟨rfl, hJx'⟩)
      · gi_wp2
        go_roundw
        case rel => exact ⟨k + 1, hlt, by rw [HR1.out], by rw [HM1.out], by push_cast; rfl, hJ'⟩
        case measure => simp only [intOf]; omega
      · gi_wp2
        refine bodyPost_ret (results_none rfl _ _ _) rfl ?_
        exact .inl ⟨⟨_, rfl⟩, .inr ⟨k + 1, hlt, hJx'⟩⟩
    · obtain rfl : k = lnN t := by omega
      have hd : decide (lnN t < lnN t) = false := decide_eq_false (by omega)
      gi_wp2
      refine bodyPost_end (results_none rfl _ _ _) rfl ?_
      exact .inl ⟨⟨_, rfl⟩, .inl hJk⟩
end Go.Proofs.YtjlbcpmfbokinaaGreatDoor
