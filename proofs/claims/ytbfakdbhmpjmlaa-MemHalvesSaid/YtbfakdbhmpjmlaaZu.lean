/-
  The law MemHalves: its mathematics, and the law.
-/
import Derived.Test.YtbfakdbhmpjmlaaZt
namespace Go.Proofs.Ytbfakdbhmpjmlaa
open Go.RowKit

theorem fbN_app (l1 : List UInt8) : ∀ l2, fbN (l1 ++ l2) = fbN l1 + 256 ^ l1.length * fbN l2 := by
  induction l1 with
  | nil => intro l2; simp [fbN]
  | cons c l ih =>
    intro l2
    simp only [List.cons_append, fbN, ih, List.length_cons, Nat.pow_succ]
    rw [Nat.mul_add, ← Nat.mul_assoc, Nat.mul_comm 256 (256 ^ _)]
    omega
theorem btV_1 (v : Int) : btV (v / 256) 0 = btV v 1 := by unfold btV un; congr 1; omega
theorem btV_2 (v : Int) : ∀ k, k < 2 → btV (v / 65536) k = btV v (2 + k)
  | 0, _ => by unfold btV un; congr 1; omega
  | 1, _ => by unfold btV un; congr 1; omega
theorem btV_4 (v : Int) : ∀ k, k < 4 → btV (v / 4294967296) k = btV v (4 + k)
  | 0, _ => by unfold btV un; congr 1; omega
  | 1, _ => by unfold btV un; congr 1; omega
  | 2, _ => by unfold btV un; congr 1; omega
  | 3, _ => by unfold btV un; congr 1; omega
theorem btL_h1 (v : Int) : btL v 2 = btL v 1 ++ btL (v / 256) 1 := by simp [btL, List.range_succ, btV_1]
theorem btL_h2 (v : Int) : btL v 4 = btL v 2 ++ btL (v / 65536) 2 := by simp [btL, List.range_succ, btV_2 v 0, btV_2 v 1]
theorem btL_h4 (v : Int) : btL v 8 = btL v 4 ++ btL (v / 4294967296) 4 := by simp [btL, List.range_succ, btV_4 v 0, btV_4 v 1, btV_4 v 2, btV_4 v 3]
theorem w64_small {x : Int} (h0 : 0 ≤ x) (h1 : x < 9223372036854775808) : wrap64 x = x := by unfold wrap64; omega
theorem w64_add_mul (a b m : Int) : wrap64 (a + wrap64 (b * m)) = wrap64 (a + b * m) := by
  unfold wrap64
  generalize b * m = x
  omega
theorem fb_h1 (l1 l2 : List UInt8) (h1 : l1.length = 1) (h2 : l2.length = 1) : fbV 2 false (l1 ++ l2) = wrap64 (fbV 1 false l1 + wrap64 (fbV 1 false l2 * 256)) := by
  have b1 : fbN l1 < 256 := by have := fbN_lt l1; rw [h1] at this; exact this
  have b2 : fbN l2 < 256 := by have := fbN_lt l2; rw [h2] at this; exact this
  have e : fbN (l1 ++ l2) = fbN l1 + 256 * fbN l2 := by rw [fbN_app, h1]
  unfold fbV
  rw [e, w64_add_mul]
  clear e h1 h2
  generalize fbN l1 = n1 at *
  generalize fbN l2 = n2 at *
  have e1 : wrapI 1 false (wrap64 (n1 : Int)) = n1 := by
    rw [w64_small (by omega) (by omega)]
    show (n1 : Int) % 256 = n1
    omega
  have e2 : wrapI 1 false (wrap64 (n2 : Int)) = n2 := by
    rw [w64_small (by omega) (by omega)]
    show (n2 : Int) % 256 = n2
    omega
  rw [e1, e2]
  rw [w64_small (by omega) (by omega), w64_small (by omega) (by omega)]
  show ((n1 + 256 * n2 : Nat) : Int) % 65536 = (n1 : Int) + n2 * 256
  omega
theorem fb_h2 (l1 l2 : List UInt8) (h1 : l1.length = 2) (h2 : l2.length = 2) : fbV 4 false (l1 ++ l2) = wrap64 (fbV 2 false l1 + wrap64 (fbV 2 false l2 * 65536)) := by
  have b1 : fbN l1 < 65536 := by have := fbN_lt l1; rw [h1] at this; exact this
  have b2 : fbN l2 < 65536 := by have := fbN_lt l2; rw [h2] at this; exact this
  have e : fbN (l1 ++ l2) = fbN l1 + 65536 * fbN l2 := by rw [fbN_app, h1]
  unfold fbV
  rw [e, w64_add_mul]
  clear e h1 h2
  generalize fbN l1 = n1 at *
  generalize fbN l2 = n2 at *
  have e1 : wrapI 2 false (wrap64 (n1 : Int)) = n1 := by
    rw [w64_small (by omega) (by omega)]
    show (n1 : Int) % 65536 = n1
    omega
  have e2 : wrapI 2 false (wrap64 (n2 : Int)) = n2 := by
    rw [w64_small (by omega) (by omega)]
    show (n2 : Int) % 65536 = n2
    omega
  rw [e1, e2]
  rw [w64_small (by omega) (by omega), w64_small (by omega) (by omega)]
  show ((n1 + 65536 * n2 : Nat) : Int) % 4294967296 = (n1 : Int) + n2 * 65536
  omega
theorem fb_h4 (l1 l2 : List UInt8) (h1 : l1.length = 4) (h2 : l2.length = 4) : fbV 8 false (l1 ++ l2) = wrap64 (fbV 4 false l1 + wrap64 (fbV 4 false l2 * 4294967296)) := by
  have b1 : fbN l1 < 4294967296 := by have := fbN_lt l1; rw [h1] at this; exact this
  have b2 : fbN l2 < 4294967296 := by have := fbN_lt l2; rw [h2] at this; exact this
  have e : fbN (l1 ++ l2) = fbN l1 + 4294967296 * fbN l2 := by rw [fbN_app, h1]
  unfold fbV
  rw [e, w64_add_mul]
  clear e h1 h2
  generalize fbN l1 = n1 at *
  generalize fbN l2 = n2 at *
  have e1 : wrapI 4 false (wrap64 (n1 : Int)) = n1 := by
    rw [w64_small (by omega) (by omega)]
    show (n1 : Int) % 4294967296 = n1
    omega
  have e2 : wrapI 4 false (wrap64 (n2 : Int)) = n2 := by
    rw [w64_small (by omega) (by omega)]
    show (n2 : Int) % 4294967296 = n2
    omega
  rw [e1, e2]
  have e3 : ∀ x, wrapI 8 false x = x := fun x => by simp [wrapI]
  have e4 : ((n1 + 4294967296 * n2 : Nat) : Int) = (n1 : Int) + (n2 : Int) * 4294967296 := by omega
  rw [e3, e4]
-- (genzu.py)
theorem halves_2 (w : World) (P : List Int) (p : Option Addr) (pc : Nat) (B : List UInt8) (q : Option Addr) (qc : Nat) (hS : SpIn 0 w.heap.size w P p B q qc) (a : Int) (g : Bool) (v : Int) (hs : spB P B.length = true) (HC : CCheck P B 0) (HR : ∀ w, Calls Try.prog 45 #[tyV 2 false] w fun e w' => e = .returned (.int .i64 0) ∧ Below w.heap.size w w') : Calls Try.prog 10 #[spV p P.length pc q B.length qc, .agg #[.int .i64 a, .int .i64 2, .bool g, .int .i64 v]] w fun e w' => e = .returned (.bool true) ∧ Below w.heap.size w w' := by
  have hl4 : P.length ≤ 4096 := by have := spB_len hs; omega
  have hv1 : validB 2 = true := rfl
  have hv2 : validB 1 = true := rfl
  have fl := fun perm => flt_halves (P := P) (perm := perm) (at0 := a) (n := 1) (m := 1)
  have LH := fun at0 (hf : fltK P 1 at0 1 = 0) => cLoad_ok (B := B) hs at0 (s := 1) hv2 false hf
  by_cases f1 : fltK P 1 a 2 = 0
  · have f23 := (fl 1).1 f1
    have L1 := cLoad_ok (B := B) hs a (s := 2) hv1 false f1
    have e := fb_h1 (rdL B a 1) (rdL B (adr a 1) 1) (rdL_len _ _ _) (rdL_len _ _ _)
    rw [← rd_halves B a 1 1] at e
    have hv := bne_eq_false_iff_eq.2 e
    by_cases fs : fltK P 2 a 2 = 0
    · have fs2 := (fl 2).1 fs
      have hs2 : spB P (wrL B a (btL v 1) 1).length = true := by rw [wrL_len]; exact hs
      have HS := cSame_self (P := P) (wrL B a (btL v 2) 2) hl4
      have ew : wrL B a (btL v 2) 2 = wrL (wrL B a (btL v 1) 1) (adr a 1) (btL (v / 256) 1) 1 := by
        rw [btL_h1]
        exact wr_halves (B := B) (at0 := a) (bs := btL v 1) (cs := btL (v / 256) 1) 1
      rw (config := {occs := .pos [2]}) [ew] at HS
      exact halves_2_oo w P p pc B q qc hS a g v HC HR (adr a 1) _ _ _ rfl L1 (LH a f23.1) (LH _ f23.2) hv (cStore_ok hs a (s := 2) hv1 false v fs) (cStore_ok hs a (s := 1) hv2 false v fs2.1) (cStore_ok hs2 _ (s := 1) hv2 false _ fs2.2) HS
    · exact halves_2_of w P p pc B q qc hS a g v HC HR (adr a 1) _ _ _ rfl L1 (LH a f23.1) (LH _ f23.2) hv (cStore_flt hs a (s := 2) hv1 false v fs) (bne_iff_ne.2 fs)
  · have fs : ¬ fltK P 2 a 2 = 0 := fun e => f1 (flt_wr hs e).1
    have S1 := cStore_flt (B := B) hs a (s := 2) hv1 false v fs
    have L1 := cLoad_flt (B := B) hs a (s := 2) hv1 false f1
    have k1 : (fltK P 1 a 2 == 0) = false := beq_eq_false_iff_ne.2 f1
    by_cases f2 : fltK P 1 a 1 = 0
    · have f3 : ¬ fltK P 1 (adr a 1) 1 = 0 := fun e => f1 ((fl 1).2 ⟨f2, e⟩)
      exact halves_2_f3 w P p pc B q qc hS a g v HC HR (adr a 1) _ _ _ rfl L1 (LH a f2) (cLoad_flt hs _ (s := 1) hv2 false f3) k1 (beq_eq_false_iff_ne.2 f3) S1 (bne_iff_ne.2 fs)
    · obtain ⟨V, L3⟩ := cLoad_any (B := B) hs (adr a 1) (s := 1) hv2 false
      exact halves_2_f2 w P p pc B q qc hS a g v HC HR (adr a 1) _ _ _ rfl L1 (cLoad_flt hs a (s := 1) hv2 false f2) L3 k1 (beq_eq_false_iff_ne.2 f2) S1 (bne_iff_ne.2 fs)
theorem halves_4 (w : World) (P : List Int) (p : Option Addr) (pc : Nat) (B : List UInt8) (q : Option Addr) (qc : Nat) (hS : SpIn 0 w.heap.size w P p B q qc) (a : Int) (g : Bool) (v : Int) (hs : spB P B.length = true) (HC : CCheck P B 0) (HR : ∀ w, Calls Try.prog 45 #[tyV 4 false] w fun e w' => e = .returned (.int .i64 0) ∧ Below w.heap.size w w') : Calls Try.prog 10 #[spV p P.length pc q B.length qc, .agg #[.int .i64 a, .int .i64 4, .bool g, .int .i64 v]] w fun e w' => e = .returned (.bool true) ∧ Below w.heap.size w w' := by
  have hl4 : P.length ≤ 4096 := by have := spB_len hs; omega
  have hv1 : validB 4 = true := rfl
  have hv2 : validB 2 = true := rfl
  have fl := fun perm => flt_halves (P := P) (perm := perm) (at0 := a) (n := 2) (m := 2)
  have LH := fun at0 (hf : fltK P 1 at0 2 = 0) => cLoad_ok (B := B) hs at0 (s := 2) hv2 false hf
  by_cases f1 : fltK P 1 a 4 = 0
  · have f23 := (fl 1).1 f1
    have L1 := cLoad_ok (B := B) hs a (s := 4) hv1 false f1
    have e := fb_h2 (rdL B a 2) (rdL B (adr a 2) 2) (rdL_len _ _ _) (rdL_len _ _ _)
    rw [← rd_halves B a 2 2] at e
    have hv := bne_eq_false_iff_eq.2 e
    by_cases fs : fltK P 2 a 4 = 0
    · have fs2 := (fl 2).1 fs
      have hs2 : spB P (wrL B a (btL v 2) 2).length = true := by rw [wrL_len]; exact hs
      have HS := cSame_self (P := P) (wrL B a (btL v 4) 4) hl4
      have ew : wrL B a (btL v 4) 4 = wrL (wrL B a (btL v 2) 2) (adr a 2) (btL (v / 65536) 2) 2 := by
        rw [btL_h2]
        exact wr_halves (B := B) (at0 := a) (bs := btL v 2) (cs := btL (v / 65536) 2) 2
      rw (config := {occs := .pos [2]}) [ew] at HS
      exact halves_4_oo w P p pc B q qc hS a g v HC HR (adr a 2) _ _ _ rfl L1 (LH a f23.1) (LH _ f23.2) hv (cStore_ok hs a (s := 4) hv1 false v fs) (cStore_ok hs a (s := 2) hv2 false v fs2.1) (cStore_ok hs2 _ (s := 2) hv2 false _ fs2.2) HS
    · exact halves_4_of w P p pc B q qc hS a g v HC HR (adr a 2) _ _ _ rfl L1 (LH a f23.1) (LH _ f23.2) hv (cStore_flt hs a (s := 4) hv1 false v fs) (bne_iff_ne.2 fs)
  · have fs : ¬ fltK P 2 a 4 = 0 := fun e => f1 (flt_wr hs e).1
    have S1 := cStore_flt (B := B) hs a (s := 4) hv1 false v fs
    have L1 := cLoad_flt (B := B) hs a (s := 4) hv1 false f1
    have k1 : (fltK P 1 a 4 == 0) = false := beq_eq_false_iff_ne.2 f1
    by_cases f2 : fltK P 1 a 2 = 0
    · have f3 : ¬ fltK P 1 (adr a 2) 2 = 0 := fun e => f1 ((fl 1).2 ⟨f2, e⟩)
      exact halves_4_f3 w P p pc B q qc hS a g v HC HR (adr a 2) _ _ _ rfl L1 (LH a f2) (cLoad_flt hs _ (s := 2) hv2 false f3) k1 (beq_eq_false_iff_ne.2 f3) S1 (bne_iff_ne.2 fs)
    · obtain ⟨V, L3⟩ := cLoad_any (B := B) hs (adr a 2) (s := 2) hv2 false
      exact halves_4_f2 w P p pc B q qc hS a g v HC HR (adr a 2) _ _ _ rfl L1 (cLoad_flt hs a (s := 2) hv2 false f2) L3 k1 (beq_eq_false_iff_ne.2 f2) S1 (bne_iff_ne.2 fs)
theorem halves_8 (w : World) (P : List Int) (p : Option Addr) (pc : Nat) (B : List UInt8) (q : Option Addr) (qc : Nat) (hS : SpIn 0 w.heap.size w P p B q qc) (a : Int) (g : Bool) (v : Int) (hs : spB P B.length = true) (HC : CCheck P B 0) (HR : ∀ w, Calls Try.prog 45 #[tyV 8 false] w fun e w' => e = .returned (.int .i64 0) ∧ Below w.heap.size w w') : Calls Try.prog 10 #[spV p P.length pc q B.length qc, .agg #[.int .i64 a, .int .i64 8, .bool g, .int .i64 v]] w fun e w' => e = .returned (.bool true) ∧ Below w.heap.size w w' := by
  have hl4 : P.length ≤ 4096 := by have := spB_len hs; omega
  have hv1 : validB 8 = true := rfl
  have hv2 : validB 4 = true := rfl
  have fl := fun perm => flt_halves (P := P) (perm := perm) (at0 := a) (n := 4) (m := 4)
  have LH := fun at0 (hf : fltK P 1 at0 4 = 0) => cLoad_ok (B := B) hs at0 (s := 4) hv2 false hf
  by_cases f1 : fltK P 1 a 8 = 0
  · have f23 := (fl 1).1 f1
    have L1 := cLoad_ok (B := B) hs a (s := 8) hv1 false f1
    have e := fb_h4 (rdL B a 4) (rdL B (adr a 4) 4) (rdL_len _ _ _) (rdL_len _ _ _)
    rw [← rd_halves B a 4 4] at e
    have hv := bne_eq_false_iff_eq.2 e
    by_cases fs : fltK P 2 a 8 = 0
    · have fs2 := (fl 2).1 fs
      have hs2 : spB P (wrL B a (btL v 4) 4).length = true := by rw [wrL_len]; exact hs
      have HS := cSame_self (P := P) (wrL B a (btL v 8) 8) hl4
      have ew : wrL B a (btL v 8) 8 = wrL (wrL B a (btL v 4) 4) (adr a 4) (btL (v / 4294967296) 4) 4 := by
        rw [btL_h4]
        exact wr_halves (B := B) (at0 := a) (bs := btL v 4) (cs := btL (v / 4294967296) 4) 4
      rw (config := {occs := .pos [2]}) [ew] at HS
      exact halves_8_oo w P p pc B q qc hS a g v HC HR (adr a 4) _ _ _ rfl L1 (LH a f23.1) (LH _ f23.2) hv (cStore_ok hs a (s := 8) hv1 false v fs) (cStore_ok hs a (s := 4) hv2 false v fs2.1) (cStore_ok hs2 _ (s := 4) hv2 false _ fs2.2) HS
    · exact halves_8_of w P p pc B q qc hS a g v HC HR (adr a 4) _ _ _ rfl L1 (LH a f23.1) (LH _ f23.2) hv (cStore_flt hs a (s := 8) hv1 false v fs) (bne_iff_ne.2 fs)
  · have fs : ¬ fltK P 2 a 8 = 0 := fun e => f1 (flt_wr hs e).1
    have S1 := cStore_flt (B := B) hs a (s := 8) hv1 false v fs
    have L1 := cLoad_flt (B := B) hs a (s := 8) hv1 false f1
    have k1 : (fltK P 1 a 8 == 0) = false := beq_eq_false_iff_ne.2 f1
    by_cases f2 : fltK P 1 a 4 = 0
    · have f3 : ¬ fltK P 1 (adr a 4) 4 = 0 := fun e => f1 ((fl 1).2 ⟨f2, e⟩)
      exact halves_8_f3 w P p pc B q qc hS a g v HC HR (adr a 4) _ _ _ rfl L1 (LH a f2) (cLoad_flt hs _ (s := 4) hv2 false f3) k1 (beq_eq_false_iff_ne.2 f3) S1 (bne_iff_ne.2 fs)
    · obtain ⟨V, L3⟩ := cLoad_any (B := B) hs (adr a 4) (s := 4) hv2 false
      exact halves_8_f2 w P p pc B q qc hS a g v HC HR (adr a 4) _ _ _ rfl L1 (cLoad_flt hs a (s := 4) hv2 false f2) L3 k1 (beq_eq_false_iff_ne.2 f2) S1 (bne_iff_ne.2 fs)
theorem law_halves (w : World) (P : List Int) (p : Option Addr) (pc : Nat) (B : List UInt8) (q : Option Addr) (qc : Nat) (hS : SpIn 0 w.heap.size w P p B q qc) (a z : Int) (g : Bool) (v : Int) (_ : I64 a) (_ : I64 z) (_ : I64 v) : Calls Try.prog 10 #[spV p P.length pc q B.length qc, .agg #[.int .i64 a, .int .i64 z, .bool g, .int .i64 v]] w fun e w' => e = .returned (.bool true) ∧ Below w.heap.size w w' := by
  cases hs : spB P B.length
  · exact halves_e1 w P p pc B q qc hS a g v z (by have h := cCheck P B; rwa [spE_bad hs] at h)
  have HC : CCheck P B 0 := by have h := cCheck P B; rwa [spE_ok hs] at h
  cases hv : validB z
  · exact halves_e2 w P p pc B q qc hS a g v z HC (fun w => by have h := rcheck_any z false w; rwa [eT_bad hv] at h)
  have HR : ∀ w, Calls Try.prog 45 #[tyV z false] w fun e w' => e = .returned (.int .i64 0) ∧ Below w.heap.size w w' := fun w => by have h := rcheck_any z false w; rwa [eT_ok hv] at h
  rcases valid_cases hv with rfl | rfl | rfl | rfl
  · exact halves_e3 w P p pc B q qc hS a g v HC HR
  · exact halves_2 w P p pc B q qc hS a g v hs HC HR
  · exact halves_4 w P p pc B q qc hS a g v hs HC HR
  · exact halves_8 w P p pc B q qc hS a g v hs HC HR
end Go.Proofs.Ytbfakdbhmpjmlaa
