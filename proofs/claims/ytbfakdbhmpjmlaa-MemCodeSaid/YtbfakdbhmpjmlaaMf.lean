/-
  The law MemCode.
-/
import Derived.Test.YtbfakdbhmpjmlaaMe
namespace Go.Proofs.Ytbfakdbhmpjmlaa
open Go.RowKit

theorem permB_of {p : Int} (h : p = 0 ∨ p = 1 ∨ p = 3 ∨ p = 4) : permB p = true := by rcases h with rfl | rfl | rfl | rfl <;> rfl
theorem spB_set {P : List Int} {m k : Nat} {x : Int} (h : spB P m = true) (hx : permB x = true) : spB (P.set k x) m = true := by
  simp [spB] at h ⊢
  refine ⟨h.1, fun y hy => ?_⟩
  rcases List.mem_or_eq_of_mem_set hy with hy | rfl
  · exact h.2 y hy
  · exact hx
/-- Code pages are as they were. -/
def CodeK (P P6 : List Int) (B B6 : List UInt8) : Prop := P6.length = P.length ∧ B6.length = B.length ∧ ∀ k (h : k < P.length), P[k] = 4 → (∀ h6 : k < P6.length, P6[k] = 4) ∧ pgB B6 k = pgB B k
theorem CodeK.refl (P : List Int) (B : List UInt8) : CodeK P P B B := ⟨rfl, rfl, fun _ _ h => ⟨fun _ => h, rfl⟩⟩
theorem CodeK.trans {P P2 P3 : List Int} {B B2 B3 : List UInt8} (h : CodeK P P2 B B2) (g : CodeK P2 P3 B2 B3) : CodeK P P3 B B3 := by
  refine ⟨g.1.trans h.1, g.2.1.trans h.2.1, fun k hk h4 => ?_⟩
  obtain ⟨a1, a2⟩ := h.2.2 k hk h4
  have hk2 : k < P2.length := by rw [h.1]; exact hk
  obtain ⟨b1, b2⟩ := g.2.2 k hk2 (a1 hk2)
  exact ⟨b1, b2.trans a2⟩
theorem dpB_perm {x : Int} (h : dpB x = true) : permB x = true := by rw [permB_eq, h]; simp
theorem prot_any {P : List Int} {B : List UInt8} (hs : spB P B.length = true) (n m : Int) : ∃ P1 B1 E1 P2 B2, CProt P B n m P1 B1 E1 ∧ NextR P B (E1 == 0) P1 B1 P2 B2 ∧ spB P2 B2.length = true ∧ CodeK P P2 B B2 := by
  by_cases hn : n < 0 ∨ (P.length : Int) ≤ n
  · exact ⟨[], [], 31, P, B, cProt_page hs m hn, .inr ⟨rfl, rfl, rfl⟩, hs, CodeK.refl _ _⟩
  · obtain ⟨k, rfl⟩ := nat_of (n := n) (by omega)
    have hk : k < P.length := by omega
    by_cases h4 : P[k] = 4 ∨ dpB m = false
    · exact ⟨[], [], 31, P, B, cProt_perm hs rfl hk h4, .inr ⟨rfl, rfl, rfl⟩, hs, CodeK.refl _ _⟩
    · have h5 : P[k] ≠ 4 ∧ dpB m = true := ⟨fun e => h4 (.inl e), by cases hd : dpB m; exact absurd (.inr hd) h4; rfl⟩
      refine ⟨_, _, 0, _, _, cProt_ok hs rfl hk h5.1 h5.2, .inl ⟨rfl, rfl, rfl⟩, spB_set hs (dpB_perm h5.2), List.length_set, rfl, fun j hj hj4 => ⟨fun h6 => ?_, rfl⟩⟩
      have hne : k ≠ j := fun e => h5.1 (by subst e; exact hj4)
      rw [List.getElem_set_ne hne]
      exact hj4
theorem seal_any {P : List Int} {B : List UInt8} (hs : spB P B.length = true) (n : Int) : ∃ P1 B1 E1 P2 B2, CSeal P B n P1 B1 E1 ∧ NextR P B (E1 == 0) P1 B1 P2 B2 ∧ spB P2 B2.length = true ∧ CodeK P P2 B B2 := by
  by_cases hn : n < 0 ∨ (P.length : Int) ≤ n
  · exact ⟨[], [], 31, P, B, cSeal_page hs hn, .inr ⟨rfl, rfl, rfl⟩, hs, CodeK.refl _ _⟩
  · obtain ⟨k, rfl⟩ := nat_of (n := n) (by omega)
    have hk : k < P.length := by omega
    refine ⟨_, _, 0, _, _, cSeal_ok hs rfl hk, .inl ⟨rfl, rfl, rfl⟩, spB_set hs rfl, List.length_set, rfl, fun j hj hj4 => ⟨fun h6 => ?_, rfl⟩⟩
    by_cases hne : k = j
    · subst hne; simp
    · rw [List.getElem_set_ne hne]; exact hj4
/-- A store leaves the bytes of the pages that may not be written. -/
theorem code_page {P : List Int} {B : List UInt8} (hs : spB P B.length = true) {a : Int} {bs : List UInt8} {n : Nat} (ia : I64 a) (hn : n ≤ 8) (hf : fltK P 2 a n = 0) {k : Nat} (hk : k < P.length) (h4 : P[k] = 4) : pgB (wrL B a bs n) k = pgB B k := by
  have hl := spB_len hs
  rcases Nat.eq_zero_or_pos n with h0 | h0
  · subst h0; rfl
  have r := in_of_flt ia hl.1 (by omega) h0 hf
  refine ext_getD (by simp [pgB, wrL_len]) (fun i hi => ?_)
  have hi2 : i < 64 := by simp [pgB] at hi; omega
  have gp : ∀ X : List UInt8, (pgB X k).getD i 0 = X.getD (64 * k + i) 0 := fun X => by
    simp [pgB, List.getD, List.getElem?_take, hi2]
  rw [gp, gp, wrL_getD r.1 (by omega) (by omega)]
  by_cases c : a.toNat ≤ 64 * k + i ∧ 64 * k + i < a.toNat + n
  · exfalso
    have hkd := flt_zero_iff.1 hf (64 * k + i - a.toNat) (by omega)
    rw [adr_lit r.1 (by omega)] at hkd
    have := (kind_wr hs hkd).2.2
    have e : ((a + ((64 * k + i - a.toNat : Nat) : Int)) / 64).toNat = k := by omega
    rw [e] at this
    simp [List.getD, hk, h4] at this
  · rw [if_neg c]
theorem store_any {P : List Int} {B : List UInt8} (hs : spB P B.length = true) (a z : Int) (g : Bool) (v : Int) (ia : I64 a) : ∃ P1 B1 K A E P2 B2 ok, CStore P B a z g v P1 B1 K A E ∧ ok = (E == 0 && K == 0) ∧ NextR P B ok P1 B1 P2 B2 ∧ spB P2 B2.length = true ∧ CodeK P P2 B B2 := by
  cases hv : validB z
  · exact ⟨[], [], 0, 0, 10, P, B, false, cStore_type hs a hv g v, rfl, .inr ⟨rfl, rfl, rfl⟩, hs, CodeK.refl _ _⟩
  by_cases hf : fltK P 2 a z.toNat = 0
  · have z1 : z.toNat ≤ 8 := by rcases valid_cases hv with rfl | rfl | rfl | rfl <;> decide
    exact ⟨_, _, 0, 0, 0, _, _, true, cStore_ok hs a hv g v hf, rfl, .inl ⟨rfl, rfl, rfl⟩, by rw [wrL_len]; exact hs, rfl, wrL_len _ _ _ _, fun k hk h4 => ⟨fun _ => h4, code_page hs ia z1 hf hk h4⟩⟩
  · refine ⟨[], [], _, _, 0, P, B, false, cStore_flt hs a hv g v hf, ?_, .inr ⟨rfl, rfl, rfl⟩, hs, CodeK.refl _ _⟩
    have : (fltK P 2 a z.toNat == 0) = false := beq_eq_false_iff_ne.2 hf
    rw [this]; rfl
theorem kind_4_0 {P : List Int} {x : Int} (h : kindA P 4 x = 0) : kindA P 0 x = 0 := by
  have := kind_in h
  unfold kindA
  rw [if_neg (by omega), if_neg (by simp)]
theorem fetch_any {P : List Int} {B : List UInt8} (hs : spB P B.length = true) (a n : Int) : ∃ X E, CFetch P B a n X E ∧ FetchR P B a n X E := by
  by_cases hn : n < 0 ∨ 2048 < n
  · exact ⟨_, _, cFetch_arg hs a n hn, .inl rfl⟩
  · obtain ⟨N, rfl⟩ := nat_of (n := n) (by omega)
    have hN : N ≤ 2048 := by omega
    have hg : goodA P 4 a N ≤ N := cnt_le _ _
    have hok : ∀ j, j < goodA P 4 a N → kindA P 4 (adr a j) = 0 := fun j hj => by
      have := cnt_ok (okA P 4 a) N j hj
      simpa [okA] using this
    refine ⟨_, 0, cFetch_ok hs a rfl hN, .inr ⟨rfl, ?_, ?_, ?_, ?_⟩⟩
    · exact cPeek_ok hs a (k := goodA P 4 a N) (by rw [rdL_len]) (by omega) (flt_zero_iff.2 fun j hj => kind_4_0 (hok j hj))
    · have hf4 : fltK P 4 a (goodA P 4 a N) = 0 := flt_zero_iff.2 hok
      have h := cAcc_ok (B := B) hs a (n := ((rdL B a (goodA P 4 a N)).length : Int)) (k := goodA P 4 a N) (by rw [rdL_len]) (by omega) (m := 4) (.inr (.inr rfl))
      rwa [hf4, fltA_zero hf4] at h
    · rw [rdL_len]; omega
    · rw [rdL_len]
      by_cases hlt : goodA P 4 a N < N
      · refine .inr ⟨by omega, _, _, cAcc_ok hs _ (k := 1) rfl (by decide) (.inr (.inr rfl)), ?_⟩
        have hst := cnt_stop (okA P 4 a) N hlt
        have hk : kindA P 4 (adr a (goodA P 4 a N)) ≠ 0 := by
          have : okA P 4 a (goodA P 4 a N) = false := hst
          simpa [okA] using this
        rw [beq_eq_false_iff_ne]
        show fltK P 4 (adr a (goodA P 4 a N)) 1 ≠ 0
        rw [(flt_at P 4 a _).1]
        exact hk
      · exact .inl (by omega)
theorem law_code (w : World) (P : List Int) (p : Option Addr) (pc : Nat) (B : List UInt8) (q : Option Addr) (qc : Nat) (hS : SpIn 0 w.heap.size w P p B q qc) (a n m : Int) (_ : I64 a) (_ : I64 n) (_ : I64 m) (b z : Int) (g : Bool) (v : Int) (ib : I64 b) (_ : I64 z) (_ : I64 v) :
    Calls Try.prog 11 #[spV p P.length pc q B.length qc, .agg #[.int .i64 a, .int .i64 n, .int .i64 m], .agg #[.int .i64 b, .int .i64 z, .bool g, .int .i64 v]] w fun e w' => e = .returned (.bool true) ∧ Below w.heap.size w w' := by
  cases hs : spB P B.length
  · exact code_e1 w P p pc B q qc hS a n m b z g v (by have h := cCheck P B; rwa [spE_bad hs] at h)
  have HC : CCheck P B 0 := by have h := cCheck P B; rwa [spE_ok hs] at h
  obtain ⟨X, E, HF, HFR⟩ := fetch_any hs a n
  obtain ⟨P1, B1, E1, P2, B2, H1, R1, hs2, k2⟩ := prot_any hs n m
  obtain ⟨P3, B3, K3, A3, E3, P4, B4, ok3, H3, hok, R3, hs4, k4⟩ := store_any hs2 b z g v ib
  obtain ⟨P5, B5, E5, P6, B6, H5, R5, hs6, k6⟩ := seal_any hs4 m
  have kk := (k2.trans k4).trans k6
  have HC6 : CCheck P6 B6 0 := by have h := cCheck P6 B6; rwa [spE_ok hs6] at h
  have hl := spB_len hs
  refine code_main w P p pc B q qc hS a n m b z g v HC HF HFR H1 R1 H3 (Lib.hid hok) R3 H5 R5 HC6 (by rw [kk.1]; simp) (Lib.hid ⟨hl.1, hl.2, kk.1, kk.2.1⟩) (Lib.hid (fun k hk => ?_)) (Lib.hid kk.2.2)
  have := spB_perm hs k
  rw [show P.getD k 0 = P[k] by simp [List.getD, hk]] at this
  exact permB_cases this
end Go.Proofs.Ytbfakdbhmpjmlaa
