/-
  The law MemStored.
-/
import Derived.Test.YtbfakdbhmpjmlaaMb
namespace Go.Proofs.Ytbfakdbhmpjmlaa
open Go.RowKit

/-- A load from a part that a store does not touch. -/
theorem cLoad_same {P : List Int} {B : List UInt8} (hs : spB P B.length = true) {a : Int} {n : Nat} (bs : List UInt8) (ha0 : 0 ≤ a) (ha : a + n ≤ B.length) {b t : Int} (h : Bool) (ib : I64 b) (hd : validB t = true → a + n ≤ b ∨ b + t ≤ a) :
    ∃ V K A E, CLoad P B b t h V K A E ∧ CLoad P (wrL B a bs n) b t h V K A E := by
  have hs2 : spB P (wrL B a bs n).length = true := by rw [wrL_len]; exact hs
  have hl := spB_len hs
  cases hv : validB t
  · exact ⟨_, _, _, _, cLoad_type hs b hv h, cLoad_type hs2 b hv h⟩
  · have z2 : 0 < t.toNat ∧ t.toNat ≤ 8 := by rcases valid_cases hv with rfl | rfl | rfl | rfl <;> decide
    have n2 := valid_nat hv
    by_cases f : fltK P 1 b t.toNat = 0
    · have r := in_of_flt ib hl.1 (by omega) z2.1 f
      have e := rd_wr_apart (B := B) (a := a) (b := b) (bs := bs) (n := n) (m := t.toNat) ha0 r.1 (by omega) ha (by omega) (by have := hd hv; omega)
      have h1 := cLoad_ok hs b hv h f
      have h2 := cLoad_ok hs2 b hv h f
      rw [e] at h2
      exact ⟨_, _, _, _, h1, h2⟩
    · exact ⟨_, _, _, _, cLoad_flt hs b hv h f, cLoad_flt hs2 b hv h f⟩

theorem law_stored (w : World) (P : List Int) (p : Option Addr) (pc : Nat) (B : List UInt8) (q : Option Addr) (qc : Nat) (hS : SpIn 0 w.heap.size w P p B q qc) (a z : Int) (g : Bool) (v : Int) (ia : I64 a) (_ : I64 z) (iv : I64 v) (b t : Int) (h : Bool) (y : Int) (ib : I64 b) (_ : I64 t) (_ : I64 y) :
    Calls Try.prog 7 #[spV p P.length pc q B.length qc, .agg #[.int .i64 a, .int .i64 z, .bool g, .int .i64 v], .agg #[.int .i64 b, .int .i64 t, .bool h, .int .i64 y]] w fun e w' => e = .returned (.bool true) ∧ Below w.heap.size w w' := by
  cases hs : spB P B.length
  · exact stored_e1 w P p pc B q qc hS a z g v b t h y (cStore_bad hs a z g v) rfl
  cases hv : validB z
  · exact stored_e1 w P p pc B q qc hS a z g v b t h y (cStore_type hs a hv g v) rfl
  by_cases hf' : fltK P 2 a z.toNat ≠ 0
  · exact stored_e2 w P p pc B q qc hS a z g v b t h y (cStore_flt hs a hv g v hf') (bne_iff_ne.2 hf')
  have hf : fltK P 2 a z.toNat = 0 := Decidable.not_not.1 hf'
  have z1 : 0 < z.toNat ∧ z.toNat ≤ 8 := by rcases valid_cases hv with rfl | rfl | rfl | rfl <;> decide
  have n1 := valid_nat hv
  have hl := spB_len hs
  have r := in_of_flt ia hl.1 (by omega) z1.1 hf
  have hs2 : spB P (wrL B a (btL v z.toNat) z.toNat).length = true := by rw [wrL_len]; exact hs
  have hrd : rdL (wrL B a (btL v z.toNat) z.toNat) a z.toNat = btL v z.toNat := by
    have h := rd_wr_same (B := B) (at0 := a) (bs := btL v z.toNat) r.1 (by omega) (by rw [btL_length]; omega)
    rwa [btL_length] at h
  have H1 := cStore_ok (B := B) hs a hv g v hf
  have HW := rwrap_ok hv g v
  have HL := cLoad_ok hs2 a hv g (flt_wr hs hf).1
  rw [hrd, fb_bt hv g v iv] at HL
  have HP := cPeek_bs hs2 a n1.1 n1.2 z1.1 (flt_wr hs hf).2
  rw [hrd] at HP
  have HF : ∀ w gb c, BS w gb (btL v z.toNat) → Calls Try.prog 43 #[tyV z g, .slice (some ⟨gb, 0, none⟩) (btL v z.toNat).length c] w fun e w' => e = .returned (.tuple #[.int .i64 (wrapI z g v), .int .i64 0]) ∧ Below w.heap.size w w' := fun w gb c hb => by
    have h := rfrom_loop hv g (btL v z.toNat) (by rw [btL_length]; omega) gb c w hb
    rwa [fb_bt hv g v iv] at h
  have HD := cDiff_ok (B := B) (B2 := wrL B a (btL v z.toNat) z.toNat) hs hs2
  have hw : wrap64 (a + z) = a + z := by unfold wrap64; omega
  have hR : ∀ k (h : k < (dfs B (wrL B a (btL v z.toNat) z.toNat) B.length).length), ¬ (((dfs B (wrL B a (btL v z.toNat) z.toNat) B.length)[k] : Nat) : Int) < a ∧ ¬ wrap64 (a + z) ≤ (((dfs B (wrL B a (btL v z.toNat) z.toNat) B.length)[k] : Nat) : Int) := fun k hk => by
    have hm := dfs_mem.1 (List.getElem_mem hk)
    rw [wrL_getD r.1 (by omega) (by omega)] at hm
    rw [hw]
    generalize (dfs B (wrL B a (btL v z.toNat) z.toNat) B.length)[k] = j at hm
    by_cases c : a.toNat ≤ j ∧ j < a.toNat + z.toNat
    · omega
    · rw [if_neg c] at hm; exact absurd rfl hm.2
  have hDl : (dfs B (wrL B a (btL v z.toNat) z.toNat) B.length).length ≤ 4096 := by have := dfs_len B (wrL B a (btL v z.toNat) z.toNat) B.length; omega
  have HA := fun w => apart_any a z g v b t h y w
  cases hap : apB a z b t
  · rw [hap] at HA
    exact stored_na w P p pc B q qc hS a z g v b t h y H1 HW HL HP HF HD hR hDl HA
  · rw [hap] at HA
    obtain ⟨ha0, hb0, ha1, hb1, hd⟩ := apB_t hap
    obtain ⟨V, K, A, E, L1, L2⟩ := cLoad_same hs (a := a) (n := z.toNat) (btL v z.toNat) ha0 (by omega) (t := t) h ib (fun hv2 => by
      have := valid_nat hv2
      have z2 : t.toNat ≤ 8 := by rcases valid_cases hv2 with rfl | rfl | rfl | rfl <;> decide
      have e2 : wrap64 (b + t) = b + t := by unfold wrap64; omega
      rw [hw, e2] at hd
      omega)
    exact stored_ap w P p pc B q qc hS a z g v b t h y H1 HW HL HP HF HD hR hDl HA L1 L2
end Go.Proofs.Ytbfakdbhmpjmlaa
