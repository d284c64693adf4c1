/-
  The law BitsShifts.
-/
import Derived.Test.YtbdkacfddbiclaaDoorLv
import Derived.Test.YtbdkacfddbiclaaDoorLk
import Derived.Test.YtbdkacfddbiclaaDoorLf
namespace Go.Proofs.YtbdkacfddbiclaaDoor
open Go.RowKit

theorem promote_bad {s : Int} (v : validB s = false) (g : Bool) : RetT 15 #[tyV s g] 0 false 10 := fun w hp => by
  have h := bpromote_any s g w hp
  rw [v, show eT s = 10 by simp [eT, v]] at h
  exact h
theorem lwrap_ret' {s : Int} (v : validB s = true) (g : Bool) (x : Int) : RetV 36 #[tyV s g, .int .i64 x] (wrapI s g x) := fun w => by
  have h := lwrap_any s g x w
  rw [v, sel_t] at h
  exact h

section
variable {s : Int} (vs : validB s = true) (g : Bool)
include vs
/-- A shift of a value of a valid type. -/
theorem sh9_ret {x : Int} (hx : I64 x) {c : Int} (h0 : 0 ≤ c) (h1 : c < 8 * prS s) : RetB 9 s g x 4 true c (prS s) (prG s g) (shlV (prS s) (prG s g) (wrapI s g x) c) 0 := fun w hp => by
  have h := bin_sh9 s g x 4 true c w hp vs rfl
  rw [cnt_id (prS_of s vs) h0 h1, pro_id vs g (Rg_wrap s g x hx)] at h
  exact h
theorem sh10_ret {x : Int} (hx : I64 x) {c : Int} (h0 : 0 ≤ c) (h1 : c < 8 * prS s) : RetB 10 s g x 4 true c (prS s) (prG s g) (shrV (prS s) (prG s g) (wrapI s g x) c) 0 := fun w hp => by
  have h := bin_sh10 s g x 4 true c w hp vs rfl
  rw [cnt_id (prS_of s vs) h0 h1, pro_id vs g (Rg_wrap s g x hx)] at h
  exact h
end
section
variable {S : Int} (hS : S = 4 ∨ S = 8) (G : Bool)
include hS
theorem p_id : prS S = S ∧ prG S G = G := by
  rcases hS with rfl | rfl <;> cases G <;> decide
theorem p_valid : validB S = true := by rcases hS with rfl | rfl <;> rfl
theorem psh9 {x : Int} (hx : Rg S G x) {c : Int} (h0 : 0 ≤ c) (h1 : c < 8 * S) : RetB 9 S G x 4 true c S G (shlV S G x c) 0 := by
  have p := p_id hS G
  have h := sh9_ret (p_valid hS) G (Rg_I64 hx) (c := c) h0 (by rw [p.1]; exact h1)
  rw [p.1, p.2, wrap_Rg S G x hx] at h
  exact h
theorem psh10 {x : Int} (hx : Rg S G x) {c : Int} (h0 : 0 ≤ c) (h1 : c < 8 * S) : RetB 10 S G x 4 true c S G (shrV S G x c) 0 := by
  have p := p_id hS G
  have h := sh10_ret (p_valid hS) G (Rg_I64 hx) (c := c) h0 (by rw [p.1]; exact h1)
  rw [p.1, p.2, wrap_Rg S G x hx] at h
  exact h
theorem pmul (x m : Int) : RetB 3 S G x S G (wrap64 (2 ^ m.toNat)) S G (shlV S G x m) 0 := by
  have h : RetB 3 S G x S G (wrap64 (2 ^ m.toNat)) _ _ _ _ := fun w hp => bin_ar3 S G x S G (wrap64 (2 ^ m.toNat)) w hp (p_valid hS) (p_valid hS)
  have c := cm_self hS G
  unfold opX opY at h
  rw [c.1, c.2] at h
  change RetB 3 S G x S G (wrap64 (2 ^ m.toNat)) S G (wrapI S G (wrap64 (wrapI S G (wrapI S G x) * wrapI S G (wrapI S G (wrap64 (2 ^ m.toNat)))))) 0 at h
  rw [shl_mul S G x x m (Cg.refl _ _)] at h
  exact h
theorem pdiv {x : Int} (hx : Rg S G x) {m : Int} (h0 : 0 ≤ m) (h1 : m < 8 * S) (hc : G = false ∨ (0 ≤ x ∧ m < 8 * S - 1)) : RetB 4 S G x S G (wrap64 (2 ^ m.toNat)) S G (shrV S G x m) 0 := by
  have c := cm_self hS G
  have hb : wrapI S G (wrapI S G (wrap64 (2 ^ m.toNat))) ≠ 0 := by
    cases G
    · exact (pow_B hS h0 h1).2
    · rcases hc with hc | hc
      · cases hc
      · rw [pow_T hS h0 hc.2]
        have := pow_pos2 m.toNat
        omega
  have e : opY S G S G (wrap64 (2 ^ m.toNat)) = wrapI S G (wrapI S G (wrap64 (2 ^ m.toNat))) := by unfold opY; rw [c.1, c.2]
  have hb' : opY S G S G (wrap64 (2 ^ m.toNat)) ≠ 0 := by rw [e]; exact hb
  have hu : u64 (opY S G S G (wrap64 (2 ^ m.toNat))) ≠ 0 := by
    refine u64_ne ?_ hb'
    rw [e]
    exact Rg_I64 (Rg_wrap _ _ _ (Rg_I64 (Rg_wrap _ _ _ (w64_I64 _))))
  have h : RetB 4 S G x S G (wrap64 (2 ^ m.toNat)) _ _ _ _ := fun w hp => bin_ar4 S G x S G (wrap64 (2 ^ m.toNat)) w hp (p_valid hS) (p_valid hS) hb' hu
  rw [e] at h
  unfold opX at h
  rw [c.1, c.2, wrap_Rg S G x hx, wrap_Rg S G x hx] at h
  change RetB 4 S G x S G (wrap64 (2 ^ m.toNat)) S G (wrapI S G (quoI G x (wrapI S G (wrapI S G (wrap64 (2 ^ m.toNat)))))) 0 at h
  cases G
  · rw [shr_div_false hS x m h0 h1] at h
    exact h
  · rcases hc with hc | hc
    · cases hc
    · rw [shr_div_true hS x m hx hc.1 h0 hc.2] at h
      exact h
end

theorem law_shifts (s : Int) (g : Bool) (v : Int) (hv : I64 v) (m n : Int) (_ : I64 m) (_ : I64 n) (w : World) (hp : PI w) (hE : EV w) (hq : PR w) :
    Calls Tryd.prog 10 #[tyV s g, .int .i64 v, .agg #[.int .i64 m, .int .i64 n]] w fun e w' => e = .returned (.bool true) ∧ Below w.heap.size w w' := by
  cases vs : validB s
  · exact shifts_bad s g v m n (promote_bad vs g) w hp hE hq
  have hS := prS_of s vs
  have HP := promote_ok s g vs
  have rv : Rg s g (wrapI s g v) := Rg_wrap s g v hv
  have rS := Rg_pro vs g rv
  have HW := lwrap_ret' vs g v
  by_cases hr : 0 ≤ m ∧ 0 ≤ n ∧ m < 8 * prS s ∧ n < 8 * prS s
  · obtain ⟨m0, n0, m1, n1⟩ := hr
    have H9 := sh9_ret vs g hv m0 m1
    have H10 := sh10_ret vs g hv m0 m1
    have K9 : ∀ _ : m + n < 8 * prS s, _ := fun h => sh9_ret vs g hv (c := m + n) (by omega) h
    have K10 : ∀ _ : m + n < 8 * prS s, _ := fun h => sh10_ret vs g hv (c := m + n) (by omega) h
    generalize wrapI s g v = wv at *
    generalize prS s = S at *
    generalize prG s g = G at *
    have HM := pmul hS G wv m
    have J9 := psh9 hS G (shl_Rg S G wv m) n0 n1
    have J10 := psh10 hS G (shr_Rg hS G wv m rS) n0 n1
    rw [shl_two S G wv m n m0 n0] at J9
    rw [shr_two hS G wv m n m0 n0 rS] at J10
    have emn : wrap64 (m + n) = m + n := by rcases hS with rfl | rfl <;> (unfold wrap64; omega)
    have HT : 8 * S ≤ m + n ∨ (¬ 8 * S ≤ m + n ∧ RetB 9 S G (shlV S G wv m) 4 true n S G (shlV S G wv (m + n)) 0 ∧ RetB 10 S G (shrV S G wv m) 4 true n S G (shrV S G wv (m + n)) 0 ∧ RetB 9 s g v 4 true (m + n) S G (shlV S G wv (m + n)) 0 ∧ RetB 10 s g v 4 true (m + n) S G (shrV S G wv (m + n)) 0) := by
      by_cases h : 8 * S ≤ m + n
      · exact .inl h
      · exact .inr ⟨h, J9, J10, K9 (by omega), K10 (by omega)⟩
    have hd : G = false ∨ (0 ≤ wv ∧ m < 8 * S - 1) → RetB 4 S G wv S G (wrap64 (2 ^ m.toNat)) S G (shrV S G wv m) 0 := pdiv hS G rS m0 m1
    have hT : wrap64 (8 * S) = 8 * S := by rcases hS with rfl | rfl <;> (unfold wrap64; omega)
    have hT1 : wrap64 (8 * S - 1) = 8 * S - 1 := by rcases hS with rfl | rfl <;> (unfold wrap64; omega)
    have m63 : m ≤ 63 := by rcases hS with rfl | rfl <;> omega
    have hD : (G = false ∧ RetB 4 S G wv S G (wrap64 (2 ^ m.toNat)) S G (shrV S G wv m) 0) ∨ (G = true ∧ 0 ≤ wv ∧ m < 8 * S - 1 ∧ RetB 4 S G wv S G (wrap64 (2 ^ m.toNat)) S G (shrV S G wv m) 0) ∨ (G = true ∧ ¬ 0 ≤ wv) ∨ (G = true ∧ 0 ≤ wv ∧ ¬ m < 8 * S - 1) := by
      cases G
      · exact .inl ⟨rfl, hd (.inl rfl)⟩
      · by_cases h1 : 0 ≤ wv
        · by_cases h2 : m < 8 * S - 1
          · exact .inr (.inl ⟨rfl, h1, h2, hd (.inr ⟨h1, h2⟩)⟩)
          · exact .inr (.inr (.inr ⟨rfl, h1, h2⟩))
        · exact .inr (.inr (.inl ⟨rfl, h1⟩))
    exact shifts_good s g v m n S G HP _ _ hT hT1 m0 m63 (by omega) (by omega) (by omega) (by omega) wv _ _ _ _ _ H9 H10 HW HM hD emn HT w hp hE hq
  · have hT : wrap64 (8 * prS s) = 8 * prS s := by rcases hS with h | h <;> rw [h] <;> (unfold wrap64; omega)
    exact shifts_out s g v m n _ _ HP _ hT (by omega) w hp hE hq
end Go.Proofs.YtbdkacfddbiclaaDoor
