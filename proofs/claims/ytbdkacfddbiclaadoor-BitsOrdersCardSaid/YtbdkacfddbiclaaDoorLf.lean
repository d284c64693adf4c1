/-
  The law BitsDivides.
-/
import Derived.Test.YtbdkacfddbiclaaDoorLe
import Derived.Test.YtbdkacfddbiclaaDoorLr
namespace Go.Proofs.YtbdkacfddbiclaaDoor
open Go.RowKit

theorem compare_ok {s : Int} {g : Bool} (hv : validB s = true) (a b : Int) : RetM 25 #[tyV s g, .int .i64 a, .int .i64 b] (ordI g (wrapI s g a) (wrapI s g b)) 0 := fun w => by
  have h := bcompare_any s g a b w
  rw [eT_ok hv, hv] at h
  exact h

/-- The common type of two valid types is promoted. -/
theorem cm_facts0 : ∀ s1 ∈ [(1 : Int), 2, 4, 8], ∀ g1 : Bool, ∀ s2 ∈ [(1 : Int), 2, 4, 8], ∀ g2 : Bool, (cmS s1 g1 s2 g2 = 4 ∨ cmS s1 g1 s2 g2 = 8) := by decide +kernel
theorem cm_self {S : Int} (hS : S = 4 ∨ S = 8) (G : Bool) : cmS S G S G = S ∧ cmG S G S G = G := by
  rcases hS with rfl | rfl <;> cases G <;> decide

/-- op on two values of a promoted type. -/
theorem op3_ok {S : Int} (hS : S = 4 ∨ S = 8) (G : Bool) (x y : Int) (hx : Rg S G x) (hy : Rg S G y) : RetO 3 S G x y S G (wrapI S G (wrap64 (x * y))) := by
  have v : validB S = true := by rcases hS with rfl | rfl <;> rfl
  have h : RetB 3 S G x S G y _ _ _ _ := fun w hp => bin_ar3 S G x S G y w hp v v
  have c := cm_self hS G
  unfold opX opY at h
  rw [c.1, c.2, wrap_Rg S G x hx, wrap_Rg S G x hx, wrap_Rg S G y hy, wrap_Rg S G y hy] at h
  exact op_of h
theorem op1_ok {S : Int} (hS : S = 4 ∨ S = 8) (G : Bool) (x y : Int) (hx : Rg S G x) (hy : Rg S G y) : RetO 1 S G x y S G (wrapI S G (wrap64 (x + y))) := by
  have v : validB S = true := by rcases hS with rfl | rfl <;> rfl
  have h : RetB 1 S G x S G y _ _ _ _ := fun w hp => bin_ar1 S G x S G y w hp v v
  have c := cm_self hS G
  unfold opX opY at h
  rw [c.1, c.2, wrap_Rg S G x hx, wrap_Rg S G x hx, wrap_Rg S G y hy, wrap_Rg S G y hy] at h
  exact op_of h

theorem quo_I64 (g : Bool) (x y : Int) : I64 (quoI g x y) := by unfold quoI; cases g <;> exact w64_I64 _
theorem rem_I64 (g : Bool) (x y : Int) (hx : I64 x) (hy : I64 y) (h0 : y ≠ 0) : I64 (remI g x y) := by
  cases g
  · exact w64_I64 _
  · have b := tmod_bd x y h0
    obtain ⟨x1, x2⟩ := hx; obtain ⟨y1, y2⟩ := hy
    show I64 (x.tmod y)
    unfold I64
    omega

theorem law_divides (s1 : Int) (g1 : Bool) (s2 : Int) (g2 : Bool) (i j : Int) (hi : I64 i) (hj : I64 j) (w : World) (hp : PI w) (hE : EV w) :
    Calls Tryd.prog 6 #[tyV s1 g1, tyV s2 g2, .agg #[.int .i64 i, .int .i64 j]] w fun e w' => e = .returned (.bool true) ∧ Below w.heap.size w w' := by
  cases hv : (validB s1 && validB s2)
  · exact divides_bad s1 g1 s2 g2 i j _ _ (usual_bad s1 g1 s2 g2 hv) w hp hE
  · rw [Bool.and_eq_true] at hv
    obtain ⟨v1, v2⟩ := hv
    have HU := usual_ok s1 g1 s2 g2 v1 v2
    have hS := cm_facts0 s1 (valid_mem s1 v1) g1 s2 (valid_mem s2 v2) g2
    have vS : validB (cmS s1 g1 s2 g2) = true := by rcases hS with h | h <;> rw [h] <;> rfl
    have HC1 := conv_ok (g1 := g1) (g2 := cmG s1 g1 s2 g2) v1 vS i
    have HC2 := conv_ok (g1 := g2) (g2 := cmG s1 g1 s2 g2) v2 vS j
    have rx : Rg (cmS s1 g1 s2 g2) (cmG s1 g1 s2 g2) (opX s1 g1 i s2 g2) := Rg_wrap _ _ _ (Rg_I64 (Rg_wrap _ _ _ hi))
    have ry : Rg (cmS s1 g1 s2 g2) (cmG s1 g1 s2 g2) (opY s1 g1 s2 g2 j) := Rg_wrap _ _ _ (Rg_I64 (Rg_wrap _ _ _ hj))
    by_cases h0 : opY s1 g1 s2 g2 j = 0
    · exact divides_zero s1 g1 s2 g2 i j _ _ HU _ HC1 (h0 ▸ HC2) _ _ _ (fun w hp => bin_div4 s1 g1 i s2 g2 j w hp v1 v2 h0) _ _ _ (fun w hp => bin_div5 s1 g1 i s2 g2 j w hp v1 v2 h0) w hp hE
    · have hu := u64_ne (Rg_I64 ry) h0
      have HD : RetB 4 s1 g1 i s2 g2 j _ _ _ _ := fun w hp => bin_ar4 s1 g1 i s2 g2 j w hp v1 v2 h0 hu
      have HM : RetB 5 s1 g1 i s2 g2 j _ _ _ _ := fun w hp => bin_ar5 s1 g1 i s2 g2 j w hp v1 v2 h0 hu
      change RetN _ _ (opX s1 g1 i s2 g2) 0 at HC1
      change RetN _ _ (opY s1 g1 s2 g2 j) 0 at HC2
      change RetB 4 s1 g1 i s2 g2 j (cmS s1 g1 s2 g2) (cmG s1 g1 s2 g2) (wrapI (cmS s1 g1 s2 g2) (cmG s1 g1 s2 g2) (quoI (cmG s1 g1 s2 g2) (opX s1 g1 i s2 g2) (opY s1 g1 s2 g2 j))) 0 at HD
      change RetB 5 s1 g1 i s2 g2 j (cmS s1 g1 s2 g2) (cmG s1 g1 s2 g2) (wrapI (cmS s1 g1 s2 g2) (cmG s1 g1 s2 g2) (remI (cmG s1 g1 s2 g2) (opX s1 g1 i s2 g2) (opY s1 g1 s2 g2 j))) 0 at HM
      generalize opX s1 g1 i s2 g2 = a at *
      generalize opY s1 g1 s2 g2 j = b at *
      generalize cmS s1 g1 s2 g2 = S at *
      generalize cmG s1 g1 s2 g2 = G at *
      have rq : Rg S G (wrapI S G (quoI G a b)) := Rg_wrap _ _ _ (quo_I64 _ _ _)
      have rr : Rg S G (wrapI S G (remI G a b)) := Rg_wrap _ _ _ (rem_I64 _ _ _ (Rg_I64 rx) (Rg_I64 ry) h0)
      have HO1 := op3_ok hS G _ _ rq ry
      have rm : Rg S G (wrapI S G (wrap64 (wrapI S G (quoI G a b) * b))) := Rg_wrap _ _ _ (w64_I64 _)
      have HO2 := op1_ok hS G _ _ rm rr
      rw [div_ring S G a b rx] at HO2
      cases G
      · have HN := compare_ok (g := false) vS (wrapI S false (remI false a b)) b
        rw [wrap_Rg S false _ rr, wrap_Rg S false b ry] at HN
        refine divides_unsigned s1 g1 s2 g2 i j S HU a b HC1 HC2 _ HD _ HM h0 _ _ _ HO1 _ _ HO2 _ HN ?_ w hp hE
        have := rem_false S hS a b rx ry h0
        show cmpI (u64 _) (u64 _) < 0
        unfold cmpI
        rw [if_pos this]
        omega
      · have er := rem_true S hS a b rx ry h0
        have bd := tmod_bd a b h0
        have sg := tmod_sign a b
        obtain ⟨y1, y2⟩ := Rg_I64 ry
        obtain ⟨x1, x2⟩ := Rg_I64 rx
        refine divides_signed s1 g1 s2 g2 i j S HU a b HC1 HC2 _ HD _ HM h0 _ _ _ HO1 _ _ HO2 ?_ ?_ w hp hE
        · rw [er]; omega
        · rw [er]
          by_cases hb : 0 < b
          · rw [if_pos hb]
            have : wrap64 (-b) = -b := by unfold wrap64; omega
            rw [this]
            split
            · have : wrap64 (-(a.tmod b)) = -(a.tmod b) := by unfold wrap64; omega
              rw [this]; omega
            · omega
          · rw [if_neg hb]
            split
            · have : wrap64 (-(a.tmod b)) = -(a.tmod b) := by unfold wrap64; omega
              rw [this]; omega
            · omega
end Go.Proofs.YtbdkacfddbiclaaDoor
