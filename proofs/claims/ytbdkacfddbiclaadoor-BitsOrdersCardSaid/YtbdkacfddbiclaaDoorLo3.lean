/-
  The law BitsOrders.
-/
import Derived.Test.YtbdkacfddbiclaaDoorLo2
import Derived.Test.YtbdkacfddbiclaaDoorLf
namespace Go.Proofs.YtbdkacfddbiclaaDoor
open Go.RowKit

theorem check_ret' (s : Int) (g : Bool) : RetV 23 #[tyV s g] (eT s) := fun w => check_any s g w
theorem lwrap_ret2 {s : Int} (v : validB s = true) (g : Bool) (x : Int) : RetV 36 #[tyV s g, .int .i64 x] (wrapI s g x) := fun w => by
  have h := lwrap_any s g x w
  rw [v, sel_t] at h
  exact h
theorem range_ret {s : Int} (v : validB s = true) (g : Bool) : ∀ w : World, Calls Tryd.prog 13 #[tyV s g] w fun r w' => r = .returned (.tuple #[.int .i64 (rgL s g), .int .i64 (rgH s g), .int .i64 0]) ∧ Below w.heap.size w w' := fun w => by
  have h := brange_any s g w
  rw [v, sel_t, sel_t, eT_ok v] at h
  exact h
/-- A relation of two values of one type, as op gives it. -/
theorem op_rel {s : Int} (v : validB s = true) (g : Bool) {i j : Int} (hi : I64 i) (hj : I64 j) (q : Int) (q0 : 0 ≤ q) (q6 : q < 6) : RetO (11 + q) s g i j 4 true (sel (reB (11 + q) (ordI g (wrapI s g i) (wrapI s g j))) 1 0) := by
  have p := pr_facts0 s (valid_mem s v) g
  have e : ordI (cmG s g s g) (opX s g i s g) (opY s g s g j) = ordI g (wrapI s g i) (wrapI s g j) := by
    unfold opX opY
    rw [p.2.2.2.1, p.2.2.2.2]
    exact ordI_pr s g v _ _ (Rg_wrap s g i hi) (Rg_wrap s g j hj)
  rw [← e]
  have hq : q = 0 ∨ q = 1 ∨ q = 2 ∨ q = 3 ∨ q = 4 ∨ q = 5 := by omega
  rcases hq with rfl | rfl | rfl | rfl | rfl | rfl
  · exact op_of (fun w hp => bin_re11 s g i s g j w hp v v)
  · exact op_of (fun w hp => bin_re12 s g i s g j w hp v v)
  · exact op_of (fun w hp => bin_re13 s g i s g j w hp v v)
  · exact op_of (fun w hp => bin_re14 s g i s g j w hp v v)
  · exact op_of (fun w hp => bin_re15 s g i s g j w hp v v)
  · exact op_of (fun w hp => bin_re16 s g i s g j w hp v v)

theorem law_orders (s : Int) (g : Bool) (i j k : Int) (hi : I64 i) (hj : I64 j) (_ : I64 k) (w : World) (hp : PI w) (hE : EV w) (hq : PR w) :
    Calls Tryd.prog 9 #[tyV s g, .agg #[.int .i64 i, .int .i64 j, .int .i64 k]] w fun e w' => e = .returned (.bool true) ∧ Below w.heap.size w w' := by
  have HK := check_ret' s g
  cases v : validB s
  · rw [show eT s = 10 by simp [eT, v]] at HK
    exact orders_bad s g i j k HK w hp hE hq
  rw [eT_ok v] at HK
  have ra := Rg_wrap s g i hi
  have rb := Rg_wrap s g j hj
  have H01 := compare_ok (g := g) v i j
  have H12 := compare_ok (g := g) v j k
  have H02 := compare_ok (g := g) v i k
  have H10 := compare_ok (g := g) v j i
  have HW0 := lwrap_ret2 v g i
  have HW1 := lwrap_ret2 v g j
  have HO := op_rel v g hi hj
  have o := ord_law g (wrapI s g i) (wrapI s g j) (wrapI s g k) (Rg_I64 ra) (Rg_I64 rb)
  have rw' := rg_wrap s g v
  have rl := rg_least s g v _ ra
  have HA := compare_ok (g := g) v (rgL s g) i
  have HB := compare_ok (g := g) v i (rgH s g)
  have HL := lwrap_ret2 v g (rgL s g)
  have HH := lwrap_ret2 v g (rgH s g)
  rw [rw'.1] at HA HL
  rw [rw'.2] at HB HH
  rw [o.2.1] at H10
  have hx : ordI g (wrapI s g i) (wrapI s g j) = -1 ∨ ordI g (wrapI s g i) (wrapI s g j) = 0 ∨ ordI g (wrapI s g i) (wrapI s g j) = 1 := by omega
  rcases hx with hx | hx | hx
  · rw [hx] at H01 H10 HO o
    have hne : ¬ wrapI s g i = wrapI s g j := fun h => by have := o.2.2.1.2 h; omega
    exact orders_less s g i j k HK _ _ H01 H12 H02 H10 _ _ HW0 HW1 hne (fun h => o.2.2.2.2 (by omega) h) HO _ _ _ _ (range_ret v g) HA rl.1 HB rl.2 HL HH w hp hE hq
  · rw [hx] at H01 H10 HO o
    have he : wrapI s g i = wrapI s g j := o.2.2.1.1 rfl
    rw [← he] at HW1
    exact orders_same s g i j k HK _ _ H01 H12 H02 H10 _ HW0 HW1 (fun h => o.2.2.2.1 (by omega) h) HO _ _ _ _ (range_ret v g) HA rl.1 HB rl.2 HL HH w hp hE hq
  · rw [hx] at H01 H10 HO o
    have hne : ¬ wrapI s g i = wrapI s g j := fun h => by have := o.2.2.1.2 h; omega
    exact orders_more s g i j k HK _ _ H01 H12 H02 H10 _ _ HW0 HW1 hne HO _ _ _ _ (range_ret v g) HA rl.1 HB rl.2 HL HH w hp hE hq
end Go.Proofs.YtbdkacfddbiclaaDoor
