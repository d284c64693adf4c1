/-
  The law BitsRing.
-/
import Derived.Test.YtbdkacfddbiclaaDoorLt
import Derived.Test.YtbdkacfddbiclaaDoorLg
import Derived.Test.YtbdkacfddbiclaaDoorLf
namespace Go.Proofs.YtbdkacfddbiclaaDoor
open Go.RowKit

theorem check_ret (s : Int) (g : Bool) : RetV 23 #[tyV s g] (eT s) := fun w => check_any s g w
theorem lwrap_ret {s : Int} (v : validB s = true) (g : Bool) (x : Int) : RetV 36 #[tyV s g, .int .i64 x] (wrapI s g x) := fun w => by
  have h := lwrap_any s g x w
  rw [v, sel_t] at h
  exact h
theorem eT_bad {s : Int} (v : validB s = false) : eT s = 10 := by simp [eT, v]

theorem op_ring {n : Int} (h : isRing n) {s : Int} (v : validB s = true) (g : Bool) (a b : Int) : RetO n s g a b (prS s) (prG s g) (opV n s g a b) := by
  have p := pr_facts0 s (valid_mem s v) g
  have key : RetB n s g a s g b (cmS s g s g) (cmG s g s g) (wrapI (cmS s g s g) (cmG s g s g) (arI n (cmG s g s g) (opX s g a s g) (opY s g s g b))) 0 := by
    rcases h with rfl | rfl | rfl | rfl | rfl | rfl
    · exact fun w hp => bin_ar1 s g a s g b w hp v v
    · exact fun w hp => bin_ar2 s g a s g b w hp v v
    · exact fun w hp => bin_ar3 s g a s g b w hp v v
    · exact fun w hp => bin_ar6 s g a s g b w hp v v
    · exact fun w hp => bin_ar7 s g a s g b w hp v v
    · exact fun w hp => bin_ar8 s g a s g b w hp v v
  unfold opX opY at key
  rw [p.2.2.2.1, p.2.2.2.2] at key
  exact op_of key
theorem cm_back0 : ∀ s ∈ [(1 : Int), 2, 4, 8], ∀ g : Bool, cmS (prS s) (prG s g) s g = prS s ∧ cmG (prS s) (prG s g) s g = prG s g := by decide +kernel
theorem sub_ring {s : Int} (v : validB s = true) (g : Bool) (x b : Int) : RetB 2 (prS s) (prG s g) x s g b (prS s) (prG s g) (wrapI (prS s) (prG s g) (arI 2 (prG s g) (wrapI (prS s) (prG s g) (wrapI (prS s) (prG s g) x)) (wrapI (prS s) (prG s g) (wrapI s g b)))) 0 := by
  have c := cm_back0 s (valid_mem s v) g
  have h : RetB 2 (prS s) (prG s g) x s g b _ _ _ _ := fun w hp => bin_ar2 (prS s) (prG s g) x s g b w hp (prS_valid v) v
  unfold opX opY at h
  rw [c.1, c.2] at h
  exact h

theorem law_ring (s : Int) (g : Bool) (ts : Int) (tg : Bool) (i j k : Int) (hi : I64 i) (_hj : I64 j) (_hk : I64 k) (w : World) (hp : PI w) (hE : EV w) :
    Calls Tryd.prog 5 #[tyV s g, tyV ts tg, .agg #[.int .i64 i, .int .i64 j, .int .i64 k]] w fun e w' => e = .returned (.bool true) ∧ Below w.heap.size w w' := by
  cases v1 : validB s
  · have h := check_ret s g
    rw [eT_bad v1] at h
    exact ring_bad1 s g ts tg i j k h w hp hE
  cases v2 : validB ts
  · have h1 := check_ret s g
    have h := check_ret ts tg
    rw [eT_bad v2] at h
    rw [eT_ok v1] at h1
    exact ring_bad2 s g ts tg i j k h1 h w hp hE
  have h1 := check_ret s g
  have h2 := check_ret ts tg
  rw [eT_ok v1] at h1
  rw [eT_ok v2] at h2
  by_cases hl : s < ts
  · exact ring_wide s g ts tg i j k h1 h2 hl w hp hE
  have p := pr_facts0 s (valid_mem s v1) g
  have vS := prS_valid v1
  have hop : ∀ {n : Int}, isRing n → ∀ a b : Int, RetO n (prS s) (prG s g) a b (prS s) (prG s g) (opV n (prS s) (prG s g) a b) := fun h a b => by
    have := op_ring h vS (prG s g) a b
    rw [p.2.1, p.2.2.1] at this
    exact this
  have HWu := lwrap_ret vS (prG s g) (wrapI s g i)
  rw [← ring_undo g i j hi] at HWu
  refine ring_good s g ts tg i j k h1 h2 hl (prS s) (prG s g) (prS ts) (prG ts tg) (wrapI ts tg i) (wrapI ts tg j) (fun n => opV n s g i j) (fun n => opV n ts tg (wrapI ts tg i) (wrapI ts tg j)) (fun n => wrapI ts tg (opV n s g i j))
    (fun n => opV n (prS s) (prG s g) i j) (fun n => opV n (prS s) (prG s g) j k) (fun n => opV n (prS s) (prG s g) (opV n (prS s) (prG s g) i j) k)
    (lwrap_ret v2 tg i) (lwrap_ret v2 tg j) (fun n h => op_ring h v1 g i j) (fun n h => op_ring h v2 tg _ _) (fun n _ => lwrap_ret v2 tg _) (fun n h => ?_) (fun n h hn => ?_) (promote_ok s g v1)
    (fun n h => hop h i j) (fun n h => hop h j k) (fun n h => hop h _ k) (fun n h hn => ?_) (wrapI s g i) _ (sub_ring v1 g _ j) (lwrap_ret v1 g i) HWu w hp hE
  · have := lwrap_ret v2 tg (opV n ts tg (wrapI ts tg i) (wrapI ts tg j))
    rw [ring_wrap n h g tg v1 v2 (by omega)] at this
    exact this
  · have := op_ring h v1 g j i
    rw [ring_comm n h hn] at this
    exact this
  · have := hop h i (opV n (prS s) (prG s g) j k)
    rw [ring_assoc n h hn vS p.2.1 (prG s g) p.2.2.1] at this
    exact this
end Go.Proofs.YtbdkacfddbiclaaDoor
