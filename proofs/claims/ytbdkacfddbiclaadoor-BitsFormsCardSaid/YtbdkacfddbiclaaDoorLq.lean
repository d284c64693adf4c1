/-
  The law BitsConverts, walked over named results.
-/
import Derived.Test.YtbdkacfddbiclaaDoorLd
import Derived.Test.YtbdkacfddbiclaaDoorLp
namespace Go.Proofs.YtbdkacfddbiclaaDoor
open Go.RowKit

set_option maxRecDepth 100000 in
set_option maxHeartbeats 4000000 in
theorem converts_bad (s1 : Int) (g1 : Bool) (s2 : Int) (g2 : Bool) (v x : Int) (HC : RetN 21 #[tyV s1 g1, tyV s2 g2, .int .i64 v] x 10) (w : World) (hp : PI w) (hE : EV w) : Calls Tryd.prog 11 #[tyV s1 g1, tyV s2 g2, .int .i64 v] w fun e w' => e = .returned (.bool true) ∧ Below w.heap.size w w' := by
  obtain ⟨p0, p1, hsz⟩ := hp
  obtain ⟨⟨es, e0, hes⟩, ⟨er, e1, her⟩, _⟩ := hE
  have Hes := Lib.hid hes
  have Her := Lib.hid her
  clear hes her
  go_enter Tryd.func11, Tryd.ntmps11
  go_upto_region 2 with (go_at_call 12; (refine (sane_any _ ?hpp ?hqq).mono ?_); (try case hpp => exact ⟨by go_simp, by go_simp, by go_simp <;> omega⟩); (try case hqq => exact ⟨⟨es, by go_simp, Hes.out⟩, ⟨er, by go_simp, Her.out⟩, by go_simp <;> omega⟩); rintro e w1 ⟨rfl, hb⟩; obtain ⟨os, n, rfl⟩ := Below.moreE hb; clear hb)
  clear e0 e1 Hes Her
  go_wp2_with (go_at_call 21; (with_reducible refine (HC _ ?hpp).mono ?_); (try case hpp => exact ⟨by go_simp, by go_simp, by go_simp <;> omega⟩); rintro e w1 ⟨rfl, hb⟩; obtain ⟨os, n, rfl⟩ := Below.moreE hb; clear hb)
  refine bodyPost_ret (v := .bool true) (by simp [results, Tryd.results11, go_sem]) rfl ⟨rfl, (Gr.below (by repeat (first | (with_reducible exact Gr.refl _) | (with_reducible exact Gr.refl _) | with_reducible refine Gr.alloc ?_ _ | with_reducible refine Gr.more ?_ _ _ | with_reducible refine Gr.setCell ?_ (by dsimp only; omega) _ | with_reducible refine Gr.drew ?_)))⟩

set_option maxRecDepth 100000 in
set_option maxHeartbeats 8000000 in
theorem converts_good (s1 : Int) (g1 : Bool) (s2 : Int) (g2 : Bool) (v x : Int) (HC : RetN 21 #[tyV s1 g1, tyV s2 g2, .int .i64 v] x 0) (z : Int) (HW : RetV 36 #[tyV s1 g1, .int .i64 v] z)
    (A B : ByteArray) (HT1 : RetS 31 #[tyV s1 g1, .int .i64 z] A 0) (HT2 : RetS 31 #[tyV s2 g2, .int .i64 x] B 0) (y f : Int) (HP : RetP 33 #[tyV s2 g2, .string A] y f)
    (hf : f = 13 ∨ f = 0 ∧ y = x ∧ B = A) (back : Int) (HB : RetN 21 #[tyV s2 g2, tyV s1 g1, .int .i64 x] back 0) (hs : s2 < s1 ∨ ¬ s2 < s1 ∧ back = z) (w : World) (hp : PI w) (hE : EV w) : Calls Tryd.prog 11 #[tyV s1 g1, tyV s2 g2, .int .i64 v] w fun e w' => e = .returned (.bool true) ∧ Below w.heap.size w w' := by
  obtain ⟨p0, p1, hsz⟩ := hp
  obtain ⟨⟨es, e0, hes⟩, ⟨er, e1, her⟩, _⟩ := hE
  have Hes := Lib.hid hes
  have Her := Lib.hid her
  clear hes her
  go_enter Tryd.func11, Tryd.ntmps11
  go_upto_region 2 with (go_at_call 12; (refine (sane_any _ ?hpp ?hqq).mono ?_); (try case hpp => exact ⟨by go_simp, by go_simp, by go_simp <;> omega⟩); (try case hqq => exact ⟨⟨es, by go_simp, Hes.out⟩, ⟨er, by go_simp, Her.out⟩, by go_simp <;> omega⟩); rintro e w1 ⟨rfl, hb⟩; obtain ⟨os, n, rfl⟩ := Below.moreE hb; clear hb)
  go_upto_region 9 with first | (go_at_call 21; (with_reducible refine (HC _ ?hpp).mono ?_); (try case hpp => exact ⟨by go_simp, by go_simp, by go_simp <;> omega⟩); rintro e w1 ⟨rfl, hb⟩; obtain ⟨os, n, rfl⟩ := Below.moreE hb; clear hb) | (go_at_call 36; (with_reducible refine (HW _).mono ?_); rintro e w1 ⟨rfl, hb⟩; obtain ⟨os, n, rfl⟩ := Below.moreE hb; clear hb) | (go_at_call 31; (with_reducible refine (HT1 _).mono ?_); rintro e w1 ⟨rfl, hb⟩; obtain ⟨os, n, rfl⟩ := Below.moreE hb; clear hb) | (go_at_call 31; (with_reducible refine (HT2 _).mono ?_); rintro e w1 ⟨rfl, hb⟩; obtain ⟨os, n, rfl⟩ := Below.moreE hb; clear hb) | (go_at_call 33; (with_reducible refine (HP _ ?hpp).mono ?_); (try case hpp => exact ⟨⟨es, by go_simp, Hes.out⟩, ⟨er, by go_simp, Her.out⟩, by go_simp <;> omega⟩); rintro e w1 ⟨rfl, hb⟩; obtain ⟨os, n, rfl⟩ := Below.moreE hb; clear hb)
  clear e0 e1 Hes Her
  rcases hf with rfl | ⟨rfl, rfl, rfl⟩
  all_goals
    go_upto_region 11 with fail
    rcases hs with h | ⟨h, rfl⟩
    all_goals
      go_wp2_with (go_at_call 21; (with_reducible refine (HB _ ?hpp).mono ?_); (try case hpp => exact ⟨by go_simp, by go_simp, by go_simp <;> omega⟩); rintro e w1 ⟨rfl, hb⟩; obtain ⟨os, n, rfl⟩ := Below.moreE hb; clear hb)
      refine bodyPost_ret (v := .bool true) (by simp [results, Tryd.results11, go_sem]) rfl ⟨rfl, (Gr.below (by repeat (first | (with_reducible exact Gr.refl _) | (with_reducible exact Gr.refl _) | with_reducible refine Gr.alloc ?_ _ | with_reducible refine Gr.more ?_ _ _ | with_reducible refine Gr.setCell ?_ (by dsimp only; omega) _ | with_reducible refine Gr.drew ?_)))⟩
end Go.Proofs.YtbdkacfddbiclaaDoor
