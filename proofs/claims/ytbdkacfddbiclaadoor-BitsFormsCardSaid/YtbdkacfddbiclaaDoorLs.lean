/-
  The law BitsOrders, walked over named results.
-/
import Derived.Test.YtbdkacfddbiclaaDoorLd
import Derived.Test.YtbdkacfddbiclaaDoorLo
namespace Go.Proofs.YtbdkacfddbiclaaDoor
open Go.RowKit

/-- The reference's variable: its first type. -/
structure PR (w : World) : Prop where
  q0 : w.cell? ⟨1, 0, none⟩ = some (.int .i64 4)
  q1 : w.cell? ⟨1, 1, none⟩ = some (.bool true)
theorem i4_any (w : World) (hq : PR w) : Calls Tryd.prog 38 #[] w fun e w' => e = .returned (tyV 4 true) ∧ Below w.heap.size w w' := by
  obtain ⟨q0, q1⟩ := hq
  have hsz : 1 < w.heap.size := by
    rcases Nat.lt_or_ge 1 w.heap.size with h' | h'
    · exact h'
    · simp [World.cell?, Array.getElem?_eq_none h'] at q0
  go_enter Tryd.func38, Tryd.ntmps38
  go_wp2_with fail
  refine bodyPost_ret (v := tyV 4 true) (by simp [results, Tryd.results38, go_sem, *]) rfl ⟨rfl, (Gr.below (by repeat (first | (with_reducible exact Gr.refl _) | with_reducible refine Gr.alloc ?_ _ | with_reducible refine Gr.more ?_ _ _ | with_reducible refine Gr.setCell ?_ (by dsimp only; omega) _ | with_reducible refine Gr.drew ?_)))⟩

structure KO (w x : World) (s : Int) (g : Bool) (i j k : Int) : Prop where
  a1 : x.cell? ⟨w.heap.size, 0, none⟩ = some (.int .i64 s)
  b1 : x.cell? ⟨w.heap.size, 1, none⟩ = some (.bool g)
  c0 : x.cell? ⟨w.heap.size + 1, 0, none⟩ = some (.int .i64 i)
  c1 : x.cell? ⟨w.heap.size + 1, 1, none⟩ = some (.int .i64 j)
  c2 : x.cell? ⟨w.heap.size + 1, 2, none⟩ = some (.int .i64 k)
  p0 : x.cell? ⟨0, 0, none⟩ = some (.int .i64 4)
  p1 : x.cell? ⟨0, 1, none⟩ = some (.bool true)
  q0 : x.cell? ⟨1, 0, none⟩ = some (.int .i64 4)
  q1 : x.cell? ⟨1, 1, none⟩ = some (.bool true)
  hB : Below w.heap.size w x
  hz : w.heap.size + 2 ≤ x.heap.size

set_option maxRecDepth 100000 in
set_option maxHeartbeats 4000000 in
theorem orders_bad (s : Int) (g : Bool) (i j k : Int) (HK : RetV 23 #[tyV s g] 10) (w : World) (hp : PI w) (hE : EV w) (hq : PR w) : Calls Tryd.prog 9 #[tyV s g, .agg #[.int .i64 i, .int .i64 j, .int .i64 k]] w fun e w' => e = .returned (.bool true) ∧ Below w.heap.size w w' := by
  obtain ⟨p0, p1, hsz⟩ := hp
  obtain ⟨q0, q1⟩ := hq
  obtain ⟨⟨es, e0, hes⟩, ⟨er, e1, her⟩, _⟩ := hE
  have Hes := Lib.hid hes
  have Her := Lib.hid her
  clear hes her
  go_enter Tryd.func9, Tryd.ntmps9
  go_upto_region 2 with (go_at_call 12; (refine (sane_any _ ?hpp ?hqq).mono ?_); (try case hpp => exact ⟨by go_simp, by go_simp, by go_simp <;> omega⟩); (try case hqq => exact ⟨⟨es, by go_simp, Hes.out⟩, ⟨er, by go_simp, Her.out⟩, by go_simp <;> omega⟩); rintro e w1 ⟨rfl, hb⟩; obtain ⟨os, n, rfl⟩ := Below.moreE hb; clear hb)
  clear e0 e1 Hes Her
  go_wp2_with (go_at_call 23; (with_reducible refine (HK _).mono ?_); rintro e w1 ⟨rfl, hb⟩; obtain ⟨os, n, rfl⟩ := Below.moreE hb; clear hb)
  refine bodyPost_ret (v := .bool true) (by simp [results, Tryd.results9, go_sem]) rfl ⟨rfl, (Gr.below (by repeat (first | (with_reducible exact Gr.refl _) | (with_reducible exact Gr.refl _) | with_reducible refine Gr.alloc ?_ _ | with_reducible refine Gr.more ?_ _ _ | with_reducible refine Gr.setCell ?_ (by dsimp only; omega) _ | with_reducible refine Gr.drew ?_)))⟩

end Go.Proofs.YtbdkacfddbiclaaDoor
