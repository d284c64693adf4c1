/-
  The law BitsDivides, walked over named results.
-/
import Derived.Test.YtbdkacfddbiclaaDoorLd
import Derived.Test.YtbdkacfddbiclaaDoorLm
namespace Go.Proofs.YtbdkacfddbiclaaDoor
open Go.RowKit

structure KD (w x : World) (s1 : Int) (g1 : Bool) (s2 : Int) (g2 : Bool) (i j : Int) : Prop where
  a1 : x.cell? ⟨w.heap.size, 0, none⟩ = some (.int .i64 s1)
  b1 : x.cell? ⟨w.heap.size, 1, none⟩ = some (.bool g1)
  a2 : x.cell? ⟨w.heap.size + 1, 0, none⟩ = some (.int .i64 s2)
  b2 : x.cell? ⟨w.heap.size + 1, 1, none⟩ = some (.bool g2)
  c0 : x.cell? ⟨w.heap.size + 1 + 1, 0, none⟩ = some (.int .i64 i)
  c1 : x.cell? ⟨w.heap.size + 1 + 1, 1, none⟩ = some (.int .i64 j)
  p0 : x.cell? ⟨0, 0, none⟩ = some (.int .i64 4)
  p1 : x.cell? ⟨0, 1, none⟩ = some (.bool true)
  hB : Below w.heap.size w x
  hz : w.heap.size + 3 ≤ x.heap.size

set_option maxRecDepth 100000 in
set_option maxHeartbeats 4000000 in
theorem divides_bad (s1 : Int) (g1 : Bool) (s2 : Int) (g2 : Bool) (i j : Int) (S : Int) (Sg : Bool) (HU : RetT 17 #[tyV s1 g1, tyV s2 g2] S Sg 10) (w : World) (hp : PI w) (hE : EV w) : Calls Tryd.prog 6 #[tyV s1 g1, tyV s2 g2, .agg #[.int .i64 i, .int .i64 j]] w fun e w' => e = .returned (.bool true) ∧ Below w.heap.size w w' := by
  obtain ⟨p0, p1, hsz⟩ := hp
  obtain ⟨⟨es, e0, hes⟩, ⟨er, e1, her⟩, _⟩ := hE
  have Hes := Lib.hid hes
  have Her := Lib.hid her
  clear hes her
  go_enter Tryd.func6, Tryd.ntmps6
  go_upto_region 2 with (go_at_call 12; (refine (sane_any _ ?hpp ?hqq).mono ?_); (try case hpp => exact ⟨by go_simp, by go_simp, by go_simp <;> omega⟩); (try case hqq => exact ⟨⟨es, by go_simp, Hes.out⟩, ⟨er, by go_simp, Her.out⟩, by go_simp <;> omega⟩); rintro e w1 ⟨rfl, hb⟩; obtain ⟨os, n, rfl⟩ := Below.moreE hb; clear hb)
  clear e0 e1 Hes Her
  go_cut [8, 9] (fun s8 s9 wx => ∃ B : Nat, s8 = .pointer (some ⟨B, 0, none⟩) ∧ s9 = .int .i64 10 ∧ w.heap.size + 3 ≤ B ∧ B < wx.heap.size ∧ wx.cell? ⟨B, 0, none⟩ = some (.int .i64 S) ∧ wx.cell? ⟨B, 1, none⟩ = some (.bool Sg) ∧ KD w wx s1 g1 s2 g2 i j)
  case first =>
    go_wp2_with (go_at_call 17; (with_reducible refine (HU _ ?hpp).mono ?_); (try case hpp => exact ⟨by go_simp, by go_simp, by go_simp <;> omega⟩); rintro e w1 ⟨rfl, hb⟩; obtain ⟨os, n, rfl⟩ := Below.moreE hb; clear hb)
    go_meet
    exact ⟨_, rfl, rfl, by (first | omega | (simp; done) | (simp; omega)), by (first | omega | (simp; done) | (simp; omega)), by go_simp, by go_simp, ⟨by go_simp, by go_simp, by go_simp, by go_simp, by go_simp, by go_simp, by go_simp, by go_simp, (Gr.below (by repeat (first | (with_reducible exact Gr.refl _) | (with_reducible exact hG) | with_reducible refine Gr.alloc ?_ _ | with_reducible refine Gr.more ?_ _ _ | with_reducible refine Gr.setCell ?_ (by dsimp only; omega) _ | with_reducible refine Gr.drew ?_))), by (first | omega | (simp; done) | (simp; omega))⟩⟩
  case rest =>
  clear hsz p0 p1
  obtain ⟨B8, rfl, rfl, bl8, bu8, bx8, by8, hK⟩ := hcut
  obtain ⟨a1, b1, a2, b2, c0, c1, p0, p1, hB, hz⟩ := hK
  have hG : Gr w.heap.size w wc := ⟨hB, by omega⟩
  clear hB
  go_wp2_with fail
  refine bodyPost_ret (v := .bool true) (by simp [results, Tryd.results6, go_sem]) rfl ⟨rfl, (Gr.below (by repeat (first | (with_reducible exact Gr.refl _) | (with_reducible exact hG) | with_reducible refine Gr.alloc ?_ _ | with_reducible refine Gr.more ?_ _ _ | with_reducible refine Gr.setCell ?_ (by dsimp only; omega) _ | with_reducible refine Gr.drew ?_)))⟩

set_option maxRecDepth 100000 in
set_option maxHeartbeats 8000000 in
theorem divides_zero (s1 : Int) (g1 : Bool) (s2 : Int) (g2 : Bool) (i j : Int) (T : Int) (Tg : Bool) (HU : RetT 17 #[tyV s1 g1, tyV s2 g2] T Tg 0) (a : Int) (HC1 : RetN 21 #[tyV s1 g1, tyV T Tg, .int .i64 i] a 0) (HC2 : RetN 21 #[tyV s2 g2, tyV T Tg, .int .i64 j] 0 0)
    (U : Int) (Ug : Bool) (q : Int) (HD : RetB 4 s1 g1 i s2 g2 j U Ug q 12) (V : Int) (Vg : Bool) (r : Int) (HM : RetB 5 s1 g1 i s2 g2 j V Vg r 12) (w : World) (hp : PI w) (hE : EV w) : Calls Tryd.prog 6 #[tyV s1 g1, tyV s2 g2, .agg #[.int .i64 i, .int .i64 j]] w fun e w' => e = .returned (.bool true) ∧ Below w.heap.size w w' := by
  obtain ⟨p0, p1, hsz⟩ := hp
  obtain ⟨⟨es, e0, hes⟩, ⟨er, e1, her⟩, _⟩ := hE
  have Hes := Lib.hid hes
  have Her := Lib.hid her
  clear hes her
  go_enter Tryd.func6, Tryd.ntmps6
  go_upto_region 2 with (go_at_call 12; (refine (sane_any _ ?hpp ?hqq).mono ?_); (try case hpp => exact ⟨by go_simp, by go_simp, by go_simp <;> omega⟩); (try case hqq => exact ⟨⟨es, by go_simp, Hes.out⟩, ⟨er, by go_simp, Her.out⟩, by go_simp <;> omega⟩); rintro e w1 ⟨rfl, hb⟩; obtain ⟨os, n, rfl⟩ := Below.moreE hb; clear hb)
  clear e0 e1 Hes Her
  go_cut [8, 9] (fun s8 s9 wx => ∃ B : Nat, s8 = .pointer (some ⟨B, 0, none⟩) ∧ s9 = .int .i64 0 ∧ w.heap.size + 3 ≤ B ∧ B < wx.heap.size ∧ wx.cell? ⟨B, 0, none⟩ = some (.int .i64 T) ∧ wx.cell? ⟨B, 1, none⟩ = some (.bool Tg) ∧ KD w wx s1 g1 s2 g2 i j)
  case first =>
    go_wp2_with (go_at_call 17; (with_reducible refine (HU _ ?hpp).mono ?_); (try case hpp => exact ⟨by go_simp, by go_simp, by go_simp <;> omega⟩); rintro e w1 ⟨rfl, hb⟩; obtain ⟨os, n, rfl⟩ := Below.moreE hb; clear hb)
    go_meet
    exact ⟨_, rfl, rfl, by (first | omega | (simp; done) | (simp; omega)), by (first | omega | (simp; done) | (simp; omega)), by go_simp, by go_simp, ⟨by go_simp, by go_simp, by go_simp, by go_simp, by go_simp, by go_simp, by go_simp, by go_simp, (Gr.below (by repeat (first | (with_reducible exact Gr.refl _) | (with_reducible exact hG) | with_reducible refine Gr.alloc ?_ _ | with_reducible refine Gr.more ?_ _ _ | with_reducible refine Gr.setCell ?_ (by dsimp only; omega) _ | with_reducible refine Gr.drew ?_))), by (first | omega | (simp; done) | (simp; omega))⟩⟩
  case rest =>
  clear hsz p0 p1
  obtain ⟨B8, rfl, rfl, bl8, bu8, bx8, by8, hK⟩ := hcut
  obtain ⟨a1, b1, a2, b2, c0, c1, p0, p1, hB, hz⟩ := hK
  have hG : Gr w.heap.size w wc := ⟨hB, by omega⟩
  clear hB
  go_upto_region 5 with fail
  go_upto_region 6 with (go_at_call 21; (with_reducible refine (HC1 _ ?hpp).mono ?_); (try case hpp => exact ⟨by go_simp, by go_simp, by go_simp <;> omega⟩); rintro e w1 ⟨rfl, hb⟩; obtain ⟨os, n, rfl⟩ := Below.moreE hb; clear hb)
  go_upto_region 7 with (go_at_call 21; (with_reducible refine (HC2 _ ?hpp).mono ?_); (try case hpp => exact ⟨by go_simp, by go_simp, by go_simp <;> omega⟩); rintro e w1 ⟨rfl, hb⟩; obtain ⟨os, n, rfl⟩ := Below.moreE hb; clear hb)
  go_cut [14, 15, 16] (fun s14 s15 s16 wx => ∃ B : Nat, s14 = .pointer (some ⟨B, 0, none⟩) ∧ s15 = .int .i64 q ∧ s16 = .int .i64 12 ∧ w.heap.size + 3 ≤ B ∧ B < wx.heap.size ∧ wx.cell? ⟨B, 0, none⟩ = some (.int .i64 U) ∧ wx.cell? ⟨B, 1, none⟩ = some (.bool Ug) ∧ B8 < wx.heap.size ∧ wx.cell? ⟨B8, 0, none⟩ = some (.int .i64 T) ∧ wx.cell? ⟨B8, 1, none⟩ = some (.bool Tg) ∧ KD w wx s1 g1 s2 g2 i j)
  case first =>
    go_wp2_with (go_at_call 37; (with_reducible refine (HD _ ?hpp).mono ?_); (try case hpp => exact ⟨by go_simp, by go_simp, by go_simp <;> omega⟩); rintro e w1 ⟨rfl, hb⟩; obtain ⟨os, n, rfl⟩ := Below.moreE hb; clear hb)
    go_meet
    exact ⟨_, rfl, rfl, rfl, by (first | omega | (simp; done) | (simp; omega)), by (first | omega | (simp; done) | (simp; omega)), by go_simp, by go_simp, by (first | omega | (simp; done) | (simp; omega)), by go_simp, by go_simp, ⟨by go_simp, by go_simp, by go_simp, by go_simp, by go_simp, by go_simp, by go_simp, by go_simp, (Gr.below (by repeat (first | (with_reducible exact Gr.refl _) | (with_reducible exact hG) | with_reducible refine Gr.alloc ?_ _ | with_reducible refine Gr.more ?_ _ _ | with_reducible refine Gr.setCell ?_ (by dsimp only; omega) _ | with_reducible refine Gr.drew ?_))), by (first | omega | (simp; done) | (simp; omega))⟩⟩
  case rest =>
  clear hz hG a1 b1 a2 b2 c0 c1 p0 p1 bu8 bx8 by8
  obtain ⟨B14, rfl, rfl, rfl, bl14, bu14, bx14, by14, bu8, bx8, by8, hK⟩ := hcut
  obtain ⟨a1, b1, a2, b2, c0, c1, p0, p1, hB, hz⟩ := hK
  have hG : Gr w.heap.size w wc := ⟨hB, by omega⟩
  clear hB
  go_upto_region 8 with fail
  go_cut [17, 18, 19] (fun s17 s18 s19 wx => ∃ B : Nat, s17 = .pointer (some ⟨B, 0, none⟩) ∧ s18 = .int .i64 r ∧ s19 = .int .i64 12 ∧ w.heap.size + 3 ≤ B ∧ B < wx.heap.size ∧ wx.cell? ⟨B, 0, none⟩ = some (.int .i64 V) ∧ wx.cell? ⟨B, 1, none⟩ = some (.bool Vg) ∧ B14 < wx.heap.size ∧ wx.cell? ⟨B14, 0, none⟩ = some (.int .i64 U) ∧ wx.cell? ⟨B14, 1, none⟩ = some (.bool Ug) ∧ B8 < wx.heap.size ∧ wx.cell? ⟨B8, 0, none⟩ = some (.int .i64 T) ∧ wx.cell? ⟨B8, 1, none⟩ = some (.bool Tg) ∧ KD w wx s1 g1 s2 g2 i j)
  case first =>
    go_wp2_with (go_at_call 37; (with_reducible refine (HM _ ?hpp).mono ?_); (try case hpp => exact ⟨by go_simp, by go_simp, by go_simp <;> omega⟩); rintro e w1 ⟨rfl, hb⟩; obtain ⟨os, n, rfl⟩ := Below.moreE hb; clear hb)
    go_meet
    exact ⟨_, rfl, rfl, rfl, by (first | omega | (simp; done) | (simp; omega)), by (first | omega | (simp; done) | (simp; omega)), by go_simp, by go_simp, by (first | omega | (simp; done) | (simp; omega)), by go_simp, by go_simp, by (first | omega | (simp; done) | (simp; omega)), by go_simp, by go_simp, ⟨by go_simp, by go_simp, by go_simp, by go_simp, by go_simp, by go_simp, by go_simp, by go_simp, (Gr.below (by repeat (first | (with_reducible exact Gr.refl _) | (with_reducible exact hG) | with_reducible refine Gr.alloc ?_ _ | with_reducible refine Gr.more ?_ _ _ | with_reducible refine Gr.setCell ?_ (by dsimp only; omega) _ | with_reducible refine Gr.drew ?_))), by (first | omega | (simp; done) | (simp; omega))⟩⟩
  case rest =>
  clear hz hG a1 b1 a2 b2 c0 c1 p0 p1 bu14 bx14 by14 bu8 bx8 by8
  obtain ⟨B17, rfl, rfl, rfl, bl17, bu17, bx17, by17, bu14, bx14, by14, bu8, bx8, by8, hK⟩ := hcut
  obtain ⟨a1, b1, a2, b2, c0, c1, p0, p1, hB, hz⟩ := hK
  have hG : Gr w.heap.size w wc := ⟨hB, by omega⟩
  clear hB
  go_wp2_with fail
  refine bodyPost_ret (v := .bool true) (by simp [results, Tryd.results6, go_sem]) rfl ⟨rfl, (Gr.below (by repeat (first | (with_reducible exact Gr.refl _) | (with_reducible exact hG) | with_reducible refine Gr.alloc ?_ _ | with_reducible refine Gr.more ?_ _ _ | with_reducible refine Gr.setCell ?_ (by dsimp only; omega) _ | with_reducible refine Gr.drew ?_)))⟩

set_option maxRecDepth 100000 in
set_option maxHeartbeats 8000000 in
theorem divides_unsigned (s1 : Int) (g1 : Bool) (s2 : Int) (g2 : Bool) (i j : Int) (T : Int) (HU : RetT 17 #[tyV s1 g1, tyV s2 g2] T false 0) (a b : Int) (HC1 : RetN 21 #[tyV s1 g1, tyV T false, .int .i64 i] a 0) (HC2 : RetN 21 #[tyV s2 g2, tyV T false, .int .i64 j] b 0)
    (q : Int) (HD : RetB 4 s1 g1 i s2 g2 j T false q 0) (r : Int) (HM : RetB 5 s1 g1 i s2 g2 j T false r 0) (hb0 : ¬ b = 0) (X1 : Int) (X1g : Bool) (m : Int) (HO1 : RetO 3 T false q b X1 X1g m) (X2 : Int) (X2g : Bool) (HO2 : RetO 1 T false m r X2 X2g a) (n : Int) (HN : RetM 25 #[tyV T false, .int .i64 r, .int .i64 b] n 0) (hn : n < 0) (w : World) (hp : PI w) (hE : EV w) : Calls Tryd.prog 6 #[tyV s1 g1, tyV s2 g2, .agg #[.int .i64 i, .int .i64 j]] w fun e w' => e = .returned (.bool true) ∧ Below w.heap.size w w' := by
  obtain ⟨p0, p1, hsz⟩ := hp
  obtain ⟨⟨es, e0, hes⟩, ⟨er, e1, her⟩, _⟩ := hE
  have Hes := Lib.hid hes
  have Her := Lib.hid her
  clear hes her
  go_enter Tryd.func6, Tryd.ntmps6
  go_upto_region 2 with (go_at_call 12; (refine (sane_any _ ?hpp ?hqq).mono ?_); (try case hpp => exact ⟨by go_simp, by go_simp, by go_simp <;> omega⟩); (try case hqq => exact ⟨⟨es, by go_simp, Hes.out⟩, ⟨er, by go_simp, Her.out⟩, by go_simp <;> omega⟩); rintro e w1 ⟨rfl, hb⟩; obtain ⟨os, n, rfl⟩ := Below.moreE hb; clear hb)
  clear e0 e1 Hes Her
  go_cut [8, 9] (fun s8 s9 wx => ∃ B : Nat, s8 = .pointer (some ⟨B, 0, none⟩) ∧ s9 = .int .i64 0 ∧ w.heap.size + 3 ≤ B ∧ B < wx.heap.size ∧ wx.cell? ⟨B, 0, none⟩ = some (.int .i64 T) ∧ wx.cell? ⟨B, 1, none⟩ = some (.bool false) ∧ KD w wx s1 g1 s2 g2 i j)
  case first =>
    go_wp2_with (go_at_call 17; (with_reducible refine (HU _ ?hpp).mono ?_); (try case hpp => exact ⟨by go_simp, by go_simp, by go_simp <;> omega⟩); rintro e w1 ⟨rfl, hb⟩; obtain ⟨os, n, rfl⟩ := Below.moreE hb; clear hb)
    go_meet
    exact ⟨_, rfl, rfl, by (first | omega | (simp; done) | (simp; omega)), by (first | omega | (simp; done) | (simp; omega)), by go_simp, by go_simp, ⟨by go_simp, by go_simp, by go_simp, by go_simp, by go_simp, by go_simp, by go_simp, by go_simp, (Gr.below (by repeat (first | (with_reducible exact Gr.refl _) | (with_reducible exact hG) | with_reducible refine Gr.alloc ?_ _ | with_reducible refine Gr.more ?_ _ _ | with_reducible refine Gr.setCell ?_ (by dsimp only; omega) _ | with_reducible refine Gr.drew ?_))), by (first | omega | (simp; done) | (simp; omega))⟩⟩
  case rest =>
  clear hsz p0 p1
  obtain ⟨B8, rfl, rfl, bl8, bu8, bx8, by8, hK⟩ := hcut
  obtain ⟨a1, b1, a2, b2, c0, c1, p0, p1, hB, hz⟩ := hK
  have hG : Gr w.heap.size w wc := ⟨hB, by omega⟩
  clear hB
  go_upto_region 7 with first | (go_at_call 21; (with_reducible refine (HC1 _ ?hpp).mono ?_); (try case hpp => exact ⟨by go_simp, by go_simp, by go_simp <;> omega⟩); rintro e w1 ⟨rfl, hb⟩; obtain ⟨os, n, rfl⟩ := Below.moreE hb; clear hb) | (go_at_call 21; (with_reducible refine (HC2 _ ?hpp).mono ?_); (try case hpp => exact ⟨by go_simp, by go_simp, by go_simp <;> omega⟩); rintro e w1 ⟨rfl, hb⟩; obtain ⟨os, n, rfl⟩ := Below.moreE hb; clear hb)
  go_cut [14, 15, 16] (fun s14 s15 s16 wx => ∃ B : Nat, s14 = .pointer (some ⟨B, 0, none⟩) ∧ s15 = .int .i64 q ∧ s16 = .int .i64 0 ∧ w.heap.size + 3 ≤ B ∧ B < wx.heap.size ∧ wx.cell? ⟨B, 0, none⟩ = some (.int .i64 T) ∧ wx.cell? ⟨B, 1, none⟩ = some (.bool false) ∧ B8 < wx.heap.size ∧ wx.cell? ⟨B8, 0, none⟩ = some (.int .i64 T) ∧ wx.cell? ⟨B8, 1, none⟩ = some (.bool false) ∧ KD w wx s1 g1 s2 g2 i j)
  case first =>
    go_wp2_with (go_at_call 37; (with_reducible refine (HD _ ?hpp).mono ?_); (try case hpp => exact ⟨by go_simp, by go_simp, by go_simp <;> omega⟩); rintro e w1 ⟨rfl, hb⟩; obtain ⟨os, n, rfl⟩ := Below.moreE hb; clear hb)
    go_meet
    exact ⟨_, rfl, rfl, rfl, by (first | omega | (simp; done) | (simp; omega)), by (first | omega | (simp; done) | (simp; omega)), by go_simp, by go_simp, by (first | omega | (simp; done) | (simp; omega)), by go_simp, by go_simp, ⟨by go_simp, by go_simp, by go_simp, by go_simp, by go_simp, by go_simp, by go_simp, by go_simp, (Gr.below (by repeat (first | (with_reducible exact Gr.refl _) | (with_reducible exact hG) | with_reducible refine Gr.alloc ?_ _ | with_reducible refine Gr.more ?_ _ _ | with_reducible refine Gr.setCell ?_ (by dsimp only; omega) _ | with_reducible refine Gr.drew ?_))), by (first | omega | (simp; done) | (simp; omega))⟩⟩
  case rest =>
  clear hz hG a1 b1 a2 b2 c0 c1 p0 p1 bu8 bx8 by8
  obtain ⟨B14, rfl, rfl, rfl, bl14, bu14, bx14, by14, bu8, bx8, by8, hK⟩ := hcut
  obtain ⟨a1, b1, a2, b2, c0, c1, p0, p1, hB, hz⟩ := hK
  have hG : Gr w.heap.size w wc := ⟨hB, by omega⟩
  clear hB
  go_upto_region 8 with fail
  go_cut [17, 18, 19] (fun s17 s18 s19 wx => ∃ B : Nat, s17 = .pointer (some ⟨B, 0, none⟩) ∧ s18 = .int .i64 r ∧ s19 = .int .i64 0 ∧ w.heap.size + 3 ≤ B ∧ B < wx.heap.size ∧ wx.cell? ⟨B, 0, none⟩ = some (.int .i64 T) ∧ wx.cell? ⟨B, 1, none⟩ = some (.bool false) ∧ B14 < wx.heap.size ∧ wx.cell? ⟨B14, 0, none⟩ = some (.int .i64 T) ∧ wx.cell? ⟨B14, 1, none⟩ = some (.bool false) ∧ B8 < wx.heap.size ∧ wx.cell? ⟨B8, 0, none⟩ = some (.int .i64 T) ∧ wx.cell? ⟨B8, 1, none⟩ = some (.bool false) ∧ KD w wx s1 g1 s2 g2 i j)
  case first =>
    go_wp2_with (go_at_call 37; (with_reducible refine (HM _ ?hpp).mono ?_); (try case hpp => exact ⟨by go_simp, by go_simp, by go_simp <;> omega⟩); rintro e w1 ⟨rfl, hb⟩; obtain ⟨os, n, rfl⟩ := Below.moreE hb; clear hb)
    go_meet
    exact ⟨_, rfl, rfl, rfl, by (first | omega | (simp; done) | (simp; omega)), by (first | omega | (simp; done) | (simp; omega)), by go_simp, by go_simp, by (first | omega | (simp; done) | (simp; omega)), by go_simp, by go_simp, by (first | omega | (simp; done) | (simp; omega)), by go_simp, by go_simp, ⟨by go_simp, by go_simp, by go_simp, by go_simp, by go_simp, by go_simp, by go_simp, by go_simp, (Gr.below (by repeat (first | (with_reducible exact Gr.refl _) | (with_reducible exact hG) | with_reducible refine Gr.alloc ?_ _ | with_reducible refine Gr.more ?_ _ _ | with_reducible refine Gr.setCell ?_ (by dsimp only; omega) _ | with_reducible refine Gr.drew ?_))), by (first | omega | (simp; done) | (simp; omega))⟩⟩
  case rest =>
  clear hz hG a1 b1 a2 b2 c0 c1 p0 p1 bu14 bx14 by14 bu8 bx8 by8
  obtain ⟨B17, rfl, rfl, rfl, bl17, bu17, bx17, by17, bu14, bx14, by14, bu8, bx8, by8, hK⟩ := hcut
  obtain ⟨a1, b1, a2, b2, c0, c1, p0, p1, hB, hz⟩ := hK
  have hG : Gr w.heap.size w wc := ⟨hB, by omega⟩
  clear hB
  go_upto_region 13 with fail
  go_cut [20, 21] (fun s20 s21 wx => ∃ B : Nat, s20 = .pointer (some ⟨B, 0, none⟩) ∧ s21 = .int .i64 m ∧ w.heap.size + 3 ≤ B ∧ B < wx.heap.size ∧ wx.cell? ⟨B, 0, none⟩ = some (.int .i64 X1) ∧ wx.cell? ⟨B, 1, none⟩ = some (.bool X1g) ∧ B8 < wx.heap.size ∧ wx.cell? ⟨B8, 0, none⟩ = some (.int .i64 T) ∧ wx.cell? ⟨B8, 1, none⟩ = some (.bool false) ∧ KD w wx s1 g1 s2 g2 i j)
  case first =>
    go_wp2_with (go_at_call 35; (with_reducible refine (HO1 _ ?hpp).mono ?_); (try case hpp => exact ⟨by go_simp, by go_simp, by go_simp <;> omega⟩); rintro e w1 ⟨rfl, hb⟩; obtain ⟨os, n, rfl⟩ := Below.moreE hb; clear hb)
    go_meet
    exact ⟨_, rfl, rfl, by (first | omega | (simp; done) | (simp; omega)), by (first | omega | (simp; done) | (simp; omega)), by go_simp, by go_simp, by (first | omega | (simp; done) | (simp; omega)), by go_simp, by go_simp, ⟨by go_simp, by go_simp, by go_simp, by go_simp, by go_simp, by go_simp, by go_simp, by go_simp, (Gr.below (by repeat (first | (with_reducible exact Gr.refl _) | (with_reducible exact hG) | with_reducible refine Gr.alloc ?_ _ | with_reducible refine Gr.more ?_ _ _ | with_reducible refine Gr.setCell ?_ (by dsimp only; omega) _ | with_reducible refine Gr.drew ?_))), by (first | omega | (simp; done) | (simp; omega))⟩⟩
  case rest =>
  clear hz hG a1 b1 a2 b2 c0 c1 p0 p1 bu17 bx17 by17 bu14 bx14 by14 bu8 bx8 by8
  obtain ⟨B20, rfl, rfl, bl20, bu20, bx20, by20, bu8, bx8, by8, hK⟩ := hcut
  obtain ⟨a1, b1, a2, b2, c0, c1, p0, p1, hB, hz⟩ := hK
  have hG : Gr w.heap.size w wc := ⟨hB, by omega⟩
  clear hB
  go_upto_region 14 with fail
  go_cut [22, 23] (fun s22 s23 wx => ∃ B : Nat, s22 = .pointer (some ⟨B, 0, none⟩) ∧ s23 = .int .i64 a ∧ w.heap.size + 3 ≤ B ∧ B < wx.heap.size ∧ wx.cell? ⟨B, 0, none⟩ = some (.int .i64 X2) ∧ wx.cell? ⟨B, 1, none⟩ = some (.bool X2g) ∧ B8 < wx.heap.size ∧ wx.cell? ⟨B8, 0, none⟩ = some (.int .i64 T) ∧ wx.cell? ⟨B8, 1, none⟩ = some (.bool false) ∧ KD w wx s1 g1 s2 g2 i j)
  case first =>
    go_wp2_with (go_at_call 35; (with_reducible refine (HO2 _ ?hpp).mono ?_); (try case hpp => exact ⟨by go_simp, by go_simp, by go_simp <;> omega⟩); rintro e w1 ⟨rfl, hb⟩; obtain ⟨os, n, rfl⟩ := Below.moreE hb; clear hb)
    go_meet
    exact ⟨_, rfl, rfl, by (first | omega | (simp; done) | (simp; omega)), by (first | omega | (simp; done) | (simp; omega)), by go_simp, by go_simp, by (first | omega | (simp; done) | (simp; omega)), by go_simp, by go_simp, ⟨by go_simp, by go_simp, by go_simp, by go_simp, by go_simp, by go_simp, by go_simp, by go_simp, (Gr.below (by repeat (first | (with_reducible exact Gr.refl _) | (with_reducible exact hG) | with_reducible refine Gr.alloc ?_ _ | with_reducible refine Gr.more ?_ _ _ | with_reducible refine Gr.setCell ?_ (by dsimp only; omega) _ | with_reducible refine Gr.drew ?_))), by (first | omega | (simp; done) | (simp; omega))⟩⟩
  case rest =>
  clear hz hG a1 b1 a2 b2 c0 c1 p0 p1 bu20 bx20 by20 bu8 bx8 by8
  obtain ⟨B22, rfl, rfl, bl22, bu22, bx22, by22, bu8, bx8, by8, hK⟩ := hcut
  obtain ⟨a1, b1, a2, b2, c0, c1, p0, p1, hB, hz⟩ := hK
  have hG : Gr w.heap.size w wc := ⟨hB, by omega⟩
  clear hB
  go_upto_region 18 with fail
  go_wp2_with (go_at_call 25; (with_reducible refine (HN _).mono ?_); rintro e w1 ⟨rfl, hb⟩; obtain ⟨os, n, rfl⟩ := Below.moreE hb; clear hb)
  refine bodyPost_ret (v := .bool true) (by simp [results, Tryd.results6, go_sem, *]) rfl ⟨rfl, (Gr.below (by repeat (first | (with_reducible exact Gr.refl _) | (with_reducible exact hG) | with_reducible refine Gr.alloc ?_ _ | with_reducible refine Gr.more ?_ _ _ | with_reducible refine Gr.setCell ?_ (by dsimp only; omega) _ | with_reducible refine Gr.drew ?_)))⟩

set_option maxRecDepth 100000 in
set_option maxHeartbeats 8000000 in
theorem divides_signed (s1 : Int) (g1 : Bool) (s2 : Int) (g2 : Bool) (i j : Int) (T : Int) (HU : RetT 17 #[tyV s1 g1, tyV s2 g2] T true 0) (a b : Int) (HC1 : RetN 21 #[tyV s1 g1, tyV T true, .int .i64 i] a 0) (HC2 : RetN 21 #[tyV s2 g2, tyV T true, .int .i64 j] b 0)
    (q : Int) (HD : RetB 4 s1 g1 i s2 g2 j T true q 0) (r : Int) (HM : RetB 5 s1 g1 i s2 g2 j T true r 0) (hb0 : ¬ b = 0) (X1 : Int) (X1g : Bool) (m : Int) (HO1 : RetO 3 T true q b X1 X1g m) (X2 : Int) (X2g : Bool) (HO2 : RetO 1 T true m r X2 X2g a) (hc : r = 0 ∧ a < 0 ∨ r = 0 ∧ ¬ a < 0 ∨ r < 0 ∧ a < 0 ∨ 0 < r ∧ ¬ a < 0)
    (hfin : (if 0 < b then wrap64 (-b) else b) < (if 0 < r then wrap64 (-r) else r)) (w : World) (hp : PI w) (hE : EV w) : Calls Tryd.prog 6 #[tyV s1 g1, tyV s2 g2, .agg #[.int .i64 i, .int .i64 j]] w fun e w' => e = .returned (.bool true) ∧ Below w.heap.size w w' := by
  obtain ⟨p0, p1, hsz⟩ := hp
  obtain ⟨⟨es, e0, hes⟩, ⟨er, e1, her⟩, _⟩ := hE
  have Hes := Lib.hid hes
  have Her := Lib.hid her
  clear hes her
  go_enter Tryd.func6, Tryd.ntmps6
  go_upto_region 2 with (go_at_call 12; (refine (sane_any _ ?hpp ?hqq).mono ?_); (try case hpp => exact ⟨by go_simp, by go_simp, by go_simp <;> omega⟩); (try case hqq => exact ⟨⟨es, by go_simp, Hes.out⟩, ⟨er, by go_simp, Her.out⟩, by go_simp <;> omega⟩); rintro e w1 ⟨rfl, hb⟩; obtain ⟨os, n, rfl⟩ := Below.moreE hb; clear hb)
  clear e0 e1 Hes Her
  go_cut [8, 9] (fun s8 s9 wx => ∃ B : Nat, s8 = .pointer (some ⟨B, 0, none⟩) ∧ s9 = .int .i64 0 ∧ w.heap.size + 3 ≤ B ∧ B < wx.heap.size ∧ wx.cell? ⟨B, 0, none⟩ = some (.int .i64 T) ∧ wx.cell? ⟨B, 1, none⟩ = some (.bool true) ∧ KD w wx s1 g1 s2 g2 i j)
  case first =>
    go_wp2_with (go_at_call 17; (with_reducible refine (HU _ ?hpp).mono ?_); (try case hpp => exact ⟨by go_simp, by go_simp, by go_simp <;> omega⟩); rintro e w1 ⟨rfl, hb⟩; obtain ⟨os, n, rfl⟩ := Below.moreE hb; clear hb)
    go_meet
    exact ⟨_, rfl, rfl, by (first | omega | (simp; done) | (simp; omega)), by (first | omega | (simp; done) | (simp; omega)), by go_simp, by go_simp, ⟨by go_simp, by go_simp, by go_simp, by go_simp, by go_simp, by go_simp, by go_simp, by go_simp, (Gr.below (by repeat (first | (with_reducible exact Gr.refl _) | (with_reducible exact hG) | with_reducible refine Gr.alloc ?_ _ | with_reducible refine Gr.more ?_ _ _ | with_reducible refine Gr.setCell ?_ (by dsimp only; omega) _ | with_reducible refine Gr.drew ?_))), by (first | omega | (simp; done) | (simp; omega))⟩⟩
  case rest =>
  clear hsz p0 p1
  obtain ⟨B8, rfl, rfl, bl8, bu8, bx8, by8, hK⟩ := hcut
  obtain ⟨a1, b1, a2, b2, c0, c1, p0, p1, hB, hz⟩ := hK
  have hG : Gr w.heap.size w wc := ⟨hB, by omega⟩
  clear hB
  go_upto_region 7 with first | (go_at_call 21; (with_reducible refine (HC1 _ ?hpp).mono ?_); (try case hpp => exact ⟨by go_simp, by go_simp, by go_simp <;> omega⟩); rintro e w1 ⟨rfl, hb⟩; obtain ⟨os, n, rfl⟩ := Below.moreE hb; clear hb) | (go_at_call 21; (with_reducible refine (HC2 _ ?hpp).mono ?_); (try case hpp => exact ⟨by go_simp, by go_simp, by go_simp <;> omega⟩); rintro e w1 ⟨rfl, hb⟩; obtain ⟨os, n, rfl⟩ := Below.moreE hb; clear hb)
  go_cut [14, 15, 16] (fun s14 s15 s16 wx => ∃ B : Nat, s14 = .pointer (some ⟨B, 0, none⟩) ∧ s15 = .int .i64 q ∧ s16 = .int .i64 0 ∧ w.heap.size + 3 ≤ B ∧ B < wx.heap.size ∧ wx.cell? ⟨B, 0, none⟩ = some (.int .i64 T) ∧ wx.cell? ⟨B, 1, none⟩ = some (.bool true) ∧ B8 < wx.heap.size ∧ wx.cell? ⟨B8, 0, none⟩ = some (.int .i64 T) ∧ wx.cell? ⟨B8, 1, none⟩ = some (.bool true) ∧ KD w wx s1 g1 s2 g2 i j)
  case first =>
    go_wp2_with (go_at_call 37; (with_reducible refine (HD _ ?hpp).mono ?_); (try case hpp => exact ⟨by go_simp, by go_simp, by go_simp <;> omega⟩); rintro e w1 ⟨rfl, hb⟩; obtain ⟨os, n, rfl⟩ := Below.moreE hb; clear hb)
    go_meet
    exact ⟨_, rfl, rfl, rfl, by (first | omega | (simp; done) | (simp; omega)), by (first | omega | (simp; done) | (simp; omega)), by go_simp, by go_simp, by (first | omega | (simp; done) | (simp; omega)), by go_simp, by go_simp, ⟨by go_simp, by go_simp, by go_simp, by go_simp, by go_simp, by go_simp, by go_simp, by go_simp, (Gr.below (by repeat (first | (with_reducible exact Gr.refl _) | (with_reducible exact hG) | with_reducible refine Gr.alloc ?_ _ | with_reducible refine Gr.more ?_ _ _ | with_reducible refine Gr.setCell ?_ (by dsimp only; omega) _ | with_reducible refine Gr.drew ?_))), by (first | omega | (simp; done) | (simp; omega))⟩⟩
  case rest =>
  clear hz hG a1 b1 a2 b2 c0 c1 p0 p1 bu8 bx8 by8
  obtain ⟨B14, rfl, rfl, rfl, bl14, bu14, bx14, by14, bu8, bx8, by8, hK⟩ := hcut
  obtain ⟨a1, b1, a2, b2, c0, c1, p0, p1, hB, hz⟩ := hK
  have hG : Gr w.heap.size w wc := ⟨hB, by omega⟩
  clear hB
  go_upto_region 8 with fail
  go_cut [17, 18, 19] (fun s17 s18 s19 wx => ∃ B : Nat, s17 = .pointer (some ⟨B, 0, none⟩) ∧ s18 = .int .i64 r ∧ s19 = .int .i64 0 ∧ w.heap.size + 3 ≤ B ∧ B < wx.heap.size ∧ wx.cell? ⟨B, 0, none⟩ = some (.int .i64 T) ∧ wx.cell? ⟨B, 1, none⟩ = some (.bool true) ∧ B14 < wx.heap.size ∧ wx.cell? ⟨B14, 0, none⟩ = some (.int .i64 T) ∧ wx.cell? ⟨B14, 1, none⟩ = some (.bool true) ∧ B8 < wx.heap.size ∧ wx.cell? ⟨B8, 0, none⟩ = some (.int .i64 T) ∧ wx.cell? ⟨B8, 1, none⟩ = some (.bool true) ∧ KD w wx s1 g1 s2 g2 i j)
  case first =>
    go_wp2_with (go_at_call 37; (with_reducible refine (HM _ ?hpp).mono ?_); (try case hpp => exact ⟨by go_simp, by go_simp, by go_simp <;> omega⟩); rintro e w1 ⟨rfl, hb⟩; obtain ⟨os, n, rfl⟩ := Below.moreE hb; clear hb)
    go_meet
    exact ⟨_, rfl, rfl, rfl, by (first | omega | (simp; done) | (simp; omega)), by (first | omega | (simp; done) | (simp; omega)), by go_simp, by go_simp, by (first | omega | (simp; done) | (simp; omega)), by go_simp, by go_simp, by (first | omega | (simp; done) | (simp; omega)), by go_simp, by go_simp, ⟨by go_simp, by go_simp, by go_simp, by go_simp, by go_simp, by go_simp, by go_simp, by go_simp, (Gr.below (by repeat (first | (with_reducible exact Gr.refl _) | (with_reducible exact hG) | with_reducible refine Gr.alloc ?_ _ | with_reducible refine Gr.more ?_ _ _ | with_reducible refine Gr.setCell ?_ (by dsimp only; omega) _ | with_reducible refine Gr.drew ?_))), by (first | omega | (simp; done) | (simp; omega))⟩⟩
  case rest =>
  clear hz hG a1 b1 a2 b2 c0 c1 p0 p1 bu14 bx14 by14 bu8 bx8 by8
  obtain ⟨B17, rfl, rfl, rfl, bl17, bu17, bx17, by17, bu14, bx14, by14, bu8, bx8, by8, hK⟩ := hcut
  obtain ⟨a1, b1, a2, b2, c0, c1, p0, p1, hB, hz⟩ := hK
  have hG : Gr w.heap.size w wc := ⟨hB, by omega⟩
  clear hB
  go_upto_region 13 with fail
  go_cut [20, 21] (fun s20 s21 wx => ∃ B : Nat, s20 = .pointer (some ⟨B, 0, none⟩) ∧ s21 = .int .i64 m ∧ w.heap.size + 3 ≤ B ∧ B < wx.heap.size ∧ wx.cell? ⟨B, 0, none⟩ = some (.int .i64 X1) ∧ wx.cell? ⟨B, 1, none⟩ = some (.bool X1g) ∧ B8 < wx.heap.size ∧ wx.cell? ⟨B8, 0, none⟩ = some (.int .i64 T) ∧ wx.cell? ⟨B8, 1, none⟩ = some (.bool true) ∧ KD w wx s1 g1 s2 g2 i j)
  case first =>
    go_wp2_with (go_at_call 35; (with_reducible refine (HO1 _ ?hpp).mono ?_); (try case hpp => exact ⟨by go_simp, by go_simp, by go_simp <;> omega⟩); rintro e w1 ⟨rfl, hb⟩; obtain ⟨os, n, rfl⟩ := Below.moreE hb; clear hb)
    go_meet
    exact ⟨_, rfl, rfl, by (first | omega | (simp; done) | (simp; omega)), by (first | omega | (simp; done) | (simp; omega)), by go_simp, by go_simp, by (first | omega | (simp; done) | (simp; omega)), by go_simp, by go_simp, ⟨by go_simp, by go_simp, by go_simp, by go_simp, by go_simp, by go_simp, by go_simp, by go_simp, (Gr.below (by repeat (first | (with_reducible exact Gr.refl _) | (with_reducible exact hG) | with_reducible refine Gr.alloc ?_ _ | with_reducible refine Gr.more ?_ _ _ | with_reducible refine Gr.setCell ?_ (by dsimp only; omega) _ | with_reducible refine Gr.drew ?_))), by (first | omega | (simp; done) | (simp; omega))⟩⟩
  case rest =>
  clear hz hG a1 b1 a2 b2 c0 c1 p0 p1 bu17 bx17 by17 bu14 bx14 by14 bu8 bx8 by8
  obtain ⟨B20, rfl, rfl, bl20, bu20, bx20, by20, bu8, bx8, by8, hK⟩ := hcut
  obtain ⟨a1, b1, a2, b2, c0, c1, p0, p1, hB, hz⟩ := hK
  have hG : Gr w.heap.size w wc := ⟨hB, by omega⟩
  clear hB
  go_upto_region 14 with fail
  go_cut [22, 23] (fun s22 s23 wx => ∃ B : Nat, s22 = .pointer (some ⟨B, 0, none⟩) ∧ s23 = .int .i64 a ∧ w.heap.size + 3 ≤ B ∧ B < wx.heap.size ∧ wx.cell? ⟨B, 0, none⟩ = some (.int .i64 X2) ∧ wx.cell? ⟨B, 1, none⟩ = some (.bool X2g) ∧ B8 < wx.heap.size ∧ wx.cell? ⟨B8, 0, none⟩ = some (.int .i64 T) ∧ wx.cell? ⟨B8, 1, none⟩ = some (.bool true) ∧ KD w wx s1 g1 s2 g2 i j)
  case first =>
    go_wp2_with (go_at_call 35; (with_reducible refine (HO2 _ ?hpp).mono ?_); (try case hpp => exact ⟨by go_simp, by go_simp, by go_simp <;> omega⟩); rintro e w1 ⟨rfl, hb⟩; obtain ⟨os, n, rfl⟩ := Below.moreE hb; clear hb)
    go_meet
    exact ⟨_, rfl, rfl, by (first | omega | (simp; done) | (simp; omega)), by (first | omega | (simp; done) | (simp; omega)), by go_simp, by go_simp, by (first | omega | (simp; done) | (simp; omega)), by go_simp, by go_simp, ⟨by go_simp, by go_simp, by go_simp, by go_simp, by go_simp, by go_simp, by go_simp, by go_simp, (Gr.below (by repeat (first | (with_reducible exact Gr.refl _) | (with_reducible exact hG) | with_reducible refine Gr.alloc ?_ _ | with_reducible refine Gr.more ?_ _ _ | with_reducible refine Gr.setCell ?_ (by dsimp only; omega) _ | with_reducible refine Gr.drew ?_))), by (first | omega | (simp; done) | (simp; omega))⟩⟩
  case rest =>
  clear hz hG a1 b1 a2 b2 c0 c1 p0 p1 bu20 bx20 by20 bu8 bx8 by8
  obtain ⟨B22, rfl, rfl, bl22, bu22, bx22, by22, bu8, bx8, by8, hK⟩ := hcut
  obtain ⟨a1, b1, a2, b2, c0, c1, p0, p1, hB, hz⟩ := hK
  have hG : Gr w.heap.size w wc := ⟨hB, by omega⟩
  clear hB
  go_upto_region 20 with fail
  by_cases hb : 0 < b
  all_goals
    rcases hc with ⟨rfl, ha⟩ | ⟨rfl, ha⟩ | ⟨hr, ha⟩ | ⟨hr, ha⟩
    all_goals
      go_wp2_with fail
      refine bodyPost_ret (v := .bool true) (by simp [results, Tryd.results6, go_sem]; (repeat' split at hfin) <;> omega) rfl ⟨rfl, (Gr.below (by repeat (first | (with_reducible exact Gr.refl _) | (with_reducible exact hG) | with_reducible refine Gr.alloc ?_ _ | with_reducible refine Gr.more ?_ _ _ | with_reducible refine Gr.setCell ?_ (by dsimp only; omega) _ | with_reducible refine Gr.drew ?_)))⟩

end Go.Proofs.YtbdkacfddbiclaaDoor
