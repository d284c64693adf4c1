import Derived.Test.YtbdkacfddbiclaaDoorSb
namespace Go.Proofs.YtbdkacfddbiclaaDoor
open Go.RowKit

/-- What a law of three types holds of its boxes. -/
structure K3 (w x : World) (s1 : Int) (g1 : Bool) (s2 : Int) (g2 : Bool) (s3 : Int) (g3 : Bool) : Prop where
  a1 : x.cell? ⟨w.heap.size, 0, none⟩ = some (.int .i64 s1)
  b1 : x.cell? ⟨w.heap.size, 1, none⟩ = some (.bool g1)
  a2 : x.cell? ⟨w.heap.size + 1, 0, none⟩ = some (.int .i64 s2)
  b2 : x.cell? ⟨w.heap.size + 1, 1, none⟩ = some (.bool g2)
  a3 : x.cell? ⟨w.heap.size + 1 + 1, 0, none⟩ = some (.int .i64 s3)
  b3 : x.cell? ⟨w.heap.size + 1 + 1, 1, none⟩ = some (.bool g3)
  p0 : x.cell? ⟨0, 0, none⟩ = some (.int .i64 4)
  p1 : x.cell? ⟨0, 1, none⟩ = some (.bool true)
  hB : Below w.heap.size w x
  hz : w.heap.size + 3 ≤ x.heap.size

/-- A call that returns a type and an error. -/
@[reducible] def RetT (f : Nat) (args : Array Value) (s : Int) (g : Bool) (e : Int) : Prop :=
  ∀ w : World, PI w → Calls Tryd.prog f args w fun r w' => r = .returned (.tuple #[tyV s g, .int .i64 e]) ∧ Below w.heap.size w w'

set_option maxRecDepth 100000 in
set_option maxHeartbeats 4000000 in
theorem common_bad (s1 : Int) (g1 : Bool) (s2 : Int) (g2 : Bool) (s3 : Int) (g3 : Bool) (S : Int) (Sg : Bool) (e1 : Int) (R : Int) (Rg : Bool) (e2 : Int) (HU1 : RetT 17 #[tyV s1 g1, tyV s2 g2] S Sg e1) (HU2 : RetT 17 #[tyV s2 g2, tyV s3 g3] R Rg e2)
    (h : e1 = 10 ∨ e1 = 0 ∧ e2 = 10) (w : World) (hp : PI w) (hE : EV w) : Calls Tryd.prog 7 #[tyV s1 g1, tyV s2 g2, tyV s3 g3] w fun e w' => e = .returned (.bool true) ∧ Below w.heap.size w w' := by
  obtain ⟨p0, p1, hsz⟩ := hp
  have hE' := hE
  obtain ⟨⟨es, e0, hes⟩, ⟨er, e1, her⟩, _⟩ := hE
  have Hes := Lib.hid hes
  have Her := Lib.hid her
  clear hes her
  go_enter Tryd.func7, Tryd.ntmps7
  go_upto_region 2 with (go_at_call 12; (refine (sane_any _ ?hpp ?hqq).mono ?_); (try case hpp => exact ⟨by go_simp, by go_simp, by go_simp <;> omega⟩); (try case hqq => exact ⟨⟨es, by go_simp, Hes.out⟩, ⟨er, by go_simp, Her.out⟩, by go_simp <;> omega⟩); rintro e w1 ⟨rfl, hb⟩; obtain ⟨os, n, rfl⟩ := Below.moreE hb; clear hb)
  clear e0 e1 Hes Her
  go_cut [8, 9] (fun s8 s9 wx => ∃ B : Nat, s8 = .pointer (some ⟨B, 0, none⟩) ∧ s9 = .int .i64 e1 ∧ w.heap.size + 3 ≤ B ∧ B < wx.heap.size ∧ wx.cell? ⟨B, 0, none⟩ = some (.int .i64 S) ∧ wx.cell? ⟨B, 1, none⟩ = some (.bool Sg) ∧ K3 w wx s1 g1 s2 g2 s3 g3)
  case first =>
    go_wp2_with (go_at_call 17; (with_reducible refine (HU1 _ ?hpp).mono ?_); (try case hpp => exact ⟨by go_simp, by go_simp, by go_simp <;> omega⟩); rintro e w1 ⟨rfl, hb⟩; obtain ⟨os, n, rfl⟩ := Below.moreE hb; clear hb)
    go_meet
    exact ⟨_, rfl, rfl, by (first | omega | (simp; done) | (simp; omega)), by (first | omega | (simp; done) | (simp; omega)), by go_simp, by go_simp, ⟨by go_simp, by go_simp, by go_simp, by go_simp, by go_simp, by go_simp, by go_simp, by go_simp, (Gr.below (by repeat (first | (with_reducible exact Gr.refl _) | (with_reducible exact hG) | with_reducible refine Gr.alloc ?_ _ | with_reducible refine Gr.more ?_ _ _ | with_reducible refine Gr.setCell ?_ (by dsimp only; omega) _ | with_reducible refine Gr.drew ?_))), by (first | omega | (simp; done) | (simp; omega))⟩⟩
  case rest =>
  clear hsz p0 p1
  obtain ⟨B8, rfl, rfl, l8, u8, x8, y8, hK⟩ := hcut
  obtain ⟨a1, b1, a2, b2, a3, b3, p0, p1, hB, hz⟩ := hK
  have hG : Gr w.heap.size w wc := ⟨hB, by omega⟩
  clear hB
  go_upto_region 3 with fail
  go_cut [10, 11] (fun s10 s11 wx => ∃ B : Nat, s10 = .pointer (some ⟨B, 0, none⟩) ∧ s11 = .int .i64 e2 ∧ w.heap.size + 3 ≤ B ∧ B < wx.heap.size ∧ wx.cell? ⟨B, 0, none⟩ = some (.int .i64 R) ∧ wx.cell? ⟨B, 1, none⟩ = some (.bool Rg) ∧ B8 < wx.heap.size ∧ wx.cell? ⟨B8, 0, none⟩ = some (.int .i64 S) ∧ wx.cell? ⟨B8, 1, none⟩ = some (.bool Sg) ∧ K3 w wx s1 g1 s2 g2 s3 g3)
  case first =>
    go_wp2_with (go_at_call 17; (with_reducible refine (HU2 _ ?hpp).mono ?_); (try case hpp => exact ⟨by go_simp, by go_simp, by go_simp <;> omega⟩); rintro e w1 ⟨rfl, hb⟩; obtain ⟨os, n, rfl⟩ := Below.moreE hb; clear hb)
    go_meet
    exact ⟨_, rfl, rfl, by (first | omega | (simp; done) | (simp; omega)), by (first | omega | (simp; done) | (simp; omega)), by go_simp, by go_simp, by (first | omega | (simp; done) | (simp; omega)), by go_simp, by go_simp, ⟨by go_simp, by go_simp, by go_simp, by go_simp, by go_simp, by go_simp, by go_simp, by go_simp, (Gr.below (by repeat (first | (with_reducible exact Gr.refl _) | (with_reducible exact hG) | with_reducible refine Gr.alloc ?_ _ | with_reducible refine Gr.more ?_ _ _ | with_reducible refine Gr.setCell ?_ (by dsimp only; omega) _ | with_reducible refine Gr.drew ?_))), by (first | omega | (simp; done) | (simp; omega))⟩⟩
  case rest =>
  clear hz hG a1 b1 a2 b2 a3 b3 p0 p1 u8 x8 y8
  obtain ⟨B10, rfl, rfl, l10, u10, x10, y10, u8, x8, y8, hK⟩ := hcut
  obtain ⟨a1, b1, a2, b2, a3, b3, p0, p1, hB, hz⟩ := hK
  have hG : Gr w.heap.size w wc := ⟨hB, by omega⟩
  clear hB
  rcases h with rfl | ⟨rfl, rfl⟩
  all_goals
    go_wp2_with fail
    refine bodyPost_ret (v := .bool true) (by simp [results, Tryd.results7, go_sem]) rfl ⟨rfl, (Gr.below (by repeat (first | (with_reducible exact Gr.refl _) | (with_reducible exact hG) | with_reducible refine Gr.alloc ?_ _ | with_reducible refine Gr.more ?_ _ _ | with_reducible refine Gr.setCell ?_ (by dsimp only; omega) _ | with_reducible refine Gr.drew ?_)))⟩

set_option maxRecDepth 100000 in
set_option maxHeartbeats 8000000 in
theorem common_good (s1 : Int) (g1 : Bool) (s2 : Int) (g2 : Bool) (s3 : Int) (g3 : Bool) (A : Int) (Ag : Bool) (F : Int) (Fg : Bool) (C : Int) (Cg : Bool) (D : Int) (Dg : Bool)
    (H12 : RetT 17 #[tyV s1 g1, tyV s2 g2] A Ag 0) (H23 : RetT 17 #[tyV s2 g2, tyV s3 g3] F Fg 0) (H21 : RetT 17 #[tyV s2 g2, tyV s1 g1] A Ag 0)
    (HA3 : RetT 17 #[tyV A Ag, tyV s3 g3] C Cg 0) (H1B : RetT 17 #[tyV s1 g1, tyV F Fg] C Cg 0) (H1 : RetT 15 #[tyV s1 g1] D Dg 0) (HD : RetT 15 #[tyV D Dg] D Dg 0)
    (H11 : RetT 17 #[tyV s1 g1, tyV s1 g1] D Dg 0)
    (w : World) (hp : PI w) (hE : EV w) : Calls Tryd.prog 7 #[tyV s1 g1, tyV s2 g2, tyV s3 g3] w fun e w' => e = .returned (.bool true) ∧ Below w.heap.size w w' := by
  obtain ⟨p0, p1, hsz⟩ := hp
  have hE' := hE
  obtain ⟨⟨es, e0, hes⟩, ⟨er, e1, her⟩, _⟩ := hE
  have Hes := Lib.hid hes
  have Her := Lib.hid her
  clear hes her
  go_enter Tryd.func7, Tryd.ntmps7
  go_upto_region 2 with (go_at_call 12; (refine (sane_any _ ?hpp ?hqq).mono ?_); (try case hpp => exact ⟨by go_simp, by go_simp, by go_simp <;> omega⟩); (try case hqq => exact ⟨⟨es, by go_simp, Hes.out⟩, ⟨er, by go_simp, Her.out⟩, by go_simp <;> omega⟩); rintro e w1 ⟨rfl, hb⟩; obtain ⟨os, n, rfl⟩ := Below.moreE hb; clear hb)
  clear e0 e1 Hes Her
  go_cut [8, 9] (fun s8 s9 wx => ∃ B : Nat, s8 = .pointer (some ⟨B, 0, none⟩) ∧ s9 = .int .i64 0 ∧ w.heap.size + 3 ≤ B ∧ B < wx.heap.size ∧ wx.cell? ⟨B, 0, none⟩ = some (.int .i64 A) ∧ wx.cell? ⟨B, 1, none⟩ = some (.bool Ag) ∧ K3 w wx s1 g1 s2 g2 s3 g3)
  case first =>
    go_wp2_with (go_at_call 17; (with_reducible refine (H12 _ ?hpp).mono ?_); (try case hpp => exact ⟨by go_simp, by go_simp, by go_simp <;> omega⟩); rintro e w1 ⟨rfl, hb⟩; obtain ⟨os, n, rfl⟩ := Below.moreE hb; clear hb)
    go_meet
    exact ⟨_, rfl, rfl, by (first | omega | (simp; done) | (simp; omega)), by (first | omega | (simp; done) | (simp; omega)), by go_simp, by go_simp, ⟨by go_simp, by go_simp, by go_simp, by go_simp, by go_simp, by go_simp, by go_simp, by go_simp, (Gr.below (by repeat (first | (with_reducible exact Gr.refl _) | (with_reducible exact hG) | with_reducible refine Gr.alloc ?_ _ | with_reducible refine Gr.more ?_ _ _ | with_reducible refine Gr.setCell ?_ (by dsimp only; omega) _ | with_reducible refine Gr.drew ?_))), by (first | omega | (simp; done) | (simp; omega))⟩⟩
  case rest =>
  clear hsz p0 p1
  obtain ⟨B8, rfl, rfl, l8, u8, x8, y8, hK⟩ := hcut
  obtain ⟨a1, b1, a2, b2, a3, b3, p0, p1, hB, hz⟩ := hK
  have hG : Gr w.heap.size w wc := ⟨hB, by omega⟩
  clear hB
  go_upto_region 3 with fail
  go_cut [10, 11] (fun s10 s11 wx => ∃ B : Nat, s10 = .pointer (some ⟨B, 0, none⟩) ∧ s11 = .int .i64 0 ∧ w.heap.size + 3 ≤ B ∧ B < wx.heap.size ∧ wx.cell? ⟨B, 0, none⟩ = some (.int .i64 F) ∧ wx.cell? ⟨B, 1, none⟩ = some (.bool Fg) ∧ B8 < wx.heap.size ∧ wx.cell? ⟨B8, 0, none⟩ = some (.int .i64 A) ∧ wx.cell? ⟨B8, 1, none⟩ = some (.bool Ag) ∧ K3 w wx s1 g1 s2 g2 s3 g3)
  case first =>
    go_wp2_with (go_at_call 17; (with_reducible refine (H23 _ ?hpp).mono ?_); (try case hpp => exact ⟨by go_simp, by go_simp, by go_simp <;> omega⟩); rintro e w1 ⟨rfl, hb⟩; obtain ⟨os, n, rfl⟩ := Below.moreE hb; clear hb)
    go_meet
    exact ⟨_, rfl, rfl, by (first | omega | (simp; done) | (simp; omega)), by (first | omega | (simp; done) | (simp; omega)), by go_simp, by go_simp, by (first | omega | (simp; done) | (simp; omega)), by go_simp, by go_simp, ⟨by go_simp, by go_simp, by go_simp, by go_simp, by go_simp, by go_simp, by go_simp, by go_simp, (Gr.below (by repeat (first | (with_reducible exact Gr.refl _) | (with_reducible exact hG) | with_reducible refine Gr.alloc ?_ _ | with_reducible refine Gr.more ?_ _ _ | with_reducible refine Gr.setCell ?_ (by dsimp only; omega) _ | with_reducible refine Gr.drew ?_))), by (first | omega | (simp; done) | (simp; omega))⟩⟩
  case rest =>
  clear hz hG a1 b1 a2 b2 a3 b3 p0 p1 u8 x8 y8
  obtain ⟨B10, rfl, rfl, l10, u10, x10, y10, u8, x8, y8, hK⟩ := hcut
  obtain ⟨a1, b1, a2, b2, a3, b3, p0, p1, hB, hz⟩ := hK
  have hG : Gr w.heap.size w wc := ⟨hB, by omega⟩
  clear hB
  go_upto_region 6 with fail
  go_cut [12, 13] (fun s12 s13 wx => ∃ B : Nat, s12 = .pointer (some ⟨B, 0, none⟩) ∧ s13 = .int .i64 0 ∧ w.heap.size + 3 ≤ B ∧ B < wx.heap.size ∧ wx.cell? ⟨B, 0, none⟩ = some (.int .i64 A) ∧ wx.cell? ⟨B, 1, none⟩ = some (.bool Ag) ∧ B10 < wx.heap.size ∧ wx.cell? ⟨B10, 0, none⟩ = some (.int .i64 F) ∧ wx.cell? ⟨B10, 1, none⟩ = some (.bool Fg) ∧ B8 < wx.heap.size ∧ wx.cell? ⟨B8, 0, none⟩ = some (.int .i64 A) ∧ wx.cell? ⟨B8, 1, none⟩ = some (.bool Ag) ∧ K3 w wx s1 g1 s2 g2 s3 g3)
  case first =>
    go_wp2_with (go_at_call 17; (with_reducible refine (H21 _ ?hpp).mono ?_); (try case hpp => exact ⟨by go_simp, by go_simp, by go_simp <;> omega⟩); rintro e w1 ⟨rfl, hb⟩; obtain ⟨os, n, rfl⟩ := Below.moreE hb; clear hb)
    go_meet
    exact ⟨_, rfl, rfl, by (first | omega | (simp; done) | (simp; omega)), by (first | omega | (simp; done) | (simp; omega)), by go_simp, by go_simp, by (first | omega | (simp; done) | (simp; omega)), by go_simp, by go_simp, by (first | omega | (simp; done) | (simp; omega)), by go_simp, by go_simp, ⟨by go_simp, by go_simp, by go_simp, by go_simp, by go_simp, by go_simp, by go_simp, by go_simp, (Gr.below (by repeat (first | (with_reducible exact Gr.refl _) | (with_reducible exact hG) | with_reducible refine Gr.alloc ?_ _ | with_reducible refine Gr.more ?_ _ _ | with_reducible refine Gr.setCell ?_ (by dsimp only; omega) _ | with_reducible refine Gr.drew ?_))), by (first | omega | (simp; done) | (simp; omega))⟩⟩
  case rest =>
  clear hz hG a1 b1 a2 b2 a3 b3 p0 p1 u10 x10 y10 u8 x8 y8
  obtain ⟨B12, rfl, rfl, l12, u12, x12, y12, u10, x10, y10, u8, x8, y8, hK⟩ := hcut
  obtain ⟨a1, b1, a2, b2, a3, b3, p0, p1, hB, hz⟩ := hK
  have hG : Gr w.heap.size w wc := ⟨hB, by omega⟩
  clear hB
  go_upto_region 7 with fail
  go_cut [14, 15] (fun s14 s15 wx => ∃ B : Nat, s14 = .pointer (some ⟨B, 0, none⟩) ∧ s15 = .int .i64 0 ∧ w.heap.size + 3 ≤ B ∧ B < wx.heap.size ∧ wx.cell? ⟨B, 0, none⟩ = some (.int .i64 C) ∧ wx.cell? ⟨B, 1, none⟩ = some (.bool Cg) ∧ B12 < wx.heap.size ∧ wx.cell? ⟨B12, 0, none⟩ = some (.int .i64 A) ∧ wx.cell? ⟨B12, 1, none⟩ = some (.bool Ag) ∧ B10 < wx.heap.size ∧ wx.cell? ⟨B10, 0, none⟩ = some (.int .i64 F) ∧ wx.cell? ⟨B10, 1, none⟩ = some (.bool Fg) ∧ B8 < wx.heap.size ∧ wx.cell? ⟨B8, 0, none⟩ = some (.int .i64 A) ∧ wx.cell? ⟨B8, 1, none⟩ = some (.bool Ag) ∧ K3 w wx s1 g1 s2 g2 s3 g3)
  case first =>
    go_wp2_with (go_at_call 17; (with_reducible refine (HA3 _ ?hpp).mono ?_); (try case hpp => exact ⟨by go_simp, by go_simp, by go_simp <;> omega⟩); rintro e w1 ⟨rfl, hb⟩; obtain ⟨os, n, rfl⟩ := Below.moreE hb; clear hb)
    go_meet
    exact ⟨_, rfl, rfl, by (first | omega | (simp; done) | (simp; omega)), by (first | omega | (simp; done) | (simp; omega)), by go_simp, by go_simp, by (first | omega | (simp; done) | (simp; omega)), by go_simp, by go_simp, by (first | omega | (simp; done) | (simp; omega)), by go_simp, by go_simp, by (first | omega | (simp; done) | (simp; omega)), by go_simp, by go_simp, ⟨by go_simp, by go_simp, by go_simp, by go_simp, by go_simp, by go_simp, by go_simp, by go_simp, (Gr.below (by repeat (first | (with_reducible exact Gr.refl _) | (with_reducible exact hG) | with_reducible refine Gr.alloc ?_ _ | with_reducible refine Gr.more ?_ _ _ | with_reducible refine Gr.setCell ?_ (by dsimp only; omega) _ | with_reducible refine Gr.drew ?_))), by (first | omega | (simp; done) | (simp; omega))⟩⟩
  case rest =>
  clear hz hG a1 b1 a2 b2 a3 b3 p0 p1 u12 x12 y12 u10 x10 y10 u8 x8 y8
  obtain ⟨B14, rfl, rfl, l14, u14, x14, y14, u12, x12, y12, u10, x10, y10, u8, x8, y8, hK⟩ := hcut
  obtain ⟨a1, b1, a2, b2, a3, b3, p0, p1, hB, hz⟩ := hK
  have hG : Gr w.heap.size w wc := ⟨hB, by omega⟩
  clear hB
  go_upto_region 8 with fail
  go_cut [16, 17] (fun s16 s17 wx => ∃ B : Nat, s16 = .pointer (some ⟨B, 0, none⟩) ∧ s17 = .int .i64 0 ∧ w.heap.size + 3 ≤ B ∧ B < wx.heap.size ∧ wx.cell? ⟨B, 0, none⟩ = some (.int .i64 C) ∧ wx.cell? ⟨B, 1, none⟩ = some (.bool Cg) ∧ B14 < wx.heap.size ∧ wx.cell? ⟨B14, 0, none⟩ = some (.int .i64 C) ∧ wx.cell? ⟨B14, 1, none⟩ = some (.bool Cg) ∧ B12 < wx.heap.size ∧ wx.cell? ⟨B12, 0, none⟩ = some (.int .i64 A) ∧ wx.cell? ⟨B12, 1, none⟩ = some (.bool Ag) ∧ B10 < wx.heap.size ∧ wx.cell? ⟨B10, 0, none⟩ = some (.int .i64 F) ∧ wx.cell? ⟨B10, 1, none⟩ = some (.bool Fg) ∧ B8 < wx.heap.size ∧ wx.cell? ⟨B8, 0, none⟩ = some (.int .i64 A) ∧ wx.cell? ⟨B8, 1, none⟩ = some (.bool Ag) ∧ K3 w wx s1 g1 s2 g2 s3 g3)
  case first =>
    go_wp2_with (go_at_call 17; (with_reducible refine (H1B _ ?hpp).mono ?_); (try case hpp => exact ⟨by go_simp, by go_simp, by go_simp <;> omega⟩); rintro e w1 ⟨rfl, hb⟩; obtain ⟨os, n, rfl⟩ := Below.moreE hb; clear hb)
    go_meet
    exact ⟨_, rfl, rfl, by (first | omega | (simp; done) | (simp; omega)), by (first | omega | (simp; done) | (simp; omega)), by go_simp, by go_simp, by (first | omega | (simp; done) | (simp; omega)), by go_simp, by go_simp, by (first | omega | (simp; done) | (simp; omega)), by go_simp, by go_simp, by (first | omega | (simp; done) | (simp; omega)), by go_simp, by go_simp, by (first | omega | (simp; done) | (simp; omega)), by go_simp, by go_simp, ⟨by go_simp, by go_simp, by go_simp, by go_simp, by go_simp, by go_simp, by go_simp, by go_simp, (Gr.below (by repeat (first | (with_reducible exact Gr.refl _) | (with_reducible exact hG) | with_reducible refine Gr.alloc ?_ _ | with_reducible refine Gr.more ?_ _ _ | with_reducible refine Gr.setCell ?_ (by dsimp only; omega) _ | with_reducible refine Gr.drew ?_))), by (first | omega | (simp; done) | (simp; omega))⟩⟩
  case rest =>
  clear hz hG a1 b1 a2 b2 a3 b3 p0 p1 u14 x14 y14 u12 x12 y12 u10 x10 y10 u8 x8 y8
  obtain ⟨B16, rfl, rfl, l16, u16, x16, y16, u14, x14, y14, u12, x12, y12, u10, x10, y10, u8, x8, y8, hK⟩ := hcut
  obtain ⟨a1, b1, a2, b2, a3, b3, p0, p1, hB, hz⟩ := hK
  have hG : Gr w.heap.size w wc := ⟨hB, by omega⟩
  clear hB
  go_upto_region 9 with fail
  go_cut [18, 19] (fun s18 s19 wx => ∃ B : Nat, s18 = .pointer (some ⟨B, 0, none⟩) ∧ s19 = .int .i64 0 ∧ w.heap.size + 3 ≤ B ∧ B < wx.heap.size ∧ wx.cell? ⟨B, 0, none⟩ = some (.int .i64 D) ∧ wx.cell? ⟨B, 1, none⟩ = some (.bool Dg) ∧ B16 < wx.heap.size ∧ wx.cell? ⟨B16, 0, none⟩ = some (.int .i64 C) ∧ wx.cell? ⟨B16, 1, none⟩ = some (.bool Cg) ∧ B14 < wx.heap.size ∧ wx.cell? ⟨B14, 0, none⟩ = some (.int .i64 C) ∧ wx.cell? ⟨B14, 1, none⟩ = some (.bool Cg) ∧ B12 < wx.heap.size ∧ wx.cell? ⟨B12, 0, none⟩ = some (.int .i64 A) ∧ wx.cell? ⟨B12, 1, none⟩ = some (.bool Ag) ∧ B8 < wx.heap.size ∧ wx.cell? ⟨B8, 0, none⟩ = some (.int .i64 A) ∧ wx.cell? ⟨B8, 1, none⟩ = some (.bool Ag) ∧ K3 w wx s1 g1 s2 g2 s3 g3)
  case first =>
    go_wp2_with (go_at_call 15; (with_reducible refine (H1 _ ?hpp).mono ?_); (try case hpp => exact ⟨by go_simp, by go_simp, by go_simp <;> omega⟩); rintro e w1 ⟨rfl, hb⟩; obtain ⟨os, n, rfl⟩ := Below.moreE hb; clear hb)
    go_meet
    exact ⟨_, rfl, rfl, by (first | omega | (simp; done) | (simp; omega)), by (first | omega | (simp; done) | (simp; omega)), by go_simp, by go_simp, by (first | omega | (simp; done) | (simp; omega)), by go_simp, by go_simp, by (first | omega | (simp; done) | (simp; omega)), by go_simp, by go_simp, by (first | omega | (simp; done) | (simp; omega)), by go_simp, by go_simp, by (first | omega | (simp; done) | (simp; omega)), by go_simp, by go_simp, ⟨by go_simp, by go_simp, by go_simp, by go_simp, by go_simp, by go_simp, by go_simp, by go_simp, (Gr.below (by repeat (first | (with_reducible exact Gr.refl _) | (with_reducible exact hG) | with_reducible refine Gr.alloc ?_ _ | with_reducible refine Gr.more ?_ _ _ | with_reducible refine Gr.setCell ?_ (by dsimp only; omega) _ | with_reducible refine Gr.drew ?_))), by (first | omega | (simp; done) | (simp; omega))⟩⟩
  case rest =>
  clear hz hG a1 b1 a2 b2 a3 b3 p0 p1 u16 x16 y16 u14 x14 y14 u12 x12 y12 u10 x10 y10 u8 x8 y8
  obtain ⟨B18, rfl, rfl, l18, u18, x18, y18, u16, x16, y16, u14, x14, y14, u12, x12, y12, u8, x8, y8, hK⟩ := hcut
  obtain ⟨a1, b1, a2, b2, a3, b3, p0, p1, hB, hz⟩ := hK
  have hG : Gr w.heap.size w wc := ⟨hB, by omega⟩
  clear hB
  go_upto_region 10 with fail
  go_cut [20, 21] (fun s20 s21 wx => ∃ B : Nat, s20 = .pointer (some ⟨B, 0, none⟩) ∧ s21 = .int .i64 0 ∧ w.heap.size + 3 ≤ B ∧ B < wx.heap.size ∧ wx.cell? ⟨B, 0, none⟩ = some (.int .i64 D) ∧ wx.cell? ⟨B, 1, none⟩ = some (.bool Dg) ∧ B18 < wx.heap.size ∧ wx.cell? ⟨B18, 0, none⟩ = some (.int .i64 D) ∧ wx.cell? ⟨B18, 1, none⟩ = some (.bool Dg) ∧ B16 < wx.heap.size ∧ wx.cell? ⟨B16, 0, none⟩ = some (.int .i64 C) ∧ wx.cell? ⟨B16, 1, none⟩ = some (.bool Cg) ∧ B14 < wx.heap.size ∧ wx.cell? ⟨B14, 0, none⟩ = some (.int .i64 C) ∧ wx.cell? ⟨B14, 1, none⟩ = some (.bool Cg) ∧ B12 < wx.heap.size ∧ wx.cell? ⟨B12, 0, none⟩ = some (.int .i64 A) ∧ wx.cell? ⟨B12, 1, none⟩ = some (.bool Ag) ∧ B8 < wx.heap.size ∧ wx.cell? ⟨B8, 0, none⟩ = some (.int .i64 A) ∧ wx.cell? ⟨B8, 1, none⟩ = some (.bool Ag) ∧ K3 w wx s1 g1 s2 g2 s3 g3)
  case first =>
    go_wp2_with (go_at_call 15; (with_reducible refine (HD _ ?hpp).mono ?_); (try case hpp => exact ⟨by go_simp, by go_simp, by go_simp <;> omega⟩); rintro e w1 ⟨rfl, hb⟩; obtain ⟨os, n, rfl⟩ := Below.moreE hb; clear hb)
    go_meet
    exact ⟨_, rfl, rfl, by (first | omega | (simp; done) | (simp; omega)), by (first | omega | (simp; done) | (simp; omega)), by go_simp, by go_simp, by (first | omega | (simp; done) | (simp; omega)), by go_simp, by go_simp, by (first | omega | (simp; done) | (simp; omega)), by go_simp, by go_simp, by (first | omega | (simp; done) | (simp; omega)), by go_simp, by go_simp, by (first | omega | (simp; done) | (simp; omega)), by go_simp, by go_simp, by (first | omega | (simp; done) | (simp; omega)), by go_simp, by go_simp, ⟨by go_simp, by go_simp, by go_simp, by go_simp, by go_simp, by go_simp, by go_simp, by go_simp, (Gr.below (by repeat (first | (with_reducible exact Gr.refl _) | (with_reducible exact hG) | with_reducible refine Gr.alloc ?_ _ | with_reducible refine Gr.more ?_ _ _ | with_reducible refine Gr.setCell ?_ (by dsimp only; omega) _ | with_reducible refine Gr.drew ?_))), by (first | omega | (simp; done) | (simp; omega))⟩⟩
  case rest =>
  clear hz hG a1 b1 a2 b2 a3 b3 p0 p1 u18 x18 y18 u16 x16 y16 u14 x14 y14 u12 x12 y12 u8 x8 y8
  obtain ⟨B20, rfl, rfl, l20, u20, x20, y20, u18, x18, y18, u16, x16, y16, u14, x14, y14, u12, x12, y12, u8, x8, y8, hK⟩ := hcut
  obtain ⟨a1, b1, a2, b2, a3, b3, p0, p1, hB, hz⟩ := hK
  have hG : Gr w.heap.size w wc := ⟨hB, by omega⟩
  clear hB
  go_upto_region 11 with fail
  go_cut [22, 23] (fun s22 s23 wx => ∃ B : Nat, s22 = .pointer (some ⟨B, 0, none⟩) ∧ s23 = .int .i64 0 ∧ w.heap.size + 3 ≤ B ∧ B < wx.heap.size ∧ wx.cell? ⟨B, 0, none⟩ = some (.int .i64 D) ∧ wx.cell? ⟨B, 1, none⟩ = some (.bool Dg) ∧ B20 < wx.heap.size ∧ wx.cell? ⟨B20, 0, none⟩ = some (.int .i64 D) ∧ wx.cell? ⟨B20, 1, none⟩ = some (.bool Dg) ∧ B18 < wx.heap.size ∧ wx.cell? ⟨B18, 0, none⟩ = some (.int .i64 D) ∧ wx.cell? ⟨B18, 1, none⟩ = some (.bool Dg) ∧ B16 < wx.heap.size ∧ wx.cell? ⟨B16, 0, none⟩ = some (.int .i64 C) ∧ wx.cell? ⟨B16, 1, none⟩ = some (.bool Cg) ∧ B14 < wx.heap.size ∧ wx.cell? ⟨B14, 0, none⟩ = some (.int .i64 C) ∧ wx.cell? ⟨B14, 1, none⟩ = some (.bool Cg) ∧ B12 < wx.heap.size ∧ wx.cell? ⟨B12, 0, none⟩ = some (.int .i64 A) ∧ wx.cell? ⟨B12, 1, none⟩ = some (.bool Ag) ∧ B8 < wx.heap.size ∧ wx.cell? ⟨B8, 0, none⟩ = some (.int .i64 A) ∧ wx.cell? ⟨B8, 1, none⟩ = some (.bool Ag) ∧ K3 w wx s1 g1 s2 g2 s3 g3)
  case first =>
    go_wp2_with (go_at_call 17; (with_reducible refine (H11 _ ?hpp).mono ?_); (try case hpp => exact ⟨by go_simp, by go_simp, by go_simp <;> omega⟩); rintro e w1 ⟨rfl, hb⟩; obtain ⟨os, n, rfl⟩ := Below.moreE hb; clear hb)
    go_meet
    exact ⟨_, rfl, rfl, by (first | omega | (simp; done) | (simp; omega)), by (first | omega | (simp; done) | (simp; omega)), by go_simp, by go_simp, by (first | omega | (simp; done) | (simp; omega)), by go_simp, by go_simp, by (first | omega | (simp; done) | (simp; omega)), by go_simp, by go_simp, by (first | omega | (simp; done) | (simp; omega)), by go_simp, by go_simp, by (first | omega | (simp; done) | (simp; omega)), by go_simp, by go_simp, by (first | omega | (simp; done) | (simp; omega)), by go_simp, by go_simp, by (first | omega | (simp; done) | (simp; omega)), by go_simp, by go_simp, ⟨by go_simp, by go_simp, by go_simp, by go_simp, by go_simp, by go_simp, by go_simp, by go_simp, (Gr.below (by repeat (first | (with_reducible exact Gr.refl _) | (with_reducible exact hG) | with_reducible refine Gr.alloc ?_ _ | with_reducible refine Gr.more ?_ _ _ | with_reducible refine Gr.setCell ?_ (by dsimp only; omega) _ | with_reducible refine Gr.drew ?_))), by (first | omega | (simp; done) | (simp; omega))⟩⟩
  case rest =>
  clear hz hG a1 b1 a2 b2 a3 b3 p0 p1 u20 x20 y20 u18 x18 y18 u16 x16 y16 u14 x14 y14 u12 x12 y12 u8 x8 y8
  obtain ⟨B22, rfl, rfl, l22, u22, x22, y22, u20, x20, y20, u18, x18, y18, u16, x16, y16, u14, x14, y14, u12, x12, y12, u8, x8, y8, hK⟩ := hcut
  obtain ⟨a1, b1, a2, b2, a3, b3, p0, p1, hB, hz⟩ := hK
  have hG : Gr w.heap.size w wc := ⟨hB, by omega⟩
  clear hB
  clear a1 b1 a2 b2 a3 b3 p0 p1
  go_wp2_with fail
  refine bodyPost_ret (v := .bool true) (by simp [results, Tryd.results7, go_sem]) rfl ⟨rfl, (Gr.below (by repeat (first | (with_reducible exact Gr.refl _) | (with_reducible exact hG) | with_reducible refine Gr.alloc ?_ _ | with_reducible refine Gr.more ?_ _ _ | with_reducible refine Gr.setCell ?_ (by dsimp only; omega) _ | with_reducible refine Gr.drew ?_)))⟩
end Go.Proofs.YtbdkacfddbiclaaDoor
