import Derived.Test.YtojcdjpaojgkkaaGreatDoorSa
namespace Go.Proofs.YtojcdjpaojgkkaaGreatDoor
open Go.RowKit

theorem typ_exact (s : Int) (g : Bool) (w : World) : Calls Tryz.prog 9 #[.int .i64 s, .bool g] w fun e w' => e = .returned (tyV s g) ∧ w' = w.alloc (.cells #[.int .i64 s, .bool g] 23) := by
  go_enter Tryz.func9, Tryz.ntmps9
  go_wp2
  exact bodyPost_ret (v := tyV s g) (by simp [results, Tryz.results9, go_sem]) rfl ⟨rfl, rfl⟩

/-- What sane's five types and the variables hold. -/
structure K5 (w x : World) (es er : Value) : Prop where
  a1 : x.cell? ⟨w.heap.size + 1, 0, none⟩ = some (.int .i64 1)
  b1 : x.cell? ⟨w.heap.size + 1, 1, none⟩ = some (.bool true)
  a3 : x.cell? ⟨w.heap.size + 1 + 1 + 1, 0, none⟩ = some (.int .i64 1)
  b3 : x.cell? ⟨w.heap.size + 1 + 1 + 1, 1, none⟩ = some (.bool false)
  a5 : x.cell? ⟨w.heap.size + 1 + 1 + 1 + 1 + 1, 0, none⟩ = some (.int .i64 4)
  b5 : x.cell? ⟨w.heap.size + 1 + 1 + 1 + 1 + 1, 1, none⟩ = some (.bool true)
  a7 : x.cell? ⟨w.heap.size + 1 + 1 + 1 + 1 + 1 + 1 + 1, 0, none⟩ = some (.int .i64 4)
  b7 : x.cell? ⟨w.heap.size + 1 + 1 + 1 + 1 + 1 + 1 + 1, 1, none⟩ = some (.bool false)
  a9 : x.cell? ⟨w.heap.size + 1 + 1 + 1 + 1 + 1 + 1 + 1 + 1 + 1, 0, none⟩ = some (.int .i64 8)
  b9 : x.cell? ⟨w.heap.size + 1 + 1 + 1 + 1 + 1 + 1 + 1 + 1 + 1, 1, none⟩ = some (.bool false)
  p0 : x.cell? ⟨0, 0, none⟩ = some (.int .i64 4)
  p1 : x.cell? ⟨0, 1, none⟩ = some (.bool true)
  e0 : x.cell? ⟨2, 0, none⟩ = some es
  e1 : x.cell? ⟨3, 0, none⟩ = some er
  hB : Below w.heap.size w x
  hz : w.heap.size + 10 ≤ x.heap.size

set_option maxRecDepth 100000 in
set_option maxHeartbeats 4000000 in
theorem sane_any (w : World) (hp : PI w) (hE : EV w) : Calls Tryz.prog 4 #[] w fun e w' => e = .returned (.bool true) ∧ Below w.heap.size w w' := by
  obtain ⟨p0, p1, _⟩ := hp
  obtain ⟨⟨es, e0, hes⟩, ⟨er, e1, her⟩, hsz⟩ := hE
  have Hes := Lib.hid hes
  have Her := Lib.hid her
  clear hes her
  go_enter Tryz.func4, Tryz.ntmps4
  go_upto_region 6 with (go_at_call 9; (refine (typ_exact _ _ _).mono ?_); rintro e w1 ⟨rfl, rfl⟩)
  go_cut [6, 7] (fun s6 s7 wx => s6 = .int .i64 (-56) ∧ s7 = .int .i64 0 ∧ K5 w wx es er)
  case first =>
    go_wp2_with (go_at_call 10; (refine (s_wrap _).mono ?_); rintro e w1 ⟨rfl, hb⟩; obtain ⟨os, n, rfl⟩ := Below.moreE hb; clear hb)
    go_meet
    exact ⟨rfl, rfl, ⟨by go_simp, by go_simp, by go_simp, by go_simp, by go_simp, by go_simp, by go_simp, by go_simp, by go_simp, by go_simp, by go_simp, by go_simp, by go_simp, by go_simp, (Gr.below (by repeat (first | (with_reducible exact Gr.refl _) | (with_reducible exact hG) | with_reducible refine Gr.alloc ?_ _ | with_reducible refine Gr.more ?_ _ _ | with_reducible refine Gr.setCell ?_ (by dsimp only; omega) _ | with_reducible refine Gr.drew ?_))), by (first | omega | (simp; done) | (simp; omega))⟩⟩
  case rest =>
  obtain ⟨rfl, rfl, hK⟩ := hcut
  obtain ⟨a1, b1, a3, b3, a5, b5, a7, b7, a9, b9, p0, p1, e0, e1, hB, hz⟩ := hK
  have hG : Gr w.heap.size w wc := ⟨hB, by omega⟩
  clear hB
  go_upto_region 7 with fail
  go_cut [8, 9] (fun s8 s9 wx => ∃ B : Nat, s8 = .pointer (some ⟨B, 0, none⟩) ∧ s9 = .int .i64 0 ∧ w.heap.size + 10 ≤ B ∧ B < wx.heap.size ∧ wx.cell? ⟨B, 0, none⟩ = some (.int .i64 8) ∧ wx.cell? ⟨B, 1, none⟩ = some (.bool true) ∧ K5 w wx es er)
  case first =>
    go_region_with (first | (go_at_call 9; (refine (typ_exact _ _ _).mono ?_); rintro e w1 ⟨rfl, rfl⟩) | (go_at_call 11; (refine (s_usual _ ?hpp).mono ?_; case hpp => exact ⟨by go_simp, by go_simp, by go_simp <;> omega⟩); rintro e w1 ⟨rfl, hb⟩; obtain ⟨os, n, rfl⟩ := Below.moreE hb; clear hb))
    all_goals
      go_wp2_with fail
      go_meet
      exact ⟨_, rfl, rfl, by (first | omega | (simp; done) | (simp; omega)), by (first | omega | (simp; done) | (simp; omega)), by go_simp, by go_simp, ⟨by go_simp, by go_simp, by go_simp, by go_simp, by go_simp, by go_simp, by go_simp, by go_simp, by go_simp, by go_simp, by go_simp, by go_simp, by go_simp, by go_simp, (Gr.below (by repeat (first | (with_reducible exact Gr.refl _) | (with_reducible exact hG) | with_reducible refine Gr.alloc ?_ _ | with_reducible refine Gr.more ?_ _ _ | with_reducible refine Gr.setCell ?_ (by dsimp only; omega) _ | with_reducible refine Gr.drew ?_))), by (first | omega | (simp; done) | (simp; omega))⟩⟩
  case rest =>
  obtain ⟨B8, rfl, rfl, l8, u8, x8, y8, hK⟩ := hcut
  clear hG hz p0 p1 e0 e1 a1 b1 a3 b3 a5 b5 a7 b7 a9 b9
  obtain ⟨a1, b1, a3, b3, a5, b5, a7, b7, a9, b9, p0, p1, e0, e1, hB, hz⟩ := hK
  have hG : Gr w.heap.size w wc := ⟨hB, by omega⟩
  clear hB
  go_upto_region 8 with fail
  go_cut [10, 11, 12] (fun s10 s11 s12 wx => ∃ B : Nat, s10 = .pointer (some ⟨B, 0, none⟩) ∧ s11 = .int .i64 0 ∧ s12 = .int .i64 0 ∧ w.heap.size + 10 ≤ B ∧ B < wx.heap.size ∧ wx.cell? ⟨B, 0, none⟩ = some (.int .i64 4) ∧ wx.cell? ⟨B, 1, none⟩ = some (.bool true) ∧ B8 < wx.heap.size ∧ wx.cell? ⟨B8, 0, none⟩ = some (.int .i64 8) ∧ wx.cell? ⟨B8, 1, none⟩ = some (.bool true) ∧ K5 w wx es er)
  case first =>
    go_wp2_with (go_at_call 7; (refine (s_b1 _ ?hpp).mono ?_; case hpp => exact ⟨by go_simp, by go_simp, by go_simp <;> omega⟩); rintro e w1 ⟨rfl, hb⟩; obtain ⟨os, n, rfl⟩ := Below.moreE hb; clear hb)
    go_meet
    exact ⟨_, rfl, rfl, rfl, by (first | omega | (simp; done) | (simp; omega)), by (first | omega | (simp; done) | (simp; omega)), by go_simp, by go_simp, by (first | omega | (simp; done) | (simp; omega)), by go_simp, by go_simp, ⟨by go_simp, by go_simp, by go_simp, by go_simp, by go_simp, by go_simp, by go_simp, by go_simp, by go_simp, by go_simp, by go_simp, by go_simp, by go_simp, by go_simp, (Gr.below (by repeat (first | (with_reducible exact Gr.refl _) | (with_reducible exact hG) | with_reducible refine Gr.alloc ?_ _ | with_reducible refine Gr.more ?_ _ _ | with_reducible refine Gr.setCell ?_ (by dsimp only; omega) _ | with_reducible refine Gr.drew ?_))), by (first | omega | (simp; done) | (simp; omega))⟩⟩
  case rest =>
  obtain ⟨B10, rfl, rfl, rfl, l10, u10, x10, y10, u8', x8', y8', hK⟩ := hcut
  clear u8 x8 y8
  clear hG hz p0 p1 e0 e1 a1 b1 a3 b3 a5 b5 a7 b7 a9 b9
  obtain ⟨a1, b1, a3, b3, a5, b5, a7, b7, a9, b9, p0, p1, e0, e1, hB, hz⟩ := hK
  have hG : Gr w.heap.size w wc := ⟨hB, by omega⟩
  clear hB
  go_upto_region 15 with first | (go_at_call 7; (with_reducible refine (s_b2 _ ?hpp).mono ?_); (try case hpp => exact ⟨by go_simp, by go_simp, by go_simp <;> omega⟩); rintro e w1 ⟨rfl, hb⟩; obtain ⟨os, n, rfl⟩ := Below.moreE hb; clear hb) | (go_at_call 7; (with_reducible refine (s_b3 _ ?hpp).mono ?_); (try case hpp => exact ⟨by go_simp, by go_simp, by go_simp <;> omega⟩); rintro e w1 ⟨rfl, hb⟩; obtain ⟨os, n, rfl⟩ := Below.moreE hb; clear hb) | (go_at_call 7; (with_reducible refine (s_b4 _ ?hpp).mono ?_); (try case hpp => exact ⟨by go_simp, by go_simp, by go_simp <;> omega⟩); rintro e w1 ⟨rfl, hb⟩; obtain ⟨os, n, rfl⟩ := Below.moreE hb; clear hb) | (go_at_call 12; (refine (s_text _).mono ?_); rintro e w1 ⟨rfl, hb⟩; obtain ⟨os, n, rfl⟩ := Below.moreE hb; clear hb) | (go_at_call 13; (with_reducible refine (s_parse1 _ ?hpp).mono ?_); (try case hpp => exact ⟨⟨es, by go_simp, Hes.out⟩, ⟨er, by go_simp, Her.out⟩, by go_simp <;> omega⟩); rintro e w1 ⟨rfl, hb⟩; obtain ⟨os, n, rfl⟩ := Below.moreE hb; clear hb) | (go_at_call 13; (with_reducible refine (s_parse2 _ ?hpp).mono ?_); (try case hpp => exact ⟨⟨es, by go_simp, Hes.out⟩, ⟨er, by go_simp, Her.out⟩, by go_simp <;> omega⟩); rintro e w1 ⟨rfl, hb⟩; obtain ⟨os, n, rfl⟩ := Below.moreE hb; clear hb)
  clear e0 e1 p0 p1 a1 b1 a3 b3 a7 b7 a9 b9
  go_upto_region 17 with fail
  go_region_held3 (fun w' => w'.cell? ⟨B8, 0, none⟩ = some (.int .i64 8) ∧ w'.cell? ⟨B8, 1, none⟩ = some (.bool true) ∧ w'.cell? ⟨B10, 0, none⟩ = some (.int .i64 4) ∧ w'.cell? ⟨B10, 1, none⟩ = some (.bool true) ∧ w'.cell? ⟨w.heap.size + 1 + 1 + 1 + 1 + 1, 0, none⟩ = some (.int .i64 4) ∧ w'.cell? ⟨w.heap.size + 1 + 1 + 1 + 1 + 1, 1, none⟩ = some (.bool true)) (exact ⟨by go_simp, by go_simp, by go_simp, by go_simp, by go_simp, by go_simp⟩) (first | (go_at_call 9; (refine (typ_any _ _ _).mono ?_); rintro e w1 ⟨rfl, hb⟩; obtain ⟨os, n, rfl⟩ := Below.moreE hb; clear hb))
  go_wp2_with fail
  go_ret
  exact ⟨rfl, (Gr.below (by repeat (first | (with_reducible exact Gr.refl _) | (with_reducible exact hG) | with_reducible refine Gr.alloc ?_ _ | with_reducible refine Gr.more ?_ _ _ | with_reducible refine Gr.setCell ?_ (by dsimp only; omega) _ | with_reducible refine Gr.drew ?_)))⟩
end Go.Proofs.YtojcdjpaojgkkaaGreatDoor
