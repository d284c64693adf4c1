/-
  The law BitsShifts, walked over named results.
-/
import Derived.Test.YtbdkacfddbiclaaDoorLv1
import Derived.Test.YtbdkacfddbiclaaDoorLv2
namespace Go.Proofs.YtbdkacfddbiclaaDoor
open Go.RowKit

theorem PR.up {W W' : World} (g : Gr W.heap.size W W') (h : PR W) : PR W' := ⟨grC g h.q0, grC g h.q1⟩
/-- What the law holds all along. -/
structure KS (w W : World) (s : Int) (g : Bool) (m k : Int) : Prop where
  a : BoxT W w.heap.size s g
  l : Box2 W (w.heap.size + 1) m k
  p : PI W
  q : PR W
  hB : Below w.heap.size w W
  hz : w.heap.size + 2 ≤ W.heap.size
theorem KS.up {w W W' : World} (gr : Gr W.heap.size W W') {s : Int} {g : Bool} {m k : Int} (h : KS w W s g m k) : KS w W' s g m k := by
  have hz := h.hz
  exact ⟨h.a.up gr, h.l.up gr, PI.up gr h.p, PR.up gr h.q, h.hB.trans (gr.below.mono (by omega)), Nat.le_trans hz gr.size⟩

set_option maxRecDepth 100000 in
set_option maxHeartbeats 16000000 in
theorem shifts_bad (s : Int) (g : Bool) (v m k : Int) (HP : RetT 15 #[tyV s g] 0 false 10) (w : World) (hp : PI w) (hE : EV w) (hq : PR w) : Calls Tryd.prog 10 #[tyV s g, .int .i64 v, .agg #[.int .i64 m, .int .i64 k]] w fun e w' => e = .returned (.bool true) ∧ Below w.heap.size w w' := by
  obtain ⟨p0, p1, hsz⟩ := hp
  obtain ⟨q0, q1⟩ := hq
  obtain ⟨⟨es, e0, hes⟩, ⟨er, e1, her⟩, _⟩ := hE
  have Hes := Lib.hid hes
  have Her := Lib.hid her
  clear hes her
  go_enter Tryd.func10, Tryd.ntmps10
  go_upto_region 1 with fail
  go_cut [7] (fun s7 wx => s7 = .bool true ∧ KS w wx s g m k)
  case first =>
    go_wp2_with (go_at_call 12; (refine (sane_any _ ?hpp ?hqq).mono ?_); (try case hpp => exact ⟨by go_simp, by go_simp, by go_simp <;> omega⟩); (try case hqq => exact ⟨⟨es, by go_simp, Hes.out⟩, ⟨er, by go_simp, Her.out⟩, by go_simp <;> omega⟩); rintro e w1 ⟨rfl, hb⟩; obtain ⟨os, n, rfl⟩ := Below.moreE hb; clear hb)
    go_meet
    exact ⟨rfl, ⟨by go_simp, by go_simp⟩, ⟨by go_simp, by go_simp⟩, ⟨by go_simp, by go_simp, by (first | omega | (simp; done) | (simp; omega))⟩, ⟨by go_simp, by go_simp⟩, (Gr.below (by repeat (first | (with_reducible exact Gr.refl _) | (with_reducible exact Gr.refl _) | with_reducible refine Gr.alloc ?_ _ | with_reducible refine Gr.more ?_ _ _ | with_reducible refine Gr.setCell ?_ (by dsimp only; omega) _ | with_reducible refine Gr.drew ?_))), by (first | omega | (simp; done) | (simp; omega))⟩
  case rest =>
  clear hsz p0 p1 q0 q1 e0 e1 Hes Her
  obtain ⟨rfl, hK⟩ := hcut
  go_upto_region 2 with fail
  refine shifts_r2 hK.p hK.a HP ?_
  intro _ _ _ _ _ b8 W2 g2 bl8 bu8 bx8 by8
  replace hK := KS.up g2 hK
  have hb8 : BoxT W2 b8 _ _ := ⟨bx8, by8⟩
  clear bx8 by8 bl8 bu8
  go_wp2_with fail
  refine bodyPost_ret (v := .bool true) (by simp [results, Tryd.results10, go_sem]) rfl ⟨rfl, hK.hB⟩

set_option maxRecDepth 100000 in
set_option maxHeartbeats 16000000 in
theorem shifts_out (s : Int) (g : Bool) (v m k : Int) (S : Int) (G : Bool) (HP : RetT 15 #[tyV s g] S G 0) (T : Int) (hT : wrap64 (8 * S) = T) (h : m < 0 ∨ (¬ m < 0 ∧ k < 0) ∨ (¬ m < 0 ∧ ¬ k < 0 ∧ T ≤ m) ∨ (¬ m < 0 ∧ ¬ k < 0 ∧ ¬ T ≤ m ∧ T ≤ k)) (w : World) (hp : PI w) (hE : EV w) (hq : PR w) : Calls Tryd.prog 10 #[tyV s g, .int .i64 v, .agg #[.int .i64 m, .int .i64 k]] w fun e w' => e = .returned (.bool true) ∧ Below w.heap.size w w' := by
  obtain ⟨p0, p1, hsz⟩ := hp
  obtain ⟨q0, q1⟩ := hq
  obtain ⟨⟨es, e0, hes⟩, ⟨er, e1, her⟩, _⟩ := hE
  have Hes := Lib.hid hes
  have Her := Lib.hid her
  clear hes her
  go_enter Tryd.func10, Tryd.ntmps10
  go_upto_region 1 with fail
  go_cut [7] (fun s7 wx => s7 = .bool true ∧ KS w wx s g m k)
  case first =>
    go_wp2_with (go_at_call 12; (refine (sane_any _ ?hpp ?hqq).mono ?_); (try case hpp => exact ⟨by go_simp, by go_simp, by go_simp <;> omega⟩); (try case hqq => exact ⟨⟨es, by go_simp, Hes.out⟩, ⟨er, by go_simp, Her.out⟩, by go_simp <;> omega⟩); rintro e w1 ⟨rfl, hb⟩; obtain ⟨os, n, rfl⟩ := Below.moreE hb; clear hb)
    go_meet
    exact ⟨rfl, ⟨by go_simp, by go_simp⟩, ⟨by go_simp, by go_simp⟩, ⟨by go_simp, by go_simp, by (first | omega | (simp; done) | (simp; omega))⟩, ⟨by go_simp, by go_simp⟩, (Gr.below (by repeat (first | (with_reducible exact Gr.refl _) | (with_reducible exact Gr.refl _) | with_reducible refine Gr.alloc ?_ _ | with_reducible refine Gr.more ?_ _ _ | with_reducible refine Gr.setCell ?_ (by dsimp only; omega) _ | with_reducible refine Gr.drew ?_))), by (first | omega | (simp; done) | (simp; omega))⟩
  case rest =>
  clear hsz p0 p1 q0 q1 e0 e1 Hes Her
  obtain ⟨rfl, hK⟩ := hcut
  go_upto_region 2 with fail
  refine shifts_r2 hK.p hK.a HP ?_
  intro _ _ _ _ _ b8 W2 g2 bl8 bu8 bx8 by8
  replace hK := KS.up g2 hK
  have hb8 : BoxT W2 b8 _ _ := ⟨bx8, by8⟩
  clear bx8 by8 bl8 bu8
  obtain ⟨x8, y8⟩ := hb8
  obtain ⟨l0, l1⟩ := hK.l
  rcases h with h1 | ⟨h1, h2⟩ | ⟨h1, h2, h3⟩ | ⟨h1, h2, h3, h4⟩
  all_goals
    go_wp2_with fail
    refine bodyPost_ret (v := .bool true) (by simp [results, Tryd.results10, go_sem]) rfl ⟨rfl, hK.hB⟩

set_option maxRecDepth 100000 in
set_option maxHeartbeats 16000000 in
theorem shifts_good (s : Int) (g : Bool) (v m k : Int) (S : Int) (G : Bool) (HP : RetT 15 #[tyV s g] S G 0) (T T1 : Int) (hT : wrap64 (8 * S) = T) (hT1 : wrap64 (T - 1) = T1) (m0 : 0 ≤ m) (m63 : m ≤ 63) (m0' : ¬ m < 0) (n0' : ¬ k < 0) (m1 : ¬ T ≤ m) (n1 : ¬ T ≤ k) (wv l r mn l2 r2 : Int)
    (H9 : RetB 9 s g v 4 true m S G l 0) (H10 : RetB 10 s g v 4 true m S G r 0) (HW : RetV 36 #[tyV s g, .int .i64 v] wv) (HM : RetB 3 S G wv S G (wrap64 (2 ^ m.toNat)) S G l 0)
    (hD : (G = false ∧ RetB 4 S G wv S G (wrap64 (2 ^ m.toNat)) S G r 0) ∨ (G = true ∧ 0 ≤ wv ∧ m < T1 ∧ RetB 4 S G wv S G (wrap64 (2 ^ m.toNat)) S G r 0) ∨ (G = true ∧ ¬ 0 ≤ wv) ∨ (G = true ∧ 0 ≤ wv ∧ ¬ m < T1)) (hmn : wrap64 (m + k) = mn)
    (HT : T ≤ mn ∨ (¬ T ≤ mn ∧ RetB 9 S G l 4 true k S G l2 0 ∧ RetB 10 S G r 4 true k S G r2 0 ∧ RetB 9 s g v 4 true mn S G l2 0 ∧ RetB 10 s g v 4 true mn S G r2 0))
    (w : World) (hp : PI w) (hE : EV w) (hq : PR w) : Calls Tryd.prog 10 #[tyV s g, .int .i64 v, .agg #[.int .i64 m, .int .i64 k]] w fun e w' => e = .returned (.bool true) ∧ Below w.heap.size w w' := by
  obtain ⟨p0, p1, hsz⟩ := hp
  obtain ⟨q0, q1⟩ := hq
  obtain ⟨⟨es, e0, hes⟩, ⟨er, e1, her⟩, _⟩ := hE
  have Hes := Lib.hid hes
  have Her := Lib.hid her
  clear hes her
  go_enter Tryd.func10, Tryd.ntmps10
  go_upto_region 1 with fail
  go_cut [7] (fun s7 wx => s7 = .bool true ∧ KS w wx s g m k)
  case first =>
    go_wp2_with (go_at_call 12; (refine (sane_any _ ?hpp ?hqq).mono ?_); (try case hpp => exact ⟨by go_simp, by go_simp, by go_simp <;> omega⟩); (try case hqq => exact ⟨⟨es, by go_simp, Hes.out⟩, ⟨er, by go_simp, Her.out⟩, by go_simp <;> omega⟩); rintro e w1 ⟨rfl, hb⟩; obtain ⟨os, n, rfl⟩ := Below.moreE hb; clear hb)
    go_meet
    exact ⟨rfl, ⟨by go_simp, by go_simp⟩, ⟨by go_simp, by go_simp⟩, ⟨by go_simp, by go_simp, by (first | omega | (simp; done) | (simp; omega))⟩, ⟨by go_simp, by go_simp⟩, (Gr.below (by repeat (first | (with_reducible exact Gr.refl _) | (with_reducible exact Gr.refl _) | with_reducible refine Gr.alloc ?_ _ | with_reducible refine Gr.more ?_ _ _ | with_reducible refine Gr.setCell ?_ (by dsimp only; omega) _ | with_reducible refine Gr.drew ?_))), by (first | omega | (simp; done) | (simp; omega))⟩
  case rest =>
  clear hsz p0 p1 q0 q1 e0 e1 Hes Her
  obtain ⟨rfl, hK⟩ := hcut
  go_upto_region 2 with fail
  refine shifts_r2 hK.p hK.a HP ?_
  intro _ _ _ _ _ b8 W2 g2 bl8 bu8 bx8 by8
  replace hK := KS.up g2 hK
  have hb8 : BoxT W2 b8 _ _ := ⟨bx8, by8⟩
  clear bx8 by8 bl8 bu8
  have hmz : IntKind.i64.wrap (m + k) = mn := by unfold wrap64 at hmn; rw [IntKind.wrap_i64]; exact hmn
  have x8 := hb8.x
  have y8 := hb8.y
  have l0 := hK.l.c0
  have l1 := hK.l.c1
  go_upto_region 6 with fail
  clear x8 y8 l0 l1
  refine shifts_r6 hK.p hK.q hK.a hK.l H9 ?_
  intro _ _ _ _ _ _ _ _ _ _ b11 W6 g6 bl11 bu11 bx11 by11
  replace hK := KS.up g6 hK
  replace hb8 := BoxT.up g6 hb8
  have hb11 : BoxT W6 b11 _ _ := ⟨bx11, by11⟩
  clear bx11 by11 bl11 bu11
  go_upto_region 7 with fail
  refine shifts_r7 hK.p hK.q hK.a hK.l H10 ?_
  intro _ _ _ _ _ _ _ _ _ _ _ W7 g7
  replace hK := KS.up g7 hK
  replace hb8 := BoxT.up g7 hb8
  replace hb11 := BoxT.up g7 hb11
  go_upto_region 8 with fail
  refine shifts_r8 hK.a HW ?_
  intro _ _ _ W8 g8
  replace hK := KS.up g8 hK
  replace hb8 := BoxT.up g8 hb8
  replace hb11 := BoxT.up g8 hb11
  go_upto_region 9 with fail
  refine shifts_r9 hK.p hb8 HM ?_
  intro _ _ _ _ _ _ _ _ _ _ W9 g9
  replace hK := KS.up g9 hK
  replace hb8 := BoxT.up g9 hb8
  replace hb11 := BoxT.up g9 hb11
  have x8 := hb8.x
  have y8 := hb8.y
  have x11 := hb11.x
  have y11 := hb11.y
  have l0 := hK.l.c0
  have l1 := hK.l.c1
  go_upto_region 12 with fail
  clear x11 y11 hb11
  rcases hD with ⟨rfl, HD⟩ | ⟨rfl, d1, d2, HD⟩ | ⟨rfl, d1⟩ | ⟨rfl, d1, d2⟩
  · by_cases d1 : 0 ≤ wv <;> by_cases d2 : m < T1
    all_goals
      go_upto_region 13 with fail
      clear x8 y8 l0 l1
      refine shifts_r13 hK.p hb8 HD ?_
      intro _ _ _ _ _ _ _ _ _ _ W13 g13
      replace hK := KS.up g13 hK
      replace hb8 := BoxT.up g13 hb8
      have x8 := hb8.x
      have y8 := hb8.y
      have l0 := hK.l.c0
      have l1 := hK.l.c1
      go_upto_region 16 with fail
      rcases HT with hs | ⟨hs, J9, J10, K9, K10⟩
      · go_wp2_with fail
        refine bodyPost_ret (v := .bool true) (by simp [results, Tryd.results10, go_sem]) rfl ⟨rfl, hK.hB⟩
      · go_upto_region 18 with fail
        clear x8 y8 l0 l1
        refine shifts_r18 hK.p hK.q hb8 hK.l J9 ?_
        intro _ _ _ _ _ _ _ _ _ _ _ W18 g18
        replace hK := KS.up g18 hK
        replace hb8 := BoxT.up g18 hb8
        go_upto_region 19 with fail
        refine shifts_r19 hK.p hK.q hb8 hK.l J10 ?_
        intro _ _ _ _ _ _ _ _ _ _ _ W19 g19
        replace hK := KS.up g19 hK
        go_upto_region 20 with fail
        refine shifts_r20 hK.p hK.q hmz hK.a hK.l K9 ?_
        intro _ _ _ _ _ _ _ _ _ _ _ _ _ _ W20 g20
        replace hK := KS.up g20 hK
        go_upto_region 21 with fail
        refine shifts_r21 hK.p hK.q hmz hK.a hK.l K10 ?_
        intro _ _ _ _ _ _ _ _ _ _ _ _ _ _ W21 g21
        replace hK := KS.up g21 hK
        go_wp2_with fail
        refine bodyPost_ret (v := .bool true) (by simp [results, Tryd.results10, go_sem]) rfl ⟨rfl, hK.hB⟩
  · go_upto_region 13 with fail
    clear x8 y8 l0 l1
    refine shifts_r13 hK.p hb8 HD ?_
    intro _ _ _ _ _ _ _ _ _ _ W13 g13
    replace hK := KS.up g13 hK
    replace hb8 := BoxT.up g13 hb8
    have x8 := hb8.x
    have y8 := hb8.y
    have l0 := hK.l.c0
    have l1 := hK.l.c1
    go_upto_region 16 with fail
    rcases HT with hs | ⟨hs, J9, J10, K9, K10⟩
    · go_wp2_with fail
      refine bodyPost_ret (v := .bool true) (by simp [results, Tryd.results10, go_sem]) rfl ⟨rfl, hK.hB⟩
    · go_upto_region 18 with fail
      clear x8 y8 l0 l1
      refine shifts_r18 hK.p hK.q hb8 hK.l J9 ?_
      intro _ _ _ _ _ _ _ _ _ _ _ W18 g18
      replace hK := KS.up g18 hK
      replace hb8 := BoxT.up g18 hb8
      go_upto_region 19 with fail
      refine shifts_r19 hK.p hK.q hb8 hK.l J10 ?_
      intro _ _ _ _ _ _ _ _ _ _ _ W19 g19
      replace hK := KS.up g19 hK
      go_upto_region 20 with fail
      refine shifts_r20 hK.p hK.q hmz hK.a hK.l K9 ?_
      intro _ _ _ _ _ _ _ _ _ _ _ _ _ _ W20 g20
      replace hK := KS.up g20 hK
      go_upto_region 21 with fail
      refine shifts_r21 hK.p hK.q hmz hK.a hK.l K10 ?_
      intro _ _ _ _ _ _ _ _ _ _ _ _ _ _ W21 g21
      replace hK := KS.up g21 hK
      go_wp2_with fail
      refine bodyPost_ret (v := .bool true) (by simp [results, Tryd.results10, go_sem]) rfl ⟨rfl, hK.hB⟩
  · go_upto_region 16 with fail
    rcases HT with hs | ⟨hs, J9, J10, K9, K10⟩
    · go_wp2_with fail
      refine bodyPost_ret (v := .bool true) (by simp [results, Tryd.results10, go_sem]) rfl ⟨rfl, hK.hB⟩
    · go_upto_region 18 with fail
      clear x8 y8 l0 l1
      refine shifts_r18 hK.p hK.q hb8 hK.l J9 ?_
      intro _ _ _ _ _ _ _ _ _ _ _ W18 g18
      replace hK := KS.up g18 hK
      replace hb8 := BoxT.up g18 hb8
      go_upto_region 19 with fail
      refine shifts_r19 hK.p hK.q hb8 hK.l J10 ?_
      intro _ _ _ _ _ _ _ _ _ _ _ W19 g19
      replace hK := KS.up g19 hK
      go_upto_region 20 with fail
      refine shifts_r20 hK.p hK.q hmz hK.a hK.l K9 ?_
      intro _ _ _ _ _ _ _ _ _ _ _ _ _ _ W20 g20
      replace hK := KS.up g20 hK
      go_upto_region 21 with fail
      refine shifts_r21 hK.p hK.q hmz hK.a hK.l K10 ?_
      intro _ _ _ _ _ _ _ _ _ _ _ _ _ _ W21 g21
      replace hK := KS.up g21 hK
      go_wp2_with fail
      refine bodyPost_ret (v := .bool true) (by simp [results, Tryd.results10, go_sem]) rfl ⟨rfl, hK.hB⟩
  · go_upto_region 16 with fail
    rcases HT with hs | ⟨hs, J9, J10, K9, K10⟩
    · go_wp2_with fail
      refine bodyPost_ret (v := .bool true) (by simp [results, Tryd.results10, go_sem]) rfl ⟨rfl, hK.hB⟩
    · go_upto_region 18 with fail
      clear x8 y8 l0 l1
      refine shifts_r18 hK.p hK.q hb8 hK.l J9 ?_
      intro _ _ _ _ _ _ _ _ _ _ _ W18 g18
      replace hK := KS.up g18 hK
      replace hb8 := BoxT.up g18 hb8
      go_upto_region 19 with fail
      refine shifts_r19 hK.p hK.q hb8 hK.l J10 ?_
      intro _ _ _ _ _ _ _ _ _ _ _ W19 g19
      replace hK := KS.up g19 hK
      go_upto_region 20 with fail
      refine shifts_r20 hK.p hK.q hmz hK.a hK.l K9 ?_
      intro _ _ _ _ _ _ _ _ _ _ _ _ _ _ W20 g20
      replace hK := KS.up g20 hK
      go_upto_region 21 with fail
      refine shifts_r21 hK.p hK.q hmz hK.a hK.l K10 ?_
      intro _ _ _ _ _ _ _ _ _ _ _ _ _ _ W21 g21
      replace hK := KS.up g21 hK
      go_wp2_with fail
      refine bodyPost_ret (v := .bool true) (by simp [results, Tryd.results10, go_sem]) rfl ⟨rfl, hK.hB⟩
end Go.Proofs.YtbdkacfddbiclaaDoor
