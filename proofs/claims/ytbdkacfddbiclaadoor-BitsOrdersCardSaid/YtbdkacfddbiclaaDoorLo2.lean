/-
  The law BitsOrders, walked over named results.
-/
import Derived.Test.YtbdkacfddbiclaaDoorLo1
import Derived.Test.YtbdkacfddbiclaaDoorLo4
namespace Go.Proofs.YtbdkacfddbiclaaDoor
open Go.RowKit

theorem PR.up' {W W' : World} (g : Gr W.heap.size W W') (h : PR W) : PR W' := ⟨grC g h.q0, grC g h.q1⟩
/-- What the law holds all along. -/
structure KO' (w W : World) (s : Int) (g : Bool) (i j k : Int) : Prop where
  a : BoxT W w.heap.size s g
  l : Box3 W (w.heap.size + 1) i j k
  p : PI W
  q : PR W
  hB : Below w.heap.size w W
  hz : w.heap.size + 2 ≤ W.heap.size
theorem KO'.up {w W W' : World} (gr : Gr W.heap.size W W') {s : Int} {g : Bool} {i j k : Int} (h : KO' w W s g i j k) : KO' w W' s g i j k := by
  have hz := h.hz
  exact ⟨h.a.up gr, h.l.up gr, PI.up gr h.p, PR.up' gr h.q, h.hB.trans (gr.below.mono (by omega)), Nat.le_trans hz gr.size⟩
/-- The array of what the relations have to say. -/
structure KB (A : Nat) (W : World) (b0 b1 b2 b3 b4 b5 : Bool) : Prop where
  d0 : W.cell? ⟨A, 0, none⟩ = some (.bool b0)
  d1 : W.cell? ⟨A, 1, none⟩ = some (.bool b1)
  d2 : W.cell? ⟨A, 2, none⟩ = some (.bool b2)
  d3 : W.cell? ⟨A, 3, none⟩ = some (.bool b3)
  d4 : W.cell? ⟨A, 4, none⟩ = some (.bool b4)
  d5 : W.cell? ⟨A, 5, none⟩ = some (.bool b5)
theorem KB.up {A : Nat} {W W' : World} {b0 b1 b2 b3 b4 b5 : Bool} (gr : Gr W.heap.size W W') (h : KB A W b0 b1 b2 b3 b4 b5) : KB A W' b0 b1 b2 b3 b4 b5 := ⟨grC gr h.d0, grC gr h.d1, grC gr h.d2, grC gr h.d3, grC gr h.d4, grC gr h.d5⟩
theorem KB.at {A : Nat} {W : World} {x : Int} (h : KB A W (reB 11 x) (reB 12 x) (reB 13 x) (reB 14 x) (reB 15 x) (reB 16 x)) {q : Int} (q0 : 0 ≤ q) (q6 : q < 6) : W.cell? ⟨A, q.toNat, none⟩ = some (.bool (reB (11 + q) x)) := by
  have hq : q = 0 ∨ q = 1 ∨ q = 2 ∨ q = 3 ∨ q = 4 ∨ q = 5 := by omega
  rcases hq with rfl | rfl | rfl | rfl | rfl | rfl
  · exact h.d0
  · exact h.d1
  · exact h.d2
  · exact h.d3
  · exact h.d4
  · exact h.d5

set_option maxRecDepth 100000 in
set_option maxHeartbeats 16000000 in
theorem orders_less (s : Int) (g : Bool) (i j k : Int) (HK : RetV 23 #[tyV s g] 0) (y z : Int)
    (H01 : RetM 25 #[tyV s g, .int .i64 i, .int .i64 j] (-1) 0) (H12 : RetM 25 #[tyV s g, .int .i64 j, .int .i64 k] y 0) (H02 : RetM 25 #[tyV s g, .int .i64 i, .int .i64 k] z 0) (H10 : RetM 25 #[tyV s g, .int .i64 j, .int .i64 i] (1) 0)
    (w0 w1 : Int) (HW0 : RetV 36 #[tyV s g, .int .i64 i] w0) (HW1 : RetV 36 #[tyV s g, .int .i64 j] w1) (hne : ¬ w0 = w1) (hz : y ≤ 0 → z < 0)
    (HO : ∀ q : Int, 0 ≤ q → q < 6 → RetO (11 + q) s g i j 4 true (sel (reB (11 + q) (-1)) 1 0))
    (lo hi a b : Int) (HR : ∀ w : World, Calls Tryd.prog 13 #[tyV s g] w fun r w' => r = .returned (.tuple #[.int .i64 lo, .int .i64 hi, .int .i64 0]) ∧ Below w.heap.size w w')
    (HA : RetM 25 #[tyV s g, .int .i64 lo, .int .i64 i] a 0) (ha : a ≤ 0) (HB : RetM 25 #[tyV s g, .int .i64 i, .int .i64 hi] b 0) (hb' : b ≤ 0) (HL : RetV 36 #[tyV s g, .int .i64 lo] lo) (HH : RetV 36 #[tyV s g, .int .i64 hi] hi)
    (w : World) (hp : PI w) (hE : EV w) (hq : PR w) : Calls Tryd.prog 9 #[tyV s g, .agg #[.int .i64 i, .int .i64 j, .int .i64 k]] w fun e w' => e = .returned (.bool true) ∧ Below w.heap.size w w' := by
  obtain ⟨p0, p1, hsz⟩ := hp
  obtain ⟨q0, q1⟩ := hq
  obtain ⟨⟨es, e0, hes⟩, ⟨er, e1, her⟩, _⟩ := hE
  have Hes := Lib.hid hes
  have Her := Lib.hid her
  clear hes her
  go_enter Tryd.func9, Tryd.ntmps9
  go_upto_region 1 with fail
  go_cut [5] (fun s5 wx => s5 = .bool true ∧ KO' w wx s g i j k)
  case first =>
    go_wp2_with (go_at_call 12; (refine (sane_any _ ?hpp ?hqq).mono ?_); (try case hpp => exact ⟨by go_simp, by go_simp, by go_simp <;> omega⟩); (try case hqq => exact ⟨⟨es, by go_simp, Hes.out⟩, ⟨er, by go_simp, Her.out⟩, by go_simp <;> omega⟩); rintro e w1 ⟨rfl, hb⟩; obtain ⟨os, n, rfl⟩ := Below.moreE hb; clear hb)
    go_meet
    exact ⟨rfl, ⟨by go_simp, by go_simp⟩, ⟨by go_simp, by go_simp, by go_simp⟩, ⟨by go_simp, by go_simp, by (first | omega | (simp; done) | (simp; omega))⟩, ⟨by go_simp, by go_simp⟩, (Gr.below (by repeat (first | (with_reducible exact Gr.refl _) | (with_reducible exact Gr.refl _) | with_reducible refine Gr.alloc ?_ _ | with_reducible refine Gr.more ?_ _ _ | with_reducible refine Gr.setCell ?_ (by dsimp only; omega) _ | with_reducible refine Gr.drew ?_))), by (first | omega | (simp; done) | (simp; omega))⟩
  case rest =>
  clear hsz p0 p1 q0 q1 e0 e1 Hes Her
  obtain ⟨rfl, hK⟩ := hcut
  go_upto_region 2 with fail
  have a1 := hK.a.x
  have b1 := hK.a.y
  go_cut [32] (fun s32 wx => s32 = .bool false ∧ KO' w wx s g i j k)
  case first =>
    obtain ⟨l0, l1, l2⟩ := hK.l
    obtain ⟨p0, p1, hsz⟩ := hK.p
    obtain ⟨q0, q1⟩ := hK.q
    have hz := hK.hz
    have hG : Gr w.heap.size w wc := ⟨hK.hB, by omega⟩
    clear hK
    go_wp2_with (go_at_call 23; (with_reducible refine (HK _).mono ?_); rintro e w1 ⟨rfl, hb⟩; obtain ⟨os, n, rfl⟩ := Below.moreE hb; clear hb)
    go_meet
    exact ⟨rfl, ⟨by go_simp, by go_simp⟩, ⟨by go_simp, by go_simp, by go_simp⟩, ⟨by go_simp, by go_simp, by (first | omega | (simp; done) | (simp; omega))⟩, ⟨by go_simp, by go_simp⟩, (Gr.below (by repeat (first | (with_reducible exact Gr.refl _) | (with_reducible exact hG) | with_reducible refine Gr.alloc ?_ _ | with_reducible refine Gr.more ?_ _ _ | with_reducible refine Gr.setCell ?_ (by dsimp only; omega) _ | with_reducible refine Gr.drew ?_))), by (first | omega | (simp; done) | (simp; omega))⟩
  case rest =>
  clear a1 b1 hK
  obtain ⟨rfl, hK⟩ := hcut
  go_upto_region 4 with fail
  refine orders_r4 hK.a hK.l H01 ?_
  intro _ _ _ _ _ _ _ _ _ W4 g4
  replace hK := KO'.up g4 hK
  go_upto_region 5 with fail
  refine orders_r5 hK.a hK.l H12 ?_
  intro _ _ _ _ _ _ _ _ _ W5 g5
  replace hK := KO'.up g5 hK
  go_upto_region 6 with fail
  refine orders_r6 hK.a hK.l H02 ?_
  intro _ _ _ _ _ _ _ _ _ W6 g6
  replace hK := KO'.up g6 hK
  go_upto_region 7 with fail
  refine orders_r7 hK.a hK.l H10 ?_
  intro _ _ _ _ _ _ _ _ _ W7 g7
  replace hK := KO'.up g7 hK
  go_upto_region 8 with fail
  go_cut [119] (fun s119 wx => s119 = .bool false ∧ KO' w wx s g i j k)
  case first =>
    by_cases hy : y ≤ 0
    · have hzz := hz hy
      refine orders_r8la hne hy (by omega) (by omega) hK.a hK.l HW0 HW1 ?_
      intro _ _ _ _ _ _ _ _ _ _ _ _ _ _ _ _ _ _ _ _ _ _ _ _ _ _ _ _ _ _ _ _ _ _ _ _ _ _ _ _ _ _ _ _ _ _ _ _ _ W8 g8
      go_wp2_with fail
      go_meet
      exact ⟨rfl, KO'.up g8 hK⟩
    · refine orders_r8lb hne hy hK.a hK.l HW0 HW1 ?_
      intro _ _ _ _ _ _ _ _ _ _ _ _ _ _ _ _ _ _ _ _ _ _ _ _ _ _ _ _ _ _ _ _ _ _ _ _ _ _ _ _ _ _ _ _ _ _ _ _ _ W8 g8
      go_wp2_with fail
      go_meet
      exact ⟨rfl, KO'.up g8 hK⟩
  case rest =>
  clear hK
  obtain ⟨rfl, hK⟩ := hcut
  go_upto_region 10 with fail
  go_cut [14] (fun s14 wx => ∃ A : Nat, s14 = .pointer (some ⟨A, 0, none⟩) ∧ KB A wx (reB 11 (-1)) (reB 12 (-1)) (reB 13 (-1)) (reB 14 (-1)) (reB 15 (-1)) (reB 16 (-1)) ∧ KO' w wx s g i j k)
  case first =>
    obtain ⟨a1, b1⟩ := hK.a
    obtain ⟨l0, l1, l2⟩ := hK.l
    obtain ⟨p0, p1, hsz⟩ := hK.p
    obtain ⟨q0, q1⟩ := hK.q
    have hz := hK.hz
    have hG : Gr w.heap.size w wc := ⟨hK.hB, by omega⟩
    clear hK
    go_wp2_with fail
    go_meet
    exact ⟨_, rfl, ⟨by simp [reB]; try go_simp, by simp [reB]; try go_simp, by simp [reB]; try go_simp, by simp [reB]; try go_simp, by simp [reB]; try go_simp, by simp [reB]; try go_simp⟩, ⟨by go_simp, by go_simp⟩, ⟨by go_simp, by go_simp, by go_simp⟩, ⟨by go_simp, by go_simp, by (first | omega | (simp; done) | (simp; omega))⟩, ⟨by go_simp, by go_simp⟩, (Gr.below (by repeat (first | (with_reducible exact Gr.refl _) | (with_reducible exact hG) | with_reducible refine Gr.alloc ?_ _ | with_reducible refine Gr.more ?_ _ _ | with_reducible refine Gr.setCell ?_ (by dsimp only; omega) _ | with_reducible refine Gr.drew ?_))), by (first | omega | (simp; done) | (simp; omega))⟩
  case rest =>
  clear hK
  obtain ⟨A, rfl, hA', hK'⟩ := hcut
  go_wp2_with fail
  go_loopw [15] (fun v wr => ∃ K : Int, 0 ≤ K ∧ K ≤ 6 ∧ v = .int .i64 K ∧ KB A wr (reB 11 (-1)) (reB 12 (-1)) (reB 13 (-1)) (reB 14 (-1)) (reB 15 (-1)) (reB 16 (-1)) ∧ KO' w wr s g i j k) (fun v _ => 6 - (intOf v).toNat)
  case atStart => exact ⟨0, by omega, by omega, rfl, hA', hK'⟩
  case round =>
    clear hK' hA'
    obtain ⟨K, k0, k6, rfl, hA, hK⟩ := hrel
    have hw : wrap64 (K + 1) = K + 1 := by unfold wrap64; omega
    have hw2 : wrap64 (11 + K) = 11 + K := by unfold wrap64; omega
    by_cases hk : K < 6
    · have hc := hA.at k0 hk
      have HX := HO K k0 hk
      generalize reB (11 + K) (-1) = b at hc HX
      cases b
      all_goals
        simp only [sel_t, sel_f] at HX
        go_upto_region 14 with fail
        refine orders_r14 hK.p hw2 hK.a hK.l HX ?_
        intro _ _ _ _ _ _ _ _ _ _ _ b16 W14 g14 bl16 bu16 bx16 by16
        replace hA := KB.up g14 hA
        replace hK := KO'.up g14 hK
        replace hc := grC g14 hc
        have hb16 : BoxT W14 b16 _ _ := ⟨bx16, by16⟩
        clear bx16 by16 bl16 bu16
        go_upto_region 15 with fail
        first | refine orders_r15t hK.q k0 hk hc hb16 ?_ | refine orders_r15f hK.q k0 hk hc hb16 ?_
        intro _ _ _ _ _ _ _ _ _ _ _ _ _ _ _ _ _ _ W15 g15
        replace hK := KO'.up g15 hK
        replace hA := KB.up g15 hA
        go_wp2_with fail
        go_roundw
        case rel => exact ⟨_, by first | omega | (rw [hw]; omega), by first | omega | (rw [hw]; omega), rfl, hA, hK⟩
        case measure => simp [intOf]; omega
    · go_upto_region 17 with fail
      refine orders_r17 hK.a HR ?_
      intro _ _ _ _ _ _ W17 g17
      replace hK := KO'.up g17 hK
      go_upto_region 18 with fail
      refine orders_r18 hK.a hK.l HA ?_
      intro _ _ _ _ _ _ _ _ W18 g18
      replace hK := KO'.up g18 hK
      go_upto_region 19 with fail
      refine orders_r19 hK.a hK.l HB ?_
      intro _ _ _ _ _ _ _ _ W19 g19
      replace hK := KO'.up g19 hK
      go_upto_region 20 with fail
      refine orders_r20 ha hb' hK.a HL HH ?_
      intro _ _ _ _ _ _ _ _ _ _ _ _ _ _ _ _ _ _ _ _ _ _ _ _ W20 g20
      replace hK := KO'.up g20 hK
      go_wp2_with fail
      refine bodyPost_ret (v := .bool true) (by simp [results, Tryd.results9, go_sem]) rfl ⟨rfl, hK.hB⟩

set_option maxRecDepth 100000 in
set_option maxHeartbeats 16000000 in
theorem orders_same (s : Int) (g : Bool) (i j k : Int) (HK : RetV 23 #[tyV s g] 0) (y z : Int)
    (H01 : RetM 25 #[tyV s g, .int .i64 i, .int .i64 j] (0) 0) (H12 : RetM 25 #[tyV s g, .int .i64 j, .int .i64 k] y 0) (H02 : RetM 25 #[tyV s g, .int .i64 i, .int .i64 k] z 0) (H10 : RetM 25 #[tyV s g, .int .i64 j, .int .i64 i] (0) 0)
    (w0  : Int) (HW0 : RetV 36 #[tyV s g, .int .i64 i] w0) (HW1 : RetV 36 #[tyV s g, .int .i64 j] w0)  (hz : y ≤ 0 → z ≤ 0)
    (HO : ∀ q : Int, 0 ≤ q → q < 6 → RetO (11 + q) s g i j 4 true (sel (reB (11 + q) (0)) 1 0))
    (lo hi a b : Int) (HR : ∀ w : World, Calls Tryd.prog 13 #[tyV s g] w fun r w' => r = .returned (.tuple #[.int .i64 lo, .int .i64 hi, .int .i64 0]) ∧ Below w.heap.size w w')
    (HA : RetM 25 #[tyV s g, .int .i64 lo, .int .i64 i] a 0) (ha : a ≤ 0) (HB : RetM 25 #[tyV s g, .int .i64 i, .int .i64 hi] b 0) (hb' : b ≤ 0) (HL : RetV 36 #[tyV s g, .int .i64 lo] lo) (HH : RetV 36 #[tyV s g, .int .i64 hi] hi)
    (w : World) (hp : PI w) (hE : EV w) (hq : PR w) : Calls Tryd.prog 9 #[tyV s g, .agg #[.int .i64 i, .int .i64 j, .int .i64 k]] w fun e w' => e = .returned (.bool true) ∧ Below w.heap.size w w' := by
  obtain ⟨p0, p1, hsz⟩ := hp
  obtain ⟨q0, q1⟩ := hq
  obtain ⟨⟨es, e0, hes⟩, ⟨er, e1, her⟩, _⟩ := hE
  have Hes := Lib.hid hes
  have Her := Lib.hid her
  clear hes her
  go_enter Tryd.func9, Tryd.ntmps9
  go_upto_region 1 with fail
  go_cut [5] (fun s5 wx => s5 = .bool true ∧ KO' w wx s g i j k)
  case first =>
    go_wp2_with (go_at_call 12; (refine (sane_any _ ?hpp ?hqq).mono ?_); (try case hpp => exact ⟨by go_simp, by go_simp, by go_simp <;> omega⟩); (try case hqq => exact ⟨⟨es, by go_simp, Hes.out⟩, ⟨er, by go_simp, Her.out⟩, by go_simp <;> omega⟩); rintro e w1 ⟨rfl, hb⟩; obtain ⟨os, n, rfl⟩ := Below.moreE hb; clear hb)
    go_meet
    exact ⟨rfl, ⟨by go_simp, by go_simp⟩, ⟨by go_simp, by go_simp, by go_simp⟩, ⟨by go_simp, by go_simp, by (first | omega | (simp; done) | (simp; omega))⟩, ⟨by go_simp, by go_simp⟩, (Gr.below (by repeat (first | (with_reducible exact Gr.refl _) | (with_reducible exact Gr.refl _) | with_reducible refine Gr.alloc ?_ _ | with_reducible refine Gr.more ?_ _ _ | with_reducible refine Gr.setCell ?_ (by dsimp only; omega) _ | with_reducible refine Gr.drew ?_))), by (first | omega | (simp; done) | (simp; omega))⟩
  case rest =>
  clear hsz p0 p1 q0 q1 e0 e1 Hes Her
  obtain ⟨rfl, hK⟩ := hcut
  go_upto_region 2 with fail
  have a1 := hK.a.x
  have b1 := hK.a.y
  go_cut [32] (fun s32 wx => s32 = .bool false ∧ KO' w wx s g i j k)
  case first =>
    obtain ⟨l0, l1, l2⟩ := hK.l
    obtain ⟨p0, p1, hsz⟩ := hK.p
    obtain ⟨q0, q1⟩ := hK.q
    have hz := hK.hz
    have hG : Gr w.heap.size w wc := ⟨hK.hB, by omega⟩
    clear hK
    go_wp2_with (go_at_call 23; (with_reducible refine (HK _).mono ?_); rintro e w1 ⟨rfl, hb⟩; obtain ⟨os, n, rfl⟩ := Below.moreE hb; clear hb)
    go_meet
    exact ⟨rfl, ⟨by go_simp, by go_simp⟩, ⟨by go_simp, by go_simp, by go_simp⟩, ⟨by go_simp, by go_simp, by (first | omega | (simp; done) | (simp; omega))⟩, ⟨by go_simp, by go_simp⟩, (Gr.below (by repeat (first | (with_reducible exact Gr.refl _) | (with_reducible exact hG) | with_reducible refine Gr.alloc ?_ _ | with_reducible refine Gr.more ?_ _ _ | with_reducible refine Gr.setCell ?_ (by dsimp only; omega) _ | with_reducible refine Gr.drew ?_))), by (first | omega | (simp; done) | (simp; omega))⟩
  case rest =>
  clear a1 b1 hK
  obtain ⟨rfl, hK⟩ := hcut
  go_upto_region 4 with fail
  refine orders_r4 hK.a hK.l H01 ?_
  intro _ _ _ _ _ _ _ _ _ W4 g4
  replace hK := KO'.up g4 hK
  go_upto_region 5 with fail
  refine orders_r5 hK.a hK.l H12 ?_
  intro _ _ _ _ _ _ _ _ _ W5 g5
  replace hK := KO'.up g5 hK
  go_upto_region 6 with fail
  refine orders_r6 hK.a hK.l H02 ?_
  intro _ _ _ _ _ _ _ _ _ W6 g6
  replace hK := KO'.up g6 hK
  go_upto_region 7 with fail
  refine orders_r7 hK.a hK.l H10 ?_
  intro _ _ _ _ _ _ _ _ _ W7 g7
  replace hK := KO'.up g7 hK
  go_upto_region 8 with fail
  go_cut [119] (fun s119 wx => s119 = .bool false ∧ KO' w wx s g i j k)
  case first =>
    by_cases hy : y ≤ 0
    · have hzz := hz hy
      refine orders_r8ea hy (by omega) hK.a hK.l HW0 HW1 ?_
      intro _ _ _ _ _ _ _ _ _ _ _ _ _ _ _ _ _ _ _ _ _ _ _ _ _ _ _ _ _ _ _ _ _ _ _ _ _ _ _ _ _ _ _ _ _ _ _ _ _ W8 g8
      go_wp2_with fail
      go_meet
      exact ⟨rfl, KO'.up g8 hK⟩
    · refine orders_r8eb hy hK.a hK.l HW0 HW1 ?_
      intro _ _ _ _ _ _ _ _ _ _ _ _ _ _ _ _ _ _ _ _ _ _ _ _ _ _ _ _ _ _ _ _ _ _ _ _ _ _ _ _ _ _ _ _ _ _ _ _ _ W8 g8
      go_wp2_with fail
      go_meet
      exact ⟨rfl, KO'.up g8 hK⟩
  case rest =>
  clear hK
  obtain ⟨rfl, hK⟩ := hcut
  go_upto_region 10 with fail
  go_cut [14] (fun s14 wx => ∃ A : Nat, s14 = .pointer (some ⟨A, 0, none⟩) ∧ KB A wx (reB 11 (0)) (reB 12 (0)) (reB 13 (0)) (reB 14 (0)) (reB 15 (0)) (reB 16 (0)) ∧ KO' w wx s g i j k)
  case first =>
    obtain ⟨a1, b1⟩ := hK.a
    obtain ⟨l0, l1, l2⟩ := hK.l
    obtain ⟨p0, p1, hsz⟩ := hK.p
    obtain ⟨q0, q1⟩ := hK.q
    have hz := hK.hz
    have hG : Gr w.heap.size w wc := ⟨hK.hB, by omega⟩
    clear hK
    go_wp2_with fail
    go_meet
    exact ⟨_, rfl, ⟨by simp [reB]; try go_simp, by simp [reB]; try go_simp, by simp [reB]; try go_simp, by simp [reB]; try go_simp, by simp [reB]; try go_simp, by simp [reB]; try go_simp⟩, ⟨by go_simp, by go_simp⟩, ⟨by go_simp, by go_simp, by go_simp⟩, ⟨by go_simp, by go_simp, by (first | omega | (simp; done) | (simp; omega))⟩, ⟨by go_simp, by go_simp⟩, (Gr.below (by repeat (first | (with_reducible exact Gr.refl _) | (with_reducible exact hG) | with_reducible refine Gr.alloc ?_ _ | with_reducible refine Gr.more ?_ _ _ | with_reducible refine Gr.setCell ?_ (by dsimp only; omega) _ | with_reducible refine Gr.drew ?_))), by (first | omega | (simp; done) | (simp; omega))⟩
  case rest =>
  clear hK
  obtain ⟨A, rfl, hA', hK'⟩ := hcut
  go_wp2_with fail
  go_loopw [15] (fun v wr => ∃ K : Int, 0 ≤ K ∧ K ≤ 6 ∧ v = .int .i64 K ∧ KB A wr (reB 11 (0)) (reB 12 (0)) (reB 13 (0)) (reB 14 (0)) (reB 15 (0)) (reB 16 (0)) ∧ KO' w wr s g i j k) (fun v _ => 6 - (intOf v).toNat)
  case atStart => exact ⟨0, by omega, by omega, rfl, hA', hK'⟩
  case round =>
    clear hK' hA'
    obtain ⟨K, k0, k6, rfl, hA, hK⟩ := hrel
    have hw : wrap64 (K + 1) = K + 1 := by unfold wrap64; omega
    have hw2 : wrap64 (11 + K) = 11 + K := by unfold wrap64; omega
    by_cases hk : K < 6
    · have hc := hA.at k0 hk
      have HX := HO K k0 hk
      generalize reB (11 + K) (0) = b at hc HX
      cases b
      all_goals
        simp only [sel_t, sel_f] at HX
        go_upto_region 14 with fail
        refine orders_r14 hK.p hw2 hK.a hK.l HX ?_
        intro _ _ _ _ _ _ _ _ _ _ _ b16 W14 g14 bl16 bu16 bx16 by16
        replace hA := KB.up g14 hA
        replace hK := KO'.up g14 hK
        replace hc := grC g14 hc
        have hb16 : BoxT W14 b16 _ _ := ⟨bx16, by16⟩
        clear bx16 by16 bl16 bu16
        go_upto_region 15 with fail
        first | refine orders_r15t hK.q k0 hk hc hb16 ?_ | refine orders_r15f hK.q k0 hk hc hb16 ?_
        intro _ _ _ _ _ _ _ _ _ _ _ _ _ _ _ _ _ _ W15 g15
        replace hK := KO'.up g15 hK
        replace hA := KB.up g15 hA
        go_wp2_with fail
        go_roundw
        case rel => exact ⟨_, by first | omega | (rw [hw]; omega), by first | omega | (rw [hw]; omega), rfl, hA, hK⟩
        case measure => simp [intOf]; omega
    · go_upto_region 17 with fail
      refine orders_r17 hK.a HR ?_
      intro _ _ _ _ _ _ W17 g17
      replace hK := KO'.up g17 hK
      go_upto_region 18 with fail
      refine orders_r18 hK.a hK.l HA ?_
      intro _ _ _ _ _ _ _ _ W18 g18
      replace hK := KO'.up g18 hK
      go_upto_region 19 with fail
      refine orders_r19 hK.a hK.l HB ?_
      intro _ _ _ _ _ _ _ _ W19 g19
      replace hK := KO'.up g19 hK
      go_upto_region 20 with fail
      refine orders_r20 ha hb' hK.a HL HH ?_
      intro _ _ _ _ _ _ _ _ _ _ _ _ _ _ _ _ _ _ _ _ _ _ _ _ W20 g20
      replace hK := KO'.up g20 hK
      go_wp2_with fail
      refine bodyPost_ret (v := .bool true) (by simp [results, Tryd.results9, go_sem]) rfl ⟨rfl, hK.hB⟩

set_option maxRecDepth 100000 in
set_option maxHeartbeats 16000000 in
theorem orders_more (s : Int) (g : Bool) (i j k : Int) (HK : RetV 23 #[tyV s g] 0) (y z : Int)
    (H01 : RetM 25 #[tyV s g, .int .i64 i, .int .i64 j] (1) 0) (H12 : RetM 25 #[tyV s g, .int .i64 j, .int .i64 k] y 0) (H02 : RetM 25 #[tyV s g, .int .i64 i, .int .i64 k] z 0) (H10 : RetM 25 #[tyV s g, .int .i64 j, .int .i64 i] (-1) 0)
    (w0 w1 : Int) (HW0 : RetV 36 #[tyV s g, .int .i64 i] w0) (HW1 : RetV 36 #[tyV s g, .int .i64 j] w1) (hne : ¬ w0 = w1) 
    (HO : ∀ q : Int, 0 ≤ q → q < 6 → RetO (11 + q) s g i j 4 true (sel (reB (11 + q) (1)) 1 0))
    (lo hi a b : Int) (HR : ∀ w : World, Calls Tryd.prog 13 #[tyV s g] w fun r w' => r = .returned (.tuple #[.int .i64 lo, .int .i64 hi, .int .i64 0]) ∧ Below w.heap.size w w')
    (HA : RetM 25 #[tyV s g, .int .i64 lo, .int .i64 i] a 0) (ha : a ≤ 0) (HB : RetM 25 #[tyV s g, .int .i64 i, .int .i64 hi] b 0) (hb' : b ≤ 0) (HL : RetV 36 #[tyV s g, .int .i64 lo] lo) (HH : RetV 36 #[tyV s g, .int .i64 hi] hi)
    (w : World) (hp : PI w) (hE : EV w) (hq : PR w) : Calls Tryd.prog 9 #[tyV s g, .agg #[.int .i64 i, .int .i64 j, .int .i64 k]] w fun e w' => e = .returned (.bool true) ∧ Below w.heap.size w w' := by
  obtain ⟨p0, p1, hsz⟩ := hp
  obtain ⟨q0, q1⟩ := hq
  obtain ⟨⟨es, e0, hes⟩, ⟨er, e1, her⟩, _⟩ := hE
  have Hes := Lib.hid hes
  have Her := Lib.hid her
  clear hes her
  go_enter Tryd.func9, Tryd.ntmps9
  go_upto_region 1 with fail
  go_cut [5] (fun s5 wx => s5 = .bool true ∧ KO' w wx s g i j k)
  case first =>
    go_wp2_with (go_at_call 12; (refine (sane_any _ ?hpp ?hqq).mono ?_); (try case hpp => exact ⟨by go_simp, by go_simp, by go_simp <;> omega⟩); (try case hqq => exact ⟨⟨es, by go_simp, Hes.out⟩, ⟨er, by go_simp, Her.out⟩, by go_simp <;> omega⟩); rintro e w1 ⟨rfl, hb⟩; obtain ⟨os, n, rfl⟩ := Below.moreE hb; clear hb)
    go_meet
    exact ⟨rfl, ⟨by go_simp, by go_simp⟩, ⟨by go_simp, by go_simp, by go_simp⟩, ⟨by go_simp, by go_simp, by (first | omega | (simp; done) | (simp; omega))⟩, ⟨by go_simp, by go_simp⟩, (Gr.below (by repeat (first | (with_reducible exact Gr.refl _) | (with_reducible exact Gr.refl _) | with_reducible refine Gr.alloc ?_ _ | with_reducible refine Gr.more ?_ _ _ | with_reducible refine Gr.setCell ?_ (by dsimp only; omega) _ | with_reducible refine Gr.drew ?_))), by (first | omega | (simp; done) | (simp; omega))⟩
  case rest =>
  clear hsz p0 p1 q0 q1 e0 e1 Hes Her
  obtain ⟨rfl, hK⟩ := hcut
  go_upto_region 2 with fail
  have a1 := hK.a.x
  have b1 := hK.a.y
  go_cut [32] (fun s32 wx => s32 = .bool false ∧ KO' w wx s g i j k)
  case first =>
    obtain ⟨l0, l1, l2⟩ := hK.l
    obtain ⟨p0, p1, hsz⟩ := hK.p
    obtain ⟨q0, q1⟩ := hK.q
    have hz := hK.hz
    have hG : Gr w.heap.size w wc := ⟨hK.hB, by omega⟩
    clear hK
    go_wp2_with (go_at_call 23; (with_reducible refine (HK _).mono ?_); rintro e w1 ⟨rfl, hb⟩; obtain ⟨os, n, rfl⟩ := Below.moreE hb; clear hb)
    go_meet
    exact ⟨rfl, ⟨by go_simp, by go_simp⟩, ⟨by go_simp, by go_simp, by go_simp⟩, ⟨by go_simp, by go_simp, by (first | omega | (simp; done) | (simp; omega))⟩, ⟨by go_simp, by go_simp⟩, (Gr.below (by repeat (first | (with_reducible exact Gr.refl _) | (with_reducible exact hG) | with_reducible refine Gr.alloc ?_ _ | with_reducible refine Gr.more ?_ _ _ | with_reducible refine Gr.setCell ?_ (by dsimp only; omega) _ | with_reducible refine Gr.drew ?_))), by (first | omega | (simp; done) | (simp; omega))⟩
  case rest =>
  clear a1 b1 hK
  obtain ⟨rfl, hK⟩ := hcut
  go_upto_region 4 with fail
  refine orders_r4 hK.a hK.l H01 ?_
  intro _ _ _ _ _ _ _ _ _ W4 g4
  replace hK := KO'.up g4 hK
  go_upto_region 5 with fail
  refine orders_r5 hK.a hK.l H12 ?_
  intro _ _ _ _ _ _ _ _ _ W5 g5
  replace hK := KO'.up g5 hK
  go_upto_region 6 with fail
  refine orders_r6 hK.a hK.l H02 ?_
  intro _ _ _ _ _ _ _ _ _ W6 g6
  replace hK := KO'.up g6 hK
  go_upto_region 7 with fail
  refine orders_r7 hK.a hK.l H10 ?_
  intro _ _ _ _ _ _ _ _ _ W7 g7
  replace hK := KO'.up g7 hK
  go_upto_region 8 with fail
  go_cut [119] (fun s119 wx => s119 = .bool false ∧ KO' w wx s g i j k)
  case first =>
    refine orders_r8g hne hK.a hK.l HW0 HW1 ?_
    intro _ _ _ _ _ _ _ _ _ _ _ _ _ _ _ _ _ _ _ _ _ _ _ _ _ _ _ _ _ _ _ _ _ _ _ _ _ _ _ _ _ _ _ _ _ _ _ _ _ W8 g8
    go_wp2_with fail
    go_meet
    exact ⟨rfl, KO'.up g8 hK⟩
  case rest =>
  clear hK
  obtain ⟨rfl, hK⟩ := hcut
  go_upto_region 10 with fail
  go_cut [14] (fun s14 wx => ∃ A : Nat, s14 = .pointer (some ⟨A, 0, none⟩) ∧ KB A wx (reB 11 (1)) (reB 12 (1)) (reB 13 (1)) (reB 14 (1)) (reB 15 (1)) (reB 16 (1)) ∧ KO' w wx s g i j k)
  case first =>
    obtain ⟨a1, b1⟩ := hK.a
    obtain ⟨l0, l1, l2⟩ := hK.l
    obtain ⟨p0, p1, hsz⟩ := hK.p
    obtain ⟨q0, q1⟩ := hK.q
    have hz := hK.hz
    have hG : Gr w.heap.size w wc := ⟨hK.hB, by omega⟩
    clear hK
    go_wp2_with fail
    go_meet
    exact ⟨_, rfl, ⟨by simp [reB]; try go_simp, by simp [reB]; try go_simp, by simp [reB]; try go_simp, by simp [reB]; try go_simp, by simp [reB]; try go_simp, by simp [reB]; try go_simp⟩, ⟨by go_simp, by go_simp⟩, ⟨by go_simp, by go_simp, by go_simp⟩, ⟨by go_simp, by go_simp, by (first | omega | (simp; done) | (simp; omega))⟩, ⟨by go_simp, by go_simp⟩, (Gr.below (by repeat (first | (with_reducible exact Gr.refl _) | (with_reducible exact hG) | with_reducible refine Gr.alloc ?_ _ | with_reducible refine Gr.more ?_ _ _ | with_reducible refine Gr.setCell ?_ (by dsimp only; omega) _ | with_reducible refine Gr.drew ?_))), by (first | omega | (simp; done) | (simp; omega))⟩
  case rest =>
  clear hK
  obtain ⟨A, rfl, hA', hK'⟩ := hcut
  go_wp2_with fail
  go_loopw [15] (fun v wr => ∃ K : Int, 0 ≤ K ∧ K ≤ 6 ∧ v = .int .i64 K ∧ KB A wr (reB 11 (1)) (reB 12 (1)) (reB 13 (1)) (reB 14 (1)) (reB 15 (1)) (reB 16 (1)) ∧ KO' w wr s g i j k) (fun v _ => 6 - (intOf v).toNat)
  case atStart => exact ⟨0, by omega, by omega, rfl, hA', hK'⟩
  case round =>
    clear hK' hA'
    obtain ⟨K, k0, k6, rfl, hA, hK⟩ := hrel
    have hw : wrap64 (K + 1) = K + 1 := by unfold wrap64; omega
    have hw2 : wrap64 (11 + K) = 11 + K := by unfold wrap64; omega
    by_cases hk : K < 6
    · have hc := hA.at k0 hk
      have HX := HO K k0 hk
      generalize reB (11 + K) (1) = b at hc HX
      cases b
      all_goals
        simp only [sel_t, sel_f] at HX
        go_upto_region 14 with fail
        refine orders_r14 hK.p hw2 hK.a hK.l HX ?_
        intro _ _ _ _ _ _ _ _ _ _ _ b16 W14 g14 bl16 bu16 bx16 by16
        replace hA := KB.up g14 hA
        replace hK := KO'.up g14 hK
        replace hc := grC g14 hc
        have hb16 : BoxT W14 b16 _ _ := ⟨bx16, by16⟩
        clear bx16 by16 bl16 bu16
        go_upto_region 15 with fail
        first | refine orders_r15t hK.q k0 hk hc hb16 ?_ | refine orders_r15f hK.q k0 hk hc hb16 ?_
        intro _ _ _ _ _ _ _ _ _ _ _ _ _ _ _ _ _ _ W15 g15
        replace hK := KO'.up g15 hK
        replace hA := KB.up g15 hA
        go_wp2_with fail
        go_roundw
        case rel => exact ⟨_, by first | omega | (rw [hw]; omega), by first | omega | (rw [hw]; omega), rfl, hA, hK⟩
        case measure => simp [intOf]; omega
    · go_upto_region 17 with fail
      refine orders_r17 hK.a HR ?_
      intro _ _ _ _ _ _ W17 g17
      replace hK := KO'.up g17 hK
      go_upto_region 18 with fail
      refine orders_r18 hK.a hK.l HA ?_
      intro _ _ _ _ _ _ _ _ W18 g18
      replace hK := KO'.up g18 hK
      go_upto_region 19 with fail
      refine orders_r19 hK.a hK.l HB ?_
      intro _ _ _ _ _ _ _ _ W19 g19
      replace hK := KO'.up g19 hK
      go_upto_region 20 with fail
      refine orders_r20 ha hb' hK.a HL HH ?_
      intro _ _ _ _ _ _ _ _ _ _ _ _ _ _ _ _ _ _ _ _ _ _ _ _ W20 g20
      replace hK := KO'.up g20 hK
      go_wp2_with fail
      refine bodyPost_ret (v := .bool true) (by simp [results, Tryd.results9, go_sem]) rfl ⟨rfl, hK.hB⟩

end Go.Proofs.YtbdkacfddbiclaaDoor
