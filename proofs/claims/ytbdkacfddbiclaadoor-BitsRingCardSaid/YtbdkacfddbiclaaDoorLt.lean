/-
  The law BitsRing, walked over named results.
-/
import Derived.Test.YtbdkacfddbiclaaDoorLt1
import Derived.Test.YtbdkacfddbiclaaDoorLt2
namespace Go.Proofs.YtbdkacfddbiclaaDoor
open Go.RowKit

/-- What the law holds all along. -/
structure KR (w W : World) (s : Int) (g : Bool) (ts : Int) (tg : Bool) (i j k : Int) : Prop where
  a : BoxT W w.heap.size s g
  t : BoxT W (w.heap.size + 1) ts tg
  l : Box3 W (w.heap.size + 1 + 1) i j k
  p : PI W
  hB : Below w.heap.size w W
  hz : w.heap.size + 3 ≤ W.heap.size
theorem KR.up {w W W' : World} (gr : Gr W.heap.size W W') {s : Int} {g : Bool} {ts : Int} {tg : Bool} {i j k : Int} (h : KR w W s g ts tg i j k) : KR w W' s g ts tg i j k := by
  have hz := h.hz
  exact ⟨h.a.up gr, h.t.up gr, h.l.up gr, PI.up gr h.p, h.hB.trans (gr.below.mono (by omega)), Nat.le_trans hz gr.size⟩
/-- The array of the operations. -/
structure KA (A : Nat) (W : World) : Prop where
  d0 : W.cell? ⟨A, 0, none⟩ = some (.int .i64 1)
  d1 : W.cell? ⟨A, 1, none⟩ = some (.int .i64 2)
  d2 : W.cell? ⟨A, 2, none⟩ = some (.int .i64 3)
  d3 : W.cell? ⟨A, 3, none⟩ = some (.int .i64 6)
  d4 : W.cell? ⟨A, 4, none⟩ = some (.int .i64 7)
  d5 : W.cell? ⟨A, 5, none⟩ = some (.int .i64 8)
theorem KA.up {A : Nat} {W W' : World} (gr : Gr W.heap.size W W') (h : KA A W) : KA A W' := ⟨grC gr h.d0, grC gr h.d1, grC gr h.d2, grC gr h.d3, grC gr h.d4, grC gr h.d5⟩
theorem KA.at {A : Nat} {W : World} (h : KA A W) {q : Int} (q0 : 0 ≤ q) (q6 : q < 6) : ∃ n, isRing n ∧ W.cell? ⟨A, q.toNat, none⟩ = some (.int .i64 n) := by
  have hq : q = 0 ∨ q = 1 ∨ q = 2 ∨ q = 3 ∨ q = 4 ∨ q = 5 := by omega
  rcases hq with rfl | rfl | rfl | rfl | rfl | rfl
  · exact ⟨1, by decide, h.d0⟩
  · exact ⟨2, by decide, h.d1⟩
  · exact ⟨3, by decide, h.d2⟩
  · exact ⟨6, by decide, h.d3⟩
  · exact ⟨7, by decide, h.d4⟩
  · exact ⟨8, by decide, h.d5⟩

set_option maxRecDepth 100000 in
set_option maxHeartbeats 4000000 in
theorem ring_bad1 (s : Int) (g : Bool) (ts : Int) (tg : Bool) (i j k : Int) (HC : RetV 23 #[tyV s g] 10) (w : World) (hp : PI w) (hE : EV w) : Calls Tryd.prog 5 #[tyV s g, tyV ts tg, .agg #[.int .i64 i, .int .i64 j, .int .i64 k]] w fun e w' => e = .returned (.bool true) ∧ Below w.heap.size w w' := by
  obtain ⟨p0, p1, hsz⟩ := hp
  obtain ⟨⟨es, e0, hes⟩, ⟨er, e1, her⟩, _⟩ := hE
  have Hes := Lib.hid hes
  have Her := Lib.hid her
  clear hes her
  go_enter Tryd.func5, Tryd.ntmps5
  go_upto_region 2 with (go_at_call 12; (refine (sane_any _ ?hpp ?hqq).mono ?_); (try case hpp => exact ⟨by go_simp, by go_simp, by go_simp <;> omega⟩); (try case hqq => exact ⟨⟨es, by go_simp, Hes.out⟩, ⟨er, by go_simp, Her.out⟩, by go_simp <;> omega⟩); rintro e w1 ⟨rfl, hb⟩; obtain ⟨os, n, rfl⟩ := Below.moreE hb; clear hb)
  clear e0 e1 Hes Her
  go_wp2_with (go_at_call 23; (with_reducible refine (HC _).mono ?_); rintro e w1 ⟨rfl, hb⟩; obtain ⟨os, n, rfl⟩ := Below.moreE hb; clear hb)
  refine bodyPost_ret (v := .bool true) (by simp [results, Tryd.results5, go_sem]) rfl ⟨rfl, (Gr.below (by repeat (first | (with_reducible exact Gr.refl _) | (with_reducible exact Gr.refl _) | with_reducible refine Gr.alloc ?_ _ | with_reducible refine Gr.more ?_ _ _ | with_reducible refine Gr.setCell ?_ (by dsimp only; omega) _ | with_reducible refine Gr.drew ?_)))⟩

set_option maxRecDepth 100000 in
set_option maxHeartbeats 4000000 in
theorem ring_bad2 (s : Int) (g : Bool) (ts : Int) (tg : Bool) (i j k : Int) (HC : RetV 23 #[tyV s g] 0) (HT : RetV 23 #[tyV ts tg] 10) (w : World) (hp : PI w) (hE : EV w) : Calls Tryd.prog 5 #[tyV s g, tyV ts tg, .agg #[.int .i64 i, .int .i64 j, .int .i64 k]] w fun e w' => e = .returned (.bool true) ∧ Below w.heap.size w w' := by
  obtain ⟨p0, p1, hsz⟩ := hp
  obtain ⟨⟨es, e0, hes⟩, ⟨er, e1, her⟩, _⟩ := hE
  have Hes := Lib.hid hes
  have Her := Lib.hid her
  clear hes her
  go_enter Tryd.func5, Tryd.ntmps5
  go_upto_region 2 with (go_at_call 12; (refine (sane_any _ ?hpp ?hqq).mono ?_); (try case hpp => exact ⟨by go_simp, by go_simp, by go_simp <;> omega⟩); (try case hqq => exact ⟨⟨es, by go_simp, Hes.out⟩, ⟨er, by go_simp, Her.out⟩, by go_simp <;> omega⟩); rintro e w1 ⟨rfl, hb⟩; obtain ⟨os, n, rfl⟩ := Below.moreE hb; clear hb)
  clear e0 e1 Hes Her
  go_wp2_with first | (go_at_call 23; (with_reducible refine (HC _).mono ?_); rintro e w1 ⟨rfl, hb⟩; obtain ⟨os, n, rfl⟩ := Below.moreE hb; clear hb) | (go_at_call 23; (with_reducible refine (HT _).mono ?_); rintro e w1 ⟨rfl, hb⟩; obtain ⟨os, n, rfl⟩ := Below.moreE hb; clear hb)
  refine bodyPost_ret (v := .bool true) (by simp [results, Tryd.results5, go_sem]) rfl ⟨rfl, (Gr.below (by repeat (first | (with_reducible exact Gr.refl _) | (with_reducible exact Gr.refl _) | with_reducible refine Gr.alloc ?_ _ | with_reducible refine Gr.more ?_ _ _ | with_reducible refine Gr.setCell ?_ (by dsimp only; omega) _ | with_reducible refine Gr.drew ?_)))⟩

set_option maxRecDepth 100000 in
set_option maxHeartbeats 4000000 in
theorem ring_wide (s : Int) (g : Bool) (ts : Int) (tg : Bool) (i j k : Int) (HC : RetV 23 #[tyV s g] 0) (HT : RetV 23 #[tyV ts tg] 0) (hl : s < ts) (w : World) (hp : PI w) (hE : EV w) : Calls Tryd.prog 5 #[tyV s g, tyV ts tg, .agg #[.int .i64 i, .int .i64 j, .int .i64 k]] w fun e w' => e = .returned (.bool true) ∧ Below w.heap.size w w' := by
  obtain ⟨p0, p1, hsz⟩ := hp
  obtain ⟨⟨es, e0, hes⟩, ⟨er, e1, her⟩, _⟩ := hE
  have Hes := Lib.hid hes
  have Her := Lib.hid her
  clear hes her
  go_enter Tryd.func5, Tryd.ntmps5
  go_upto_region 2 with (go_at_call 12; (refine (sane_any _ ?hpp ?hqq).mono ?_); (try case hpp => exact ⟨by go_simp, by go_simp, by go_simp <;> omega⟩); (try case hqq => exact ⟨⟨es, by go_simp, Hes.out⟩, ⟨er, by go_simp, Her.out⟩, by go_simp <;> omega⟩); rintro e w1 ⟨rfl, hb⟩; obtain ⟨os, n, rfl⟩ := Below.moreE hb; clear hb)
  clear e0 e1 Hes Her
  go_wp2_with first | (go_at_call 23; (with_reducible refine (HC _).mono ?_); rintro e w1 ⟨rfl, hb⟩; obtain ⟨os, n, rfl⟩ := Below.moreE hb; clear hb) | (go_at_call 23; (with_reducible refine (HT _).mono ?_); rintro e w1 ⟨rfl, hb⟩; obtain ⟨os, n, rfl⟩ := Below.moreE hb; clear hb)
  refine bodyPost_ret (v := .bool true) (by simp [results, Tryd.results5, go_sem]) rfl ⟨rfl, (Gr.below (by repeat (first | (with_reducible exact Gr.refl _) | (with_reducible exact Gr.refl _) | with_reducible refine Gr.alloc ?_ _ | with_reducible refine Gr.more ?_ _ _ | with_reducible refine Gr.setCell ?_ (by dsimp only; omega) _ | with_reducible refine Gr.drew ?_)))⟩

set_option maxRecDepth 100000 in
set_option maxHeartbeats 40000000 in
theorem ring_good (s : Int) (g : Bool) (ts : Int) (tg : Bool) (i j k : Int)
    (HC : RetV 23 #[tyV s g] 0) (HT : RetV 23 #[tyV ts tg] 0) (hl : ¬ s < ts) (S : Int) (G : Bool) (TS : Int) (TG : Bool) (wi wj : Int) (X Y R U V M : Int → Int)
    (HWI : RetV 36 #[tyV ts tg, .int .i64 i] wi) (HWJ : RetV 36 #[tyV ts tg, .int .i64 j] wj)
    (HX : ∀ n, isRing n → RetO n s g i j S G (X n)) (HY : ∀ n, isRing n → RetO n ts tg wi wj TS TG (Y n))
    (HRX : ∀ n, isRing n → RetV 36 #[tyV ts tg, .int .i64 (X n)] (R n)) (HRY : ∀ n, isRing n → RetV 36 #[tyV ts tg, .int .i64 (Y n)] (R n))
    (HZ : ∀ n, isRing n → n ≠ 2 → RetO n s g j i S G (X n)) (HP : RetT 15 #[tyV s g] S G 0)
    (HU : ∀ n, isRing n → RetO n S G i j S G (U n)) (HV : ∀ n, isRing n → RetO n S G j k S G (V n)) (HL : ∀ n, isRing n → RetO n S G (U n) k S G (M n)) (HR : ∀ n, isRing n → n ≠ 2 → RetO n S G i (V n) S G (M n))
    (wc bk : Int) (HB : RetB 2 S G (X 1) s g j S G bk 0) (HWC : RetV 36 #[tyV s g, .int .i64 i] wc) (HWU : RetV 36 #[tyV S G, .int .i64 wc] bk)
    (w : World) (hp : PI w) (hE : EV w) : Calls Tryd.prog 5 #[tyV s g, tyV ts tg, .agg #[.int .i64 i, .int .i64 j, .int .i64 k]] w fun e w' => e = .returned (.bool true) ∧ Below w.heap.size w w' := by
  obtain ⟨p0, p1, hsz⟩ := hp
  obtain ⟨⟨es, e0, hes⟩, ⟨er, e1, her⟩, _⟩ := hE
  have Hes := Lib.hid hes
  have Her := Lib.hid her
  clear hes her
  go_enter Tryd.func5, Tryd.ntmps5
  go_upto_region 2 with (go_at_call 12; (refine (sane_any _ ?hpp ?hqq).mono ?_); (try case hpp => exact ⟨by go_simp, by go_simp, by go_simp <;> omega⟩); (try case hqq => exact ⟨⟨es, by go_simp, Hes.out⟩, ⟨er, by go_simp, Her.out⟩, by go_simp <;> omega⟩); rintro e w1 ⟨rfl, hb⟩; obtain ⟨os, n, rfl⟩ := Below.moreE hb; clear hb)
  clear e0 e1 Hes Her
  go_upto_region 4 with first | (go_at_call 23; (with_reducible refine (HC _).mono ?_); rintro e w1 ⟨rfl, hb⟩; obtain ⟨os, n, rfl⟩ := Below.moreE hb; clear hb) | (go_at_call 23; (with_reducible refine (HT _).mono ?_); rintro e w1 ⟨rfl, hb⟩; obtain ⟨os, n, rfl⟩ := Below.moreE hb; clear hb)
  go_cut [8] (fun s8 wx => ∃ A : Nat, s8 = .pointer (some ⟨A, 0, none⟩) ∧ KA A wx ∧ KR w wx s g ts tg i j k)
  case first =>
    go_wp2_with fail
    go_meet
    exact ⟨_, rfl, ⟨by go_simp, by go_simp, by go_simp, by go_simp, by go_simp, by go_simp⟩, ⟨⟨by go_simp, by go_simp⟩, ⟨by go_simp, by go_simp⟩, ⟨by go_simp, by go_simp, by go_simp⟩, ⟨by go_simp, by go_simp, by (first | omega | (simp; done) | (simp; omega))⟩, (Gr.below (by repeat (first | (with_reducible exact Gr.refl _) | (with_reducible exact Gr.refl _) | with_reducible refine Gr.alloc ?_ _ | with_reducible refine Gr.more ?_ _ _ | with_reducible refine Gr.setCell ?_ (by dsimp only; omega) _ | with_reducible refine Gr.drew ?_))), by (first | omega | (simp; done) | (simp; omega))⟩⟩
  case rest =>
  clear hsz p0 p1
  obtain ⟨A, rfl, hA', hK'⟩ := hcut
  go_wp2_with fail
  go_loopw [9] (fun v wr => ∃ K : Int, 0 ≤ K ∧ K ≤ 6 ∧ v = .int .i64 K ∧ KA A wr ∧ KR w wr s g ts tg i j k) (fun v _ => 6 - (intOf v).toNat)
  case atStart => exact ⟨0, by omega, by omega, rfl, hA', hK'⟩
  case round =>
    clear hK' hA'
    obtain ⟨K, k0, k6, rfl, hA, hK⟩ := hrel
    have hw : wrap64 (K + 1) = K + 1 := by unfold wrap64; omega
    by_cases hk : K < 6
    · obtain ⟨n, hn, hc⟩ := hA.at k0 hk
      go_upto_region 8 with fail
      refine ring_r8 hK.p k0 hk hc hK.a hK.l (HX n hn) ?_
      intro _ _ _ _ _ _ _ _ _ _ _ _ _ W8 g8
      replace hA := KA.up g8 hA
      replace hK := KR.up g8 hK
      replace hc := grC g8 hc
      go_upto_region 9 with fail
      refine ring_r9 hK.p k0 hk hc hK.t hK.l HWI HWJ (HY n hn) ?_
      intro _ _ _ _ _ _ _ _ _ _ _ _ _ _ _ _ _ W9 g9
      replace hA := KA.up g9 hA
      replace hK := KR.up g9 hK
      replace hc := grC g9 hc
      go_upto_region 10 with fail
      refine ring_r10 hK.t (HRX n hn) (HRY n hn) ?_
      intro _ _ _ _ _ _ W10 g10
      replace hA := KA.up g10 hA
      replace hK := KR.up g10 hK
      replace hc := grC g10 hc
      by_cases h2 : n = 2
      · go_wp2_with fail
        go_roundw
        case rel => exact ⟨_, by first | omega | (rw [hw]; omega), by first | omega | (rw [hw]; omega), rfl, hA, hK⟩
        case measure => simp [intOf, hw]; omega
      · go_upto_region 13 with fail
        refine ring_r13 hK.p k0 hk hc hK.a hK.l (HZ n hn h2) ?_
        intro _ _ _ _ _ _ _ _ _ _ _ _ _ W13 g13
        replace hA := KA.up g13 hA
        replace hK := KR.up g13 hK
        replace hc := grC g13 hc
        go_upto_region 16 with fail
        refine ring_r16 hK.p hK.a HP ?_
        intro _ _ _ _ _ b16 W16 g16 bl16 bu16 bx16 by16
        replace hA := KA.up g16 hA
        replace hK := KR.up g16 hK
        replace hc := grC g16 hc
        have hb16 : BoxT W16 b16 S G := ⟨bx16, by16⟩
        clear bx16 by16 bl16 bu16
        go_upto_region 17 with fail
        refine ring_r17 hK.p k0 hk hc hb16 hK.l (HU n hn) ?_
        intro _ _ _ _ _ _ _ _ _ _ _ _ _ W17 g17
        replace hA := KA.up g17 hA
        replace hK := KR.up g17 hK
        replace hc := grC g17 hc
        replace hb16 := BoxT.up g17 hb16
        go_upto_region 18 with fail
        refine ring_r18 hK.p k0 hk hc hb16 hK.l (HV n hn) ?_
        intro _ _ _ _ _ _ _ _ _ _ _ _ _ W18 g18
        replace hA := KA.up g18 hA
        replace hK := KR.up g18 hK
        replace hc := grC g18 hc
        replace hb16 := BoxT.up g18 hb16
        go_upto_region 19 with fail
        refine ring_r19 hK.p k0 hk hc hb16 hK.l (HL n hn) ?_
        intro _ _ _ _ _ _ _ _ _ _ _ _ W19 g19
        replace hA := KA.up g19 hA
        replace hK := KR.up g19 hK
        replace hc := grC g19 hc
        replace hb16 := BoxT.up g19 hb16
        go_upto_region 20 with fail
        refine ring_r20 hK.p k0 hk hc hb16 hK.l (HR n hn h2) ?_
        intro _ _ _ _ _ _ _ _ _ _ _ _ W20 g20
        replace hA := KA.up g20 hA
        replace hK := KR.up g20 hK
        replace hc := grC g20 hc
        replace hb16 := BoxT.up g20 hb16
        go_wp2_with fail
        go_roundw
        case rel => exact ⟨_, by first | omega | (rw [hw]; omega), by first | omega | (rw [hw]; omega), rfl, hA, hK⟩
        case measure => simp [intOf, hw]; omega
    · go_upto_region 23 with fail
      refine ring_r23 hK.p hK.a hK.l (HX 1 (by decide)) ?_
      intro _ _ _ _ _ _ _ _ _ b26 W23 g23 bl26 bu26 bx26 by26
      replace hK := KR.up g23 hK
      have hb26 : BoxT W23 b26 S G := ⟨bx26, by26⟩
      clear bx26 by26 bl26 bu26
      go_upto_region 24 with fail
      refine ring_r24 hK.p hb26 hK.a hK.l HB ?_
      intro _ _ _ _ _ _ _ _ _ _ _ W24 g24
      replace hK := KR.up g24 hK
      replace hb26 := BoxT.up g24 hb26
      go_upto_region 25 with fail
      refine ring_r25 hb26 hK.a hK.l HWC HWU ?_
      intro _ _ _ _ _ _ _ _ _ _ _ _ W25 g25
      replace hK := KR.up g25 hK
      go_wp2_with fail
      refine bodyPost_ret (v := .bool true) (by simp [results, Tryd.results5, go_sem]) rfl ⟨rfl, hK.hB⟩

end Go.Proofs.YtbdkacfddbiclaaDoor
