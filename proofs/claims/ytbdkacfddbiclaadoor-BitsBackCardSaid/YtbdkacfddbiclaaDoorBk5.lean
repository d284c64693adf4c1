/-
  The law BitsBack.
-/
import Derived.Test.YtbdkacfddbiclaaDoorBk4
import Derived.Test.YtbdkacfddbiclaaDoorBk1
import Derived.Test.YtbdkacfddbiclaaDoorLr
namespace Go.Proofs.YtbdkacfddbiclaaDoor
open Go.RowKit

/-- What the law holds all along. -/
structure KK (w W : World) (s : Int) (g : Bool) : Prop where
  a : BoxT W w.heap.size s g
  E : EV W
  hB : Below w.heap.size w W
  hz : w.heap.size + 1 ≤ W.heap.size
theorem KK.up {w W W' : World} (gr : Gr W.heap.size W W') {s : Int} {g : Bool} (h : KK w W s g) : KK w W' s g := by
  have hz := h.hz
  exact ⟨h.a.up gr, EV.up gr h.E, h.hB.trans (gr.below.mono (by omega)), Nat.le_trans hz gr.size⟩

set_option maxRecDepth 100000 in
set_option maxHeartbeats 16000000 in
theorem back_bad (s : Int) (g : Bool) (v : Int) (t : ByteArray) (HK : RetV 23 #[tyV s g] 10) (w : World) (hp : PI w) (hE : EV w) : Calls Tryd.prog 8 #[tyV s g, .int .i64 v, .string t] w fun e w' => e = .returned (.bool true) ∧ Below w.heap.size w w' := by
  obtain ⟨p0, p1, hsz⟩ := hp
  obtain ⟨⟨es, e0, hes⟩, ⟨er, e1, her⟩, hsE⟩ := hE
  have Hes := Lib.hid hes
  have Her := Lib.hid her
  clear hes her
  go_enter Tryd.func8, Tryd.ntmps8
  go_upto_region 1 with fail
  go_cut [7] (fun s7 wx => s7 = .bool true ∧ KK w wx s g)
  case first =>
    go_wp2_with (go_at_call 12; (refine (sane_any _ ?hpp ?hqq).mono ?_); (try case hpp => exact ⟨by go_simp, by go_simp, by go_simp <;> omega⟩); (try case hqq => exact ⟨⟨es, by go_simp, Hes.out⟩, ⟨er, by go_simp, Her.out⟩, by go_simp <;> omega⟩); rintro e w1 ⟨rfl, hb⟩; obtain ⟨os, n, rfl⟩ := Below.moreE hb; clear hb)
    go_meet
    exact ⟨rfl, ⟨by go_simp, by go_simp⟩, ⟨⟨es, by go_simp, Hes.out⟩, ⟨er, by go_simp, Her.out⟩, by (first | omega | (simp; done) | (simp; omega))⟩, (Gr.below (by repeat (first | (with_reducible exact Gr.refl _) | (with_reducible exact Gr.refl _) | with_reducible refine Gr.alloc ?_ _ | with_reducible refine Gr.more ?_ _ _ | with_reducible refine Gr.setCell ?_ (by dsimp only; omega) _ | with_reducible refine Gr.drew ?_))), by (first | omega | (simp; done) | (simp; omega))⟩
  case rest =>
  clear hsz p0 p1 e0 e1 Hes Her
  obtain ⟨rfl, hK⟩ := hcut
  have hE := hK.E
  have a1 := hK.a.x
  have b1 := hK.a.y
  go_wp2_with (go_at_call 23; (with_reducible refine (HK _).mono ?_); rintro e w1 ⟨rfl, hb⟩; obtain ⟨os, n, rfl⟩ := Below.moreE hb; clear hb)
  refine bodyPost_ret (v := .bool true) (by simp [results, Tryd.results8, go_sem]) rfl ⟨rfl, (KK.up (by repeat (first | (with_reducible exact Gr.refl _) | with_reducible refine Gr.alloc ?_ _ | with_reducible refine Gr.more ?_ _ _ | with_reducible refine Gr.setCell ?_ (by dsimp only; omega) _ | with_reducible refine Gr.drew ?_)) hK).hB⟩

set_option maxRecDepth 100000 in
set_option maxHeartbeats 16000000 in
theorem back_good (s : Int) (g : Bool) (v : Int) (t : ByteArray) (HK : RetV 23 #[tyV s g] 0) (x : Int) (z : Nat) (hzs : (z : Int) = s) (l : List UInt8) (a : ByteArray) (HW : RetV 36 #[tyV s g, .int .i64 v] x) (HB : RetBy s g v z l) (HF : RetF s g z l x 0) (HT : RetS 31 #[tyV s g, .int .i64 v] a 0) (HP : RetP 33 #[tyV s g, .string a] x 0)
    (y i : Int) (HF2 : RetF s g t.size t.data.toList y i) (hA : i = 1 ∨ (i = 0 ∧ RetBy s g y z t.data.toList ∧ t.data.toList.length = z)) (m k : Int) (HP2 : RetP 33 #[tyV s g, .string t] m k)
    (hD : k = 13 ∨ (k = 0 ∧ ∃ h : 1 < t.size, ((t[1].toNat : Int) == 120) = true) ∨ (k = 0 ∧ ¬ 1 < t.size ∧ RetS 31 #[tyV s g, .int .i64 m] t 0) ∨ (k = 0 ∧ (∃ h : 1 < t.size, ((t[1].toNat : Int) == 120) = false) ∧ RetS 31 #[tyV s g, .int .i64 m] t 0)) (w : World) (hp : PI w) (hE : EV w) : Calls Tryd.prog 8 #[tyV s g, .int .i64 v, .string t] w fun e w' => e = .returned (.bool true) ∧ Below w.heap.size w w' := by
  obtain ⟨p0, p1, hsz⟩ := hp
  obtain ⟨⟨es, e0, hes⟩, ⟨er, e1, her⟩, hsE⟩ := hE
  have Hes := Lib.hid hes
  have Her := Lib.hid her
  clear hes her
  go_enter Tryd.func8, Tryd.ntmps8
  go_upto_region 1 with fail
  go_cut [7] (fun s7 wx => s7 = .bool true ∧ KK w wx s g)
  case first =>
    go_wp2_with (go_at_call 12; (refine (sane_any _ ?hpp ?hqq).mono ?_); (try case hpp => exact ⟨by go_simp, by go_simp, by go_simp <;> omega⟩); (try case hqq => exact ⟨⟨es, by go_simp, Hes.out⟩, ⟨er, by go_simp, Her.out⟩, by go_simp <;> omega⟩); rintro e w1 ⟨rfl, hb⟩; obtain ⟨os, n, rfl⟩ := Below.moreE hb; clear hb)
    go_meet
    exact ⟨rfl, ⟨by go_simp, by go_simp⟩, ⟨⟨es, by go_simp, Hes.out⟩, ⟨er, by go_simp, Her.out⟩, by (first | omega | (simp; done) | (simp; omega))⟩, (Gr.below (by repeat (first | (with_reducible exact Gr.refl _) | (with_reducible exact Gr.refl _) | with_reducible refine Gr.alloc ?_ _ | with_reducible refine Gr.more ?_ _ _ | with_reducible refine Gr.setCell ?_ (by dsimp only; omega) _ | with_reducible refine Gr.drew ?_))), by (first | omega | (simp; done) | (simp; omega))⟩
  case rest =>
  clear hsz p0 p1 e0 e1 Hes Her
  obtain ⟨rfl, hK⟩ := hcut
  have hE := hK.E
  go_upto_region 2 with fail
  go_cut [32] (fun s32 wx => s32 = .bool false ∧ KK w wx s g)
  case first =>
    have a1 := hK.a.x
    have b1 := hK.a.y
    go_wp2_with (go_at_call 23; (with_reducible refine (HK _).mono ?_); rintro e w1 ⟨rfl, hb⟩; obtain ⟨os, n, rfl⟩ := Below.moreE hb; clear hb)
    go_meet
    exact ⟨rfl, KK.up (by repeat (first | (with_reducible exact Gr.refl _) | with_reducible refine Gr.alloc ?_ _ | with_reducible refine Gr.more ?_ _ _ | with_reducible refine Gr.setCell ?_ (by dsimp only; omega) _ | with_reducible refine Gr.drew ?_)) hK⟩
  case rest =>
  clear hK hE
  obtain ⟨rfl, hK⟩ := hcut
  go_upto_region 4 with fail
  refine back_r4 hK.a HW ?_
  intro _ _ _ W4 g4
  replace hK := KK.up g4 hK
  go_upto_region 5 with fail
  refine back_r5 hK.a HB ?_
  intro _ _ _ _ _ _ b9 W5 g5 hs9
  replace hK := KK.up g5 hK
  go_upto_region 6 with fail
  refine back_r6 hK.a hs9 HF ?_
  intro _ _ _ _ _ _ W6 g6
  replace hK := KK.up g6 hK
  go_upto_region 7 with fail
  refine back_r7 hK.a HT ?_
  intro _ _ _ _ _ _ W7 g7
  replace hK := KK.up g7 hK
  go_upto_region 8 with fail
  refine back_r8 hK.E hK.a HP ?_
  intro _ _ _ _ _ _ W8 g8
  replace hK := KK.up g8 hK
  clear hs9
  have a1 := hK.a.x
  go_upto_region 11 with fail
  clear a1
  refine back_r11 hK.a HF2 ?_
  intro _ _ _ _ _ _ _ W11 g11
  replace hK := KK.up g11 hK
  rcases hA with rfl | ⟨rfl, HB2, hlz⟩
  · go_upto_region 16 with fail
    refine back_r16 hK.E hK.a HP2 ?_
    intro _ _ _ _ _ _ W16 g16
    replace hK := KK.up g16 hK
    rcases hD with rfl | ⟨rfl, hx, h2⟩ | ⟨rfl, hx, HT2⟩ | ⟨rfl, ⟨hx, h2⟩, HT2⟩
    · go_wp2_with fail
      refine bodyPost_ret (v := .bool true) (by simp [results, Tryd.results8, go_sem]) rfl ⟨rfl, hK.hB⟩
    · go_wp2_with fail
      refine bodyPost_ret (v := .bool true) (by simp [results, Tryd.results8, go_sem]) rfl ⟨rfl, hK.hB⟩
    · go_upto_region 19 with fail
      refine back_r19 hK.a HT2 ?_
      intro _ _ _ _ _ _ W19 g19
      replace hK := KK.up g19 hK
      go_wp2_with fail
      refine bodyPost_ret (v := .bool true) (by simp [results, Tryd.results8, go_sem]) rfl ⟨rfl, hK.hB⟩
    · go_upto_region 19 with fail
      refine back_r19 hK.a HT2 ?_
      intro _ _ _ _ _ _ W19 g19
      replace hK := KK.up g19 hK
      go_wp2_with fail
      refine bodyPost_ret (v := .bool true) (by simp [results, Tryd.results8, go_sem]) rfl ⟨rfl, hK.hB⟩
  · go_upto_region 13 with fail
    refine back_r13 hK.a HB2 ?_
    intro _ _ _ _ _ _ b19 W13 g13 hs19
    replace hK := KK.up g13 hK
    go_upto_region 14 with fail
    refine back_r14 hs19 hlz ?_
    intro _ _ _ _ _ _ _ W14 g14
    replace hK := KK.up g14 hK
    go_upto_region 16 with fail
    refine back_r16 hK.E hK.a HP2 ?_
    intro _ _ _ _ _ _ W16 g16
    replace hK := KK.up g16 hK
    rcases hD with rfl | ⟨rfl, hx, h2⟩ | ⟨rfl, hx, HT2⟩ | ⟨rfl, ⟨hx, h2⟩, HT2⟩
    · go_wp2_with fail
      refine bodyPost_ret (v := .bool true) (by simp [results, Tryd.results8, go_sem]) rfl ⟨rfl, hK.hB⟩
    · go_wp2_with fail
      refine bodyPost_ret (v := .bool true) (by simp [results, Tryd.results8, go_sem]) rfl ⟨rfl, hK.hB⟩
    · go_upto_region 19 with fail
      refine back_r19 hK.a HT2 ?_
      intro _ _ _ _ _ _ W19 g19
      replace hK := KK.up g19 hK
      go_wp2_with fail
      refine bodyPost_ret (v := .bool true) (by simp [results, Tryd.results8, go_sem]) rfl ⟨rfl, hK.hB⟩
    · go_upto_region 19 with fail
      refine back_r19 hK.a HT2 ?_
      intro _ _ _ _ _ _ W19 g19
      replace hK := KK.up g19 hK
      go_wp2_with fail
      refine bodyPost_ret (v := .bool true) (by simp [results, Tryd.results8, go_sem]) rfl ⟨rfl, hK.hB⟩

theorem hex_x {t : ByteArray} (h : hexL t.data.toList = true) : ∃ h : 1 < t.size, ((t[1].toNat : Int) == 120) = true := by
  obtain ⟨⟨l⟩⟩ := t
  unfold hexL Lib.hasPrefix at h
  match l, h with
  | [], h => simp [List.isPrefixOf] at h
  | [a], h => simp [List.isPrefixOf] at h
  | a :: b :: l, h =>
    simp [List.isPrefixOf] at h
    refine ⟨by show 1 < (a :: b :: l).toArray.size; simp, ?_⟩
    show ((b.toNat : Int) == 120) = true
    rw [← h.2]
    rfl
theorem law_back (s : Int) (g : Bool) (v : Int) (hv : I64 v) (t : ByteArray) (ht : t.size ≤ 140737488351232) (w : World) (hp : PI w) (hE : EV w) : Calls Tryd.prog 8 #[tyV s g, .int .i64 v, .string t] w fun e w' => e = .returned (.bool true) ∧ Below w.heap.size w w' := by
  cases vs : validB s
  · have HK : RetV 23 #[tyV s g] 10 := fun w => by
      have h := check_any s g w
      rw [show eT s = 10 by simp [eT, vs]] at h
      exact h
    exact back_bad s g v t HK w hp hE
  have HK : RetV 23 #[tyV s g] 0 := fun w => by
    have h := check_any s g w
    rw [eT_ok vs] at h
    exact h
  have hzs : ((s.toNat : Nat) : Int) = s := by rcases (valid_iff s).1 vs with rfl | rfl | rfl | rfl <;> rfl
  have HB : ∀ x, RetBy s g x s.toNat (btL x s.toNat) := fun x w => bytes_ok vs g x w
  have HF : RetF s g s.toNat (btL v s.toNat) (wrapI s g v) 0 := fun w b cap hb => by
    have h := from_loop vs g (btL v s.toNat) (by rw [btL_length]; exact hzs) b cap w hb
    rw [btL_length, fb_bt vs g v hv] at h
    exact h
  have rv := Rg_wrap s g v hv
  have HT := ltext_ok (g := g) vs v
  have HP := lparse_ok (g := g) vs (textL g (wrapI s g v)) (text_len g _ (Rg_I64 rv))
  rw [text_parOK s g g _ (Rg_I64 rv), nm_own s g vs _ rv, sel_t, sel_t, text_parN g _ (Rg_I64 rv)] at HP
  have hlen : t.data.toList.length = t.size := Array.length_toList
  have hA : ∃ y i : Int, RetF s g t.size t.data.toList y i ∧ (i = 1 ∨ (i = 0 ∧ RetBy s g y s.toNat t.data.toList ∧ t.data.toList.length = s.toNat)) := by
    by_cases hl : (t.size : Int) = s
    · have hl' : t.data.toList.length = s.toNat := by omega
      refine ⟨fbV s g t.data.toList, 0, fun w b cap hb => ?_, .inr ⟨rfl, ?_, hl'⟩⟩
      · have h := from_loop vs g t.data.toList (by rw [hlen]; exact hl) b cap w hb
        rw [hlen] at h
        exact h
      · have h := HB (fbV s g t.data.toList)
        rw [bt_fb vs g _ hl'] at h
        exact h
    · exact ⟨0, 1, fun w b cap _ => from_short vs g t.size hl _ cap w, .inl rfl⟩
  obtain ⟨y, i, HF2, hA⟩ := hA
  have HP2 : RetP 33 #[tyV s g, .string t] (sel (parOK s g t.data.toList) (parN t.data.toList) 0) (sel (parOK s g t.data.toList) 0 13) := fun w hE => by
    have h := bparse_any s g t w ht hE
    rw [vs] at h
    exact h
  refine back_good s g v t HK _ s.toNat hzs _ _ (lwrap_ok vs v) (HB v) HF HT HP y i HF2 hA _ _ HP2 ?_ w hp hE
  cases ho : parOK s g t.data.toList
  · exact .inl rfl
  · have hT2 : hexL t.data.toList = false → RetS 31 #[tyV s g, .int .i64 (parN t.data.toList)] t 0 := fun hx => by
      have h := ltext_ok (g := g) vs (parN t.data.toList)
      rw [par_text vs g _ ho hx, str_back] at h
      exact h
    rw [sel_t, sel_t]
    by_cases h1 : 1 < t.size
    · cases h2 : ((t[1].toNat : Int) == 120)
      · have hx : hexL t.data.toList = false := by
          cases hh : hexL t.data.toList
          · rfl
          · obtain ⟨_, h⟩ := hex_x hh
            rw [h2] at h
            cases h
        exact .inr (.inr (.inr ⟨rfl, ⟨h1, h2⟩, hT2 hx⟩))
      · exact .inr (.inl ⟨rfl, h1, h2⟩)
    · have hx : hexL t.data.toList = false := by
        cases hh : hexL t.data.toList
        · rfl
        · obtain ⟨h, _⟩ := hex_x hh
          exact absurd h h1
      exact .inr (.inr (.inl ⟨rfl, h1, hT2 hx⟩))
end Go.Proofs.YtbdkacfddbiclaaDoor
