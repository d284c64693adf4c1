/-
  Layer 2, contracts: read: the other lines.
-/
import Derived.Test.YtjlbcpmfbokinaaGreatDoorJn
set_option linter.unusedSimpArgs false
set_option linter.unusedVariables false
namespace Go.Proofs.YtjlbcpmfbokinaaGreatDoor
open Go.RowKit Go.Shelf Go.WideMaps Go.Maps

theorem afB_nil {t : ByteArray} (h : t.toList = []) : (afB t).toList = [] := by
  have h0 : t.size = 0 := by
    have := nil_size t
    rw [h] at this
    simpa using this.symm
  have h1 := afB_le t
  have h2 := nil_size (afB t)
  rw [decide_eq_true (by omega)] at h2
  exact beq_iff_eq.1 h2
set_option maxRecDepth 100000 in
set_option maxHeartbeats 2000000 in
theorem read_lab {p m : Nat} {W : World} {A : As} (h : AB W p m A) (hT : TB W) (t : ByteArray) (ht : t.size ≤ 20000) (h1 : inB (dfW t) = true) (h2 : hpB (dfR t) ⟨#[58]⟩ = true) (hn : hasL A.labs (dfW t) = false) (hll : A.list.length ≤ 20000) (hlb : A.labs.length ≤ 20000) (hf : 0 ≤ A.fin ∧ A.fin ≤ 1099511629824) (he : (afB (cpB (dfR t) ⟨#[58]⟩)).toList = []) :
    Calls Tryz.prog 69 #[.pointer (some ⟨p, 0, none⟩), .string t] W fun e W' => e = .returned (.tuple #[]) ∧ AB W' p m (A.lbl (dfW t)) ∧ Asm p m W W' := by
  have hm : t.size ≤ maxLen := by unfold maxLen; omega
  have HF := Lib.hid (fun q (hq : W.heap.size = q) => SB.fresh hT hq true t hm)
  have hml : (dfW t).size ≤ maxLen := Nat.le_trans (dfW_le t) hm
  have HD : ∀ W' q, SB W' q (S0 true t) → Calls Tryz.prog 86 #[.pointer (some ⟨q, 0, none⟩)] W' fun e w' => e = .returned (.string (dfW t)) ∧ Frm q W' w' ∧ SB w' q (S1 t (cpB (dfR t) ⟨#[58]⟩)) := fun W' q g => definition_yes (S := S0 true t) g h1 h2
  have HB : ∀ W' q, SB W' q (S1 t (cpB (dfR t) ⟨#[58]⟩)) → Calls Tryz.prog 61 #[.pointer (some ⟨q, 0, none⟩)] W' fun e w' => (∃ n, e = .returned (.int .i64 n)) ∧ Frm q W' w' ∧ SB w' q (S1 t (afB (cpB (dfR t) ⟨#[58]⟩))) := fun W' q g => (blanks_sb (S := S1 t (cpB (dfR t) ⟨#[58]⟩)) g).mono fun _ _ ⟨h1, h2⟩ => ⟨⟨_, h1⟩, h2⟩
  have HC := Lib.hid (fun W' q (g : SB W' q (S1 t (afB (cpB (dfR t) ⟨#[58]⟩)))) => (show W'.cell? ⟨q, 0, none⟩ = some (.string (afB (cpB (dfR t) ⟨#[58]⟩))) from g.c0))
  have HO := Lib.hid (fun W' q (g : SB W' q (S1 t (afB (cpB (dfR t) ⟨#[58]⟩)))) => (show W'.cell? ⟨q, 3, none⟩ = some (.int .i64 0) from g.c3))
  have hn1 : ((afB (cpB (dfR t) ⟨#[58]⟩)).toList == []) = true := beq_iff_eq.2 he
  have hn2 : ((afB (cpB (dfR t) ⟨#[58]⟩)).toList != []) = false := by unfold bne; rw [hn1]; rfl
  obtain ⟨hl1, hl2⟩ := ne_nil_of h1
  clear h1 h2 he hT hm
  obtain ⟨B, hBB⟩ : ∃ B, A.lbl (dfW t) = B := ⟨_, rfl⟩
  have HBB := Lib.hid hBB
  clear hBB
  generalize afB (cpB (dfR t) ⟨#[58]⟩) = r2 at *
  generalize cpB (dfR t) ⟨#[58]⟩ = r1 at *
  generalize hnm : dfW t = nm at *
  have HNM := Lib.hid hnm
  clear hnm
  go_enter Tryz.func69, Tryz.ntmps69
  go_upto_region 9 with first | (go_at_call 61; (refine (HB _ _ hB2).mono ?_); rintro e w4 ⟨⟨n4, rfl⟩, hF4, hB4⟩; have c0 := HC.out _ _ hB4) | (go_at_call 86; (refine (HD _ W.heap.size (HF.out _ rfl)).mono ?_); rintro e w2 ⟨rfl, hF2, hB2⟩)
  have hLq : Below W.heap.size W w4 := ((((Below.refl W.heap.size W).alloc (Nat.le_refl _) _).trans (hF2.low (by simp))).trans (hF4.low hB2.lt))
  have hA5 := h.up hLq
  have hwf : (Lit.int .i64 A.fin).wf = true := WalkArith.wf_i64 (by omega)
  have DF : Calls Tryz.prog 88 #[.pointer (some ⟨p, 0, none⟩), .string nm] w4 fun e W' => e = .returned (.tuple #[]) ∧ AB W' p m B ∧ w4.grownBy W' (some m) := by rw [← HBB.out]; exact define_ok hA5 nm hml hn (by unfold maxLen; omega) hwf
  have hAs : ∀ w6, w4.grownBy w6 (some m) → Asm p m W w6 := fun w6 hG6 => (Asm.below hLq (Nat.le_of_lt h.lt)).trans (Asm.grown hG6 (Nat.le_of_lt hA5.lt) (fun k hk => .inr (by injection hk with hk; exact hk.symm)) map_ty)
  have d3 := HO.out _ _ hB4
  clear hB2 hB4 hF2 hF4 HD HB HC HF HO hLq c0
  go_wp2_with (go_at_call 88; (refine DF.mono ?_); rintro e w6 ⟨rfl, hA6, hG6⟩; have e3 := cell_grownM hA5.mp hG6 d3)
  rw [HBB.out]
  first | exact bodyPost_ret (results_none rfl _ _ _) rfl ⟨rfl, hA6, hAs _ hG6⟩ | exact bodyPost_end (results_none rfl _ _ _) rfl ⟨rfl, hA6, hAs _ hG6⟩
set_option maxRecDepth 100000 in
set_option maxHeartbeats 2000000 in
theorem read_none {p m : Nat} {W : World} {A : As} (h : AB W p m A) (hT : TB W) (t : ByteArray) (ht : t.size ≤ 20000) (hd : dfB t = false) (hr : hpB (afB t) ⟨#[46, 102, 117, 110, 99]⟩ = false) (he : (afB (afB t)).toList = []) :
    Calls Tryz.prog 69 #[.pointer (some ⟨p, 0, none⟩), .string t] W fun e W' => e = .returned (.tuple #[]) ∧ AB W' p m (A) ∧ Asm p m W W' := by
  have hm : t.size ≤ maxLen := by unfold maxLen; omega
  have HF := Lib.hid (fun q (hq : W.heap.size = q) => SB.fresh hT hq true t hm)
  have HD : ∀ W' q, SB W' q (S0 true t) → Calls Tryz.prog 86 #[.pointer (some ⟨q, 0, none⟩)] W' fun e w' => e = .returned (.string ⟨#[]⟩) ∧ Frm q W' w' ∧ SB w' q (S1 t (afB t)) := fun W' q g => definition_no (S := S0 true t) g hd
  have HR : ∀ W' q, SB W' q (S1 t (afB t)) → Calls Tryz.prog 87 #[.pointer (some ⟨q, 0, none⟩)] W' fun e w' => e = .returned (.string ⟨#[]⟩) ∧ Frm q W' w' ∧ SB w' q (S1 t (afB t)) := fun W' q g => directive_no (S := S1 t (afB t)) g hr
  have HB : ∀ W' q, SB W' q (S1 t (afB t)) → Calls Tryz.prog 61 #[.pointer (some ⟨q, 0, none⟩)] W' fun e w' => (∃ n, e = .returned (.int .i64 n)) ∧ Frm q W' w' ∧ SB w' q (S1 t (afB (afB t))) := fun W' q g => (blanks_sb (S := S1 t (afB t)) g).mono fun _ _ ⟨h1, h2⟩ => ⟨⟨_, h1⟩, h2⟩
  have HC := Lib.hid (fun W' q (g : SB W' q (S1 t (afB (afB t)))) => (show W'.cell? ⟨q, 0, none⟩ = some (.string (afB (afB t))) from g.c0))
  have HO := Lib.hid (fun W' q (g : SB W' q (S1 t (afB (afB t)))) => (show W'.cell? ⟨q, 3, none⟩ = some (.int .i64 0) from g.c3))
  have hn1 : ((afB (afB t)).toList == []) = true := beq_iff_eq.2 he
  have hn2 : ((afB (afB t)).toList != []) = false := by unfold bne; rw [hn1]; rfl
  clear hd hr he hT hm
  generalize afB (afB t) = r2 at *
  generalize afB t = r1 at *
  go_enter Tryz.func69, Tryz.ntmps69
  go_upto_region 8 with first | (go_at_call 61; (refine (HB _ _ hB3).mono ?_); rintro e w4 ⟨⟨n4, rfl⟩, hF4, hB4⟩; have c0 := HC.out _ _ hB4) | (go_at_call 87; (refine (HR _ _ hB2).mono ?_); rintro e w3 ⟨rfl, hF3, hB3⟩) | (go_at_call 86; (refine (HD _ W.heap.size (HF.out _ rfl)).mono ?_); rintro e w2 ⟨rfl, hF2, hB2⟩)
  have hLq : Below W.heap.size W w4 := (((((Below.refl W.heap.size W).alloc (Nat.le_refl _) _).trans (hF2.low (by simp))).trans (hF3.low hB2.lt)).trans (hF4.low hB3.lt))
  have hA5 := h.up hLq
  have d3 := HO.out _ _ hB4
  have hAs : Asm p m W w4 := Asm.below hLq (Nat.le_of_lt h.lt)
  clear hB2 hB3 hB4 hF2 hF3 hF4 HD HB HR HC HF HO hLq c0
  go_wp2_with fail
  first | exact bodyPost_ret (results_none rfl _ _ _) rfl ⟨rfl, hA5, hAs⟩ | exact bodyPost_end (results_none rfl _ _ _) rfl ⟨rfl, hA5, hAs⟩
set_option maxRecDepth 100000 in
set_option maxHeartbeats 2000000 in
theorem read_fun {p m : Nat} {W : World} {A : As} (h : AB W p m A) (hT : TB W) (t : ByteArray) (ht : t.size ≤ 20000) (hd : dfB t = false) (hr : hpB (afB t) ⟨#[46, 102, 117, 110, 99]⟩ = true) (hg : (afB (drU (afB t))).size < (drU (afB t)).size) (hn : inB (dfW (drU (afB t))) = true) (he : (dfR (drU (afB t))).toList = []) (hnn : hasL A.labs (dfW (drU (afB t))) = false) (hlb : A.labs.length ≤ 20000) (hls : A.syms.length ≤ 20000) (hf : 0 ≤ A.fin ∧ A.fin ≤ 1099511629824) :
    Calls Tryz.prog 69 #[.pointer (some ⟨p, 0, none⟩), .string t] W fun e W' => e = .returned (.tuple #[]) ∧ AB W' p m ((A.lbl (dfW (drU (afB t)))).sym (dfW (drU (afB t)))) ∧ Asm p m W W' := by
  have hm : t.size ≤ maxLen := by unfold maxLen; omega
  have HF := Lib.hid (fun q (hq : W.heap.size = q) => SB.fresh hT hq true t hm)
  have hml : (dfW (drU (afB t))).size ≤ maxLen := Nat.le_trans (Nat.le_trans (dfW_le _) (Nat.le_trans (cpB_le _ _) (afB_le t))) hm
  have HD : ∀ W' q, SB W' q (S0 true t) → Calls Tryz.prog 86 #[.pointer (some ⟨q, 0, none⟩)] W' fun e w' => e = .returned (.string ⟨#[]⟩) ∧ Frm q W' w' ∧ SB w' q (S1 t (afB t)) := fun W' q g => definition_no (S := S0 true t) g hd
  have HR : ∀ W' q, SB W' q (S1 t (afB t)) → Calls Tryz.prog 87 #[.pointer (some ⟨q, 0, none⟩)] W' fun e w' => e = .returned (.string (dfW (drU (afB t)))) ∧ Frm q W' w' ∧ SB w' q (S1 t (dfR (drU (afB t)))) := fun W' q g => directive_ok (S := S1 t (afB t)) g hr hg hn he
  have HB : ∀ W' q, SB W' q (S1 t (dfR (drU (afB t)))) → Calls Tryz.prog 61 #[.pointer (some ⟨q, 0, none⟩)] W' fun e w' => (∃ n, e = .returned (.int .i64 n)) ∧ Frm q W' w' ∧ SB w' q (S1 t (afB (dfR (drU (afB t))))) := fun W' q g => (blanks_sb (S := S1 t (dfR (drU (afB t)))) g).mono fun _ _ ⟨h1, h2⟩ => ⟨⟨_, h1⟩, h2⟩
  have HC := Lib.hid (fun W' q (g : SB W' q (S1 t (afB (dfR (drU (afB t)))))) => (show W'.cell? ⟨q, 0, none⟩ = some (.string (afB (dfR (drU (afB t))))) from g.c0))
  have HO := Lib.hid (fun W' q (g : SB W' q (S1 t (afB (dfR (drU (afB t)))))) => (show W'.cell? ⟨q, 3, none⟩ = some (.int .i64 0) from g.c3))
  have he2 : (afB (dfR (drU (afB t)))).toList = [] := afB_nil he
  have hn1 : ((afB (dfR (drU (afB t)))).toList == []) = true := beq_iff_eq.2 he2
  have hn2 : ((afB (dfR (drU (afB t)))).toList != []) = false := by unfold bne; rw [hn1]; rfl
  obtain ⟨hl1, hl2⟩ := ne_nil_of hn
  clear hd hr he he2 hg hn hT hm
  obtain ⟨B, hBB⟩ : ∃ B, A.lbl (dfW (drU (afB t))) = B := ⟨_, rfl⟩
  have HBB := Lib.hid hBB
  have hf1 : B.fin = A.fin := by rw [← hBB]; rfl
  have hf2 : B.syms = A.syms := by rw [← hBB]; rfl
  have hlB : B.syms.length ≤ 20000 := by rw [hf2]; exact hls
  clear hBB hf1 hf2
  generalize afB (dfR (drU (afB t))) = r2 at *
  generalize dfR (drU (afB t)) = r3 at *
  generalize hnm : dfW (drU (afB t)) = nm at *
  have HNM := Lib.hid hnm
  clear hnm
  generalize afB t = r1 at *
  go_enter Tryz.func69, Tryz.ntmps69
  go_upto_region 8 with first | (go_at_call 61; (refine (HB _ _ hB3).mono ?_); rintro e w4 ⟨⟨n4, rfl⟩, hF4, hB4⟩; have c0 := HC.out _ _ hB4) | (go_at_call 87; (refine (HR _ _ hB2).mono ?_); rintro e w3 ⟨rfl, hF3, hB3⟩) | (go_at_call 86; (refine (HD _ W.heap.size (HF.out _ rfl)).mono ?_); rintro e w2 ⟨rfl, hF2, hB2⟩)
  have hLq : Below W.heap.size W w4 := (((((Below.refl W.heap.size W).alloc (Nat.le_refl _) _).trans (hF2.low (by simp))).trans (hF3.low hB2.lt)).trans (hF4.low hB3.lt))
  have hA5 := h.up hLq
  have hwf : (Lit.int .i64 A.fin).wf = true := WalkArith.wf_i64 (by omega)
  have DF : Calls Tryz.prog 88 #[.pointer (some ⟨p, 0, none⟩), .string nm] w4 fun e W' => e = .returned (.tuple #[]) ∧ AB W' p m B ∧ w4.grownBy W' (some m) := by rw [← HBB.out]; exact define_ok hA5 nm hml hnn (by unfold maxLen; omega) hwf
  have hAs : ∀ w6, w4.grownBy w6 (some m) → Asm p m W w6 := fun w6 hG6 => (Asm.below hLq (Nat.le_of_lt h.lt)).trans (Asm.grown hG6 (Nat.le_of_lt hA5.lt) (fun k hk => .inr (by injection hk with hk; exact hk.symm)) map_ty)
  have d3 := HO.out _ _ hB4
  have LO : ∀ g v w6, w4.grownBy w6 (some m) → w6.cell? ⟨p, 4, none⟩ = some v → v.ownBlock = some g → g < W.heap.size := fun g v w6 hG6 hv hg => by
    obtain ⟨v0, e0, o0⟩ := h.c4
    rw [cell_grownM hA5.mp hG6 (cell_up hLq h.lt e0)] at hv
    injection hv with hv
    subst hv
    exact (own_ge o0 hg).2
  clear hB2 hB3 hB4 hF2 hF3 hF4 HD HB HR HC HF HO hLq c0
  go_upto_region 12 with (go_at_call 88; (refine DF.mono ?_); rintro e w6 ⟨rfl, hA6, hG6⟩)
  have e3 := cell_grownM hA5.mp hG6 d3
  have hAs6 := hAs _ hG6
  obtain ⟨v, e2, ow⟩ := hA6.c4
  have lo6 : ∀ g, v.ownBlock = some g → g < W.heap.size := fun g hg => LO g v w6 hG6 e2 hg
  clear d3 DF hAs LO hA5 hG6
  obtain ⟨i0, hi, hz0, hz1, hz2⟩ := info_parts A_infoS
  have e1 := hA6.c1
  have g2 := hA6.fz 4
  have lp := hA6.lt
  have hnp : some p ≠ v.ownBlock := fun e => by have := (own_ge ow e.symm).1; omega
  have HL : Hid ((B.syms ++ [(⟨nm, B.fin⟩ : Sy)]).length = B.syms.length + 1 ∧ (B.syms ++ [(⟨nm, B.fin⟩ : Sy)]).flatMap syC = B.syms.flatMap syC ++ syC ⟨nm, B.fin⟩) := Lib.hid ⟨by simp, by simp⟩
  have hnq : some W.heap.size ≠ v.ownBlock := fun e => by have := lo6 _ e.symm; omega
  have lq := lt_of_cell e3
  generalize hqq : W.heap.size = q at *
  clear hqq lo6
  have hS0 : w6.drew.cell? ⟨p, 1, none⟩ = some (.int .i64 B.fin) ∧ w6.drew.cell? ⟨q, 3, none⟩ = some (.int .i64 0) := ⟨e1, e3⟩
  refine wp_region_noPanic ?_
  refine wp_region_held_drew (S := (fun w' => w'.cell? ⟨p, 1, none⟩ = some (.int .i64 B.fin) ∧ w'.cell? ⟨q, 3, none⟩ = some (.int .i64 0))) (by kernel_rfl) hS0 (fun hH0 => ?_)
  refine wpAnyH_take (i := 0) (oi := ⟨_, _, _, _, _, _⟩) (v := ?_) rfl (by kernel_rfl) (by kernel_rfl) (by kernel_rfl) (fun _ _ _ h => h) (Or.inl ⟨by rfl, ?_⟩) hH0 ?_
  rotate_left 1
  · intro w hSw
    (try dsimp only at hSw)
    obtain ⟨s1, s3⟩ := hSw
    go_simp <;> with_reducible rfl
  simp only [Act.put, List.setIfInBounds_toArray, List.set_cons_zero, List.set_cons_succ]
  refine wpAnyH_take (i := 1) (oi := ⟨_, _, _, _, _, _⟩) (v := ?_) rfl (by kernel_rfl) (by kernel_rfl) (by kernel_rfl) (fun _ _ _ h => h) (Or.inl ⟨by rfl, ?_⟩) hH0 ?_
  rotate_left 1
  · intro w hSw
    (try dsimp only at hSw)
    obtain ⟨s1, s3⟩ := hSw
    go_simp <;> with_reducible rfl
  simp only [Act.put, List.setIfInBounds_toArray, List.set_cons_zero, List.set_cons_succ]
  refine wpAnyH_take (i := 2) (oi := ⟨_, _, _, _, _, _⟩) (v := ?_) rfl (by kernel_rfl) (by kernel_rfl) (by kernel_rfl) (fun _ _ _ h => h) (Or.inl ⟨by rfl, ?_⟩) hH0 ?_
  rotate_left 1
  · intro w hSw
    (try dsimp only at hSw)
    obtain ⟨s1, s3⟩ := hSw
    go_simp <;> with_reducible rfl
  simp only [Act.put, List.setIfInBounds_toArray, List.set_cons_zero, List.set_cons_succ]
  refine wpAnyH_take (i := 3) (oi := ⟨_, _, _, _, _, _⟩) (v := ?_) rfl (by kernel_rfl) (by kernel_rfl) (by kernel_rfl) (fun _ _ _ h => h) (Or.inl ⟨by rfl, ?_⟩) hH0 ?_
  rotate_left 1
  · intro w hSw
    (try dsimp only at hSw)
    obtain ⟨s1, s3⟩ := hSw
    go_simp <;> with_reducible rfl
  simp only [Act.put, List.setIfInBounds_toArray, List.set_cons_zero, List.set_cons_succ]
  refine wpAnyH_take (i := 5) (oi := ⟨_, _, _, _, _, _⟩) (v := ?_) rfl (by kernel_rfl) (by kernel_rfl) (by kernel_rfl) (fun _ _ _ h => h) (Or.inl ⟨by rfl, ?_⟩) hH0 ?_
  rotate_left 1
  · intro w hSw
    (try dsimp only at hSw)
    obtain ⟨s1, s3⟩ := hSw
    go_simp <;> with_reducible rfl
  simp only [Act.put, List.setIfInBounds_toArray, List.set_cons_zero, List.set_cons_succ]
  refine wpAnyH_take (i := 6) (oi := ⟨_, _, _, _, _, _⟩) (v := ?_) rfl (by kernel_rfl) (by kernel_rfl) (by kernel_rfl) (fun _ _ _ h => h) (Or.inl ⟨by rfl, ?_⟩) hH0 ?_
  rotate_left 1
  · intro w hSw
    (try dsimp only at hSw)
    obtain ⟨s1, s3⟩ := hSw
    go_simp <;> with_reducible rfl
  simp only [Act.put, List.setIfInBounds_toArray, List.set_cons_zero, List.set_cons_succ]
  refine wpAnyH_take (i := 7) (oi := ⟨_, _, _, _, _, _⟩) (v := ?_) rfl (by kernel_rfl) (by kernel_rfl) (by kernel_rfl) (fun _ _ _ h => h) (Or.inl ⟨by rfl, ?_⟩) hH0 ?_
  rotate_left 1
  · intro w hSw
    (try dsimp only at hSw)
    obtain ⟨s1, s3⟩ := hSw
    go_simp <;> with_reducible rfl
  simp only [Act.put, List.setIfInBounds_toArray, List.set_cons_zero, List.set_cons_succ]
  refine wpAnyH_take (i := 8) (oi := ⟨_, _, _, _, _, _⟩) (v := ?_) rfl (by kernel_rfl) (by kernel_rfl) (by kernel_rfl) (fun _ _ _ h => h) (Or.inl ⟨by rfl, ?_⟩) hH0 ?_
  rotate_left 1
  · intro w hSw
    (try dsimp only at hSw)
    obtain ⟨s1, s3⟩ := hSw
    go_simp <;> with_reducible rfl
  simp only [Act.put, List.setIfInBounds_toArray, List.set_cons_zero, List.set_cons_succ]
  refine wpAnyH_take (i := 9) (oi := ⟨_, _, _, _, _, _⟩) (v := ?_) rfl (by kernel_rfl) (by kernel_rfl) (by kernel_rfl) (fun _ _ _ h => h) (Or.inl ⟨by rfl, ?_⟩) hH0 ?_
  rotate_left 1
  · intro w hSw
    (try dsimp only at hSw)
    obtain ⟨s1, s3⟩ := hSw
    go_simp <;> with_reducible rfl
  simp only [Act.put, List.setIfInBounds_toArray, List.set_cons_zero, List.set_cons_succ]
  refine wpAnyH_take (i := 10) (oi := ⟨_, _, _, _, _, _⟩) (v := ?_) rfl (by kernel_rfl) (by kernel_rfl) (by kernel_rfl) (fun _ _ _ h => h) (Or.inl ⟨by rfl, ?_⟩) hH0 ?_
  rotate_left 1
  · intro w hSw
    (try dsimp only at hSw)
    obtain ⟨s1, s3⟩ := hSw
    go_simp <;> with_reducible rfl
  simp only [Act.put, List.setIfInBounds_toArray, List.set_cons_zero, List.set_cons_succ]
  refine wpAnyH_ready (rs := [4, 11]) (by kernel_rfl) (by simp) ?_
  refine AllReadyH.cons (o := ⟨_, _, _, _, _, _⟩) rfl (fun K1 hK1 => ?_) ?_
  · skip
    go_simp
    refine hK1.out _ _ ?_ (fun hH1 => ?_)
    · (refine ⟨?_, ?_⟩ <;> go_simp)
    clear hK1 K1
    refine wpAnyH_ready (rs := [11]) (by kernel_rfl) (by simp) ?_
    refine AllReadyH.cons (o := ⟨_, _, _, _, _, _⟩) rfl (fun K2 hK2 => ?_) ?_
    · skip
      go_simp
      refine hK2.out _ _ ?_ (fun hH2 => ?_)
      · (refine ⟨?_, ?_⟩ <;> go_simp)
      clear hK2 K2
      refine wpAnyH_ready (rs := [12]) (by kernel_rfl) (by simp) ?_
      refine AllReadyH.cons (o := ⟨_, _, _, _, _, _⟩) rfl (fun K3 hK3 => ?_) ?_
      · skip
        (refine step_append_lies _ (by rfl) _ _ 59 (by rfl) (p + 1) 64 i0 _ 3 32 Tryz.underlying59 hi hz0 hz1 hz2 (by rfl) (by decide) v B.syms.length (B.syms.flatMap syC) (by rfl) (own_belowS ow (by first | exact ((Below.refl _ _).alloc (Nat.le_refl _) _).drew | exact (Below.refl _ _).drew.alloc (Nat.le_refl _) _ | exact (Below.refl _ _).alloc (Nat.le_refl _) _)) ⟨w6.heap.size, 0, none⟩ 1 1 (syC ⟨nm, B.fin⟩) (by rfl) (by rfl) (by first | exact World.news_of_block (cs := #[.string nm, .int .i64 B.fin, .int .i64 0]) (t := 64) (fr := (0, 0)) (heap_alloc_new w6 _) | exact World.news_of_block (World.alloc_heap_new (w := w6.drew) _)) (by intro u hu; simp [syC] at hu; rcases hu with rfl | rfl | rfl <;> rfl) (by decide) (by unfold maxLen; omega) (by omega) (by simp; omega) _ rfl ?_; intro g cap w7 hown7 hgrow hat hlt7; have hg := grown_of (w := w6) (by first | exact ((Below.refl _ _).alloc (Nat.le_refl _) _).drew | exact (Below.refl _ _).drew.alloc (Nat.le_refl _) _ | exact (Below.refl _ _).alloc (Nat.le_refl _) _) hgrow; have k2 : w7.cell? ⟨p, 4, none⟩ = some v := (World.cell?_of_block (w := w6) (hg.block p lp hnp)).trans e2; have k3 : w7.frozen? ⟨p, 4, none⟩ = false := (World.frozen?_of_block (w := w6) (hg.block p lp hnp)).trans g2; have j1 : w7.cell? ⟨p, 1, none⟩ = some (.int .i64 B.fin) := (World.cell?_of_block (w := w6) (hg.block p lp hnp)).trans e1; have j3 : w7.cell? ⟨q, 3, none⟩ = some (.int .i64 0) := (World.cell?_of_block (w := w6) (hg.block q lq hnq)).trans e3)
        try go_simp
        refine hK3.out _ _ ?_ (fun hH3 => ?_)
        · (refine ⟨?_, ?_⟩ <;> go_simp)
        clear hK3 K3
        refine wpAnyH_take (i := 13) (oi := ⟨_, _, _, _, _, _⟩) (v := ?_) rfl (by kernel_rfl) (by kernel_rfl) (by kernel_rfl) (fun _ _ _ h => h) (Or.inl ⟨by rfl, ?_⟩) hH3 ?_
        rotate_left 1
        · intro w hSw
          (try dsimp only at hSw)
          obtain ⟨s1, s3⟩ := hSw
          go_simp <;> with_reducible rfl
        simp only [Act.put, List.setIfInBounds_toArray, List.set_cons_zero, List.set_cons_succ]
        refine wpAnyH_take (i := 14) (oi := ⟨_, _, _, _, _, _⟩) (v := ?_) rfl (by kernel_rfl) (by kernel_rfl) (by kernel_rfl) (fun _ _ _ h => h) (Or.inl ⟨by rfl, ?_⟩) hH3 ?_
        rotate_left 1
        · intro w hSw
          (try dsimp only at hSw)
          obtain ⟨s1, s3⟩ := hSw
          go_simp <;> with_reducible rfl
        simp only [Act.put, List.setIfInBounds_toArray, List.set_cons_zero, List.set_cons_succ]
        refine wpAnyH_ready (rs := [15]) (by kernel_rfl) (by simp) ?_
        refine AllReadyH.cons (o := ⟨_, _, _, _, _, _⟩) rfl (fun K4 hK4 => ?_) ?_
        · skip
          go_simp
          refine hK4.out _ _ ?_ (fun hH4 => ?_)
          · (refine ⟨?_, ?_⟩ <;> go_simp)
          clear hK4 K4
          refine wpAnyH_done (by kernel_rfl) ?_ _
          have hrow : w7.ownsRow (p + 1) 64 3 (.slice (some ⟨g, 0, none⟩) (B.syms.length + 1) cap) (B.syms ++ [(⟨nm, B.fin⟩ : Sy)]).length ((B.syms ++ [(⟨nm, B.fin⟩ : Sy)]).flatMap syC) := by rw [HL.out.1, HL.out.2]; exact hown7
          have hFin := hA6.grown_syms e2 ow hg hrow
          have hAs := hAs6.trans hFin.2
          have b3 : (w7.setCell ⟨p, 4, none⟩ (.slice (some ⟨g, 0, none⟩) (B.syms.length + 1) cap)).cell? ⟨q, 3, none⟩ = some (.int .i64 0) := by go_simp
          refine NoPanic.normal ?_
          clear hown7 hgrow hat hlt7 k2 k3 e1 g2 hrow j1
          go_wp2_with fail
          rw [HBB.out]
          first | exact bodyPost_ret (results_none rfl _ _ _) rfl ⟨rfl, hFin.1, hAs⟩ | exact bodyPost_end (results_none rfl _ _ _) rfl ⟨rfl, hFin.1, hAs⟩
        exact AllReadyH.nil
      exact AllReadyH.nil
    exact AllReadyH.nil
  refine AllReadyH.cons (o := ⟨_, _, _, _, _, _⟩) rfl (fun K1 hK1 => ?_) ?_
  · skip
    go_simp
    refine hK1.out _ _ ?_ (fun hH1 => ?_)
    · (refine ⟨?_, ?_⟩ <;> go_simp)
    clear hK1 K1
    refine wpAnyH_ready (rs := [4]) (by kernel_rfl) (by simp) ?_
    refine AllReadyH.cons (o := ⟨_, _, _, _, _, _⟩) rfl (fun K2 hK2 => ?_) ?_
    · skip
      go_simp
      refine hK2.out _ _ ?_ (fun hH2 => ?_)
      · (refine ⟨?_, ?_⟩ <;> go_simp)
      clear hK2 K2
      refine wpAnyH_ready (rs := [12]) (by kernel_rfl) (by simp) ?_
      refine AllReadyH.cons (o := ⟨_, _, _, _, _, _⟩) rfl (fun K3 hK3 => ?_) ?_
      · skip
        (refine step_append_lies _ (by rfl) _ _ 59 (by rfl) (p + 1) 64 i0 _ 3 32 Tryz.underlying59 hi hz0 hz1 hz2 (by rfl) (by decide) v B.syms.length (B.syms.flatMap syC) (by rfl) (own_belowS ow (by first | exact ((Below.refl _ _).alloc (Nat.le_refl _) _).drew | exact (Below.refl _ _).drew.alloc (Nat.le_refl _) _ | exact (Below.refl _ _).alloc (Nat.le_refl _) _)) ⟨w6.heap.size, 0, none⟩ 1 1 (syC ⟨nm, B.fin⟩) (by rfl) (by rfl) (by first | exact World.news_of_block (cs := #[.string nm, .int .i64 B.fin, .int .i64 0]) (t := 64) (fr := (0, 0)) (heap_alloc_new w6 _) | exact World.news_of_block (World.alloc_heap_new (w := w6.drew) _)) (by intro u hu; simp [syC] at hu; rcases hu with rfl | rfl | rfl <;> rfl) (by decide) (by unfold maxLen; omega) (by omega) (by simp; omega) _ rfl ?_; intro g cap w7 hown7 hgrow hat hlt7; have hg := grown_of (w := w6) (by first | exact ((Below.refl _ _).alloc (Nat.le_refl _) _).drew | exact (Below.refl _ _).drew.alloc (Nat.le_refl _) _ | exact (Below.refl _ _).alloc (Nat.le_refl _) _) hgrow; have k2 : w7.cell? ⟨p, 4, none⟩ = some v := (World.cell?_of_block (w := w6) (hg.block p lp hnp)).trans e2; have k3 : w7.frozen? ⟨p, 4, none⟩ = false := (World.frozen?_of_block (w := w6) (hg.block p lp hnp)).trans g2; have j1 : w7.cell? ⟨p, 1, none⟩ = some (.int .i64 B.fin) := (World.cell?_of_block (w := w6) (hg.block p lp hnp)).trans e1; have j3 : w7.cell? ⟨q, 3, none⟩ = some (.int .i64 0) := (World.cell?_of_block (w := w6) (hg.block q lq hnq)).trans e3)
        try go_simp
        refine hK3.out _ _ ?_ (fun hH3 => ?_)
        · (refine ⟨?_, ?_⟩ <;> go_simp)
        clear hK3 K3
        refine wpAnyH_take (i := 13) (oi := ⟨_, _, _, _, _, _⟩) (v := ?_) rfl (by kernel_rfl) (by kernel_rfl) (by kernel_rfl) (fun _ _ _ h => h) (Or.inl ⟨by rfl, ?_⟩) hH3 ?_
        rotate_left 1
        · intro w hSw
          (try dsimp only at hSw)
          obtain ⟨s1, s3⟩ := hSw
          go_simp <;> with_reducible rfl
        simp only [Act.put, List.setIfInBounds_toArray, List.set_cons_zero, List.set_cons_succ]
        refine wpAnyH_take (i := 14) (oi := ⟨_, _, _, _, _, _⟩) (v := ?_) rfl (by kernel_rfl) (by kernel_rfl) (by kernel_rfl) (fun _ _ _ h => h) (Or.inl ⟨by rfl, ?_⟩) hH3 ?_
        rotate_left 1
        · intro w hSw
          (try dsimp only at hSw)
          obtain ⟨s1, s3⟩ := hSw
          go_simp <;> with_reducible rfl
        simp only [Act.put, List.setIfInBounds_toArray, List.set_cons_zero, List.set_cons_succ]
        refine wpAnyH_ready (rs := [15]) (by kernel_rfl) (by simp) ?_
        refine AllReadyH.cons (o := ⟨_, _, _, _, _, _⟩) rfl (fun K4 hK4 => ?_) ?_
        · skip
          go_simp
          refine hK4.out _ _ ?_ (fun hH4 => ?_)
          · (refine ⟨?_, ?_⟩ <;> go_simp)
          clear hK4 K4
          refine wpAnyH_done (by kernel_rfl) ?_ _
          have hrow : w7.ownsRow (p + 1) 64 3 (.slice (some ⟨g, 0, none⟩) (B.syms.length + 1) cap) (B.syms ++ [(⟨nm, B.fin⟩ : Sy)]).length ((B.syms ++ [(⟨nm, B.fin⟩ : Sy)]).flatMap syC) := by rw [HL.out.1, HL.out.2]; exact hown7
          have hFin := hA6.grown_syms e2 ow hg hrow
          have hAs := hAs6.trans hFin.2
          have b3 : (w7.setCell ⟨p, 4, none⟩ (.slice (some ⟨g, 0, none⟩) (B.syms.length + 1) cap)).cell? ⟨q, 3, none⟩ = some (.int .i64 0) := by go_simp
          refine NoPanic.normal ?_
          clear hown7 hgrow hat hlt7 k2 k3 e1 g2 hrow j1
          go_wp2_with fail
          rw [HBB.out]
          first | exact bodyPost_ret (results_none rfl _ _ _) rfl ⟨rfl, hFin.1, hAs⟩ | exact bodyPost_end (results_none rfl _ _ _) rfl ⟨rfl, hFin.1, hAs⟩
        exact AllReadyH.nil
      exact AllReadyH.nil
    exact AllReadyH.nil
  exact AllReadyH.nil
end Go.Proofs.YtjlbcpmfbokinaaGreatDoor
