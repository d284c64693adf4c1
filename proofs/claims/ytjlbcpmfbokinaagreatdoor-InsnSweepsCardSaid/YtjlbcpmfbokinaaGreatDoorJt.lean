/-
  Layer 2, contracts: encodeAll (made by genjt.py).
-/
import Derived.Test.YtjlbcpmfbokinaaGreatDoorJs
import Derived.Test.YtjlbcpmfbokinaaGreatDoorJh
import Derived.Deep.QuietTactic
import Derived.BigQuiet
set_option linter.unusedSimpArgs false
set_option linter.unusedVariables false
namespace Go.Proofs.YtjlbcpmfbokinaaGreatDoor
open Go.RowKit Go.Shelf Go.WideMaps Go.Maps

theorem encode_is {op a b n : Int} (h : okX op a b n = true) {l : List UInt8} (hl : enL op a b n = l) (w : World) (hT : TB w) : Calls Tryz.prog 20 #[inV op a b n] w fun e w' => ∃ p c, e = .returned (.tuple #[.slice p l.length c, .int .i64 0]) ∧ SeqAt w' p (bV l) ∧ Below w.heap.size w w' := by
  subst hl
  exact (encode_ok h w hT).mono fun e w' ⟨⟨p, c, h1, h2, _⟩, h4⟩ => ⟨p, c, h1, h2.at, h4⟩
set_option maxRecDepth 100000 in
set_option maxHeartbeats 4000000 in
theorem encodeAll_ok {p m : Nat} {W : World} {A : As} (h : AB W p m A) (hT : ∀ W', Asm p m W W' → TB W') (hll : A.list.length ≤ 20001) (hc0 : A.code = []) (hnms : ∀ x ∈ A.list, x.nm.size ≤ maxLen) {cc : List UInt8} (hE : enK A A.list.length = some cc) :
    Calls Tryz.prog 51 #[.pointer (some ⟨p, 0, none⟩)] W fun e W' => e = .returned (.tuple #[]) ∧ (∃ n, AB W' p m { A with line := n, code := cc }) ∧ Asm p m W W' := by
  obtain ⟨i1, gi, gz0, gz1, gz2⟩ := info_parts A_infoU8'
  obtain ⟨v2, e2, o2⟩ := h.c2
  have hp := h.lt
  have lm := h.lm
  have HO2 := Lib.hid o2
  obtain ⟨q2, c2, rfl⟩ := own_sl o2
  have hA1 : AB W p m { A with line := A.line, code := [] } := by rw [← hc0]; exact h
  clear o2
  have HE := Lib.hid hE
  clear hE hc0
  go_enter Tryz.func51, Tryz.ntmps51
  go_wp2_with fail
  go_loopw [13] (fun i wr => ∃ k : Nat, k ≤ A.list.length ∧ i = .int .i64 (k : Int) ∧ ∃ c n, enK A k = some c ∧ AB wr p m { A with line := n, code := c } ∧ wr.cell? ⟨p, 2, none⟩ = some (.slice q2 A.list.length c2) ∧ Asm p m W wr) (fun i wr => A.list.length - (intOf i).toNat)
  case atStart => exact ⟨0, Nat.zero_le _, rfl, [], A.line, rfl, hA1, e2, Asm.refl _ _ _⟩
  case round =>
    clear e2 hA1 h
    obtain ⟨k, hk, rfl, c, n, hck, hab, hv2, hasm⟩ := hrel
    by_cases hlt : k < A.list.length
    · have hlt' : (k : Int) < (A.list.length : Int) := by omega
      have hk0 : (0 : Int) ≤ (k : Int) := by omega
      obtain ⟨v2, e2, o2⟩ := hab.c2
      rw [hv2] at e2
      injection e2 with e2
      subst e2
      obtain ⟨g, cap, hsl, hcl⟩ := list_cells o2 hlt
      injection hsl with hs1 _ hs3
      subst hs1 hs3
      obtain ⟨c1, hc1⟩ := enK_prefix A.list.length HE.out (k + 1) hlt
      have HC1 := Lib.hid hc1
      have hst : ∃ bb, enS A A.list[k] = some bb ∧ c1 = c ++ bb := by
        obtain ⟨c', h1, h2⟩ := Option.bind_eq_some_iff.1 hc1
        rw [hck] at h1
        obtain rfl := Option.some.inj h1
        obtain ⟨bb, h3, h4⟩ := Option.bind_eq_some_iff.1 h2
        rw [List.getD_eq_getElem?_getD, List.getElem?_eq_getElem hlt] at h3
        exact ⟨bb, h3, (Option.some.inj h4).symm⟩
      obtain ⟨bb, hbb, rfl⟩ := hst
      have hbl := enS_len hbb
      have hcl2 := enK_len k hck
      clear hc1 hck
      have hnm := hnms _ (List.getElem_mem hlt)
      generalize A.list[k] = x at *
      obtain ⟨ln, nx, op, a, b, im, nm⟩ := x
      have x0 : wr.cell? ⟨g, k * 7, none⟩ = some (.int .i64 ln) := hcl 0 _ rfl
      have x1 : wr.cell? ⟨g, k * 7 + 1, none⟩ = some (.int .i64 nx) := hcl 1 _ rfl
      have x2 : wr.cell? ⟨g, k * 7 + 2, none⟩ = some (.int .i64 op) := hcl 2 _ rfl
      have x3 : wr.cell? ⟨g, k * 7 + 3, none⟩ = some (.int .i64 a) := hcl 3 _ rfl
      have x4 : wr.cell? ⟨g, k * 7 + 4, none⟩ = some (.int .i64 b) := hcl 4 _ rfl
      have x5 : wr.cell? ⟨g, k * 7 + 5, none⟩ = some (.int .i64 im) := hcl 5 _ rfl
      have x6 : wr.cell? ⟨g, k * 7 + 6, none⟩ = some (.string nm) := hcl 6 _ rfl
      clear hcl
      dsimp only at hnm
      have c0 := hab.c0
      have lp := hab.lt
      have f0 := hab.fz 0
      have lg := lt_of_cell x0
      have HW1 : Hid (wrap64 ((k : Int) + 1) = ((k + 1 : Nat) : Int)) := Lib.hid (by unfold wrap64; omega)
      have hab2 := (hab.setLine ln).up ((Below.refl _ _).alloc (Nat.le_refl _) (.cells #[.int .i64 ln, .int .i64 nx, .int .i64 op, .int .i64 a, .int .i64 b, .int .i64 im, .string nm] 119))
      have asm2 := (Asm.set p m wr 0 (.int .i64 ln)).trans (Asm.below (m := m) ((Below.refl (wr.setCell ⟨p, 0, none⟩ (.int .i64 ln)).heap.size _).alloc (Nat.le_refl _) (.cells #[.int .i64 ln, .int .i64 nx, .int .i64 op, .int .i64 a, .int .i64 b, .int .i64 im, .string nm] 119)) (by rw [World.size_setCell]; exact Nat.le_of_lt hab.lt))
      have z2 : (wr.setCell ⟨p, 0, none⟩ (.int .i64 ln)).cell? ⟨p, 2, none⟩ = some (.slice (some ⟨g, 0, none⟩) A.list.length c2) := by go_simp
      obtain ⟨wb, hwb⟩ : ∃ wb, wr.setCell ⟨p, 0, none⟩ (.int .i64 ln) = wb := ⟨_, rfl⟩
      have habB : AB wb p m { A with line := ln, code := c } := by rw [← hwb]; exact hab.setLine ln
      have asmB : Asm p m wr wb := by rw [← hwb]; exact Asm.set p m wr 0 _
      have zz : wb.heap.size = wr.heap.size := by rw [← hwb]; exact World.size_setCell _ _ _
      rw [hwb] at z2
      have HWB := Lib.hid hwb
      clear hwb
      unfold enS at hbb
      dsimp only at hbb
      by_cases hn : nm.toList = []
      · rw [if_pos (.inl hn)] at hbb
        have him : imP A ⟨ln, nx, op, a, b, im, nm⟩ = im := if_pos hn
        rw [him] at hbb
        split at hbb <;> rename_i hx
        rotate_left
        · cases hbb
        obtain rfl := Option.some.inj hbb
        clear hbb him
        have hn1 : (nm.toList == []) = true := beq_iff_eq.2 hn
        have hn2 : (nm.toList != []) = false := by unfold bne; rw [hn1]; rfl
        have EN := fun W' g => encode_is hx rfl W' g
        clear hn hx
        generalize enL op a b im = bb at *
        go_upto_region 8 with fail
        rw [HWB.out]
        refine wp_gen (fun w4 => Below wb.heap.size wb w4 ∧ w4.cell? ⟨wr.heap.size, 2, none⟩ = some (.int .i64 op) ∧ w4.cell? ⟨wr.heap.size, 3, none⟩ = some (.int .i64 a) ∧ w4.cell? ⟨wr.heap.size, 4, none⟩ = some (.int .i64 b) ∧ w4.cell? ⟨wr.heap.size, 5, none⟩ = some (.int .i64 im)) ⟨(Gr.below (by repeat (first | (with_reducible exact Gr.refl _) | with_reducible refine Gr.alloc ?_ _ | with_reducible refine grDrewN ?_ _ | with_reducible refine Gr.setCell ?_ (by dsimp only; omega) _ | with_reducible refine Gr.drew ?_))), by rw [← zz]; go_simp, by rw [← zz]; go_simp, by rw [← zz]; go_simp, by rw [← zz]; go_simp⟩ ?_
        rintro w4 ⟨hL4, y2, y3, y4, y5⟩
        have hab4 := habB.up hL4
        have asm4 := asmB.trans (Asm.below (m := m) hL4 (Nat.le_of_lt habB.lt))
        have z4 := cell_up hL4 habB.lt z2
        have EN4 := EN w4 (hT _ (hasm.trans asm4))
        clear x0 x1 x2 x3 x4 x5 x6 c0 f0 lp lg hab habB asmB z2 zz HWB hL4 asm2 hab2 hv2 o2 EN
        go_upto_region 10 with first | (go_at_call 20; (refine EN4.mono ?_); rintro e w5 ⟨qb, cb, rfl, hsq, hL5⟩) | (go_at_call 70; (refine (require_ok 24 _).mono ?_); rintro e w6 ⟨rfl, rfl⟩)
        have hab5 := hab4.up hL5
        have asm5 := asm4.trans (Asm.below (m := m) hL5 (Nat.le_of_lt hab4.lt))
        have z5 := cell_up hL5 hab4.lt z4
        obtain ⟨v5, e5, o5⟩ := hab5.c5
        have f5 := hab5.fz 5
        have l5 := hab5.lt
        have hnp : some p ≠ v5.ownBlock := fun e => by have := (own_ge o5 e.symm).1; omega
        dsimp only at o5
        clear y2 y3 y4 y5 EN4 hL5 hab4 asm4 z4
        go_wp2_with (at_builtin; refine append_seq rfl _ _ 37 rfl (p + 1) 5 i1 (.int .u8 0) 1 Tryz.underlying37 gi gz0 gz1 gz2 rfl v5 c.length (bV c) rfl o5 qb bb.length cb (bV bb) rfl (bV_len bb) hsq (bV_one bb) (by unfold maxLen; omega) (by omega) (by omega) ?_; intro v6 w7 hown7 hg; obtain ⟨s6, t6, rfl⟩ := own_sl hown7; have k5 : w7.cell? ⟨p, 5, none⟩ = some v5 := (World.cell?_of_block (w := w5) (hg.block p l5 hnp)).trans e5; have k6 : w7.frozen? ⟨p, 5, none⟩ = false := (World.frozen?_of_block (w := w5) (hg.block p l5 hnp)).trans f5)
        have hrow : w7.ownsRow (p + 1) 5 1 (.slice s6 (c.length + bb.length) t6) (c ++ bb).length (bV (c ++ bb)) := by rw [List.length_append, bV_append]; exact hown7
        have hFin := hab5.grown_code e5 o5 hg hrow
        have m2 : w7.cell? ⟨p, 2, none⟩ = some (.slice (some ⟨g, 0, none⟩) A.list.length c2) := (World.cell?_of_block (w := w5) (hg.block p l5 hnp)).trans z5
        have m3 : (w7.setCell ⟨p, 5, none⟩ (.slice s6 (c.length + bb.length) t6)).cell? ⟨p, 2, none⟩ = some (.slice (some ⟨g, 0, none⟩) A.list.length c2) := by go_simp
        clear hown7 k5 k6 hab5 e5 f5 o5 hrow m2
        go_roundw
        case rel => exact ⟨k + 1, hlt, by first | (rw [HW1.out]; done) | rfl | (push_cast; rfl), c ++ bb, ln, HC1.out, hFin.1, m3, hasm.trans (asm5.trans hFin.2)⟩
        case measure => first | (simp only [intOf, HW1.out]; omega) | (simp only [intOf]; omega)
      · have hl : hasL A.labs nm = true := by
          by_cases hl : hasL A.labs nm = true
          · exact hl
          · rw [if_neg (by simp [hn]; simpa using hl)] at hbb
            cases hbb
        rw [if_pos (.inr hl)] at hbb
        have him : imP A ⟨ln, nx, op, a, b, im, nm⟩ = wrap64 (getL A.labs nm - nx) := if_neg hn
        rw [him] at hbb
        split at hbb <;> rename_i hx
        rotate_left
        · cases hbb
        obtain rfl := Option.some.inj hbb
        clear hbb him
        have hn1 : (nm.toList == []) = false := beq_eq_false_iff_ne.2 hn
        have hn2 : (nm.toList != []) = true := by unfold bne; rw [hn1]; rfl
        have EN := fun W' g => encode_is hx rfl W' g
        have habX := habB.up ((Below.refl _ _).alloc (Nat.le_refl _) (.cells #[.int .i64 ln, .int .i64 nx, .int .i64 op, .int .i64 a, .int .i64 b, .int .i64 im, .string nm] 119))
        have hrun : ∀ n, (Instr.lookup 93 (.map (some m)) (.string nm) true).run Tryz.prog (((wr.setCell ⟨p, 0, none⟩ (.int .i64 ln)).alloc (.cells #[.int .i64 ln, .int .i64 nx, .int .i64 op, .int .i64 a, .int .i64 b, .int .i64 im, .string nm] 119)).drewN n) = .ok (.tuple #[.int .i64 (getL A.labs nm), .bool true]) (((wr.setCell ⟨p, 0, none⟩ (.int .i64 ln)).alloc (.cells #[.int .i64 ln, .int .i64 nx, .int .i64 op, .int .i64 a, .int .i64 b, .int .i64 im, .string nm] 119)).drewN n) := fun n => by
          have h1 := look_run (habX.up (below_drewN _ n)) nm hnm
          rw [hl, ← HWB.out] at h1
          exact h1
        have c3 := habB.c3
        rw [← HWB.out] at c3
        have c3r : wr.cell? ⟨p, 3, none⟩ = some (.map (some m)) := hab.c3
        clear hn hx hl habX c3
        generalize getL A.labs nm = gl at *
        generalize hbb2 : enL op a b (wrap64 (gl - nx)) = bb at *
        clear hbb2
        generalize hiw : wrap64 (gl - nx) = iw at *
        go_upto_region 5 with fail
        go_quiet (fail)
        go_upto_region 8 with first | (go_at_call 70; (refine (require_ok 23 _).mono ?_); rintro e w6 ⟨rfl, rfl⟩)
        rw [HWB.out]
        refine wp_gen (fun w4 => Below wb.heap.size wb w4 ∧ w4.cell? ⟨wr.heap.size, 2, none⟩ = some (.int .i64 op) ∧ w4.cell? ⟨wr.heap.size, 3, none⟩ = some (.int .i64 a) ∧ w4.cell? ⟨wr.heap.size, 4, none⟩ = some (.int .i64 b) ∧ w4.cell? ⟨wr.heap.size, 5, none⟩ = some (.int .i64 iw)) ⟨(Gr.below (by repeat (first | (with_reducible exact Gr.refl _) | with_reducible refine Gr.alloc ?_ _ | with_reducible refine grDrewN ?_ _ | with_reducible refine Gr.setCell ?_ (by dsimp only; omega) _ | with_reducible refine Gr.drew ?_))), by rw [← zz]; go_simp, by rw [← zz]; go_simp, by rw [← zz]; go_simp, by rw [← zz]; go_simp⟩ ?_
        rintro w4 ⟨hL4, y2, y3, y4, y5⟩
        have hab4 := habB.up hL4
        have asm4 := asmB.trans (Asm.below (m := m) hL4 (Nat.le_of_lt habB.lt))
        have z4 := cell_up hL4 habB.lt z2
        have EN4 := EN w4 (hT _ (hasm.trans asm4))
        clear x0 x1 x2 x3 x4 x5 x6 c0 f0 lp lg hab habB asmB z2 zz HWB hL4 asm2 hab2 hv2 o2 EN
        go_upto_region 10 with first | (go_at_call 20; (refine EN4.mono ?_); rintro e w5 ⟨qb, cb, rfl, hsq, hL5⟩) | (go_at_call 70; (refine (require_ok 24 _).mono ?_); rintro e w6 ⟨rfl, rfl⟩)
        have hab5 := hab4.up hL5
        have asm5 := asm4.trans (Asm.below (m := m) hL5 (Nat.le_of_lt hab4.lt))
        have z5 := cell_up hL5 hab4.lt z4
        obtain ⟨v5, e5, o5⟩ := hab5.c5
        have f5 := hab5.fz 5
        have l5 := hab5.lt
        have hnp : some p ≠ v5.ownBlock := fun e => by have := (own_ge o5 e.symm).1; omega
        dsimp only at o5
        clear y2 y3 y4 y5 EN4 hL5 hab4 asm4 z4
        go_wp2_with (at_builtin; refine append_seq rfl _ _ 37 rfl (p + 1) 5 i1 (.int .u8 0) 1 Tryz.underlying37 gi gz0 gz1 gz2 rfl v5 c.length (bV c) rfl o5 qb bb.length cb (bV bb) rfl (bV_len bb) hsq (bV_one bb) (by unfold maxLen; omega) (by omega) (by omega) ?_; intro v6 w7 hown7 hg; obtain ⟨s6, t6, rfl⟩ := own_sl hown7; have k5 : w7.cell? ⟨p, 5, none⟩ = some v5 := (World.cell?_of_block (w := w5) (hg.block p l5 hnp)).trans e5; have k6 : w7.frozen? ⟨p, 5, none⟩ = false := (World.frozen?_of_block (w := w5) (hg.block p l5 hnp)).trans f5)
        have hrow : w7.ownsRow (p + 1) 5 1 (.slice s6 (c.length + bb.length) t6) (c ++ bb).length (bV (c ++ bb)) := by rw [List.length_append, bV_append]; exact hown7
        have hFin := hab5.grown_code e5 o5 hg hrow
        have m2 : w7.cell? ⟨p, 2, none⟩ = some (.slice (some ⟨g, 0, none⟩) A.list.length c2) := (World.cell?_of_block (w := w5) (hg.block p l5 hnp)).trans z5
        have m3 : (w7.setCell ⟨p, 5, none⟩ (.slice s6 (c.length + bb.length) t6)).cell? ⟨p, 2, none⟩ = some (.slice (some ⟨g, 0, none⟩) A.list.length c2) := by go_simp
        clear hown7 k5 k6 hab5 e5 f5 o5 hrow m2
        go_roundw
        case rel => exact ⟨k + 1, hlt, by first | (rw [HW1.out]; done) | rfl | (push_cast; rfl), c ++ bb, ln, HC1.out, hFin.1, m3, hasm.trans (asm5.trans hFin.2)⟩
        case measure => first | (simp only [intOf, HW1.out]; omega) | (simp only [intOf]; omega)
    · obtain rfl : k = A.list.length := by omega
      rw [HE.out] at hck
      obtain rfl := Option.some.inj hck
      have hge : ¬ (A.list.length : Int) < (A.list.length : Int) := by omega
      go_wp2_with fail
      first | exact bodyPost_ret (results_none rfl _ _ _) rfl ⟨rfl, ⟨_, hab⟩, hasm⟩ | exact bodyPost_end (results_none rfl _ _ _) rfl ⟨rfl, ⟨_, hab⟩, hasm⟩
end Go.Proofs.YtjlbcpmfbokinaaGreatDoor
