/-
  Layer 2, contracts: read: a line with a label and an instruction.
-/
import Derived.Test.YtjlbcpmfbokinaaGreatDoorJl
set_option linter.unusedSimpArgs false
set_option linter.unusedVariables false
namespace Go.Proofs.YtjlbcpmfbokinaaGreatDoor
open Go.RowKit Go.Shelf Go.WideMaps Go.Maps

/-- A label is added; an instruction is placed; a symbol is added. -/
def As.lbl (A : As) (t : ByteArray) : As := { A with labs := (t, A.fin) :: A.labs }
def As.plc (A : As) (S : Sc) : As := { A with fin := A.fin + (lenS S.sh : Int), list := A.list ++ [⟨A.line, A.fin + (lenS S.sh : Int), S.op, S.a, S.b, S.im, S.nm⟩] }
def As.sym (A : As) (t : ByteArray) : As := { A with syms := A.syms ++ [⟨t, A.fin⟩] }
theorem TB.via {w w' : World} (h : TB w) (U : ∀ {b o : Nat} {v : Value}, w.cell? ⟨b, o, none⟩ = some v → w'.cell? ⟨b, o, none⟩ = some v) : TB w' := by
  obtain ⟨⟨a1, a2, a3, a4, a5⟩, ⟨b1, b2, b3, b4, b5⟩⟩ := h
  refine ⟨⟨fun s h => U (a1 s h), fun s h => U (a2 s h), fun s h => U (a3 s h), fun s h => U (a4 s h), fun s h => ?_⟩, ⟨fun s h => U (b1 s h), fun s h => U (b2 s h), fun s h => U (b3 s h), fun s h => U (b4 s h), fun s h => U (b5 s h)⟩⟩
  obtain ⟨p, c, h1, h2⟩ := a5 s h
  refine ⟨p, c, U h1, ?_⟩
  rcases h2 with h2 | ⟨b, o, e, h2⟩
  · exact .inl h2
  · exact .inr ⟨b, o, e, fun j v hj => U (h2 j v hj)⟩
/-- A cell lies in no map. -/
theorem cell_grownM {w w' : World} {m n : Nat} {D : DataW Unit} {P : Program} {k : TypeId} {R : Value → Option (DataW Unit × List MemPlace)} (hm : w.ownsMap P k R m n D) (g : w.grownBy w' (some m)) {b o : Nat} {v : Value} (h : w.cell? ⟨b, o, none⟩ = some v) : w'.cell? ⟨b, o, none⟩ = some v := by
  have hb := lt_of_cell h
  refine (World.cell?_of_block (w := w) (g.block b hb ?_)).trans h
  intro e
  injection e with e
  subst e
  obtain ⟨es, clock, hq, _⟩ := hm
  simp [World.cell?, hq] at h
theorem ne_nil_of {t : ByteArray} (h : inB t = true) : (t.toList == []) = false ∧ (t.toList != []) = true := by
  unfold inB at h
  simp only [Bool.and_eq_true, decide_eq_true_eq] at h
  have h0 : (t.toList == []) = false := by rw [nil_size]; exact decide_eq_false (by omega)
  exact ⟨h0, by unfold bne; rw [h0]; rfl⟩
set_option maxRecDepth 100000 in
set_option maxHeartbeats 2000000 in
theorem read_lab_ins {p m : Nat} {W : World} {A : As} (h : AB W p m A) (hT : TB W) (t : ByteArray) (ht : t.size ≤ 20000) (h1 : inB (dfW t) = true) (h2 : hpB (dfR t) ⟨#[58]⟩ = true) (hn : hasL A.labs (dfW t) = false) (hll : A.list.length ≤ 20000) (hlb : A.labs.length ≤ 20000) (hf : 0 ≤ A.fin ∧ A.fin ≤ 1099511629824) (hne : (afB (cpB (dfR t) ⟨#[58]⟩)).toList ≠ []) {S' : Sc} (hI : scIns (S1 t (afB (cpB (dfR t) ⟨#[58]⟩))) = some S') (hop : S'.op ≠ 0) :
    Calls Tryz.prog 69 #[.pointer (some ⟨p, 0, none⟩), .string t] W fun e W' => e = .returned (.tuple #[]) ∧ AB W' p m ((A.lbl (dfW t)).plc S') ∧ Asm p m W W' := by
  have hm : t.size ≤ maxLen := by unfold maxLen; omega
  have HF := Lib.hid (fun q (hq : W.heap.size = q) => SB.fresh hT hq true t hm)
  have hml : (dfW t).size ≤ maxLen := Nat.le_trans (dfW_le t) hm
  have HD : ∀ W' q, SB W' q (S0 true t) → Calls Tryz.prog 86 #[.pointer (some ⟨q, 0, none⟩)] W' fun e w' => e = .returned (.string (dfW t)) ∧ Frm q W' w' ∧ SB w' q (S1 t (cpB (dfR t) ⟨#[58]⟩)) := fun W' q g => definition_yes (S := S0 true t) g h1 h2
  have HB : ∀ W' q, SB W' q (S1 t (cpB (dfR t) ⟨#[58]⟩)) → Calls Tryz.prog 61 #[.pointer (some ⟨q, 0, none⟩)] W' fun e w' => (∃ n, e = .returned (.int .i64 n)) ∧ Frm q W' w' ∧ SB w' q (S1 t (afB (cpB (dfR t) ⟨#[58]⟩))) := fun W' q g => (blanks_sb (S := S1 t (cpB (dfR t) ⟨#[58]⟩)) g).mono fun _ _ ⟨h1, h2⟩ => ⟨⟨_, h1⟩, h2⟩
  have HI : ∀ W' q, SB W' q (S1 t (afB (cpB (dfR t) ⟨#[58]⟩))) → Calls Tryz.prog 47 #[.pointer (some ⟨q, 0, none⟩)] W' (Did q W' S') := fun W' q g => instr_ok g hI
  have HC := Lib.hid (fun W' q (g : SB W' q (S1 t (afB (cpB (dfR t) ⟨#[58]⟩)))) => (show W'.cell? ⟨q, 0, none⟩ = some (.string (afB (cpB (dfR t) ⟨#[58]⟩))) from g.c0))
  have hn1 : ((afB (cpB (dfR t) ⟨#[58]⟩)).toList == []) = false := beq_eq_false_iff_ne.2 hne
  have hn2 : ((afB (cpB (dfR t) ⟨#[58]⟩)).toList != []) = true := by unfold bne; rw [hn1]; rfl
  have ho1 : (S'.op == 0) = false := beq_eq_false_iff_ne.2 hop
  have ho2 : (S'.op != 0) = true := by unfold bne; rw [ho1]; rfl
  obtain ⟨hl1, hl2⟩ := ne_nil_of h1
  clear h1 h2 hI hne hT hop hm
  obtain ⟨B, hBB⟩ : ∃ B, A.lbl (dfW t) = B := ⟨_, rfl⟩
  have HBB := Lib.hid hBB
  have hf1 : B.fin = A.fin := by rw [← hBB]; rfl
  have hf2 : B.list = A.list := by rw [← hBB]; rfl
  have HFL := Lib.hid (And.intro hf1 hf2)
  clear hBB hf1 hf2
  have hnB : 0 ≤ B.fin ∧ B.fin ≤ 1099511629824 := by rw [HFL.out.1]; exact hf
  have hlB : B.list.length ≤ 20000 := by rw [HFL.out.2]; exact hll
  generalize afB (cpB (dfR t) ⟨#[58]⟩) = r2 at *
  generalize cpB (dfR t) ⟨#[58]⟩ = r1 at *
  generalize hnm : dfW t = nm at *
  have HNM := Lib.hid hnm
  clear hnm
  go_enter Tryz.func69, Tryz.ntmps69
  go_upto_region 9 with first | (go_at_call 47; (refine (HI _ _ hB4).mono ?_); rintro e w5 ⟨rfl, hF5, hB5⟩) | (go_at_call 61; (refine (HB _ _ hB2).mono ?_); rintro e w4 ⟨⟨n4, rfl⟩, hF4, hB4⟩; have c0 := HC.out _ _ hB4) | (go_at_call 86; (refine (HD _ W.heap.size (HF.out _ rfl)).mono ?_); rintro e w2 ⟨rfl, hF2, hB2⟩)
  have hLq : Below W.heap.size W w5 := (((((Below.refl W.heap.size W).alloc (Nat.le_refl _) _).trans (hF2.low (by simp))).trans (hF4.low hB2.lt)).trans (hF5.low hB4.lt))
  have hA5 := h.up hLq
  have hwf : (Lit.int .i64 A.fin).wf = true := WalkArith.wf_i64 (by omega)
  have DF : Calls Tryz.prog 88 #[.pointer (some ⟨p, 0, none⟩), .string nm] w5 fun e W' => e = .returned (.tuple #[]) ∧ AB W' p m B ∧ w5.grownBy W' (some m) := by rw [← HBB.out]; exact define_ok hA5 nm hml hn (by unfold maxLen; omega) hwf
  go_upto_region 10 with (go_at_call 88; (refine DF.mono ?_); rintro e w6 ⟨rfl, hA6, hG6⟩)
  have UP : ∀ {b o : Nat} {v : Value}, w5.cell? ⟨b, o, none⟩ = some v → w6.cell? ⟨b, o, none⟩ = some v := fun hc => cell_grownM hA5.mp hG6 hc
  have hPl : Placing W p m W.heap.size B S' w6 := ⟨hA6, UP hB5.c2, UP hB5.c3, UP hB5.c4, UP hB5.c5, UP hB5.c6, UP hB5.c7, h.lt, (Asm.below hLq (Nat.le_of_lt h.lt)).trans (Asm.grown hG6 (Nat.le_of_lt hA5.lt) (fun k hk => .inr (by injection hk with hk; exact hk.symm)) map_ty), fun g v hv hg => by
    obtain ⟨v0, e0, o0⟩ := h.c2
    rw [UP (cell_up hLq h.lt e0)] at hv
    injection hv with hv
    subst hv
    exact (own_ge o0 hg).2⟩
  have c1 := hPl.ab.c1
  have f1 := hPl.ab.fz 1
  have c2 := hPl.d2
  have c3 := hPl.d3
  have LEN := fun W' (g : TB W') => length_still S'.sh hB5.h12 W' g
  have HT5 := Lib.hid (hB5.tab.via UP).drew
  have hl12 : (lenS S'.sh : Int) ≤ 12 := (by decide : ∀ s : Fin 12, (lenS s.1 : Int) ≤ 12) ⟨S'.sh, hB5.h12⟩
  have hl0 : (0 : Int) ≤ (lenS S'.sh : Int) := by omega
  have hw : wrap64 (B.fin + (lenS S'.sh : Int)) = B.fin + (lenS S'.sh : Int) := by unfold wrap64; omega
  clear hB2 hB4 hF2 hF4 hF5 HD HB HI HC HF hLq c0 DF hA6 hG6
  generalize hnn : (lenS S'.sh : Int) = n at *
  have HN := Lib.hid hnn
  clear hnn
  clear UP
  go_upto_region 14 with fail
  clear c3
  go_still_tail 10, (by kernel_rfl)
  still_call (LEN _ HT5.out)
  repeat still_step
  try refine wpStill_nil ?_
  change wpList _ _ _ _ _ w6.drew
  go_upto_region 15 with fail
  have hP2 := hPl.fin (B.fin + n)
  clear hPl c1 f1 c2 LEN HT5 hl12 hl0 hw hB5 hA5
  refine wp_gen (fun W9 => Placing W p m W.heap.size { B with fin := B.fin + n } S' W9) hP2 ?_
  clear hP2
  intro W9 hP9
  obtain ⟨i0, hi, hz0, hz1, hz2⟩ := info_parts A_infoP
  obtain ⟨v, e2, ow⟩ := hP9.ab.c2
  have e0 := hP9.ab.c0
  have e1 := hP9.ab.c1
  have g2 := hP9.ab.fz 2
  have d3 := hP9.d3
  have d4 := hP9.d4
  have d5 := hP9.d5
  have d6 := hP9.d6
  have d7 := hP9.d7
  have lp := hP9.ab.lt
  dsimp only at e0 e1 ow
  have hnp : some p ≠ v.ownBlock := fun e => by have := (own_ge ow e.symm).1; omega
  have HL : Hid ((B.list ++ [(⟨B.line, B.fin + n, S'.op, S'.a, S'.b, S'.im, S'.nm⟩ : Pl)]).length = B.list.length + 1 ∧ (B.list ++ [(⟨B.line, B.fin + n, S'.op, S'.a, S'.b, S'.im, S'.nm⟩ : Pl)]).flatMap plC = B.list.flatMap plC ++ plC ⟨B.line, B.fin + n, S'.op, S'.a, S'.b, S'.im, S'.nm⟩) := Lib.hid ⟨by simp, by simp⟩
  have hnq : some W.heap.size ≠ v.ownBlock := fun e => by have := hP9.lo _ _ e2 e.symm; omega
  have lq := lt_of_cell d3
  generalize W.heap.size = q at *
  have hS0 : W9.drew.cell? ⟨p, 0, none⟩ = some (.int .i64 B.line) ∧ W9.drew.cell? ⟨p, 1, none⟩ = some (.int .i64 (B.fin + n)) ∧ W9.drew.cell? ⟨q, 3, none⟩ = some (.int .i64 S'.op) ∧ W9.drew.cell? ⟨q, 4, none⟩ = some (.int .i64 S'.a) ∧ W9.drew.cell? ⟨q, 5, none⟩ = some (.int .i64 S'.b) ∧ W9.drew.cell? ⟨q, 6, none⟩ = some (.int .i64 S'.im) ∧ W9.drew.cell? ⟨q, 7, none⟩ = some (.string S'.nm) := ⟨e0, e1, d3, d4, d5, d6, d7⟩
  refine wp_region_noPanic ?_
  refine wp_region_held_drew (S := (fun w' => w'.cell? ⟨p, 0, none⟩ = some (.int .i64 B.line) ∧ w'.cell? ⟨p, 1, none⟩ = some (.int .i64 (B.fin + n)) ∧ w'.cell? ⟨q, 3, none⟩ = some (.int .i64 S'.op) ∧ w'.cell? ⟨q, 4, none⟩ = some (.int .i64 S'.a) ∧ w'.cell? ⟨q, 5, none⟩ = some (.int .i64 S'.b) ∧ w'.cell? ⟨q, 6, none⟩ = some (.int .i64 S'.im) ∧ w'.cell? ⟨q, 7, none⟩ = some (.string S'.nm))) (by kernel_rfl) hS0 (fun hH0 => ?_)
  refine wpAnyH_take (i := 0) (oi := ⟨_, _, _, _, _, _⟩) (v := ?_) rfl (by kernel_rfl) (by kernel_rfl) (by kernel_rfl) (fun _ _ _ h => h) (Or.inl ⟨by rfl, ?_⟩) hH0 ?_
  rotate_left 1
  · intro w hSw
    (try dsimp only at hSw)
    obtain ⟨s0, s1, s3, s4, s5, s6, s7⟩ := hSw
    go_simp <;> with_reducible rfl
  simp only [Act.put, List.setIfInBounds_toArray, List.set_cons_zero, List.set_cons_succ]
  refine wpAnyH_take (i := 1) (oi := ⟨_, _, _, _, _, _⟩) (v := ?_) rfl (by kernel_rfl) (by kernel_rfl) (by kernel_rfl) (fun _ _ _ h => h) (Or.inl ⟨by rfl, ?_⟩) hH0 ?_
  rotate_left 1
  · intro w hSw
    (try dsimp only at hSw)
    obtain ⟨s0, s1, s3, s4, s5, s6, s7⟩ := hSw
    go_simp <;> with_reducible rfl
  simp only [Act.put, List.setIfInBounds_toArray, List.set_cons_zero, List.set_cons_succ]
  refine wpAnyH_take (i := 2) (oi := ⟨_, _, _, _, _, _⟩) (v := ?_) rfl (by kernel_rfl) (by kernel_rfl) (by kernel_rfl) (fun _ _ _ h => h) (Or.inl ⟨by rfl, ?_⟩) hH0 ?_
  rotate_left 1
  · intro w hSw
    (try dsimp only at hSw)
    obtain ⟨s0, s1, s3, s4, s5, s6, s7⟩ := hSw
    go_simp <;> with_reducible rfl
  simp only [Act.put, List.setIfInBounds_toArray, List.set_cons_zero, List.set_cons_succ]
  refine wpAnyH_take (i := 3) (oi := ⟨_, _, _, _, _, _⟩) (v := ?_) rfl (by kernel_rfl) (by kernel_rfl) (by kernel_rfl) (fun _ _ _ h => h) (Or.inl ⟨by rfl, ?_⟩) hH0 ?_
  rotate_left 1
  · intro w hSw
    (try dsimp only at hSw)
    obtain ⟨s0, s1, s3, s4, s5, s6, s7⟩ := hSw
    go_simp <;> with_reducible rfl
  simp only [Act.put, List.setIfInBounds_toArray, List.set_cons_zero, List.set_cons_succ]
  refine wpAnyH_take (i := 5) (oi := ⟨_, _, _, _, _, _⟩) (v := ?_) rfl (by kernel_rfl) (by kernel_rfl) (by kernel_rfl) (fun _ _ _ h => h) (Or.inl ⟨by rfl, ?_⟩) hH0 ?_
  rotate_left 1
  · intro w hSw
    (try dsimp only at hSw)
    obtain ⟨s0, s1, s3, s4, s5, s6, s7⟩ := hSw
    go_simp <;> with_reducible rfl
  simp only [Act.put, List.setIfInBounds_toArray, List.set_cons_zero, List.set_cons_succ]
  refine wpAnyH_take (i := 6) (oi := ⟨_, _, _, _, _, _⟩) (v := ?_) rfl (by kernel_rfl) (by kernel_rfl) (by kernel_rfl) (fun _ _ _ h => h) (Or.inl ⟨by rfl, ?_⟩) hH0 ?_
  rotate_left 1
  · intro w hSw
    (try dsimp only at hSw)
    obtain ⟨s0, s1, s3, s4, s5, s6, s7⟩ := hSw
    go_simp <;> with_reducible rfl
  simp only [Act.put, List.setIfInBounds_toArray, List.set_cons_zero, List.set_cons_succ]
  refine wpAnyH_take (i := 7) (oi := ⟨_, _, _, _, _, _⟩) (v := ?_) rfl (by kernel_rfl) (by kernel_rfl) (by kernel_rfl) (fun _ _ _ h => h) (Or.inl ⟨by rfl, ?_⟩) hH0 ?_
  rotate_left 1
  · intro w hSw
    (try dsimp only at hSw)
    obtain ⟨s0, s1, s3, s4, s5, s6, s7⟩ := hSw
    go_simp <;> with_reducible rfl
  simp only [Act.put, List.setIfInBounds_toArray, List.set_cons_zero, List.set_cons_succ]
  refine wpAnyH_take (i := 8) (oi := ⟨_, _, _, _, _, _⟩) (v := ?_) rfl (by kernel_rfl) (by kernel_rfl) (by kernel_rfl) (fun _ _ _ h => h) (Or.inl ⟨by rfl, ?_⟩) hH0 ?_
  rotate_left 1
  · intro w hSw
    (try dsimp only at hSw)
    obtain ⟨s0, s1, s3, s4, s5, s6, s7⟩ := hSw
    go_simp <;> with_reducible rfl
  simp only [Act.put, List.setIfInBounds_toArray, List.set_cons_zero, List.set_cons_succ]
  refine wpAnyH_take (i := 9) (oi := ⟨_, _, _, _, _, _⟩) (v := ?_) rfl (by kernel_rfl) (by kernel_rfl) (by kernel_rfl) (fun _ _ _ h => h) (Or.inl ⟨by rfl, ?_⟩) hH0 ?_
  rotate_left 1
  · intro w hSw
    (try dsimp only at hSw)
    obtain ⟨s0, s1, s3, s4, s5, s6, s7⟩ := hSw
    go_simp <;> with_reducible rfl
  simp only [Act.put, List.setIfInBounds_toArray, List.set_cons_zero, List.set_cons_succ]
  refine wpAnyH_take (i := 10) (oi := ⟨_, _, _, _, _, _⟩) (v := ?_) rfl (by kernel_rfl) (by kernel_rfl) (by kernel_rfl) (fun _ _ _ h => h) (Or.inl ⟨by rfl, ?_⟩) hH0 ?_
  rotate_left 1
  · intro w hSw
    (try dsimp only at hSw)
    obtain ⟨s0, s1, s3, s4, s5, s6, s7⟩ := hSw
    go_simp <;> with_reducible rfl
  simp only [Act.put, List.setIfInBounds_toArray, List.set_cons_zero, List.set_cons_succ]
  refine wpAnyH_take (i := 11) (oi := ⟨_, _, _, _, _, _⟩) (v := ?_) rfl (by kernel_rfl) (by kernel_rfl) (by kernel_rfl) (fun _ _ _ h => h) (Or.inl ⟨by rfl, ?_⟩) hH0 ?_
  rotate_left 1
  · intro w hSw
    (try dsimp only at hSw)
    obtain ⟨s0, s1, s3, s4, s5, s6, s7⟩ := hSw
    go_simp <;> with_reducible rfl
  simp only [Act.put, List.setIfInBounds_toArray, List.set_cons_zero, List.set_cons_succ]
  refine wpAnyH_take (i := 12) (oi := ⟨_, _, _, _, _, _⟩) (v := ?_) rfl (by kernel_rfl) (by kernel_rfl) (by kernel_rfl) (fun _ _ _ h => h) (Or.inl ⟨by rfl, ?_⟩) hH0 ?_
  rotate_left 1
  · intro w hSw
    (try dsimp only at hSw)
    obtain ⟨s0, s1, s3, s4, s5, s6, s7⟩ := hSw
    go_simp <;> with_reducible rfl
  simp only [Act.put, List.setIfInBounds_toArray, List.set_cons_zero, List.set_cons_succ]
  refine wpAnyH_take (i := 13) (oi := ⟨_, _, _, _, _, _⟩) (v := ?_) rfl (by kernel_rfl) (by kernel_rfl) (by kernel_rfl) (fun _ _ _ h => h) (Or.inl ⟨by rfl, ?_⟩) hH0 ?_
  rotate_left 1
  · intro w hSw
    (try dsimp only at hSw)
    obtain ⟨s0, s1, s3, s4, s5, s6, s7⟩ := hSw
    go_simp <;> with_reducible rfl
  simp only [Act.put, List.setIfInBounds_toArray, List.set_cons_zero, List.set_cons_succ]
  refine wpAnyH_take (i := 14) (oi := ⟨_, _, _, _, _, _⟩) (v := ?_) rfl (by kernel_rfl) (by kernel_rfl) (by kernel_rfl) (fun _ _ _ h => h) (Or.inl ⟨by rfl, ?_⟩) hH0 ?_
  rotate_left 1
  · intro w hSw
    (try dsimp only at hSw)
    obtain ⟨s0, s1, s3, s4, s5, s6, s7⟩ := hSw
    go_simp <;> with_reducible rfl
  simp only [Act.put, List.setIfInBounds_toArray, List.set_cons_zero, List.set_cons_succ]
  refine wpAnyH_take (i := 15) (oi := ⟨_, _, _, _, _, _⟩) (v := ?_) rfl (by kernel_rfl) (by kernel_rfl) (by kernel_rfl) (fun _ _ _ h => h) (Or.inl ⟨by rfl, ?_⟩) hH0 ?_
  rotate_left 1
  · intro w hSw
    (try dsimp only at hSw)
    obtain ⟨s0, s1, s3, s4, s5, s6, s7⟩ := hSw
    go_simp <;> with_reducible rfl
  simp only [Act.put, List.setIfInBounds_toArray, List.set_cons_zero, List.set_cons_succ]
  refine wpAnyH_take (i := 16) (oi := ⟨_, _, _, _, _, _⟩) (v := ?_) rfl (by kernel_rfl) (by kernel_rfl) (by kernel_rfl) (fun _ _ _ h => h) (Or.inl ⟨by rfl, ?_⟩) hH0 ?_
  rotate_left 1
  · intro w hSw
    (try dsimp only at hSw)
    obtain ⟨s0, s1, s3, s4, s5, s6, s7⟩ := hSw
    go_simp <;> with_reducible rfl
  simp only [Act.put, List.setIfInBounds_toArray, List.set_cons_zero, List.set_cons_succ]
  refine wpAnyH_take (i := 17) (oi := ⟨_, _, _, _, _, _⟩) (v := ?_) rfl (by kernel_rfl) (by kernel_rfl) (by kernel_rfl) (fun _ _ _ h => h) (Or.inl ⟨by rfl, ?_⟩) hH0 ?_
  rotate_left 1
  · intro w hSw
    (try dsimp only at hSw)
    obtain ⟨s0, s1, s3, s4, s5, s6, s7⟩ := hSw
    go_simp <;> with_reducible rfl
  simp only [Act.put, List.setIfInBounds_toArray, List.set_cons_zero, List.set_cons_succ]
  refine wpAnyH_ready (rs := [4, 18]) (by kernel_rfl) (by simp) ?_
  refine AllReadyH.cons (o := ⟨_, _, _, _, _, _⟩) rfl (fun K1 hK1 => ?_) ?_
  · skip
    go_simp
    refine hK1.out _ _ ?_ (fun hH1 => ?_)
    · (refine ⟨?_, ?_, ?_, ?_, ?_, ?_, ?_⟩ <;> go_simp)
    clear hK1 K1
    refine wpAnyH_ready (rs := [18]) (by kernel_rfl) (by simp) ?_
    refine AllReadyH.cons (o := ⟨_, _, _, _, _, _⟩) rfl (fun K2 hK2 => ?_) ?_
    · skip
      go_simp
      refine hK2.out _ _ ?_ (fun hH2 => ?_)
      · (refine ⟨?_, ?_, ?_, ?_, ?_, ?_, ?_⟩ <;> go_simp)
      clear hK2 K2
      refine wpAnyH_ready (rs := [19]) (by kernel_rfl) (by simp) ?_
      refine AllReadyH.cons (o := ⟨_, _, _, _, _, _⟩) rfl (fun K3 hK3 => ?_) ?_
      · skip
        (refine step_append_lies _ (by rfl) _ _ 94 (by rfl) (p + 1) 119 i0 _ 7 64 Tryz.underlying94 hi hz0 hz1 hz2 (by rfl) (by decide) v B.list.length (B.list.flatMap plC) (by rfl) (own_belowS ow (by first | exact ((Below.refl _ _).alloc (Nat.le_refl _) _).drew | exact (Below.refl _ _).drew.alloc (Nat.le_refl _) _ | exact (Below.refl _ _).alloc (Nat.le_refl _) _)) ⟨W9.heap.size, 0, none⟩ 1 1 (plC ⟨B.line, B.fin + n, S'.op, S'.a, S'.b, S'.im, S'.nm⟩) (by rfl) (by rfl) (by first | exact World.news_of_block (cs := #[.int .i64 B.line, .int .i64 (B.fin + n), .int .i64 S'.op, .int .i64 S'.a, .int .i64 S'.b, .int .i64 S'.im, .string S'.nm]) (t := 119) (fr := (0, 0)) (heap_alloc_new W9 _) | exact World.news_of_block (World.alloc_heap_new (w := W9.drew) _)) (by intro u hu; simp [plC] at hu; rcases hu with rfl | rfl | rfl | rfl | rfl | rfl | rfl <;> rfl) (by decide) (by unfold maxLen; omega) (by omega) (by simp; omega) _ rfl ?_; intro g cap w7 hown7 hgrow hat hlt7; have hg := grown_of (w := W9) (by first | exact ((Below.refl _ _).alloc (Nat.le_refl _) _).drew | exact (Below.refl _ _).drew.alloc (Nat.le_refl _) _ | exact (Below.refl _ _).alloc (Nat.le_refl _) _) hgrow; have k2 : w7.cell? ⟨p, 2, none⟩ = some v := (World.cell?_of_block (w := W9) (hg.block p lp hnp)).trans e2; have k3 : w7.frozen? ⟨p, 2, none⟩ = false := (World.frozen?_of_block (w := W9) (hg.block p lp hnp)).trans g2; have j0 : w7.cell? ⟨p, 0, none⟩ = some (.int .i64 B.line) := (World.cell?_of_block (w := W9) (hg.block p lp hnp)).trans e0; have j1 : w7.cell? ⟨p, 1, none⟩ = some (.int .i64 (B.fin + n)) := (World.cell?_of_block (w := W9) (hg.block p lp hnp)).trans e1; have j3 : w7.cell? ⟨q, 3, none⟩ = some (.int .i64 S'.op) := (World.cell?_of_block (w := W9) (hg.block q lq hnq)).trans d3; have j4 : w7.cell? ⟨q, 4, none⟩ = some (.int .i64 S'.a) := (World.cell?_of_block (w := W9) (hg.block q lq hnq)).trans d4; have j5 : w7.cell? ⟨q, 5, none⟩ = some (.int .i64 S'.b) := (World.cell?_of_block (w := W9) (hg.block q lq hnq)).trans d5; have j6 : w7.cell? ⟨q, 6, none⟩ = some (.int .i64 S'.im) := (World.cell?_of_block (w := W9) (hg.block q lq hnq)).trans d6; have j7 : w7.cell? ⟨q, 7, none⟩ = some (.string S'.nm) := (World.cell?_of_block (w := W9) (hg.block q lq hnq)).trans d7)
        try go_simp
        refine hK3.out _ _ ?_ (fun hH3 => ?_)
        · (refine ⟨?_, ?_, ?_, ?_, ?_, ?_, ?_⟩ <;> go_simp)
        clear hK3 K3
        refine wpAnyH_take (i := 20) (oi := ⟨_, _, _, _, _, _⟩) (v := ?_) rfl (by kernel_rfl) (by kernel_rfl) (by kernel_rfl) (fun _ _ _ h => h) (Or.inl ⟨by rfl, ?_⟩) hH3 ?_
        rotate_left 1
        · intro w hSw
          (try dsimp only at hSw)
          obtain ⟨s0, s1, s3, s4, s5, s6, s7⟩ := hSw
          go_simp <;> with_reducible rfl
        simp only [Act.put, List.setIfInBounds_toArray, List.set_cons_zero, List.set_cons_succ]
        refine wpAnyH_take (i := 21) (oi := ⟨_, _, _, _, _, _⟩) (v := ?_) rfl (by kernel_rfl) (by kernel_rfl) (by kernel_rfl) (fun _ _ _ h => h) (Or.inl ⟨by rfl, ?_⟩) hH3 ?_
        rotate_left 1
        · intro w hSw
          (try dsimp only at hSw)
          obtain ⟨s0, s1, s3, s4, s5, s6, s7⟩ := hSw
          go_simp <;> with_reducible rfl
        simp only [Act.put, List.setIfInBounds_toArray, List.set_cons_zero, List.set_cons_succ]
        refine wpAnyH_ready (rs := [22]) (by kernel_rfl) (by simp) ?_
        refine AllReadyH.cons (o := ⟨_, _, _, _, _, _⟩) rfl (fun K4 hK4 => ?_) ?_
        · skip
          go_simp
          refine hK4.out _ _ ?_ (fun hH4 => ?_)
          · (refine ⟨?_, ?_, ?_, ?_, ?_, ?_, ?_⟩ <;> go_simp)
          clear hK4 K4
          refine wpAnyH_done (by kernel_rfl) ?_ _
          have hrow : w7.ownsRow (p + 1) 119 7 (.slice (some ⟨g, 0, none⟩) (B.list.length + 1) cap) (B.list ++ [(⟨B.line, B.fin + n, S'.op, S'.a, S'.b, S'.im, S'.nm⟩ : Pl)]).length ((B.list ++ [(⟨B.line, B.fin + n, S'.op, S'.a, S'.b, S'.im, S'.nm⟩ : Pl)]).flatMap plC) := by rw [HL.out.1, HL.out.2]; exact hown7
          have hFin := hP9.ab.grown_list e2 ow hg hrow
          have hAs := hP9.asm.trans hFin.2
          refine NoPanic.normal ?_
          clear hown7 hgrow hat hlt7 k2 k3 e0 e1 g2 d3 d4 d5 d6 d7 hrow j0 j1 j3 j4 j5 j6 j7
          go_wp2_with fail
          first | exact bodyPost_ret (results_none rfl _ _ _) rfl ⟨rfl, by rw [HBB.out]; unfold As.plc; rw [HN.out]; exact hFin.1, hAs⟩ | exact bodyPost_end (results_none rfl _ _ _) rfl ⟨rfl, by rw [HBB.out]; unfold As.plc; rw [HN.out]; exact hFin.1, hAs⟩
        exact AllReadyH.nil
      exact AllReadyH.nil
    exact AllReadyH.nil
  refine AllReadyH.cons (o := ⟨_, _, _, _, _, _⟩) rfl (fun K1 hK1 => ?_) ?_
  · skip
    go_simp
    refine hK1.out _ _ ?_ (fun hH1 => ?_)
    · (refine ⟨?_, ?_, ?_, ?_, ?_, ?_, ?_⟩ <;> go_simp)
    clear hK1 K1
    refine wpAnyH_ready (rs := [4]) (by kernel_rfl) (by simp) ?_
    refine AllReadyH.cons (o := ⟨_, _, _, _, _, _⟩) rfl (fun K2 hK2 => ?_) ?_
    · skip
      go_simp
      refine hK2.out _ _ ?_ (fun hH2 => ?_)
      · (refine ⟨?_, ?_, ?_, ?_, ?_, ?_, ?_⟩ <;> go_simp)
      clear hK2 K2
      refine wpAnyH_ready (rs := [19]) (by kernel_rfl) (by simp) ?_
      refine AllReadyH.cons (o := ⟨_, _, _, _, _, _⟩) rfl (fun K3 hK3 => ?_) ?_
      · skip
        (refine step_append_lies _ (by rfl) _ _ 94 (by rfl) (p + 1) 119 i0 _ 7 64 Tryz.underlying94 hi hz0 hz1 hz2 (by rfl) (by decide) v B.list.length (B.list.flatMap plC) (by rfl) (own_belowS ow (by first | exact ((Below.refl _ _).alloc (Nat.le_refl _) _).drew | exact (Below.refl _ _).drew.alloc (Nat.le_refl _) _ | exact (Below.refl _ _).alloc (Nat.le_refl _) _)) ⟨W9.heap.size, 0, none⟩ 1 1 (plC ⟨B.line, B.fin + n, S'.op, S'.a, S'.b, S'.im, S'.nm⟩) (by rfl) (by rfl) (by first | exact World.news_of_block (cs := #[.int .i64 B.line, .int .i64 (B.fin + n), .int .i64 S'.op, .int .i64 S'.a, .int .i64 S'.b, .int .i64 S'.im, .string S'.nm]) (t := 119) (fr := (0, 0)) (heap_alloc_new W9 _) | exact World.news_of_block (World.alloc_heap_new (w := W9.drew) _)) (by intro u hu; simp [plC] at hu; rcases hu with rfl | rfl | rfl | rfl | rfl | rfl | rfl <;> rfl) (by decide) (by unfold maxLen; omega) (by omega) (by simp; omega) _ rfl ?_; intro g cap w7 hown7 hgrow hat hlt7; have hg := grown_of (w := W9) (by first | exact ((Below.refl _ _).alloc (Nat.le_refl _) _).drew | exact (Below.refl _ _).drew.alloc (Nat.le_refl _) _ | exact (Below.refl _ _).alloc (Nat.le_refl _) _) hgrow; have k2 : w7.cell? ⟨p, 2, none⟩ = some v := (World.cell?_of_block (w := W9) (hg.block p lp hnp)).trans e2; have k3 : w7.frozen? ⟨p, 2, none⟩ = false := (World.frozen?_of_block (w := W9) (hg.block p lp hnp)).trans g2; have j0 : w7.cell? ⟨p, 0, none⟩ = some (.int .i64 B.line) := (World.cell?_of_block (w := W9) (hg.block p lp hnp)).trans e0; have j1 : w7.cell? ⟨p, 1, none⟩ = some (.int .i64 (B.fin + n)) := (World.cell?_of_block (w := W9) (hg.block p lp hnp)).trans e1; have j3 : w7.cell? ⟨q, 3, none⟩ = some (.int .i64 S'.op) := (World.cell?_of_block (w := W9) (hg.block q lq hnq)).trans d3; have j4 : w7.cell? ⟨q, 4, none⟩ = some (.int .i64 S'.a) := (World.cell?_of_block (w := W9) (hg.block q lq hnq)).trans d4; have j5 : w7.cell? ⟨q, 5, none⟩ = some (.int .i64 S'.b) := (World.cell?_of_block (w := W9) (hg.block q lq hnq)).trans d5; have j6 : w7.cell? ⟨q, 6, none⟩ = some (.int .i64 S'.im) := (World.cell?_of_block (w := W9) (hg.block q lq hnq)).trans d6; have j7 : w7.cell? ⟨q, 7, none⟩ = some (.string S'.nm) := (World.cell?_of_block (w := W9) (hg.block q lq hnq)).trans d7)
        try go_simp
        refine hK3.out _ _ ?_ (fun hH3 => ?_)
        · (refine ⟨?_, ?_, ?_, ?_, ?_, ?_, ?_⟩ <;> go_simp)
        clear hK3 K3
        refine wpAnyH_take (i := 20) (oi := ⟨_, _, _, _, _, _⟩) (v := ?_) rfl (by kernel_rfl) (by kernel_rfl) (by kernel_rfl) (fun _ _ _ h => h) (Or.inl ⟨by rfl, ?_⟩) hH3 ?_
        rotate_left 1
        · intro w hSw
          (try dsimp only at hSw)
          obtain ⟨s0, s1, s3, s4, s5, s6, s7⟩ := hSw
          go_simp <;> with_reducible rfl
        simp only [Act.put, List.setIfInBounds_toArray, List.set_cons_zero, List.set_cons_succ]
        refine wpAnyH_take (i := 21) (oi := ⟨_, _, _, _, _, _⟩) (v := ?_) rfl (by kernel_rfl) (by kernel_rfl) (by kernel_rfl) (fun _ _ _ h => h) (Or.inl ⟨by rfl, ?_⟩) hH3 ?_
        rotate_left 1
        · intro w hSw
          (try dsimp only at hSw)
          obtain ⟨s0, s1, s3, s4, s5, s6, s7⟩ := hSw
          go_simp <;> with_reducible rfl
        simp only [Act.put, List.setIfInBounds_toArray, List.set_cons_zero, List.set_cons_succ]
        refine wpAnyH_ready (rs := [22]) (by kernel_rfl) (by simp) ?_
        refine AllReadyH.cons (o := ⟨_, _, _, _, _, _⟩) rfl (fun K4 hK4 => ?_) ?_
        · skip
          go_simp
          refine hK4.out _ _ ?_ (fun hH4 => ?_)
          · (refine ⟨?_, ?_, ?_, ?_, ?_, ?_, ?_⟩ <;> go_simp)
          clear hK4 K4
          refine wpAnyH_done (by kernel_rfl) ?_ _
          have hrow : w7.ownsRow (p + 1) 119 7 (.slice (some ⟨g, 0, none⟩) (B.list.length + 1) cap) (B.list ++ [(⟨B.line, B.fin + n, S'.op, S'.a, S'.b, S'.im, S'.nm⟩ : Pl)]).length ((B.list ++ [(⟨B.line, B.fin + n, S'.op, S'.a, S'.b, S'.im, S'.nm⟩ : Pl)]).flatMap plC) := by rw [HL.out.1, HL.out.2]; exact hown7
          have hFin := hP9.ab.grown_list e2 ow hg hrow
          have hAs := hP9.asm.trans hFin.2
          refine NoPanic.normal ?_
          clear hown7 hgrow hat hlt7 k2 k3 e0 e1 g2 d3 d4 d5 d6 d7 hrow j0 j1 j3 j4 j5 j6 j7
          go_wp2_with fail
          first | exact bodyPost_ret (results_none rfl _ _ _) rfl ⟨rfl, by rw [HBB.out]; unfold As.plc; rw [HN.out]; exact hFin.1, hAs⟩ | exact bodyPost_end (results_none rfl _ _ _) rfl ⟨rfl, by rw [HBB.out]; unfold As.plc; rw [HN.out]; exact hFin.1, hAs⟩
        exact AllReadyH.nil
      exact AllReadyH.nil
    exact AllReadyH.nil
  exact AllReadyH.nil
end Go.Proofs.YtjlbcpmfbokinaaGreatDoor
