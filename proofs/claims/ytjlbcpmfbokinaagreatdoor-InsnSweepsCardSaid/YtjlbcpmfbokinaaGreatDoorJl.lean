/-
  Layer 2, contracts: read: a line without a label, with an instruction.
-/
import Derived.Test.YtjlbcpmfbokinaaGreatDoorJm
import Derived.Test.YtjlbcpmfbokinaaGreatDoorJi
set_option linter.unusedSimpArgs false
set_option linter.unusedVariables false
namespace Go.Proofs.YtjlbcpmfbokinaaGreatDoor
open Go.RowKit Go.Shelf Go.WideMaps Go.Maps

theorem instr_ok {p : Nat} {w : World} {S S' : Sc} (h : SB w p S) (hS : scIns S = some S') : Calls Tryz.prog 47 #[.pointer (some ⟨p, 0, none⟩)] w (Did p w S') := by
  refine instr_any h _ ⟨fun S2 h2 w' hF hB => ?_, fun h2 => ?_⟩
  · rw [hS] at h2
    obtain rfl := Option.some.inj h2
    exact ⟨rfl, hF, hB⟩
  · rw [hS] at h2; cases h2
/-- A scanner ahead of a line, as the assembler makes it. -/
def S1 (t : ByteArray) (r : ByteArray) : Sc := { S0 true t with s := r }
theorem A_infoP : (Tryz.prog.info? 119).map (fun i => (i.zero, i.size, i.bytes)) = some (some (.agg #[.int .i64 0, .int .i64 0, .int .i64 0, .int .i64 0, .int .i64 0, .int .i64 0, .string ⟨#[]⟩]), 7, 64) := by kernel_rfl
theorem A_infoS : (Tryz.prog.info? 64).map (fun i => (i.zero, i.size, i.bytes)) = some (some (.agg #[.string ⟨#[]⟩, .int .i64 0, .int .i64 0]), 3, 32) := by kernel_rfl
theorem length_still (s : Nat) (hs : s < 12) (w : World) (hT : TB w) : Calls Tryz.prog 32 #[.int .i64 (s : Int)] w fun e w' => e = .returned (.int .i64 (lenS s : Int)) ∧ w' = w :=
  (length_any s hs w hT).mono fun _ _ ⟨h1, h2⟩ => ⟨h1, h2.symm⟩
theorem TB.drew {w : World} (h : TB w) : TB w.drew := h.up (Below.refl _ w).drew
/-- The instruction of a line is placed: what stands behind the scanner's work. -/
structure Placing (W0 : World) (p m q : Nat) (A : As) (S : Sc) (W : World) : Prop where
  ab : AB W p m A
  d2 : W.cell? ⟨q, 2, none⟩ = some (.int .i64 (S.sh : Int))
  d3 : W.cell? ⟨q, 3, none⟩ = some (.int .i64 S.op)
  d4 : W.cell? ⟨q, 4, none⟩ = some (.int .i64 S.a)
  d5 : W.cell? ⟨q, 5, none⟩ = some (.int .i64 S.b)
  d6 : W.cell? ⟨q, 6, none⟩ = some (.int .i64 S.im)
  d7 : W.cell? ⟨q, 7, none⟩ = some (.string S.nm)
  pq : p < q
  asm : Asm p m W0 W
  lo : ∀ g v, W.cell? ⟨p, 2, none⟩ = some v → v.ownBlock = some g → g < q
theorem Placing.fin {W0 W : World} {p m q : Nat} {A : As} {S : Sc} (h : Placing W0 p m q A S W) (n : Int) : Placing W0 p m q { A with fin := n } S (W.setCell ⟨p, 1, none⟩ (.int .i64 n)).drew := by
  obtain ⟨ab, d2, d3, d4, d5, d6, d7, pq, asm, lo⟩ := h
  have hne : q ≠ p := by omega
  have U : ∀ {o v}, W.cell? ⟨q, o, none⟩ = some v → (W.setCell ⟨p, 1, none⟩ (.int .i64 n)).drew.cell? ⟨q, o, none⟩ = some v := fun {o v} hc => (World.cell?_of_block (w := W) (Below.heap_setCell W ⟨p, 1, none⟩ _ q hne)).trans hc
  exact ⟨(ab.setFin n).up (Below.refl _ _).drew, U d2, U d3, U d4, U d5, U d6, U d7, pq, asm.trans ((Asm.set p m W 1 _).trans (Asm.below (Below.refl _ _).drew (by rw [World.size_setCell]; exact Nat.le_of_lt ab.lt))), fun g v hv hg => lo g v (by
    have : (W.setCell ⟨p, 1, none⟩ (.int .i64 n)).cell? ⟨p, 2, none⟩ = W.cell? ⟨p, 2, none⟩ := by rw [World.cell?_setCell_other (h := by intro e; injection e with _ e2; cases e2)]
    rw [← this]; exact hv) hg⟩
set_option maxRecDepth 100000 in
set_option maxHeartbeats 2000000 in
theorem read_ins {p m : Nat} {W : World} {A : As} (h : AB W p m A) (hT : TB W) (t : ByteArray) (ht : t.size ≤ 20000) (hd : dfB t = false) (hr : hpB (afB t) ⟨#[46, 102, 117, 110, 99]⟩ = false) (hne : (afB (afB t)).toList ≠ [])
    {S' : Sc} (hI : scIns (S1 t (afB (afB t))) = some S') (hop : S'.op ≠ 0) (hf : 0 ≤ A.fin ∧ A.fin ≤ 1099511629824) (hll : A.list.length ≤ 20000) :
    Calls Tryz.prog 69 #[.pointer (some ⟨p, 0, none⟩), .string t] W fun e W' => e = .returned (.tuple #[]) ∧ AB W' p m { A with fin := A.fin + (lenS S'.sh : Int), list := A.list ++ [⟨A.line, A.fin + (lenS S'.sh : Int), S'.op, S'.a, S'.b, S'.im, S'.nm⟩] } ∧ Asm p m W W' := by
  have hm : t.size ≤ maxLen := by unfold maxLen; omega
  have HF := Lib.hid (fun q (hq : W.heap.size = q) => SB.fresh hT hq true t hm)
  have HD : ∀ W' q, SB W' q (S0 true t) → Calls Tryz.prog 86 #[.pointer (some ⟨q, 0, none⟩)] W' fun e w' => e = .returned (.string ⟨#[]⟩) ∧ Frm q W' w' ∧ SB w' q (S1 t (afB t)) := fun W' q g => definition_no g hd
  have HR : ∀ W' q, SB W' q (S1 t (afB t)) → Calls Tryz.prog 87 #[.pointer (some ⟨q, 0, none⟩)] W' fun e w' => e = .returned (.string ⟨#[]⟩) ∧ Frm q W' w' ∧ SB w' q (S1 t (afB t)) := fun W' q g => directive_no g hr
  have HB : ∀ W' q, SB W' q (S1 t (afB t)) → Calls Tryz.prog 61 #[.pointer (some ⟨q, 0, none⟩)] W' fun e w' => (∃ n, e = .returned (.int .i64 n)) ∧ Frm q W' w' ∧ SB w' q (S1 t (afB (afB t))) := fun W' q g => (blanks_sb (S := S1 t (afB t)) g).mono fun _ _ ⟨h1, h2⟩ => ⟨⟨_, h1⟩, h2⟩
  have HI : ∀ W' q, SB W' q (S1 t (afB (afB t))) → Calls Tryz.prog 47 #[.pointer (some ⟨q, 0, none⟩)] W' (Did q W' S') := fun W' q g => instr_ok g hI
  have hc0 : ∀ W' q, SB W' q (S1 t (afB (afB t))) → W'.cell? ⟨q, 0, none⟩ = some (.string (afB (afB t))) := fun W' q g => g.c0
  have HC := Lib.hid hc0
  have hn1 : ((afB (afB t)).toList == []) = false := beq_eq_false_iff_ne.2 hne
  have hn2 : ((afB (afB t)).toList != []) = true := by unfold bne; rw [hn1]; rfl
  have ho1 : (S'.op == 0) = false := beq_eq_false_iff_ne.2 hop
  have ho2 : (S'.op != 0) = true := by unfold bne; rw [ho1]; rfl
  clear hd hr hI hne hT hop hc0 hm
  generalize afB (afB t) = r2 at *
  generalize afB t = r1 at *
  go_enter Tryz.func69, Tryz.ntmps69
  go_upto_region 14 with first | (go_at_call 47; (refine (HI _ _ hB4).mono ?_); rintro e w5 ⟨rfl, hF5, hB5⟩; have c3 := hB5.c3) | (go_at_call 61; (refine (HB _ _ hB3).mono ?_); rintro e w4 ⟨⟨n4, rfl⟩, hF4, hB4⟩; have c0 := HC.out _ _ hB4) | (go_at_call 87; (refine (HR _ _ hB2).mono ?_); rintro e w3 ⟨rfl, hF3, hB3⟩) | (go_at_call 86; (refine (HD _ W.heap.size (HF.out _ rfl)).mono ?_); rintro e w2 ⟨rfl, hF2, hB2⟩)
  have l2 := hB2.lt
  have hLq : Below W.heap.size W w5 := (((((Below.refl W.heap.size W).alloc (Nat.le_refl _) _).trans (hF2.low (by simp))).trans (hF3.low l2)).trans (hF4.low hB3.lt)).trans (hF5.low hB4.lt)
  have hPl : Placing W p m W.heap.size A S' w5 := ⟨h.up hLq, hB5.c2, hB5.c3, hB5.c4, hB5.c5, hB5.c6, hB5.c7, h.lt, Asm.below hLq (Nat.le_of_lt h.lt), fun g v hv hg => by
    obtain ⟨v0, e0, o0⟩ := h.c2
    rw [cell_up hLq h.lt e0] at hv
    injection hv with hv
    subst hv
    exact (own_ge o0 hg).2⟩
  have c1 := hPl.ab.c1
  have f1 := hPl.ab.fz 1
  have c2 := hB5.c2
  have LEN := fun W' (g : TB W') => length_still S'.sh hB5.h12 W' g
  have HT5 := Lib.hid hB5.tab.drew
  have hl12 : (lenS S'.sh : Int) ≤ 12 := (by decide : ∀ s : Fin 12, (lenS s.1 : Int) ≤ 12) ⟨S'.sh, hB5.h12⟩
  have hl0 : (0 : Int) ≤ (lenS S'.sh : Int) := by omega
  have hw : wrap64 (A.fin + (lenS S'.sh : Int)) = A.fin + (lenS S'.sh : Int) := by unfold wrap64; omega
  clear hB2 hB3 hB4 hF2 hF3 hF4 hF5 HD HR HB HI HC HF l2 hLq c3 c0
  generalize hnn : (lenS S'.sh : Int) = n at *
  have HN := Lib.hid hnn
  clear hnn
  go_still_tail 10, (by kernel_rfl)
  still_call (LEN _ HT5.out)
  repeat still_step
  try refine wpStill_nil ?_
  change wpList _ _ _ _ _ w5.drew
  go_upto_region 15 with fail
  have hP2 := hPl.fin (A.fin + n)
  clear hPl c1 f1 c2 LEN HT5 hl12 hl0 hw hB5
  refine wp_gen (fun W9 => Placing W p m W.heap.size { A with fin := A.fin + n } S' W9) hP2 ?_
  clear hP2
  intro W9 hP9
  obtain ⟨i0, hi, hz0, hz1, hz2⟩ := info_parts A_infoP
  obtain ⟨v, e2, ow⟩ := hP9.ab.c2
  have e0 := hP9.ab.c0
  have e1 := hP9.ab.c1
  have g2 := hP9.ab.fz 2
  have d3 := hP9.d3
  have d4 := hP9.d4
  have d5 := hP9.d5
  have d6 := hP9.d6
  have d7 := hP9.d7
  have lp := hP9.ab.lt
  dsimp only at e0 e1 ow
  have hnp : some p ≠ v.ownBlock := fun e => by have := (own_ge ow e.symm).1; omega
  have HL : Hid ((A.list ++ [(⟨A.line, A.fin + n, S'.op, S'.a, S'.b, S'.im, S'.nm⟩ : Pl)]).length = A.list.length + 1 ∧ (A.list ++ [(⟨A.line, A.fin + n, S'.op, S'.a, S'.b, S'.im, S'.nm⟩ : Pl)]).flatMap plC = A.list.flatMap plC ++ plC ⟨A.line, A.fin + n, S'.op, S'.a, S'.b, S'.im, S'.nm⟩) := Lib.hid ⟨by simp, by simp⟩
  have hnq : some W.heap.size ≠ v.ownBlock := fun e => by have := hP9.lo _ _ e2 e.symm; omega
  have lq := lt_of_cell d3
  generalize W.heap.size = q at *
  have hS0 : W9.drew.cell? ⟨p, 0, none⟩ = some (.int .i64 A.line) ∧ W9.drew.cell? ⟨p, 1, none⟩ = some (.int .i64 (A.fin + n)) ∧ W9.drew.cell? ⟨q, 3, none⟩ = some (.int .i64 S'.op) ∧ W9.drew.cell? ⟨q, 4, none⟩ = some (.int .i64 S'.a) ∧ W9.drew.cell? ⟨q, 5, none⟩ = some (.int .i64 S'.b) ∧ W9.drew.cell? ⟨q, 6, none⟩ = some (.int .i64 S'.im) ∧ W9.drew.cell? ⟨q, 7, none⟩ = some (.string S'.nm) := ⟨e0, e1, d3, d4, d5, d6, d7⟩
  refine wp_region_noPanic ?_
  refine wp_region_held_drew (S := (fun w' => w'.cell? ⟨p, 0, none⟩ = some (.int .i64 A.line) ∧ w'.cell? ⟨p, 1, none⟩ = some (.int .i64 (A.fin + n)) ∧ w'.cell? ⟨q, 3, none⟩ = some (.int .i64 S'.op) ∧ w'.cell? ⟨q, 4, none⟩ = some (.int .i64 S'.a) ∧ w'.cell? ⟨q, 5, none⟩ = some (.int .i64 S'.b) ∧ w'.cell? ⟨q, 6, none⟩ = some (.int .i64 S'.im) ∧ w'.cell? ⟨q, 7, none⟩ = some (.string S'.nm))) (by kernel_rfl) hS0 (fun hH0 => ?_)
  refine wpAnyH_take (i := 0) (oi := ⟨_, _, _, _, _, _⟩) (v := ?_) rfl (by kernel_rfl) (by kernel_rfl) (by kernel_rfl) (fun _ _ _ h => h) (Or.inl ⟨by rfl, ?_⟩) hH0 ?_
  rotate_left 1
  · intro w hSw
    (try dsimp only at hSw)
    obtain ⟨s0, s1, s3, s4, s5, s6, s7⟩ := hSw
    go_simp <;> with_reducible rfl
  simp only [Act.put, List.setIfInBounds_toArray, List.set_cons_zero, List.set_cons_succ]
  refine wpAnyH_take (i := 1) (oi := ⟨_, _, _, _, _, _⟩) (v := ?_) rfl (by kernel_rfl) (by kernel_rfl) (by kernel_rfl) (fun _ _ _ h => h) (Or.inl ⟨by rfl, ?_⟩) hH0 ?_
  rotate_left 1
  · intro w hSw
    (try dsimp only at hSw)
    obtain ⟨s0, s1, s3, s4, s5, s6, s7⟩ := hSw
    go_simp <;> with_reducible rfl
  simp only [Act.put, List.setIfInBounds_toArray, List.set_cons_zero, List.set_cons_succ]
  refine wpAnyH_take (i := 2) (oi := ⟨_, _, _, _, _, _⟩) (v := ?_) rfl (by kernel_rfl) (by kernel_rfl) (by kernel_rfl) (fun _ _ _ h => h) (Or.inl ⟨by rfl, ?_⟩) hH0 ?_
  rotate_left 1
  · intro w hSw
    (try dsimp only at hSw)
    obtain ⟨s0, s1, s3, s4, s5, s6, s7⟩ := hSw
    go_simp <;> with_reducible rfl
  simp only [Act.put, List.setIfInBounds_toArray, List.set_cons_zero, List.set_cons_succ]
  refine wpAnyH_take (i := 3) (oi := ⟨_, _, _, _, _, _⟩) (v := ?_) rfl (by kernel_rfl) (by kernel_rfl) (by kernel_rfl) (fun _ _ _ h => h) (Or.inl ⟨by rfl, ?_⟩) hH0 ?_
  rotate_left 1
  · intro w hSw
    (try dsimp only at hSw)
    obtain ⟨s0, s1, s3, s4, s5, s6, s7⟩ := hSw
    go_simp <;> with_reducible rfl
  simp only [Act.put, List.setIfInBounds_toArray, List.set_cons_zero, List.set_cons_succ]
  refine wpAnyH_take (i := 5) (oi := ⟨_, _, _, _, _, _⟩) (v := ?_) rfl (by kernel_rfl) (by kernel_rfl) (by kernel_rfl) (fun _ _ _ h => h) (Or.inl ⟨by rfl, ?_⟩) hH0 ?_
  rotate_left 1
  · intro w hSw
    (try dsimp only at hSw)
    obtain ⟨s0, s1, s3, s4, s5, s6, s7⟩ := hSw
    go_simp <;> with_reducible rfl
  simp only [Act.put, List.setIfInBounds_toArray, List.set_cons_zero, List.set_cons_succ]
  refine wpAnyH_take (i := 6) (oi := ⟨_, _, _, _, _, _⟩) (v := ?_) rfl (by kernel_rfl) (by kernel_rfl) (by kernel_rfl) (fun _ _ _ h => h) (Or.inl ⟨by rfl, ?_⟩) hH0 ?_
  rotate_left 1
  · intro w hSw
    (try dsimp only at hSw)
    obtain ⟨s0, s1, s3, s4, s5, s6, s7⟩ := hSw
    go_simp <;> with_reducible rfl
  simp only [Act.put, List.setIfInBounds_toArray, List.set_cons_zero, List.set_cons_succ]
  refine wpAnyH_take (i := 7) (oi := ⟨_, _, _, _, _, _⟩) (v := ?_) rfl (by kernel_rfl) (by kernel_rfl) (by kernel_rfl) (fun _ _ _ h => h) (Or.inl ⟨by rfl, ?_⟩) hH0 ?_
  rotate_left 1
  · intro w hSw
    (try dsimp only at hSw)
    obtain ⟨s0, s1, s3, s4, s5, s6, s7⟩ := hSw
    go_simp <;> with_reducible rfl
  simp only [Act.put, List.setIfInBounds_toArray, List.set_cons_zero, List.set_cons_succ]
  refine wpAnyH_take (i := 8) (oi := ⟨_, _, _, _, _, _⟩) (v := ?_) rfl (by kernel_rfl) (by kernel_rfl) (by kernel_rfl) (fun _ _ _ h => h) (Or.inl ⟨by rfl, ?_⟩) hH0 ?_
  rotate_left 1
  · intro w hSw
    (try dsimp only at hSw)
    obtain ⟨s0, s1, s3, s4, s5, s6, s7⟩ := hSw
    go_simp <;> with_reducible rfl
  simp only [Act.put, List.setIfInBounds_toArray, List.set_cons_zero, List.set_cons_succ]
  refine wpAnyH_take (i := 9) (oi := ⟨_, _, _, _, _, _⟩) (v := ?_) rfl (by kernel_rfl) (by kernel_rfl) (by kernel_rfl) (fun _ _ _ h => h) (Or.inl ⟨by rfl, ?_⟩) hH0 ?_
  rotate_left 1
  · intro w hSw
    (try dsimp only at hSw)
    obtain ⟨s0, s1, s3, s4, s5, s6, s7⟩ := hSw
    go_simp <;> with_reducible rfl
  simp only [Act.put, List.setIfInBounds_toArray, List.set_cons_zero, List.set_cons_succ]
  refine wpAnyH_take (i := 10) (oi := ⟨_, _, _, _, _, _⟩) (v := ?_) rfl (by kernel_rfl) (by kernel_rfl) (by kernel_rfl) (fun _ _ _ h => h) (Or.inl ⟨by rfl, ?_⟩) hH0 ?_
  rotate_left 1
  · intro w hSw
    (try dsimp only at hSw)
    obtain ⟨s0, s1, s3, s4, s5, s6, s7⟩ := hSw
    go_simp <;> with_reducible rfl
  simp only [Act.put, List.setIfInBounds_toArray, List.set_cons_zero, List.set_cons_succ]
  refine wpAnyH_take (i := 11) (oi := ⟨_, _, _, _, _, _⟩) (v := ?_) rfl (by kernel_rfl) (by kernel_rfl) (by kernel_rfl) (fun _ _ _ h => h) (Or.inl ⟨by rfl, ?_⟩) hH0 ?_
  rotate_left 1
  · intro w hSw
    (try dsimp only at hSw)
    obtain ⟨s0, s1, s3, s4, s5, s6, s7⟩ := hSw
    go_simp <;> with_reducible rfl
  simp only [Act.put, List.setIfInBounds_toArray, List.set_cons_zero, List.set_cons_succ]
  refine wpAnyH_take (i := 12) (oi := ⟨_, _, _, _, _, _⟩) (v := ?_) rfl (by kernel_rfl) (by kernel_rfl) (by kernel_rfl) (fun _ _ _ h => h) (Or.inl ⟨by rfl, ?_⟩) hH0 ?_
  rotate_left 1
  · intro w hSw
    (try dsimp only at hSw)
    obtain ⟨s0, s1, s3, s4, s5, s6, s7⟩ := hSw
    go_simp <;> with_reducible rfl
  simp only [Act.put, List.setIfInBounds_toArray, List.set_cons_zero, List.set_cons_succ]
  refine wpAnyH_take (i := 13) (oi := ⟨_, _, _, _, _, _⟩) (v := ?_) rfl (by kernel_rfl) (by kernel_rfl) (by kernel_rfl) (fun _ _ _ h => h) (Or.inl ⟨by rfl, ?_⟩) hH0 ?_
  rotate_left 1
  · intro w hSw
    (try dsimp only at hSw)
    obtain ⟨s0, s1, s3, s4, s5, s6, s7⟩ := hSw
    go_simp <;> with_reducible rfl
  simp only [Act.put, List.setIfInBounds_toArray, List.set_cons_zero, List.set_cons_succ]
  refine wpAnyH_take (i := 14) (oi := ⟨_, _, _, _, _, _⟩) (v := ?_) rfl (by kernel_rfl) (by kernel_rfl) (by kernel_rfl) (fun _ _ _ h => h) (Or.inl ⟨by rfl, ?_⟩) hH0 ?_
  rotate_left 1
  · intro w hSw
    (try dsimp only at hSw)
    obtain ⟨s0, s1, s3, s4, s5, s6, s7⟩ := hSw
    go_simp <;> with_reducible rfl
  simp only [Act.put, List.setIfInBounds_toArray, List.set_cons_zero, List.set_cons_succ]
  refine wpAnyH_take (i := 15) (oi := ⟨_, _, _, _, _, _⟩) (v := ?_) rfl (by kernel_rfl) (by kernel_rfl) (by kernel_rfl) (fun _ _ _ h => h) (Or.inl ⟨by rfl, ?_⟩) hH0 ?_
  rotate_left 1
  · intro w hSw
    (try dsimp only at hSw)
    obtain ⟨s0, s1, s3, s4, s5, s6, s7⟩ := hSw
    go_simp <;> with_reducible rfl
  simp only [Act.put, List.setIfInBounds_toArray, List.set_cons_zero, List.set_cons_succ]
  refine wpAnyH_take (i := 16) (oi := ⟨_, _, _, _, _, _⟩) (v := ?_) rfl (by kernel_rfl) (by kernel_rfl) (by kernel_rfl) (fun _ _ _ h => h) (Or.inl ⟨by rfl, ?_⟩) hH0 ?_
  rotate_left 1
  · intro w hSw
    (try dsimp only at hSw)
    obtain ⟨s0, s1, s3, s4, s5, s6, s7⟩ := hSw
    go_simp <;> with_reducible rfl
  simp only [Act.put, List.setIfInBounds_toArray, List.set_cons_zero, List.set_cons_succ]
  refine wpAnyH_take (i := 17) (oi := ⟨_, _, _, _, _, _⟩) (v := ?_) rfl (by kernel_rfl) (by kernel_rfl) (by kernel_rfl) (fun _ _ _ h => h) (Or.inl ⟨by rfl, ?_⟩) hH0 ?_
  rotate_left 1
  · intro w hSw
    (try dsimp only at hSw)
    obtain ⟨s0, s1, s3, s4, s5, s6, s7⟩ := hSw
    go_simp <;> with_reducible rfl
  simp only [Act.put, List.setIfInBounds_toArray, List.set_cons_zero, List.set_cons_succ]
  refine wpAnyH_ready (rs := [4, 18]) (by kernel_rfl) (by simp) ?_
  refine AllReadyH.cons (o := ⟨_, _, _, _, _, _⟩) rfl (fun K1 hK1 => ?_) ?_
  · skip
    go_simp
    refine hK1.out _ _ ?_ (fun hH1 => ?_)
    · (refine ⟨?_, ?_, ?_, ?_, ?_, ?_, ?_⟩ <;> go_simp)
    clear hK1 K1
    refine wpAnyH_ready (rs := [18]) (by kernel_rfl) (by simp) ?_
    refine AllReadyH.cons (o := ⟨_, _, _, _, _, _⟩) rfl (fun K2 hK2 => ?_) ?_
    · skip
      go_simp
      refine hK2.out _ _ ?_ (fun hH2 => ?_)
      · (refine ⟨?_, ?_, ?_, ?_, ?_, ?_, ?_⟩ <;> go_simp)
      clear hK2 K2
      refine wpAnyH_ready (rs := [19]) (by kernel_rfl) (by simp) ?_
      refine AllReadyH.cons (o := ⟨_, _, _, _, _, _⟩) rfl (fun K3 hK3 => ?_) ?_
      · skip
        (refine step_append_lies _ (by rfl) _ _ 94 (by rfl) (p + 1) 119 i0 _ 7 64 Tryz.underlying94 hi hz0 hz1 hz2 (by rfl) (by decide) v A.list.length (A.list.flatMap plC) (by rfl) (own_belowS ow (by first | exact ((Below.refl _ _).alloc (Nat.le_refl _) _).drew | exact (Below.refl _ _).drew.alloc (Nat.le_refl _) _ | exact (Below.refl _ _).alloc (Nat.le_refl _) _)) ⟨W9.heap.size, 0, none⟩ 1 1 (plC ⟨A.line, A.fin + n, S'.op, S'.a, S'.b, S'.im, S'.nm⟩) (by rfl) (by rfl) (by first | exact World.news_of_block (cs := #[.int .i64 A.line, .int .i64 (A.fin + n), .int .i64 S'.op, .int .i64 S'.a, .int .i64 S'.b, .int .i64 S'.im, .string S'.nm]) (t := 119) (fr := (0, 0)) (heap_alloc_new W9 _) | exact World.news_of_block (World.alloc_heap_new (w := W9.drew) _)) (by intro u hu; simp [plC] at hu; rcases hu with rfl | rfl | rfl | rfl | rfl | rfl | rfl <;> rfl) (by decide) (by unfold maxLen; omega) (by omega) (by simp; omega) _ rfl ?_; intro g cap w7 hown7 hgrow hat hlt7; have hg := grown_of (w := W9) (by first | exact ((Below.refl _ _).alloc (Nat.le_refl _) _).drew | exact (Below.refl _ _).drew.alloc (Nat.le_refl _) _ | exact (Below.refl _ _).alloc (Nat.le_refl _) _) hgrow; have k2 : w7.cell? ⟨p, 2, none⟩ = some v := (World.cell?_of_block (w := W9) (hg.block p lp hnp)).trans e2; have k3 : w7.frozen? ⟨p, 2, none⟩ = false := (World.frozen?_of_block (w := W9) (hg.block p lp hnp)).trans g2; have j0 : w7.cell? ⟨p, 0, none⟩ = some (.int .i64 A.line) := (World.cell?_of_block (w := W9) (hg.block p lp hnp)).trans e0; have j1 : w7.cell? ⟨p, 1, none⟩ = some (.int .i64 (A.fin + n)) := (World.cell?_of_block (w := W9) (hg.block p lp hnp)).trans e1; have j3 : w7.cell? ⟨q, 3, none⟩ = some (.int .i64 S'.op) := (World.cell?_of_block (w := W9) (hg.block q lq hnq)).trans d3; have j4 : w7.cell? ⟨q, 4, none⟩ = some (.int .i64 S'.a) := (World.cell?_of_block (w := W9) (hg.block q lq hnq)).trans d4; have j5 : w7.cell? ⟨q, 5, none⟩ = some (.int .i64 S'.b) := (World.cell?_of_block (w := W9) (hg.block q lq hnq)).trans d5; have j6 : w7.cell? ⟨q, 6, none⟩ = some (.int .i64 S'.im) := (World.cell?_of_block (w := W9) (hg.block q lq hnq)).trans d6; have j7 : w7.cell? ⟨q, 7, none⟩ = some (.string S'.nm) := (World.cell?_of_block (w := W9) (hg.block q lq hnq)).trans d7)
        try go_simp
        refine hK3.out _ _ ?_ (fun hH3 => ?_)
        · (refine ⟨?_, ?_, ?_, ?_, ?_, ?_, ?_⟩ <;> go_simp)
        clear hK3 K3
        refine wpAnyH_take (i := 20) (oi := ⟨_, _, _, _, _, _⟩) (v := ?_) rfl (by kernel_rfl) (by kernel_rfl) (by kernel_rfl) (fun _ _ _ h => h) (Or.inl ⟨by rfl, ?_⟩) hH3 ?_
        rotate_left 1
        · intro w hSw
          (try dsimp only at hSw)
          obtain ⟨s0, s1, s3, s4, s5, s6, s7⟩ := hSw
          go_simp <;> with_reducible rfl
        simp only [Act.put, List.setIfInBounds_toArray, List.set_cons_zero, List.set_cons_succ]
        refine wpAnyH_take (i := 21) (oi := ⟨_, _, _, _, _, _⟩) (v := ?_) rfl (by kernel_rfl) (by kernel_rfl) (by kernel_rfl) (fun _ _ _ h => h) (Or.inl ⟨by rfl, ?_⟩) hH3 ?_
        rotate_left 1
        · intro w hSw
          (try dsimp only at hSw)
          obtain ⟨s0, s1, s3, s4, s5, s6, s7⟩ := hSw
          go_simp <;> with_reducible rfl
        simp only [Act.put, List.setIfInBounds_toArray, List.set_cons_zero, List.set_cons_succ]
        refine wpAnyH_ready (rs := [22]) (by kernel_rfl) (by simp) ?_
        refine AllReadyH.cons (o := ⟨_, _, _, _, _, _⟩) rfl (fun K4 hK4 => ?_) ?_
        · skip
          go_simp
          refine hK4.out _ _ ?_ (fun hH4 => ?_)
          · (refine ⟨?_, ?_, ?_, ?_, ?_, ?_, ?_⟩ <;> go_simp)
          clear hK4 K4
          refine wpAnyH_done (by kernel_rfl) ?_ _
          have hrow : w7.ownsRow (p + 1) 119 7 (.slice (some ⟨g, 0, none⟩) (A.list.length + 1) cap) (A.list ++ [(⟨A.line, A.fin + n, S'.op, S'.a, S'.b, S'.im, S'.nm⟩ : Pl)]).length ((A.list ++ [(⟨A.line, A.fin + n, S'.op, S'.a, S'.b, S'.im, S'.nm⟩ : Pl)]).flatMap plC) := by rw [HL.out.1, HL.out.2]; exact hown7
          have hFin := hP9.ab.grown_list e2 ow hg hrow
          have hAs := hP9.asm.trans hFin.2
          refine NoPanic.normal ?_
          clear hown7 hgrow hat hlt7 k2 k3 e0 e1 g2 d3 d4 d5 d6 d7 hrow j0 j1 j3 j4 j5 j6 j7
          go_wp2_with fail
          first | exact bodyPost_ret (results_none rfl _ _ _) rfl ⟨rfl, by rw [HN.out]; exact hFin.1, hAs⟩ | exact bodyPost_end (results_none rfl _ _ _) rfl ⟨rfl, by rw [HN.out]; exact hFin.1, hAs⟩
        exact AllReadyH.nil
      exact AllReadyH.nil
    exact AllReadyH.nil
  refine AllReadyH.cons (o := ⟨_, _, _, _, _, _⟩) rfl (fun K1 hK1 => ?_) ?_
  · skip
    go_simp
    refine hK1.out _ _ ?_ (fun hH1 => ?_)
    · (refine ⟨?_, ?_, ?_, ?_, ?_, ?_, ?_⟩ <;> go_simp)
    clear hK1 K1
    refine wpAnyH_ready (rs := [4]) (by kernel_rfl) (by simp) ?_
    refine AllReadyH.cons (o := ⟨_, _, _, _, _, _⟩) rfl (fun K2 hK2 => ?_) ?_
    · skip
      go_simp
      refine hK2.out _ _ ?_ (fun hH2 => ?_)
      · (refine ⟨?_, ?_, ?_, ?_, ?_, ?_, ?_⟩ <;> go_simp)
      clear hK2 K2
      refine wpAnyH_ready (rs := [19]) (by kernel_rfl) (by simp) ?_
      refine AllReadyH.cons (o := ⟨_, _, _, _, _, _⟩) rfl (fun K3 hK3 => ?_) ?_
      · skip
        (refine step_append_lies _ (by rfl) _ _ 94 (by rfl) (p + 1) 119 i0 _ 7 64 Tryz.underlying94 hi hz0 hz1 hz2 (by rfl) (by decide) v A.list.length (A.list.flatMap plC) (by rfl) (own_belowS ow (by first | exact ((Below.refl _ _).alloc (Nat.le_refl _) _).drew | exact (Below.refl _ _).drew.alloc (Nat.le_refl _) _ | exact (Below.refl _ _).alloc (Nat.le_refl _) _)) ⟨W9.heap.size, 0, none⟩ 1 1 (plC ⟨A.line, A.fin + n, S'.op, S'.a, S'.b, S'.im, S'.nm⟩) (by rfl) (by rfl) (by first | exact World.news_of_block (cs := #[.int .i64 A.line, .int .i64 (A.fin + n), .int .i64 S'.op, .int .i64 S'.a, .int .i64 S'.b, .int .i64 S'.im, .string S'.nm]) (t := 119) (fr := (0, 0)) (heap_alloc_new W9 _) | exact World.news_of_block (World.alloc_heap_new (w := W9.drew) _)) (by intro u hu; simp [plC] at hu; rcases hu with rfl | rfl | rfl | rfl | rfl | rfl | rfl <;> rfl) (by decide) (by unfold maxLen; omega) (by omega) (by simp; omega) _ rfl ?_; intro g cap w7 hown7 hgrow hat hlt7; have hg := grown_of (w := W9) (by first | exact ((Below.refl _ _).alloc (Nat.le_refl _) _).drew | exact (Below.refl _ _).drew.alloc (Nat.le_refl _) _ | exact (Below.refl _ _).alloc (Nat.le_refl _) _) hgrow; have k2 : w7.cell? ⟨p, 2, none⟩ = some v := (World.cell?_of_block (w := W9) (hg.block p lp hnp)).trans e2; have k3 : w7.frozen? ⟨p, 2, none⟩ = false := (World.frozen?_of_block (w := W9) (hg.block p lp hnp)).trans g2; have j0 : w7.cell? ⟨p, 0, none⟩ = some (.int .i64 A.line) := (World.cell?_of_block (w := W9) (hg.block p lp hnp)).trans e0; have j1 : w7.cell? ⟨p, 1, none⟩ = some (.int .i64 (A.fin + n)) := (World.cell?_of_block (w := W9) (hg.block p lp hnp)).trans e1; have j3 : w7.cell? ⟨q, 3, none⟩ = some (.int .i64 S'.op) := (World.cell?_of_block (w := W9) (hg.block q lq hnq)).trans d3; have j4 : w7.cell? ⟨q, 4, none⟩ = some (.int .i64 S'.a) := (World.cell?_of_block (w := W9) (hg.block q lq hnq)).trans d4; have j5 : w7.cell? ⟨q, 5, none⟩ = some (.int .i64 S'.b) := (World.cell?_of_block (w := W9) (hg.block q lq hnq)).trans d5; have j6 : w7.cell? ⟨q, 6, none⟩ = some (.int .i64 S'.im) := (World.cell?_of_block (w := W9) (hg.block q lq hnq)).trans d6; have j7 : w7.cell? ⟨q, 7, none⟩ = some (.string S'.nm) := (World.cell?_of_block (w := W9) (hg.block q lq hnq)).trans d7)
        try go_simp
        refine hK3.out _ _ ?_ (fun hH3 => ?_)
        · (refine ⟨?_, ?_, ?_, ?_, ?_, ?_, ?_⟩ <;> go_simp)
        clear hK3 K3
        refine wpAnyH_take (i := 20) (oi := ⟨_, _, _, _, _, _⟩) (v := ?_) rfl (by kernel_rfl) (by kernel_rfl) (by kernel_rfl) (fun _ _ _ h => h) (Or.inl ⟨by rfl, ?_⟩) hH3 ?_
        rotate_left 1
        · intro w hSw
          (try dsimp only at hSw)
          obtain ⟨s0, s1, s3, s4, s5, s6, s7⟩ := hSw
          go_simp <;> with_reducible rfl
        simp only [Act.put, List.setIfInBounds_toArray, List.set_cons_zero, List.set_cons_succ]
        refine wpAnyH_take (i := 21) (oi := ⟨_, _, _, _, _, _⟩) (v := ?_) rfl (by kernel_rfl) (by kernel_rfl) (by kernel_rfl) (fun _ _ _ h => h) (Or.inl ⟨by rfl, ?_⟩) hH3 ?_
        rotate_left 1
        · intro w hSw
          (try dsimp only at hSw)
          obtain ⟨s0, s1, s3, s4, s5, s6, s7⟩ := hSw
          go_simp <;> with_reducible rfl
        simp only [Act.put, List.setIfInBounds_toArray, List.set_cons_zero, List.set_cons_succ]
        refine wpAnyH_ready (rs := [22]) (by kernel_rfl) (by simp) ?_
        refine AllReadyH.cons (o := ⟨_, _, _, _, _, _⟩) rfl (fun K4 hK4 => ?_) ?_
        · skip
          go_simp
          refine hK4.out _ _ ?_ (fun hH4 => ?_)
          · (refine ⟨?_, ?_, ?_, ?_, ?_, ?_, ?_⟩ <;> go_simp)
          clear hK4 K4
          refine wpAnyH_done (by kernel_rfl) ?_ _
          have hrow : w7.ownsRow (p + 1) 119 7 (.slice (some ⟨g, 0, none⟩) (A.list.length + 1) cap) (A.list ++ [(⟨A.line, A.fin + n, S'.op, S'.a, S'.b, S'.im, S'.nm⟩ : Pl)]).length ((A.list ++ [(⟨A.line, A.fin + n, S'.op, S'.a, S'.b, S'.im, S'.nm⟩ : Pl)]).flatMap plC) := by rw [HL.out.1, HL.out.2]; exact hown7
          have hFin := hP9.ab.grown_list e2 ow hg hrow
          have hAs := hP9.asm.trans hFin.2
          refine NoPanic.normal ?_
          clear hown7 hgrow hat hlt7 k2 k3 e0 e1 g2 d3 d4 d5 d6 d7 hrow j0 j1 j3 j4 j5 j6 j7
          go_wp2_with fail
          first | exact bodyPost_ret (results_none rfl _ _ _) rfl ⟨rfl, by rw [HN.out]; exact hFin.1, hAs⟩ | exact bodyPost_end (results_none rfl _ _ _) rfl ⟨rfl, by rw [HN.out]; exact hFin.1, hAs⟩
        exact AllReadyH.nil
      exact AllReadyH.nil
    exact AllReadyH.nil
  exact AllReadyH.nil
end Go.Proofs.YtjlbcpmfbokinaaGreatDoor
