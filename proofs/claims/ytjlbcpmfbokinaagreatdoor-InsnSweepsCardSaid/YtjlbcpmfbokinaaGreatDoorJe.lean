/-
  Layer 2, contracts: Parse.
-/
import Derived.Test.YtjlbcpmfbokinaaGreatDoorJd
set_option linter.unusedSimpArgs false
set_option linter.unusedVariables false
namespace Go.Proofs.YtjlbcpmfbokinaaGreatDoor
open Go.RowKit Go.Shelf

/-- A scanner ahead of a line. -/
def S0 (lab : Bool) (s : ByteArray) : Sc := ⟨s, lab, 0, 0, 0, 0, 0, ⟨#[]⟩⟩
theorem SB.fresh {W0 : World} (hT : TB W0) {p : Nat} (hp : W0.heap.size = p) (lab : Bool) (s : ByteArray) (hs : s.size ≤ maxLen) : SB (W0.alloc (.cells #[.string s, .bool lab, .int .i64 0, .int .i64 0, .int .i64 0, .int .i64 0, .int .i64 0, .string ⟨#[]⟩] 90)) p (S0 lab s) := by
  subst hp
  refine ⟨by go_simp; rfl, by go_simp; rfl, by go_simp; rfl, by go_simp; rfl, by go_simp; rfl, by go_simp; rfl, by go_simp; rfl, by go_simp; rfl, fun o => by go_simp, hs, (by decide : (0 : Nat) < 12), lt_of_cell (hT.ly.r 0 (by decide)), fun w' g => ?_⟩
  exact hT.up (((Below.refl _ _).alloc (Nat.le_refl _) _).trans g)
theorem caught_ok {p : Nat} {w : World} {S S' : Sc} (h : SB w p S) (hz : w.heap.size = p + 1) (hS : scIns S = some S') : Calls Tryz.prog 46 #[.func (.func 47) #[.pointer (some ⟨p, 0, none⟩)] #[]] w fun e w' => e = .returned (.int .i64 0) ∧ Below p w w' ∧ SB w' p S' :=
  (caught_instr h hz).mono fun e w' ⟨h1, h2⟩ => by
    rcases h2 with ⟨S2, h3, h4, h5⟩ | ⟨h3, _⟩
    · rw [hS] at h3
      obtain rfl := Option.some.inj h3
      exact ⟨h4, h1, h5⟩
    · rw [hS] at h3; cases h3
theorem caught_no {p : Nat} {w : World} {S : Sc} (h : SB w p S) (hz : w.heap.size = p + 1) (hS : scIns S = none) : Calls Tryz.prog 46 #[.func (.func 47) #[.pointer (some ⟨p, 0, none⟩)] #[]] w fun e w' => e = .returned (.int .i64 22) ∧ Below p w w' :=
  (caught_instr h hz).mono fun e w' ⟨h1, h2⟩ => by
    rcases h2 with ⟨S2, h3, h4, h5⟩ | ⟨_, h4⟩
    · rw [hS] at h3; cases h3
    · exact ⟨h4, h1⟩
/-- What Parse answers. -/
def paE (s : ByteArray) : Int := if 20000 < s.size then 2 else match scIns (S0 false s) with | none => 22 | some S => if okX S.op S.a S.b S.im then 0 else 24
def paS (s : ByteArray) : Sc := if 20000 < s.size then S0 false ⟨#[]⟩ else match scIns (S0 false s) with | none => S0 false ⟨#[]⟩ | some S => if okX S.op S.a S.b S.im then S else S0 false ⟨#[]⟩
def ParR (s : ByteArray) (e : Ending) : Prop := e = .returned (.tuple #[inV (paS s).op (paS s).a (paS s).b (paS s).im, .int .i64 (paE s)])
theorem parR_no {s : ByteArray} {E : Int} (h1 : paS s = S0 false ⟨#[]⟩) (h2 : paE s = E) : ParR s (.returned (.tuple #[inV 0 0 0 0, .int .i64 E])) := by
  unfold ParR
  rw [h1, h2]
  rfl
set_option maxRecDepth 100000 in
set_option maxHeartbeats 2000000 in
theorem parse_long (s : ByteArray) (hs : s.size ≤ maxLen) (hl : 20000 < s.size) (w : World) : Calls Tryz.prog 28 #[.string s] w fun e w' => ParR s e ∧ Below w.heap.size w w' := by
  have h1 : paS s = S0 false ⟨#[]⟩ := if_pos hl
  have h2 : paE s = 2 := if_pos hl
  have HR := Lib.hid (parR_no h1 h2)
  have hl' : (20000 : Int) < (s.size : Int) := by omega
  unfold maxLen at hs
  clear h1 h2
  go_enter Tryz.func28, Tryz.ntmps28
  go_wp2_with fail
  refine bodyPost_ret (v := .tuple #[inV 0 0 0 0, .int .i64 2]) (by simp [results, go_sem, *]) rfl ?_
  exact ⟨HR.out, (Gr.below (by repeat (first | (with_reducible exact Gr.refl _) | with_reducible refine Gr.alloc ?_ _ | with_reducible refine Gr.more ?_ _ _ | with_reducible refine Gr.setCell ?_ (by dsimp only; omega) _ | with_reducible refine Gr.drew ?_)))⟩
set_option maxRecDepth 100000 in
set_option maxHeartbeats 2000000 in
theorem parse_bad (s : ByteArray) (hl : s.size ≤ 20000) (hS : scIns (S0 false s) = none) (w : World) (hT : TB w) : Calls Tryz.prog 28 #[.string s] w fun e w' => ParR s e ∧ Below w.heap.size w w' := by
  have hm : s.size ≤ maxLen := by unfold maxLen; omega
  have h1 : paS s = S0 false ⟨#[]⟩ := by unfold paS; rw [if_neg (by omega), hS]
  have h2 : paE s = 22 := by unfold paE; rw [if_neg (by omega), hS]
  have HR := Lib.hid (parR_no h1 h2)
  clear h1 h2
  have hl' : ¬ (20000 : Int) < (s.size : Int) := by omega
  have hl2 : decide ((20000 : Int) < (s.size : Int)) = false := decide_eq_false hl'
  have CA := Lib.hid (fun W p (hp : W.heap.size = p) (g : TB W) => caught_no (SB.fresh g hp false s hm) (by simp [hp]) hS)
  have HT := Lib.hid (fun o => hT.up ((Below.refl w.heap.size w).alloc (Nat.le_refl _) o))
  clear hS hT hm hl
  go_enter Tryz.func28, Tryz.ntmps28
  go_upto_region 4 with fail
  have hC := CA.out _ (w.heap.size + 1) (by simp) (HT.out (.cells #[.int .i64 0, .int .i64 0, .int .i64 0, .int .i64 0] 23))
  go_upto_region 5 with (go_at_call 46; (with_reducible refine hC.mono ?_); rintro e w1 ⟨rfl, hL⟩)
  have hG : Gr w.heap.size w w1 := ⟨Below.trans (Gr.below (by repeat (first | (with_reducible exact Gr.refl _) | with_reducible refine Gr.alloc ?_ _ | with_reducible refine Gr.more ?_ _ _ | with_reducible refine Gr.setCell ?_ (by dsimp only; omega) _ | with_reducible refine Gr.drew ?_))) (hL.mono (by omega)), by have := hL.size; simp at this; omega⟩
  have r0 : w1.cell? ⟨w.heap.size, 0, none⟩ = some (.int .i64 0) := by rw [hL.cell (by simp)]; go_simp
  have r1 : w1.cell? ⟨w.heap.size, 1, none⟩ = some (.int .i64 0) := by rw [hL.cell (by simp)]; go_simp
  have r2 : w1.cell? ⟨w.heap.size, 2, none⟩ = some (.int .i64 0) := by rw [hL.cell (by simp)]; go_simp
  have r3 : w1.cell? ⟨w.heap.size, 3, none⟩ = some (.int .i64 0) := by rw [hL.cell (by simp)]; go_simp
  have f0 : w1.frozen? ⟨w.heap.size, 0, none⟩ = false := by rw [hL.frozen (by simp)]; go_simp
  have f1 : w1.frozen? ⟨w.heap.size, 1, none⟩ = false := by rw [hL.frozen (by simp)]; go_simp
  have f2 : w1.frozen? ⟨w.heap.size, 2, none⟩ = false := by rw [hL.frozen (by simp)]; go_simp
  have f3 : w1.frozen? ⟨w.heap.size, 3, none⟩ = false := by rw [hL.frozen (by simp)]; go_simp
  clear hL
  go_wp2_with fail
  refine bodyPost_ret (v := .tuple #[inV 0 0 0 0, .int .i64 22]) (by simp [results, go_sem, *]) rfl ?_
  exact ⟨HR.out, Gr.below (by repeat (first | (with_reducible exact hG) | with_reducible refine Gr.alloc ?_ _ | with_reducible refine Gr.more ?_ _ _ | with_reducible refine Gr.setCell ?_ (by dsimp only; omega) _ | with_reducible refine Gr.drew ?_))⟩
set_option maxRecDepth 100000 in
set_option maxHeartbeats 2000000 in
theorem parse_reach (s : ByteArray) (hl : s.size ≤ 20000) (S' : Sc) (hS : scIns (S0 false s) = some S') (hX : okX S'.op S'.a S'.b S'.im = false) (w : World) (hT : TB w) : Calls Tryz.prog 28 #[.string s] w fun e w' => ParR s e ∧ Below w.heap.size w w' := by
  have hm : s.size ≤ maxLen := by unfold maxLen; omega
  have h1 : paS s = S0 false ⟨#[]⟩ := by unfold paS; rw [if_neg (by omega), hS]; dsimp only; rw [hX]; rfl
  have h2 : paE s = 24 := by unfold paE; rw [if_neg (by omega), hS]; dsimp only; rw [hX]; rfl
  have HR : Hid (ParR s (.returned (.tuple #[inV 0 0 0 0, .int .i64 24]))) := Lib.hid (by exact parR_no h1 h2)
  have CK := fun W (g : TB W) => check_bad hX W g
  clear h1 h2 hX
  have hl' : ¬ (20000 : Int) < (s.size : Int) := by omega
  have hl2 : decide ((20000 : Int) < (s.size : Int)) = false := decide_eq_false hl'
  have CA := Lib.hid (fun W p (hp : W.heap.size = p) (g : TB W) => caught_ok (SB.fresh g hp false s hm) (by simp [hp]) hS)
  have HT := Lib.hid (fun o => hT.up ((Below.refl w.heap.size w).alloc (Nat.le_refl _) o))
  clear hS hT hm hl
  go_enter Tryz.func28, Tryz.ntmps28
  go_upto_region 4 with fail
  have hC := CA.out _ (w.heap.size + 1) (by simp) (HT.out (.cells #[.int .i64 0, .int .i64 0, .int .i64 0, .int .i64 0] 23))
  go_upto_region 5 with (go_at_call 46; (with_reducible refine hC.mono ?_); rintro e w1 ⟨rfl, hL, hS1⟩)
  have hG1 : Gr w.heap.size w w1 := ⟨Below.trans (Gr.below (by repeat (first | (with_reducible exact Gr.refl _) | with_reducible refine Gr.alloc ?_ _ | with_reducible refine Gr.more ?_ _ _ | with_reducible refine Gr.setCell ?_ (by dsimp only; omega) _ | with_reducible refine Gr.drew ?_))) (hL.mono (by omega)), by have := hL.size; simp at this; omega⟩
  have HT1 := Lib.hid hS1.tab
  have z1 : w.heap.size + 1 < w1.heap.size := hS1.lt
  have c3 := hS1.c3
  have c4 := hS1.c4
  have c5 := hS1.c5
  have c6 := hS1.c6
  have r0 : w1.cell? ⟨w.heap.size, 0, none⟩ = some (.int .i64 0) := by rw [hL.cell (by simp)]; go_simp
  have r1 : w1.cell? ⟨w.heap.size, 1, none⟩ = some (.int .i64 0) := by rw [hL.cell (by simp)]; go_simp
  have r2 : w1.cell? ⟨w.heap.size, 2, none⟩ = some (.int .i64 0) := by rw [hL.cell (by simp)]; go_simp
  have r3 : w1.cell? ⟨w.heap.size, 3, none⟩ = some (.int .i64 0) := by rw [hL.cell (by simp)]; go_simp
  have f0 : w1.frozen? ⟨w.heap.size, 0, none⟩ = false := by rw [hL.frozen (by simp)]; go_simp
  have f1 : w1.frozen? ⟨w.heap.size, 1, none⟩ = false := by rw [hL.frozen (by simp)]; go_simp
  have f2 : w1.frozen? ⟨w.heap.size, 2, none⟩ = false := by rw [hL.frozen (by simp)]; go_simp
  have f3 : w1.frozen? ⟨w.heap.size, 3, none⟩ = false := by rw [hL.frozen (by simp)]; go_simp
  clear hL hS1 hC
  have bz : w.heap.size < w1.heap.size := by omega
  go_wp2_with (go_at_call 7; (with_reducible refine (CK _ HT1.out).mono ?_); rintro e w2 ⟨rfl, hL2⟩; have hG : Gr w.heap.size w w2 := ⟨hG1.below.trans (hL2.mono (by omega)), by have := hL2.size; omega⟩; have q0 := (hL2.cell (p := ⟨w.heap.size, 0, none⟩) bz).trans r0; have g0 := (hL2.frozen (p := ⟨w.heap.size, 0, none⟩) bz).trans f0; have q1 := (hL2.cell (p := ⟨w.heap.size, 1, none⟩) bz).trans r1; have g1 := (hL2.frozen (p := ⟨w.heap.size, 1, none⟩) bz).trans f1; have q2 := (hL2.cell (p := ⟨w.heap.size, 2, none⟩) bz).trans r2; have g2 := (hL2.frozen (p := ⟨w.heap.size, 2, none⟩) bz).trans f2; have q3 := (hL2.cell (p := ⟨w.heap.size, 3, none⟩) bz).trans r3; have g3 := (hL2.frozen (p := ⟨w.heap.size, 3, none⟩) bz).trans f3; have d3 := (hL2.cell (p := ⟨w.heap.size + 1, 3, none⟩) z1).trans c3; have d4 := (hL2.cell (p := ⟨w.heap.size + 1, 4, none⟩) z1).trans c4; have d5 := (hL2.cell (p := ⟨w.heap.size + 1, 5, none⟩) z1).trans c5; have d6 := (hL2.cell (p := ⟨w.heap.size + 1, 6, none⟩) z1).trans c6)
  refine bodyPost_ret (v := .tuple #[inV 0 0 0 0, .int .i64 24]) (by simp [results, go_sem, *]) rfl ?_
  exact ⟨HR.out, Gr.below (by repeat (first | (with_reducible exact hG) | with_reducible refine Gr.alloc ?_ _ | with_reducible refine Gr.more ?_ _ _ | with_reducible refine Gr.setCell ?_ (by dsimp only; omega) _ | with_reducible refine Gr.drew ?_))⟩
set_option maxRecDepth 100000 in
set_option maxHeartbeats 2000000 in
theorem parse_ok (s : ByteArray) (hl : s.size ≤ 20000) (S' : Sc) (hS : scIns (S0 false s) = some S') (hX : okX S'.op S'.a S'.b S'.im = true) (w : World) (hT : TB w) : Calls Tryz.prog 28 #[.string s] w fun e w' => ParR s e ∧ Below w.heap.size w w' := by
  have hm : s.size ≤ maxLen := by unfold maxLen; omega
  have h1 : paS s = S' := by unfold paS; rw [if_neg (by omega), hS]; dsimp only; rw [hX]; rfl
  have h2 : paE s = 0 := by unfold paE; rw [if_neg (by omega), hS]; dsimp only; rw [hX]; rfl
  have HR : Hid (ParR s (.returned (.tuple #[inV S'.op S'.a S'.b S'.im, .int .i64 0]))) := Lib.hid (by unfold ParR; rw [h1, h2])
  have CK := fun W (g : TB W) => check_ok hX W g
  clear h1 h2 hX
  have hl' : ¬ (20000 : Int) < (s.size : Int) := by omega
  have hl2 : decide ((20000 : Int) < (s.size : Int)) = false := decide_eq_false hl'
  have CA := Lib.hid (fun W p (hp : W.heap.size = p) (g : TB W) => caught_ok (SB.fresh g hp false s hm) (by simp [hp]) hS)
  have HT := Lib.hid (fun o => hT.up ((Below.refl w.heap.size w).alloc (Nat.le_refl _) o))
  clear hS hT hm hl
  go_enter Tryz.func28, Tryz.ntmps28
  go_upto_region 4 with fail
  have hC := CA.out _ (w.heap.size + 1) (by simp) (HT.out (.cells #[.int .i64 0, .int .i64 0, .int .i64 0, .int .i64 0] 23))
  go_upto_region 5 with (go_at_call 46; (with_reducible refine hC.mono ?_); rintro e w1 ⟨rfl, hL, hS1⟩)
  have hG1 : Gr w.heap.size w w1 := ⟨Below.trans (Gr.below (by repeat (first | (with_reducible exact Gr.refl _) | with_reducible refine Gr.alloc ?_ _ | with_reducible refine Gr.more ?_ _ _ | with_reducible refine Gr.setCell ?_ (by dsimp only; omega) _ | with_reducible refine Gr.drew ?_))) (hL.mono (by omega)), by have := hL.size; simp at this; omega⟩
  have HT1 := Lib.hid hS1.tab
  have z1 : w.heap.size + 1 < w1.heap.size := hS1.lt
  have c3 := hS1.c3
  have c4 := hS1.c4
  have c5 := hS1.c5
  have c6 := hS1.c6
  have r0 : w1.cell? ⟨w.heap.size, 0, none⟩ = some (.int .i64 0) := by rw [hL.cell (by simp)]; go_simp
  have r1 : w1.cell? ⟨w.heap.size, 1, none⟩ = some (.int .i64 0) := by rw [hL.cell (by simp)]; go_simp
  have r2 : w1.cell? ⟨w.heap.size, 2, none⟩ = some (.int .i64 0) := by rw [hL.cell (by simp)]; go_simp
  have r3 : w1.cell? ⟨w.heap.size, 3, none⟩ = some (.int .i64 0) := by rw [hL.cell (by simp)]; go_simp
  have f0 : w1.frozen? ⟨w.heap.size, 0, none⟩ = false := by rw [hL.frozen (by simp)]; go_simp
  have f1 : w1.frozen? ⟨w.heap.size, 1, none⟩ = false := by rw [hL.frozen (by simp)]; go_simp
  have f2 : w1.frozen? ⟨w.heap.size, 2, none⟩ = false := by rw [hL.frozen (by simp)]; go_simp
  have f3 : w1.frozen? ⟨w.heap.size, 3, none⟩ = false := by rw [hL.frozen (by simp)]; go_simp
  clear hL hS1 hC
  have bz : w.heap.size < w1.heap.size := by omega
  go_wp2_with (go_at_call 7; (with_reducible refine (CK _ HT1.out).mono ?_); rintro e w2 ⟨rfl, hL2⟩; have hG : Gr w.heap.size w w2 := ⟨hG1.below.trans (hL2.mono (by omega)), by have := hL2.size; omega⟩; have q0 := (hL2.cell (p := ⟨w.heap.size, 0, none⟩) bz).trans r0; have g0 := (hL2.frozen (p := ⟨w.heap.size, 0, none⟩) bz).trans f0; have q1 := (hL2.cell (p := ⟨w.heap.size, 1, none⟩) bz).trans r1; have g1 := (hL2.frozen (p := ⟨w.heap.size, 1, none⟩) bz).trans f1; have q2 := (hL2.cell (p := ⟨w.heap.size, 2, none⟩) bz).trans r2; have g2 := (hL2.frozen (p := ⟨w.heap.size, 2, none⟩) bz).trans f2; have q3 := (hL2.cell (p := ⟨w.heap.size, 3, none⟩) bz).trans r3; have g3 := (hL2.frozen (p := ⟨w.heap.size, 3, none⟩) bz).trans f3; have d3 := (hL2.cell (p := ⟨w.heap.size + 1, 3, none⟩) z1).trans c3; have d4 := (hL2.cell (p := ⟨w.heap.size + 1, 4, none⟩) z1).trans c4; have d5 := (hL2.cell (p := ⟨w.heap.size + 1, 5, none⟩) z1).trans c5; have d6 := (hL2.cell (p := ⟨w.heap.size + 1, 6, none⟩) z1).trans c6)
  refine bodyPost_ret (v := .tuple #[inV S'.op S'.a S'.b S'.im, .int .i64 0]) (by simp [results, go_sem, *]) rfl ?_
  exact ⟨HR.out, Gr.below (by repeat (first | (with_reducible exact hG) | with_reducible refine Gr.alloc ?_ _ | with_reducible refine Gr.more ?_ _ _ | with_reducible refine Gr.setCell ?_ (by dsimp only; omega) _ | with_reducible refine Gr.drew ?_))⟩

theorem parse_any (s : ByteArray) (hs : s.size ≤ maxLen) (w : World) (hT : TB w) : Calls Tryz.prog 28 #[.string s] w fun e w' => ParR s e ∧ Below w.heap.size w w' := by
  by_cases hl : 20000 < s.size
  · exact parse_long s hs hl w
  · cases hS : scIns (S0 false s) with
    | none => exact parse_bad s (by omega) hS w hT
    | some S' =>
      cases hX : okX S'.op S'.a S'.b S'.im
      · exact parse_reach s (by omega) S' hS hX w hT
      · exact parse_ok s (by omega) S' hS hX w hT
end Go.Proofs.YtjlbcpmfbokinaaGreatDoor
