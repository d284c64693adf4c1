/-
  Layer 2, contracts: Check, Parse.
-/
import Derived.Test.YtjlbcpmfbokinaaGreatDoorGF
import Derived.Test.YtjlbcpmfbokinaaGreatDoorJa
set_option linter.unusedSimpArgs false
set_option linter.unusedVariables false
namespace Go.Proofs.YtjlbcpmfbokinaaGreatDoor
open Go.RowKit Go.Shelf

theorem described_is (op a b n : Int) : ∃ v, ∀ (w : World), TB w → Calls Tryz.prog 31 #[inV op a b n] w fun e w' => e = .returned (.tuple #[v, .int .i64 (eX op a b n)]) ∧ Below w.heap.size w w' := by
  unfold eX
  cases h : okX op a b n
  · exact ⟨rowZ, fun w hT => described_bad h w hT⟩
  · exact ⟨rowOV op, fun w hT => described_ok h w hT⟩
set_option maxRecDepth 100000 in
set_option maxHeartbeats 2000000 in
theorem check_ok {op a b n : Int} (h : okX op a b n = true) (w : World) (hT : TB w) : Calls Tryz.prog 7 #[inV op a b n] w fun e w' => e = .returned (.int .i64 0) ∧ Below w.heap.size w w' := by
  have BY : ∀ W, Below w.heap.size w W → Calls Tryz.prog 31 #[inV op a b n] W fun e w' => e = .returned (.tuple #[rowOV op, .int .i64 0]) ∧ Below W.heap.size W w' := fun W g => described_ok h W (hT.up g)
  clear hT h
  unfold rowOV rowV at BY
  generalize (rowO op).op = o1 at *
  generalize mnO op = o2 at *
  generalize (rowO op).sh = o3 at *
  generalize (rowO op).rd = o4 at *
  generalize (rowO op).wr = o5 at *
  go_enter Tryz.func7, Tryz.ntmps7
  go_wp2_with (go_at_call 31; (refine (BY _ (Gr.below (by repeat (first | (with_reducible exact Gr.refl _) | with_reducible refine Gr.alloc ?_ _ | with_reducible refine Gr.more ?_ _ _ | with_reducible refine Gr.setCell ?_ (by dsimp only; omega) _ | with_reducible refine Gr.drew ?_)))).mono ?_); rintro e w1 ⟨rfl, hb⟩; obtain ⟨os, n', rfl⟩ := Below.moreE hb; clear hb)
  go_ret
  exact ⟨rfl, (Gr.below (by repeat (first | (with_reducible exact Gr.refl _) | with_reducible refine Gr.alloc ?_ _ | with_reducible refine Gr.more ?_ _ _ | with_reducible refine Gr.setCell ?_ (by dsimp only; omega) _ | with_reducible refine Gr.drew ?_)))⟩
set_option maxRecDepth 100000 in
set_option maxHeartbeats 2000000 in
theorem check_bad {op a b n : Int} (h : okX op a b n = false) (w : World) (hT : TB w) : Calls Tryz.prog 7 #[inV op a b n] w fun e w' => e = .returned (.int .i64 20) ∧ Below w.heap.size w w' := by
  have BY : ∀ W, Below w.heap.size w W → Calls Tryz.prog 31 #[inV op a b n] W fun e w' => e = .returned (.tuple #[rowZ, .int .i64 20]) ∧ Below W.heap.size W w' := fun W g => described_bad h W (hT.up g)
  clear hT h
  go_enter Tryz.func7, Tryz.ntmps7
  go_wp2_with (go_at_call 31; (refine (BY _ (Gr.below (by repeat (first | (with_reducible exact Gr.refl _) | with_reducible refine Gr.alloc ?_ _ | with_reducible refine Gr.more ?_ _ _ | with_reducible refine Gr.setCell ?_ (by dsimp only; omega) _ | with_reducible refine Gr.drew ?_)))).mono ?_); rintro e w1 ⟨rfl, hb⟩; obtain ⟨os, n', rfl⟩ := Below.moreE hb; clear hb)
  go_ret
  exact ⟨rfl, (Gr.below (by repeat (first | (with_reducible exact Gr.refl _) | with_reducible refine Gr.alloc ?_ _ | with_reducible refine Gr.more ?_ _ _ | with_reducible refine Gr.setCell ?_ (by dsimp only; omega) _ | with_reducible refine Gr.drew ?_)))⟩
theorem check_any (op a b n : Int) (w : World) (hT : TB w) : Calls Tryz.prog 7 #[inV op a b n] w fun e w' => e = .returned (.int .i64 (eX op a b n)) ∧ Below w.heap.size w w' := by
  unfold eX
  cases h : okX op a b n
  · exact check_bad h w hT
  · exact check_ok h w hT

theorem instr_any {p : Nat} {w : World} {S : Sc} (h : SB w p S) (R : Ending → World → Prop) (HR : Leads p w (scIns S) R) : Calls Tryz.prog 47 #[.pointer (some ⟨p, 0, none⟩)] w R := by
  cases hc : knM (nmS (afB S.s))
  · rw [scIns_unknown hc] at HR
    exact (instr_unknown h hc).mono fun e w' ⟨h1, h2⟩ => by rw [h1]; exact HR.2 rfl _ h2
  · exact instr_known h hc R HR
theorem SB.low {w w' : World} {p : Nat} {S : Sc} (h : SB w p S) (g : Below (p + 1) w w') : SB w' p S := by
  have U : ∀ {o v}, w.cell? ⟨p, o, none⟩ = some v → w'.cell? ⟨p, o, none⟩ = some v := fun {o v} hc => (g.cell (p := ⟨p, o, none⟩) (Nat.lt_succ_self p)).trans hc
  exact ⟨U h.c0, U h.c1, U h.c2, U h.c3, U h.c4, U h.c5, U h.c6, U h.c7, fun o => (g.frozen (p := ⟨p, o, none⟩) (Nat.lt_succ_self p)).trans (h.fz o), h.ln, h.h12, h.lo, fun w2 g2 => h.tb _ ((g.mono (Nat.le_succ p)).trans g2)⟩
theorem CaughtE.low {p : Nat} {wm w' : World} (h : CaughtE (p + 1) wm w') (hp : p < wm.heap.size) : Below (p + 1) wm w' := ⟨h.os, h.tape, h.output, h.size, fun k hk => h.other k (by omega) (by omega)⟩

/-- The world behind the caught reading of an instruction: the error, the scanner. -/
def InsR (p : Nat) (W : World) (o : Option Sc) (E : Int) (wm : World) : Prop := Frm p W wm ∧ ((∃ S', o = some S' ∧ E = 0 ∧ SB wm p S') ∨ (o = none ∧ E = 22))
set_option maxRecDepth 100000 in
theorem caught_instr {p : Nat} {w : World} {S : Sc} (h : SB w p S) (hz : w.heap.size = p + 1) : Calls Tryz.prog 46 #[.func (.func 47) #[.pointer (some ⟨p, 0, none⟩)] #[]] w fun e w' => Below p w w' ∧ ((∃ S', scIns S = some S' ∧ e = .returned (.int .i64 0) ∧ SB w' p S') ∨ (scIns S = none ∧ e = .returned (.int .i64 22))) := by
  have hB : SB (w.alloc (.cells #[.int .i64 0] 25)) p S := h.up ((Below.refl _ _).alloc (Nat.le_refl _) _)
  have hb0 : (w.alloc (.cells #[.int .i64 0] 25)).heap[w.heap.size]? = some (.cells #[.int .i64 0] 25 (0, 0)) := World.alloc_heap_new w _
  have hlt : w.heap.size < (w.alloc (.cells #[.int .i64 0] 25)).heap.size := by simp
  refine (caught_gen 47 _ _ (enters_of Tryz.func47 (by kernel_rfl) rfl) w (InsR p (w.alloc (.cells #[.int .i64 0] 25)) (scIns S)) ?_).mono ?_
  · refine instr_any hB _ ⟨fun S' hS w' hF hB' => ⟨?_, ?_, .inl ⟨rfl, hF, .inl ⟨S', hS, rfl, hB'⟩⟩⟩, fun hS w' hF => ⟨?_, ?_, .inr ⟨22, rfl, hF, .inr ⟨hS, rfl⟩⟩⟩⟩
    · exact Nat.lt_of_lt_of_le hlt hF.size
    · rw [hF.other _ hlt (by omega)]; exact hb0
    · exact Nat.lt_of_lt_of_le hlt hF.size
    · rw [hF.other _ hlt (by omega)]; exact hb0
  · rintro e w' ⟨E, wm, rfl, ⟨hF, hE⟩, hC⟩
    rw [hz] at hC
    have hlw := hC.low (Nat.lt_of_lt_of_le (by simp; omega) hF.size)
    refine ⟨((((Below.refl w.heap.size w).alloc (Nat.le_refl _) _).mono (by omega)).trans (hF.low (by simp; omega))).trans (hlw.mono (by omega)), ?_⟩
    rcases hE with ⟨S', hS, rfl, hB'⟩ | ⟨hS, rfl⟩
    · exact .inl ⟨S', hS, rfl, hB'.low hlw⟩
    · exact .inr ⟨hS, rfl⟩
end Go.Proofs.YtjlbcpmfbokinaaGreatDoor
