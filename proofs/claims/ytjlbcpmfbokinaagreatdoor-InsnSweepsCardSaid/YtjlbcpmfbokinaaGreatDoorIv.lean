/-
  Layer 2, contracts: the scanner's box, whole: what its methods leave there.
-/
import Derived.Test.YtjlbcpmfbokinaaGreatDoorGE
set_option linter.unusedSimpArgs false
set_option linter.unusedVariables false
namespace Go.Proofs.YtjlbcpmfbokinaaGreatDoor
open Go.RowKit Go.Shelf

/-- A scanner: what is left, whether names may be targets, the shape, the instruction, the target's name. -/
structure Sc where
  s : ByteArray
  lab : Bool
  sh : Nat
  op : Int
  a : Int
  b : Int
  im : Int
  nm : ByteArray

/-- The scanner lies in the box p; below it lie the tables. -/
structure SB (w : World) (p : Nat) (S : Sc) : Prop where
  c0 : w.cell? ⟨p, 0, none⟩ = some (.string S.s)
  c1 : w.cell? ⟨p, 1, none⟩ = some (.bool S.lab)
  c2 : w.cell? ⟨p, 2, none⟩ = some (.int .i64 (S.sh : Int))
  c3 : w.cell? ⟨p, 3, none⟩ = some (.int .i64 S.op)
  c4 : w.cell? ⟨p, 4, none⟩ = some (.int .i64 S.a)
  c5 : w.cell? ⟨p, 5, none⟩ = some (.int .i64 S.b)
  c6 : w.cell? ⟨p, 6, none⟩ = some (.int .i64 S.im)
  c7 : w.cell? ⟨p, 7, none⟩ = some (.string S.nm)
  fz : ∀ o, w.frozen? ⟨p, o, none⟩ = false
  ln : S.s.size ≤ maxLen
  h12 : S.sh < 12
  lo : 0 < p
  tb : ∀ w', Below p w w' → TB w'

/-- Nothing but the box p has changed; there may be new blocks. -/
structure Frm (p : Nat) (w w' : World) : Prop where
  os : w'.os = w.os
  tape : w'.tape = w.tape
  output : w'.output = w.output
  size : w.heap.size ≤ w'.heap.size
  other : ∀ k, k < w.heap.size → k ≠ p → w'.heap[k]? = w.heap[k]?

theorem Frm.refl (p : Nat) (w : World) : Frm p w w := ⟨rfl, rfl, rfl, Nat.le_refl _, fun _ _ _ => rfl⟩
theorem Frm.trans {p : Nat} {w w1 w2 : World} (h : Frm p w w1) (g : Frm p w1 w2) : Frm p w w2 :=
  ⟨g.os.trans h.os, g.tape.trans h.tape, g.output.trans h.output, Nat.le_trans h.size g.size,
   fun k hk hne => (g.other k (Nat.lt_of_lt_of_le hk h.size) hne).trans (h.other k hk hne)⟩
theorem Frm.scn {p : Nat} {t : ByteArray} {w w' : World} (h : Scn p t w w') : Frm p w w' := ⟨h.os, h.tape, h.output, h.size, h.other⟩
theorem Frm.below {p : Nat} {w w' : World} (h : Below w.heap.size w w') : Frm p w w' := ⟨h.os, h.tape, h.output, h.size, fun k hk _ => h.block k hk⟩
theorem Frm.set {p : Nat} {w w' : World} (h : Frm p w w') (o : Nat) (v : Value) : Frm p w (w'.setCell ⟨p, o, none⟩ v) :=
  ⟨h.os, h.tape, h.output, by rw [World.size_setCell]; exact h.size, fun k hk hne => (Below.heap_setCell _ _ _ _ hne).trans (h.other k hk hne)⟩
/-- Below the box nothing has changed. -/
theorem Frm.low {p : Nat} {w w' : World} (h : Frm p w w') (hp : p < w.heap.size) : Below p w w' := ⟨h.os, h.tape, h.output, h.size, fun k hk => h.other k (by omega) (by omega)⟩

theorem SB.lt {w : World} {p : Nat} {S : Sc} (h : SB w p S) : p < w.heap.size := lt_of_cell h.c0
theorem SB.tab {w : World} {p : Nat} {S : Sc} (h : SB w p S) : TB w := h.tb _ (Below.refl _ _)
theorem SB.scn {w w' : World} {p : Nat} {S : Sc} {t : ByteArray} (h : SB w p S) (g : Scn p t w w') (hl : t.size ≤ maxLen) : SB w' p { S with s := t } :=
  ⟨g.rest, g.cell _ _ (by decide) h.c1, g.cell _ _ (by decide) h.c2, g.cell _ _ (by decide) h.c3, g.cell _ _ (by decide) h.c4, g.cell _ _ (by decide) h.c5, g.cell _ _ (by decide) h.c6, g.cell _ _ (by decide) h.c7,
   fun o => g.fz o (h.fz o), hl, h.h12, h.lo, fun w2 g2 => h.tb _ (((Frm.scn g).low h.lt).trans g2)⟩
theorem SB.up {w w' : World} {p : Nat} {S : Sc} (h : SB w p S) (g : Below w.heap.size w w') : SB w' p S :=
  ⟨cell_up g h.lt h.c0, cell_up g h.lt h.c1, cell_up g h.lt h.c2, cell_up g h.lt h.c3, cell_up g h.lt h.c4, cell_up g h.lt h.c5, cell_up g h.lt h.c6, cell_up g h.lt h.c7,
   fun o => (g.frozen (p := ⟨p, o, none⟩) h.lt).trans (h.fz o), h.ln, h.h12, h.lo, fun w2 g2 => h.tb _ ((g.mono (Nat.le_of_lt h.lt)).trans g2)⟩
theorem lowSet (w : World) (p o : Nat) (v : Value) : Below p w (w.setCell ⟨p, o, none⟩ v) := Below.setCell (Below.refl p w) (p := ⟨p, o, none⟩) (Nat.le_refl p) v
theorem fz_set {w : World} {p q : Nat} {o : Nat} (v : Value) (h : ∀ o, w.frozen? ⟨q, o, none⟩ = false) : ∀ o', (w.setCell ⟨p, o, none⟩ v).frozen? ⟨q, o', none⟩ = false := fun o' => by simp [h o']
theorem SB.setS {w : World} {p : Nat} {S : Sc} (h : SB w p S) (v : ByteArray) (hl : v.size ≤ maxLen) : SB (w.setCell ⟨p, 0, none⟩ (.string v)) p { S with s := v } := by
  obtain ⟨c0, c1, c2, c3, c4, c5, c6, c7, f, l, h12, lo, t⟩ := h
  exact ⟨by go_simp, by go_simp, by go_simp, by go_simp, by go_simp, by go_simp, by go_simp, by go_simp, fz_set _ f, hl, h12, lo, fun w2 g2 => t _ ((lowSet _ _ _ _).trans g2)⟩
theorem SB.setH {w : World} {p : Nat} {S : Sc} (h : SB w p S) (v : Nat) (hv : v < 12) : SB (w.setCell ⟨p, 2, none⟩ (.int .i64 (v : Int))) p { S with sh := v } := by
  obtain ⟨c0, c1, c2, c3, c4, c5, c6, c7, f, l, h12, lo, t⟩ := h
  exact ⟨by go_simp, by go_simp, by go_simp, by go_simp, by go_simp, by go_simp, by go_simp, by go_simp, fz_set _ f, l, hv, lo, fun w2 g2 => t _ ((lowSet _ _ _ _).trans g2)⟩
theorem SB.setO {w : World} {p : Nat} {S : Sc} (h : SB w p S) (v : Int) : SB (w.setCell ⟨p, 3, none⟩ (.int .i64 v)) p { S with op := v } := by
  obtain ⟨c0, c1, c2, c3, c4, c5, c6, c7, f, l, h12, lo, t⟩ := h
  exact ⟨by go_simp, by go_simp, by go_simp, by go_simp, by go_simp, by go_simp, by go_simp, by go_simp, fz_set _ f, l, h12, lo, fun w2 g2 => t _ ((lowSet _ _ _ _).trans g2)⟩
theorem SB.setA {w : World} {p : Nat} {S : Sc} (h : SB w p S) (v : Int) : SB (w.setCell ⟨p, 4, none⟩ (.int .i64 v)) p { S with a := v } := by
  obtain ⟨c0, c1, c2, c3, c4, c5, c6, c7, f, l, h12, lo, t⟩ := h
  exact ⟨by go_simp, by go_simp, by go_simp, by go_simp, by go_simp, by go_simp, by go_simp, by go_simp, fz_set _ f, l, h12, lo, fun w2 g2 => t _ ((lowSet _ _ _ _).trans g2)⟩
theorem SB.setB {w : World} {p : Nat} {S : Sc} (h : SB w p S) (v : Int) : SB (w.setCell ⟨p, 5, none⟩ (.int .i64 v)) p { S with b := v } := by
  obtain ⟨c0, c1, c2, c3, c4, c5, c6, c7, f, l, h12, lo, t⟩ := h
  exact ⟨by go_simp, by go_simp, by go_simp, by go_simp, by go_simp, by go_simp, by go_simp, by go_simp, fz_set _ f, l, h12, lo, fun w2 g2 => t _ ((lowSet _ _ _ _).trans g2)⟩
theorem SB.setI {w : World} {p : Nat} {S : Sc} (h : SB w p S) (v : Int) : SB (w.setCell ⟨p, 6, none⟩ (.int .i64 v)) p { S with im := v } := by
  obtain ⟨c0, c1, c2, c3, c4, c5, c6, c7, f, l, h12, lo, t⟩ := h
  exact ⟨by go_simp, by go_simp, by go_simp, by go_simp, by go_simp, by go_simp, by go_simp, by go_simp, fz_set _ f, l, h12, lo, fun w2 g2 => t _ ((lowSet _ _ _ _).trans g2)⟩
theorem SB.setN {w : World} {p : Nat} {S : Sc} (h : SB w p S) (v : ByteArray) : SB (w.setCell ⟨p, 7, none⟩ (.string v)) p { S with nm := v } := by
  obtain ⟨c0, c1, c2, c3, c4, c5, c6, c7, f, l, h12, lo, t⟩ := h
  exact ⟨by go_simp, by go_simp, by go_simp, by go_simp, by go_simp, by go_simp, by go_simp, by go_simp, fz_set _ f, l, h12, lo, fun w2 g2 => t _ ((lowSet _ _ _ _).trans g2)⟩

/-- What a method of the scanner without a result leaves: another scanner, or a panic. -/
abbrev Did (p : Nat) (w : World) (S' : Sc) : Ending → World → Prop := fun e w' => e = .returned (.tuple #[]) ∧ Frm p w w' ∧ SB w' p S'
abbrev Bad (p : Nat) (w : World) : Ending → World → Prop := fun e w' => e = .panicked (erV 22) ∧ Frm p w w'

theorem afB_size (s : ByteArray) : (afB s).size = (Lib.trimLeftS s.data.toList [32, 9]).length := by simp [afB, ByteArray.size]
theorem blanks_sb {p : Nat} {w : World} {S : Sc} (h : SB w p S) : Calls Tryz.prog 61 #[.pointer (some ⟨p, 0, none⟩)] w fun e w' => (e = .returned (.int .i64 ((S.s.size : Int) - ((afB S.s).size : Int)))) ∧ Frm p w w' ∧ SB w' p { S with s := afB S.s } :=
  (blanks_any p S.s h.ln w h.c0 (h.fz 0)).mono fun e w' ⟨h1, h2⟩ => ⟨by rw [h1, afB_size], Frm.scn h2, h.scn h2 (Nat.le_trans (afB_le _) h.ln)⟩
theorem accept_sb {p : Nat} {w : World} {S : Sc} (q : ByteArray) (h : SB w p S) {c : Bool} (hc : hpB S.s q = c) : Calls Tryz.prog 83 #[.pointer (some ⟨p, 0, none⟩), .string q] w fun e w' => e = .returned (.bool c) ∧ Frm p w w' ∧ SB w' p { S with s := cpB S.s q } := by
  subst hc
  exact (accept_any p S.s q w h.c0 (h.fz 0)).mono fun e w' ⟨h1, h2⟩ => ⟨h1, Frm.scn h2, h.scn h2 (Nat.le_trans (cpB_le _ _) h.ln)⟩
theorem ext_le (s : ByteArray) (a b : Nat) : (s.extract a b).size ≤ s.size := by simp [ByteArray.size_extract]; omega
theorem word_sb {p : Nat} {w : World} {S : Sc} (h : SB w p S) : Calls Tryz.prog 63 #[.pointer (some ⟨p, 0, none⟩)] w fun e w' => e = .returned (.string (S.s.extract 0 (wlN S.s))) ∧ Frm p w w' ∧ SB w' p { S with s := S.s.extract (wlN S.s) S.s.size } :=
  (word_any p S.s h.ln w h.c0 (h.fz 0)).mono fun e w' ⟨h1, h2⟩ => ⟨h1, Frm.scn h2, h.scn h2 (Nat.le_trans (ext_le _ _ _) h.ln)⟩
theorem comma_sb_ok {p : Nat} {w : World} {S : Sc} (h : SB w p S) (hc : cmB S.s = true) : Calls Tryz.prog 66 #[.pointer (some ⟨p, 0, none⟩)] w (Did p w { S with s := cmA S.s }) :=
  (comma_ok p S.s h.ln w h.c0 (h.fz 0) hc).mono fun e w' ⟨h1, h2⟩ => ⟨h1, Frm.scn h2, h.scn h2 (Nat.le_trans (Nat.le_trans (afB_le _) (Nat.le_trans (cpB_le _ _) (afB_le _))) h.ln)⟩
theorem comma_sb_bad {p : Nat} {w : World} {S : Sc} (h : SB w p S) (hc : cmB S.s = false) : Calls Tryz.prog 66 #[.pointer (some ⟨p, 0, none⟩)] w (Bad p w) :=
  (comma_bad p S.s h.ln w h.c0 (h.fz 0) hc).mono fun e w' ⟨h1, h2⟩ => ⟨h1, Frm.scn h2⟩
theorem end_sb_ok {p : Nat} {w : World} {S : Sc} (h : SB w p S) (hc : (afB S.s).toList = []) : Calls Tryz.prog 67 #[.pointer (some ⟨p, 0, none⟩)] w (Did p w { S with s := afB S.s }) :=
  (end_ok p S.s h.ln w h.c0 (h.fz 0) hc).mono fun e w' ⟨h1, h2⟩ => ⟨h1, Frm.scn h2, h.scn h2 (Nat.le_trans (afB_le _) h.ln)⟩
theorem end_sb_bad {p : Nat} {w : World} {S : Sc} (h : SB w p S) (hc : (afB S.s).toList ≠ []) : Calls Tryz.prog 67 #[.pointer (some ⟨p, 0, none⟩)] w (Bad p w) :=
  (end_bad p S.s h.ln w h.c0 (h.fz 0) hc).mono fun e w' ⟨h1, h2⟩ => ⟨h1, Frm.scn h2⟩
theorem digits_sb_ok {p : Nat} {w : World} {S : Sc} (h : SB w p S) (hc : dgOk S.s = true) : Calls Tryz.prog 113 #[.pointer (some ⟨p, 0, none⟩)] w fun e w' => e = .returned (.int .u64 (dvV S.s (dgN S.s))) ∧ Frm p w w' ∧ SB w' p { S with s := S.s.extract (dgN S.s) S.s.size } :=
  by
  refine digits_gen p S.s h.ln w _ h.c0 (h.fz 0) (Lib.hid ⟨fun _ w' g => ?_, fun hn => ?_⟩)
  · exact ⟨rfl, Frm.scn g, h.scn g (Nat.le_trans (ext_le _ _ _) h.ln)⟩
  · rw [hc] at hn; cases hn
theorem digits_sb_bad {p : Nat} {w : World} {S : Sc} (h : SB w p S) (hc : dgOk S.s = false) : Calls Tryz.prog 113 #[.pointer (some ⟨p, 0, none⟩)] w (Bad p w) :=
  by
  refine digits_gen p S.s h.ln w _ h.c0 (h.fz 0) (Lib.hid ⟨fun hn => ?_, fun _ => ?_⟩)
  · rw [hc] at hn; cases hn
  · exact ⟨rfl, Frm.refl _ _⟩
theorem register_sb_ok {p : Nat} {w : World} {S : Sc} (h : SB w p S) (hc : rgOk S.s = true) : Calls Tryz.prog 111 #[.pointer (some ⟨p, 0, none⟩)] w fun e w' => e = .returned (.int .i64 (chA (rgR S.s) 0 - 48)) ∧ Frm p w w' ∧ SB w' p { S with s := (rgR S.s).extract 1 (rgR S.s).size } :=
  by
  refine register_gen p S.s w _ h.c0 (h.fz 0) (Lib.hid ⟨fun _ w' g => ?_, fun hn => ?_⟩)
  · exact ⟨rfl, Frm.scn g, h.scn g (Nat.le_trans (Nat.le_trans (ext_le _ _ _) (cpB_le _ _)) h.ln)⟩
  · rw [hc] at hn; cases hn
theorem register_sb_bad {p : Nat} {w : World} {S : Sc} (h : SB w p S) (hc : rgOk S.s = false) : Calls Tryz.prog 111 #[.pointer (some ⟨p, 0, none⟩)] w (Bad p w) :=
  by
  refine register_gen p S.s w _ h.c0 (h.fz 0) (Lib.hid ⟨fun hn => ?_, fun _ w' g => ?_⟩)
  · rw [hc] at hn; cases hn
  · exact ⟨rfl, Frm.scn g⟩
end Go.Proofs.YtjlbcpmfbokinaaGreatDoor
