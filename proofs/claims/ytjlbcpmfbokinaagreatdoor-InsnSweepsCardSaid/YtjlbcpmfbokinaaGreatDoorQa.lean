/-
  Layer 2: the laws' examples: what is called.
-/
import Derived.Test.YtjlbcpmfbokinaaGreatDoorJy
import Derived.Test.YtjlbcpmfbokinaaGreatDoorJz
set_option linter.unusedSimpArgs false
set_option linter.unusedVariables false
namespace Go.Proofs.YtjlbcpmfbokinaaGreatDoor
open Go.RowKit Go.Shelf Go.WideMaps Go.Maps

theorem seq1 {W : World} {b : Nat} {x0 : UInt8} (h0 : W.cell? ⟨b, 0, none⟩ = some (.int .u8 (x0.toNat : Int))) : SeqAt W (some ⟨b, 0, none⟩) (bV [x0]) :=
  .inr ⟨b, 0, rfl, fun j v hj => by
    match j with
    | 0 => simpa [bV] using h0.trans (by simpa [bV] using hj)
    | _ + 1 => simp [bV] at hj⟩
/-- A slice whose cells are known, one by one. -/
theorem seqL {W : World} {b : Nat} : ∀ (l : List UInt8), (∀ j, j < l.length → W.cell? ⟨b, j, none⟩ = some (.int .u8 ((l.getD j 0).toNat : Int))) → SeqAt W (some ⟨b, 0, none⟩) (bV l) := fun l h =>
  .inr ⟨b, 0, rfl, fun j v hj => by
    have hjl : j < l.length := by have := (List.getElem?_eq_some_iff.1 hj).1; rwa [bV_len] at this
    rw [bV_get l j hjl] at hj
    have := h j hjl
    rw [show l.getD j 0 = l[j] by simp [List.getD, hjl]] at this
    rw [Nat.zero_add, this, ← hj]⟩
/-- What was just laid as a slice. -/
theorem seqNew (W : World) (l : List UInt8) (T : TypeId) {cs : Array Value} (hc : cs = (bV l).toArray) {p : Nat} (hp : W.heap.size = p) : SeqAt (W.alloc (.cells cs T)) (some ⟨p, 0, none⟩) (bV l) := by
  subst hc hp
  refine .inr ⟨W.heap.size, 0, rfl, fun j v hj => ?_⟩
  rw [Nat.zero_add]
  simp only [World.cell?, World.alloc_heap_new]
  simpa using hj
theorem enc1 : okX 2 1 2 0 = true ∧ enL 2 1 2 0 = [130, 10] := by decide +kernel
theorem enc2 : okX 16 3 0 (-1) = true ∧ enL 16 3 0 (-1) = [144, 3, 127] := by decide +kernel
theorem enc3 : okX 25 0 0 200 = true ∧ enL 25 0 0 200 = [153, 72, 1] := by decide +kernel
theorem dec1 : eD [130, 10, 204] = 0 ∧ oD [130, 10, 204] = 2 ∧ aD [130, 10, 204] = 1 ∧ bD [130, 10, 204] = 2 ∧ iD [130, 10, 204] = 0 ∧ nD [130, 10, 204] = 2 := by decide +kernel
theorem dec2 : eD [130] = 21 := by decide +kernel
theorem dec3 : eD [10] = 20 := by decide +kernel
theorem dec4 : eD [130, 64] = 20 := by decide +kernel
theorem decode_lit {b : List UInt8} {op a b2 i : Int} {n : Nat} {E : Int} (h : oD b = op ∧ aD b = a ∧ bD b = b2 ∧ iD b = i ∧ nD b = n ∧ eD b = E) {k : Nat} (hk : b.length = k) (p : Option Addr) (c : Nat) (hc : k ≤ c) (w : World) (hT : TB w) (hb : SeqAt w p (bV b)) :
    Calls Tryz.prog 23 #[.slice p k c] w fun e w' => e = .returned (.tuple #[inV op a b2 i, .int .i64 (n : Int), .int .i64 E]) ∧ Below w.heap.size w w' := by
  subst hk
  obtain ⟨rfl, rfl, rfl, rfl, rfl, rfl⟩ := h
  exact decode_any b p c w hT hb hc
theorem no_dec {b : List UInt8} {E : Int} (h : eD b = E) (hE : E ≠ 0) : oD b = 0 ∧ aD b = 0 ∧ bD b = 0 ∧ iD b = 0 ∧ nD b = 0 ∧ eD b = E := by
  unfold oD aD bD iD nD
  rw [h]
  simp [hE]
theorem parse_ex1 (w : World) (hT : TB w) : Calls Tryz.prog 28 #[.string exP] w fun e w' => e = .returned (.tuple #[inV 19 4 2 3, .int .i64 0]) ∧ Below w.heap.size w w' := by
  have H := parse_any exP (by decide) w hT
  unfold ParR at H
  obtain ⟨h1, h2, h3, h4, h5⟩ := exP_is
  rw [h1, h2, h3, h4, h5] at H
  exact H
theorem parse_ex2 (w : World) (hT : TB w) : Calls Tryz.prog 28 #[.string exQ] w fun e w' => (∃ op a b i, e = .returned (.tuple #[inV op a b i, .int .i64 24])) ∧ Below w.heap.size w w' := by
  have H := parse_any exQ (by decide) w hT
  unfold ParR at H
  rw [exQ_is] at H
  exact H.mono fun e w' ⟨h1, h2⟩ => ⟨⟨_, _, _, _, h1⟩, h2⟩
theorem assemble_ex (w : World) (hT : TB w) : Calls Tryz.prog 29 #[.string exT, .int .i64 100] w fun e w' => ∃ q c v, e = .returned (.tuple #[.slice q 6 c, v, .int .i64 0, .int .i64 0]) ∧ SeqAt w' q (bV [144, 0, 1, 153, 122, 127]) ∧ w'.ownsRow w.heap.size 64 3 v 1 [.string ⟨#[102]⟩, .int .i64 100, .int .i64 6] ∧ Below w.heap.size w w' := by
  have hx := exB_is
  unfold exB at hx
  cases hA : rdAll 100 exT (lnN exT) (A0 100) with
  | none => rw [hA] at hx; cases hx
  | some A =>
    rw [hA] at hx
    dsimp only at hx
    simp only [Bool.and_eq_true, beq_iff_eq, List.all_eq_true, decide_eq_true_eq] at hx
    obtain ⟨⟨⟨⟨h1, h2⟩, h3⟩, h4⟩, h5⟩ := hx
    cases hs : A.syms with
    | nil => rw [hs] at h5; cases h5
    | cons x l =>
      cases l with
      | cons y l => rw [hs] at h5; cases h5
      | nil =>
        rw [hs] at h5
        dsimp only at h5
        simp only [Bool.and_eq_true, beq_iff_eq] at h5
        have H := assemble_ok exT (by decide) 100 (by decide) hA (fun x hx => Nat.le_trans (h3 x hx) (by unfold maxLen; omega)) h2 h1 w hT
        have hnm : x.nm = ⟨#[102]⟩ := by
          obtain ⟨nm, pl⟩ := x
          obtain ⟨a⟩ := nm
          have := h5.1
          dsimp only at this ⊢
          rw [← this]
        have hsz : (szK A.syms A.fin A.syms.length).flatMap szV = [.string ⟨#[102]⟩, .int .i64 100, .int .i64 6] := by
          rw [hs, h4]
          simp [szK, szA, szN, szV, List.range_succ, hnm, h5.2, wrap64]
        rw [hsz, show A.syms.length = 1 by rw [hs]; rfl] at H
        exact H
end Go.Proofs.YtjlbcpmfbokinaaGreatDoor
