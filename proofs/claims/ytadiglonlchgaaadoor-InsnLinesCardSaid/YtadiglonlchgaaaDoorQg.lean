/-
  Layer 2, contracts: Print in general.
-/
import Derived.Test.YtadiglonlchgaaaDoorQf
namespace Go.Proofs.YtadiglonlchgaaaDoor
open Go.RowKit Go.Shelf

/-- A line, as far as its first k operands. -/
def prK (mn : ByteArray) (L : List Int) (a b n : Int) : Nat → ByteArray
  | 0 => mn
  | k + 1 => (prK mn L a b n k ++ (if k = 0 then ⟨#[32]⟩ else ⟨#[44, 32]⟩)) ++ otB (L.getD k 0) a b n
def I64' (x : Int) : Prop := -9223372036854775808 ≤ x ∧ x ≤ 9223372036854775807
theorem prK_len (mn : ByteArray) (L : List Int) (a b n : Int) (ha : I64' a) (hb : I64' b) (hn : I64' n) : ∀ k, (prK mn L a b n k).size ≤ mn.size + 48 * k
  | 0 => Nat.le_refl _
  | k + 1 => by
    have ih := prK_len mn L a b n ha hb hn k
    have := otB_len (L.getD k 0) a b n ha hb hn
    have k1 : (⟨#[32]⟩ : ByteArray).size = 1 := rfl
    have k2 : (⟨#[44, 32]⟩ : ByteArray).size = 2 := rfl
    simp only [prK, ByteArray.size_append]
    split <;> omega
/-- The line of an instruction. -/
def prL (op a b n : Int) : ByteArray := prK (mnO op) (opsS (rowO op).sh) a b n (opsS (rowO op).sh).length
theorem mnO_len (op : Int) : (mnO op).size ≤ 6 := by
  unfold mnO mnS
  have h : ∀ l ∈ mnT, l.length ≤ 6 := by decide
  cases hx : mnT[ixO op]? with
  | none => simp [List.getD, hx, ByteArray.size]
  | some l =>
    have := h l (List.mem_of_getElem? hx)
    simpa [List.getD, hx, ByteArray.size] using this
theorem ops_len {s : Nat} (hs : s < 12) : (opsS s).length ≤ 3 ∧ ∀ o ∈ opsS s, 0 ≤ o ∧ o ≤ 5 := by
  have : ∀ s : Fin 12, (opsS s.1).length ≤ 3 ∧ ∀ o ∈ opsS s.1, 0 ≤ o ∧ o ≤ 5 := by decide
  exact this ⟨s, hs⟩
set_option maxRecDepth 100000 in
set_option maxHeartbeats 4000000 in
theorem print_ok {op a b n : Int} (h : okX op a b n = true) (ha : I64' a) (hb : I64' b) (hn : I64' n) (w : World) (hT : TB w) (hP : PT w) : Calls Tryd.prog 11 #[inV op a b n] w fun e w' => e = .returned (.tuple #[.string (prL op a b n), .int .i64 0]) ∧ Below w.heap.size w w' := by
  have hk := (okX_parts h).1
  obtain ⟨hs, ho⟩ := rowO_sh hk
  have DD : ∀ W, Below w.heap.size w W → Calls Tryd.prog 16 #[inV op a b n] W fun e w' => e = .returned (.tuple #[rowOV op, .int .i64 0]) ∧ Below W.heap.size W w' := fun W g => described_ok h W (hT.up g)
  unfold rowOV at DD
  have OA := Lib.hid (fun W (g : Below w.heap.size w W) o (ho : 0 ≤ o ∧ o ≤ 5) => opText_any o op a b n ho ha hb hn W (hP.up g))
  have HL := Lib.hid (prK_len (mnO op) (opsS (rowO op).sh) a b n ha hb hn)
  have HO := Lib.hid (fun o => otB_len o a b n ha hb hn)
  obtain ⟨l3, l5⟩ := ops_len hs
  have hmn := mnO_len op
  unfold prL
  obtain ⟨q, c, hq, hsq⟩ := hT.ly.o _ hs
  generalize (rowO op).op = op' at *
  generalize (rowO op).rd = rd at *
  generalize (rowO op).wr = wt at *
  generalize mnO op = mn at *
  generalize (rowO op).sh = s at *
  generalize opsS s = L at *
  have hs1 : (s : Int) < 12 := by omega
  have hs0 : (0 : Int) ≤ (s : Int) := by omega
  have HS := Lib.hid hsq
  have H5 := Lib.hid l5
  have lq := lt_of_cell hq
  clear hsq l5 hT hP h ha hb hn hk ho
  obtain ⟨T, hT⟩ : ∃ T : Nat → ByteArray, prK mn L a b n = T := ⟨_, rfl⟩
  have HTk : Hid (∀ k, T (k + 1) = (T k ++ (if k = 0 then ⟨#[32]⟩ else ⟨#[44, 32]⟩)) ++ otB (L.getD k 0) a b n) := Lib.hid (fun k => by rw [← hT]; rfl)
  have T0 : mn = T 0 := by rw [← hT]; rfl
  rw [hT] at HL ⊢
  clear hT
  rw [T0] at DD HL hmn
  clear T0
  go_enter Tryd.func11, Tryd.ntmps11
  go_wp2_with (go_at_call 16; (refine (DD _ (Gr.below (by repeat (first | (with_reducible exact Gr.refl _) | with_reducible refine Gr.alloc ?_ _ | with_reducible refine Gr.more ?_ _ _ | with_reducible refine Gr.setCell ?_ (by dsimp only; omega) _ | with_reducible refine Gr.drew ?_)))).mono ?_); rintro e w1 ⟨rfl, hb⟩; obtain ⟨os, n', rfl⟩ := Below.moreE hb; clear hb)
  go_loopw [6, 25] (fun s i wr => ∃ k : Nat, k ≤ L.length ∧ i = .int .i64 (k : Int) ∧ s = .string (T k) ∧ wr.cell? ⟨w.heap.size, 0, none⟩ = some (.int .i64 op) ∧ wr.cell? ⟨w.heap.size, 1, none⟩ = some (.int .i64 a) ∧ wr.cell? ⟨w.heap.size, 2, none⟩ = some (.int .i64 b) ∧ wr.cell? ⟨w.heap.size, 3, none⟩ = some (.int .i64 n) ∧ Below w.heap.size w wr ∧ w.heap.size < wr.heap.size) (fun _ i _ => L.length - (intOf i).toNat)
  case atStart => exact ⟨0, Nat.zero_le _, rfl, rfl, by go_simp, by go_simp, by go_simp, by go_simp, (Gr.below (by repeat (first | (with_reducible exact Gr.refl _) | with_reducible refine Gr.alloc ?_ _ | with_reducible refine Gr.more ?_ _ _ | with_reducible refine Gr.setCell ?_ (by dsimp only; omega) _ | with_reducible refine Gr.drew ?_))), by simp; omega⟩
  case round =>
    obtain ⟨k, hk, rfl, rfl, x0, x1, x2, x3, hB, hz⟩ := hrel
    by_cases hlt : k < L.length
    · obtain ⟨qb, qo, rfl, hc⟩ := HS.out.resolve_left (by intro e; have h0 : L.length = 0 := (by have := congrArg List.length e; rw [iV_len] at this; exact this); omega)
      have y0 := hc k _ (iV_get L k hlt)
      have y1 := (hB.cell (p := ⟨qb, qo + k, none⟩) (lt_of_cell y0)).trans y0
      have z0 := H5.out _ (List.getElem_mem hlt)
      have F := OA.out wr hB L[k] z0
      have g0 : L.getD k 0 = L[k] := by simp [List.getD, hlt]
      have E := HTk.out k
      rw [g0] at E
      have l1 := HL.out k
      have l2 := HO.out L[k]
      generalize otB L[k] a b n = t at *
      generalize L[k] = o at *
      have m1 : (k : Int) < (L.length : Int) := by omega
      have m0 : (0 : Int) ≤ (k : Int) := by omega
      have HW1 : Hid (wrap64 ((k : Int) + 1) = ((k + 1 : Nat) : Int)) := Lib.hid (by unfold wrap64; omega)
      have HE := Lib.hid E
      clear hc g0 y0 E
      rcases Nat.eq_zero_or_pos k with hk0 | hk0
      · subst hk0
        rw [if_pos rfl] at HE
        have y1' : wr.cell? ⟨qb, qo, none⟩ = some (.int .i64 o) := y1
        have m1' : (0 : Int) < (L.length : Int) := m1
        clear y1 m1 m0 HW1
        have q1 : ¬ (9223372036854775807 < (T 0).size + 1) := by omega
        have q2 : ¬ (9223372036854775807 < (T 0).size + 1 + t.size) := by omega
        generalize T 0 = T0 at *
        go_wp2_with (go_at_call 22; (refine F.mono ?_); rintro e w2 ⟨rfl, hL2⟩)
        have x0 := (hL2.cell (p := ⟨w.heap.size, 0, none⟩) hz).trans x0
        have x1 := (hL2.cell (p := ⟨w.heap.size, 1, none⟩) hz).trans x1
        have x2 := (hL2.cell (p := ⟨w.heap.size, 2, none⟩) hz).trans x2
        have x3 := (hL2.cell (p := ⟨w.heap.size, 3, none⟩) hz).trans x3
        go_roundw
        case rel => exact ⟨1, by omega, rfl, by rw [HE.out], x0, x1, x2, x3, hB.trans (hL2.mono (by omega)), by have := hL2.size; omega⟩
        case measure => simp [intOf]; omega
      · rw [if_neg (by omega)] at HE
        have n0 : ¬ (k : Int) = 0 := by omega
        have n1 : ((k : Int) == 0) = false := beq_eq_false_iff_ne.2 n0
        have n2 : ¬ k = 0 := by omega
        have q1 : ¬ (9223372036854775807 < (T k).size + 2) := by omega
        have q2 : ¬ (9223372036854775807 < (T k).size + 2 + t.size) := by omega
        generalize T k = Tk at *
        go_wp2_with (go_at_call 22; (refine F.mono ?_); rintro e w2 ⟨rfl, hL2⟩)
        have x0 := (hL2.cell (p := ⟨w.heap.size, 0, none⟩) hz).trans x0
        have x1 := (hL2.cell (p := ⟨w.heap.size, 1, none⟩) hz).trans x1
        have x2 := (hL2.cell (p := ⟨w.heap.size, 2, none⟩) hz).trans x2
        have x3 := (hL2.cell (p := ⟨w.heap.size, 3, none⟩) hz).trans x3
        go_roundw
        case rel => exact ⟨k + 1, hlt, by first | (rw [HW1.out]; done) | rfl | (push_cast; rfl), by rw [HE.out], x0, x1, x2, x3, hB.trans (hL2.mono (by omega)), by have := hL2.size; omega⟩
        case measure => first | (simp only [intOf, HW1.out]; omega) | (simp only [intOf]; omega)
    · obtain rfl : k = L.length := by omega
      have m1 : ¬ (L.length : Int) < (L.length : Int) := by omega
      go_wp2_with fail
      refine bodyPost_ret (v := .tuple #[.string (T L.length), .int .i64 0]) (by simp [results, go_sem, *]) rfl ?_
      exact ⟨rfl, hB⟩
set_option maxHeartbeats 1000000 in
theorem print_bad {op a b n : Int} (h : okX op a b n = false) (w : World) (hT : TB w) : Calls Tryd.prog 11 #[inV op a b n] w fun e w' => e = .returned (.tuple #[.string ⟨#[]⟩, .int .i64 20]) ∧ Below w.heap.size w w' := by
  have DD : ∀ W, Below w.heap.size w W → Calls Tryd.prog 16 #[inV op a b n] W fun e w' => e = .returned (.tuple #[rowZ, .int .i64 20]) ∧ Below W.heap.size W w' := fun W g => described_bad h W (hT.up g)
  clear hT h
  go_enter Tryd.func11, Tryd.ntmps11
  go_wp2_with (go_at_call 16; (refine (DD _ (Gr.below (by repeat (first | (with_reducible exact Gr.refl _) | with_reducible refine Gr.alloc ?_ _ | with_reducible refine Gr.more ?_ _ _ | with_reducible refine Gr.setCell ?_ (by dsimp only; omega) _ | with_reducible refine Gr.drew ?_)))).mono ?_); rintro e w1 ⟨rfl, hb⟩; obtain ⟨os, n', rfl⟩ := Below.moreE hb; clear hb)
  go_ret2
  exact ⟨rfl, (Gr.below (by repeat (first | (with_reducible exact Gr.refl _) | with_reducible refine Gr.alloc ?_ _ | with_reducible refine Gr.more ?_ _ _ | with_reducible refine Gr.setCell ?_ (by dsimp only; omega) _ | with_reducible refine Gr.drew ?_)))⟩
end Go.Proofs.YtadiglonlchgaaaDoor
